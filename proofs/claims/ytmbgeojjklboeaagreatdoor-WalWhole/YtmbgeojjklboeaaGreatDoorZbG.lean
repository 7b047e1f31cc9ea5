import Derived.Test.YtmbgeojjklboeaaGreatDoorYfG
set_option linter.unusedVariables false
set_option linter.unusedSimpArgs false
namespace Go.Proofs.YtmbgeojjklboeaaGreatDoor
open Go.RowKit

/-- A call of a function that is a value. -/
theorem ZE.callFR {P : Program} {n : Fm} {ops : Array Oper} {Rp : List PanicEntry → World → Prop} {S : Nat → World → Prop} {K : List (Nat × Value) → (World → Prop) → Prop} {i lv : Nat} {ty : TypeId} {ps : String} {af : Array Edge} {gd : Option (Nat × Bool)} {r : List (Oper × Nat × Nat)} {e : List (Nat × Value)} {C : World → Prop} {f : FuncId} {x : Operand} {xs : List Operand} {ts : Array TypeId} (args : List Value) (C' : Value → World → Prop) (hen : ∀ (args : Array Value) (W : World), (callFunc f args).run P W = .ok (.enter f args) W)
    (hw : wantE ops e ⟨some i, .call { callee := .value x, args := xs.toArray, argTypes := ts }, ty, ps, af, gd⟩ = some true) (hi : decide (i < n.k) = true) (hf : evE e x = some (.func (.func f) #[] #[])) (hx : xs.map (evE e) = args.map some) (h1 : ∀ v w, C' v w → S lv w) (hc : ∀ w, C w → Calls P f args.toArray w (fun x w' => ∃ v, x = .returned v ∧ C' v w'))
    (k : ∀ v, (∃ w, C' v w) → wpZE P n ops Rp S K r ((i, v) :: e) (C' v)) : wpZE P n ops Rp S K ((⟨some i, .call { callee := .value x, args := xs.toArray, argTypes := ts }, ty, ps, af, gd⟩, 1, lv) :: r) e C :=
  ZE.turn C' hw (fun j hj => by cases hj; exact of_decide_eq_true hi) h1 (fun w hw a ha => by
    refine .inr (.inr ⟨f, args.toArray, ?_, (hc w hw).mono fun _ _ h => .inl h⟩)
    have e2 : (execOp a.eval ⟨some i, .call { callee := .value x, args := xs.toArray, argTypes := ts }, ty, ps, af, gd⟩).run P w = (callFunc f (xs.toArray.map a.eval)).run P w := by
      simp [execOp, resolve, Deferred.ofValue, invoke, ha.ev hf]
    rw [e2, hen, List.map_toArray, args_ev ha hx]) k
/-- A page of the list, in whatever world behind. -/
theorem Pws.at {w : World} {v : Value} {l : List Pw} (h : Pws w v l) {t : Nat} (ht : t < l.length) : ∃ ad, (∀ W, (Instr.indexAt 52 v (.int .i64 (t : Int))).run Tryz.prog W = .ok (.pointer (some ad)) W) ∧ (∀ W, Below w.heap.size w W → (Instr.loadAt 98 (.pointer (some ad))).run Tryz.prog W = .ok (.agg (pgC l[t]).toArray) W) := by
  have hx : l[t]? = some l[t] := List.getElem?_eq_getElem ht
  obtain ⟨ad, ix, _⟩ := h.item hx
  refine ⟨ad, ix, fun W hW => ?_⟩
  obtain ⟨a2, i2, l2⟩ := (h.below hW).item hx
  have e := (ix W).symm.trans (i2 W)
  simp only [Result.ok.injEq, Value.pointer.injEq, Option.some.injEq, and_true] at e
  rw [e]
  exact l2
theorem pg_set (l : List Pw) (t : Nat) (y : Pw) (ht : t < l.length) : (l.set t y).flatMap pgC = (l.flatMap pgC).take (2 * t) ++ pgC y ++ (l.flatMap pgC).drop (2 * t + 2) := by
  induction l generalizing t with
  | nil => simp at ht
  | cons a r ih =>
    cases t with
    | zero => simp [pgC]
    | succ t =>
      have := ih t (by simpa using ht)
      rw [List.set_cons_succ, List.flatMap_cons, List.flatMap_cons, this]
      rw [show 2 * (t + 1) = 2 * t + 2 by omega, show 2 * t + 2 + 2 = 2 * t + 2 + 2 by rfl]
      simp [pgC]
theorem take_mid (c Y : List Value) (a n : Nat) (h1 : a + Y.length ≤ n) (h2 : n ≤ c.length) : (c.take a ++ Y ++ c.drop (a + Y.length)).take n = (c.take n).take a ++ Y ++ (c.take n).drop (a + Y.length) := by
  have hA : (c.take a ++ Y).length = a + Y.length := by rw [List.length_append, List.length_take]; omega
  rw [List.take_append, List.take_of_length_le (l := c.take a ++ Y) (by omega), List.take_take, Nat.min_eq_left (by omega), List.drop_take, hA]
/-- No page's bytes lie in the list's own block. -/
def Apt (v : Value) (l : List Pw) : Prop := ∀ x ∈ l, ∀ k, v.ownBlock = some k → x.v.ownBlock ≠ some k
theorem Apt.perm {v : Value} {l l' : List Pw} (h : Apt v l) (hp : l'.Perm l) : Apt v l' := fun x hx => h x (hp.mem_iff.1 hx)
theorem Apt.set {v : Value} {l : List Pw} (h : Apt v l) (t : Nat) {y : Pw} (hy : y ∈ l) : Apt v (l.set t y) := fun x hx => by
  rcases List.mem_or_eq_of_mem_set hx with h1 | h1
  · exact h x h1
  · rw [h1]; exact h y hy
theorem Pws.setAt {w : World} {v : Value} {l : List Pw} (h : Pws w v l) (hs : Apt v l) (t : Nat) (ht : t < l.length) {y : Pw} (hy : y.ok w) (hya : ∀ k, v.ownBlock = some k → y.v.ownBlock ≠ some k) : ∃ ad w', (∀ W, (Instr.indexAt 52 v (.int .i64 (t : Int))).run Tryz.prog W = .ok (.pointer (some ad)) W) ∧ (Instr.storeAt 98 (.pointer (some ad)) (.agg (pgC y).toArray)).run Tryz.prog w = .ok () w' ∧ Pws w' v (l.set t y) ∧ Fx (fun k => v.ownBlock = some k) w w' := by
  obtain ⟨hl, ⟨rfl, h0⟩ | ⟨g, cp, cur, rfl, hg, hh2, hnc, hc, hsz, htk⟩⟩ := h.row
  · omega
  · have hbl : Blk w g cur.toList 98 := by unfold Blk; simpa using hh2
    have hcl : 2 * t + 2 ≤ cur.toList.length := by rw [Array.length_toList]; omega
    have hone : (pgC y).toArray.all (·.oneCell') = true := all_oneCell_toArray (fun u hu => pg_one (l := [y]) (w := w) (fun z hz => by rw [List.mem_singleton.1 hz]; exact hy) u (by simpa using hu))
    have hrun := run_storeAt_mid (P := Tryz.prog) w g (2 * t) 98 (pgC y).toArray (fun j hj => ⟨by
      rw [hbl.cell]
      have : j < 2 := by simpa [pgC] using hj
      rw [List.getElem?_eq_getElem (by omega)]
      rfl, hbl.frozen _⟩) (by rw [info111 y]; rfl) hone
    have hfx : Fx (fun k => (Value.slice (some ⟨g, 0, none⟩) l.length cp).ownBlock = some k) w (w.setCells g (2 * t) (pgC y)) := Fx.setCells g (by simp [Value.ownBlock]) _ _ _
    refine ⟨⟨g, 2 * t, none⟩, _, fun W => idx72 g t _ cp ht W, hrun, ⟨?_, fun x hx => ?_⟩, hfx⟩
    · refine ⟨by rw [List.length_set, pg_len, List.length_set], .inr ⟨g, cp, (cur.toList.take (2 * t) ++ pgC y ++ cur.toList.drop (2 * t + 2)).toArray, by rw [List.length_set], hg, ?_, by rw [List.length_set]; exact hnc, hc, ?_, ?_⟩⟩
      · have := hbl.setCells (pgC y) (2 * t) w cur.toList (by simpa [pgC] using hcl)
        exact this
      · rw [List.size_toArray, List.length_append, List.length_append, List.length_take, List.length_drop]
        rw [Array.length_toList] at hcl ⊢
        simp [pgC]
        omega
      · rw [List.length_set, pg_set l t y ht, ← htk]
        exact take_mid cur.toList (pgC y) (2 * t) (l.length * 2) (by simp [pgC]; omega) (by have e : cur.toList.length = cur.size := Array.length_toList; omega)
    · have hx2 : x.ok w := by
        rcases List.mem_or_eq_of_mem_set hx with h1 | h1
        · exact h.has x h1
        · rw [h1]; exact hy
      have hap : ∀ k, (Value.slice (some ⟨g, 0, none⟩) l.length cp).ownBlock = some k → x.v.ownBlock ≠ some k := by
        rcases List.mem_or_eq_of_mem_set hx with h1 | h1
        · exact hs x h1
        · rw [h1]; exact hya
      exact ⟨hx2.1.fx hfx (fun k hk hk2 => hap k hk2 hk), hx2.2⟩
set_option maxRecDepth 100000 in
set_option maxHeartbeats 1000000 in
theorem isNaN_any (x : Int) (w : World) : Calls Tryz.prog 83 #[.int .i64 x] w fun e w' => e = .returned (.bool false) ∧ w' = w := by
  refine calls_of_args [.int .i64 x] Tryz.func83 rfl 6 Tryz.ntmps83 (by show 1 ≤ 6; decide) ?_; refine EW.seq ?_; refine EW.region ?_; refine WL.assign rfl rfl rfl ?_; refine WL.done ?_; refine EW.on ?_; refine EW.seq ?_; refine EW.region ?_; refine WL.move rfl rfl rfl ?_; refine WL.move rfl rfl rfl ?_
  first | refine WL.bin rfl rfl rfl rfl (int_ne_f rfl _ _ _) ?_ | refine WL.bin rfl rfl rfl rfl (int_ne_t ‹_› _ _ _) ?_ | refine WL.bin rfl rfl rfl rfl (int_ne_f ‹_› _ _ _) ?_ | refine WL.bin rfl rfl rfl rfl (int_ne_t (by decide) _ _ _) ?_ | refine WL.bin rfl rfl rfl rfl (int_ne_d _ _ _ _ _) ?_
  refine WL.assign rfl rfl rfl ?_; refine WL.done ?_; refine EW.on ?_; refine EW.ret ?_
  exact EW.returns Tryz.results83 rfl ⟨rfl, rfl⟩
set_option maxRecDepth 100000 in
set_option maxHeartbeats 1000000 in
theorem compare_any (x y : Int) (w : World) : Calls Tryz.prog 71 #[.int .i64 x, .int .i64 y] w fun e w' => (∃ r, e = .returned (.int .i64 r)) ∧ w' = w := by
  refine calls_of_args [.int .i64 x, .int .i64 y] Tryz.func71 rfl 20 Tryz.ntmps71 (by show 2 ≤ 20; decide) ?_; refine EW.seq ?_; refine EW.region ?_; refine WL.assign rfl rfl rfl ?_; refine WL.done ?_; refine EW.on ?_; refine EW.seq ?_; refine EW.region ?_; refine WL.move rfl rfl rfl ?_; refine WL.call [.int .i64 x] enter83 rfl rfl rfl (isNaN_any _ _) ?_
  rintro _ w1 ⟨rfl, hz1⟩
  rw [hz1]
  refine ⟨_, rfl, ?_⟩; refine WL.assign rfl rfl rfl ?_; refine WL.done ?_; refine EW.on ?_; refine EW.seq ?_; refine EW.region ?_; refine WL.move rfl rfl rfl ?_; refine WL.call [.int .i64 y] enter83 rfl rfl rfl (isNaN_any _ _) ?_
  rintro _ w2 ⟨rfl, hz2⟩
  rw [hz2]
  refine ⟨_, rfl, ?_⟩; refine WL.assign rfl rfl rfl ?_; refine WL.done ?_; refine EW.on ?_; refine EW.seq ?_; refine EW.seq ?_; refine EW.region ?_; refine WL.move rfl rfl rfl ?_; refine WL.done ?_; refine EW.on ?_; refine EW.cond_f rfl ?_; refine EW.skip ?_; refine EW.on ?_; refine EW.seq ?_; refine EW.seq ?_; refine EW.region ?_; refine WL.move rfl rfl rfl ?_; refine WL.done ?_; refine EW.on ?_; refine EW.cond_f rfl ?_; refine EW.skip ?_; refine EW.on ?_; refine EW.seq ?_; refine EW.seq ?_; refine EW.region ?_; refine WL.move rfl rfl rfl ?_; refine WL.move rfl rfl rfl ?_; refine WL.bin rfl rfl rfl rfl (int_lt_d _ _ _ _ _) ?_; refine WL.done ?_; refine EW.on ?_; refine EW.cond_d rfl (fun h16 => ?_) (fun h16 => ?_)
  · refine EW.seq ?_; refine EW.region ?_; refine WL.assign rfl rfl rfl ?_; refine WL.done ?_; refine EW.on ?_; refine EW.ret ?_; refine pr_then ?_
    exact EW.returns Tryz.results71 rfl ⟨⟨_, rfl⟩, rfl⟩
  · refine EW.skip ?_; refine EW.on ?_; refine EW.seq ?_; refine EW.seq ?_; refine EW.region ?_; refine WL.move rfl rfl rfl ?_; refine WL.move rfl rfl rfl ?_; refine WL.bin rfl rfl rfl rfl (int_gt_d _ _ _ _ _) ?_; refine WL.done ?_; refine EW.on ?_; refine EW.cond_d rfl (fun h19 => ?_) (fun h19 => ?_)
    · refine EW.seq ?_; refine EW.region ?_; refine WL.assign rfl rfl rfl ?_; refine WL.done ?_; refine EW.on ?_; refine EW.ret ?_; refine pr_then ?_
      exact EW.returns Tryz.results71 rfl ⟨⟨_, rfl⟩, rfl⟩
    · refine EW.skip ?_; refine EW.on ?_; refine EW.seq ?_; refine EW.region ?_; refine WL.assign rfl rfl rfl ?_; refine WL.done ?_; refine EW.on ?_; refine EW.ret ?_
      exact EW.returns Tryz.results71 rfl ⟨⟨_, rfl⟩, rfl⟩
set_option maxRecDepth 100000 in
set_option maxHeartbeats 1000000 in
theorem cmpf_any (x y : Pw) (w : World) : Calls Tryz.prog 70 #[.agg (pgC x).toArray, .agg (pgC y).toArray] w fun e w' => (∃ r, e = .returned (.int .i64 r)) ∧ Below w.heap.size w w' := by
  refine calls_of_args [.agg (pgC x).toArray, .agg (pgC y).toArray] Tryz.func70 rfl 10 Tryz.ntmps70 (by show 2 ≤ 10; decide) ?_; refine EW.seq ?_; refine EW.region ?_
  have r1 := run_boxR (P := Tryz.prog) 98 (pgC x) w _ rfl
  have e1 := below_new w (.cells (pgC x).toArray 98)
  have b1 := Blk.new w (pgC x) 98
  obtain ⟨q1, hq1⟩ : ∃ q, w.heap.size = q := ⟨_, rfl⟩
  obtain ⟨w1, hw1⟩ : ∃ w1, w.alloc (.cells (pgC x).toArray 98) = w1 := ⟨_, rfl⟩
  rw [hw1] at r1 e1 b1
  rw [hq1] at r1 b1
  refine WL.box rfl rfl rfl r1 ?_
  have r2 := run_boxR (P := Tryz.prog) 98 (pgC y) w1 _ rfl
  have e2 := below_new w1 (.cells (pgC y).toArray 98)
  have b2 := Blk.new w1 (pgC y) 98
  obtain ⟨q2, hq2⟩ : ∃ q, w1.heap.size = q := ⟨_, rfl⟩
  obtain ⟨w2, hw2⟩ : ∃ w2, w1.alloc (.cells (pgC y).toArray 98) = w2 := ⟨_, rfl⟩
  rw [hw2] at r2 e2 b2
  rw [hq2] at r2 b2
  have b12 := b1.on e2
  refine WL.box rfl rfl rfl r2 ?_; refine WL.assign rfl rfl rfl ?_; refine WL.done ?_; refine EW.on ?_; refine EW.seq ?_; refine EW.region ?_; refine WL.field rfl rfl rfl (fld111_0 _ _) ?_; refine WL.load rfl rfl rfl (ldpn b12) ?_; refine WL.field rfl rfl rfl (fld111_0 _ _) ?_; refine WL.load rfl rfl rfl (ldpn b2) ?_; refine WL.call [.int .i64 (x.n : Int), .int .i64 (y.n : Int)] enter71 rfl rfl rfl (compare_any _ _ _) ?_
  rintro _ w3 ⟨⟨r, rfl⟩, hz⟩
  rw [hz]
  refine ⟨_, rfl, ?_⟩; refine WL.assign rfl rfl rfl ?_; refine WL.done ?_; refine EW.on ?_; refine EW.ret ?_
  exact EW.returns Tryz.results70 rfl ⟨⟨_, rfl⟩, e1.trans (e2.mono e1.size)⟩
/-- The list behind: the same pages, in whatever order. -/
structure Prm (w : World) (v : Value) (l : List Pw) (W : World) (l' : List Pw) : Prop where
  p : l'.Perm l
  r : Pws W v l'
  f : Fx (fun k => v.ownBlock = some k) w W
theorem Prm.refl {w : World} {v : Value} {l : List Pw} (h : Pws w v l) : Prm w v l w l := ⟨List.Perm.refl _, h, Fx.refl _ _⟩
theorem Prm.trans {w W W' : World} {v : Value} {l l' l'' : List Pw} (h : Prm w v l W l') (k : Prm W v l' W' l'') : Prm w v l W' l'' := ⟨k.p.trans h.p, k.r, h.f.and k.f⟩
theorem Prm.below {w W W' : World} {v : Value} {l l' : List Pw} (h : Prm w v l W l') (hb : Below W.heap.size W W') : Prm w v l W' l' := ⟨h.p, h.r.below hb, h.f.then_below hb⟩
theorem Prm.len {w W : World} {v : Value} {l l' : List Pw} (h : Prm w v l W l') : l'.length = l.length := h.p.length_eq
theorem Prm.apt {w W : World} {v : Value} {l l' : List Pw} (h : Prm w v l W l') (hs : Apt v l) : Apt v l' := hs.perm h.p
theorem Pws.at' {w : World} {v : Value} {l : List Pw} (h : Pws w v l) {t : Nat} (ht : t < l.length) : ∃ x ad, l[t]? = some x ∧ x ∈ l ∧ (∀ W, (Instr.indexAt 52 v (.int .i64 (t : Int))).run Tryz.prog W = .ok (.pointer (some ad)) W) ∧ (∀ W, Below w.heap.size w W → (Instr.loadAt 98 (.pointer (some ad))).run Tryz.prog W = .ok (.agg (pgC x).toArray) W) := by
  obtain ⟨ad, h1, h2⟩ := h.at ht
  exact ⟨l[t], ad, List.getElem?_eq_getElem ht, List.getElem_mem ht, h1, h2⟩
theorem ok_fx {w w' : World} {v : Value} {x : Pw} (h : x.ok w) (hf : Fx (fun k => v.ownBlock = some k) w w') (ha : ∀ k, v.ownBlock = some k → x.v.ownBlock ≠ some k) : x.ok w' := ⟨h.1.fx hf (fun k hk hv => ha k hv hk), h.2⟩
theorem ok_below {w w' : World} {x : Pw} (h : x.ok w) (hb : Below w.heap.size w w') : x.ok w' := ⟨h.1.below hb, h.2⟩
/-- Two pages change places: the first store, and the second. -/
theorem Pws.swap1 {w : World} {v : Value} {l : List Pw} (h : Pws w v l) (hs : Apt v l) {I : Nat} {y : Pw} {ad : Addr} (hI : I < l.length) (hy : y ∈ l) (hix : ∀ W, (Instr.indexAt 52 v (.int .i64 (I : Int))).run Tryz.prog W = .ok (.pointer (some ad)) W) (W : World) (hW : Below w.heap.size w W) : ∃ w', (Instr.storeAt 98 (.pointer (some ad)) (.agg (pgC y).toArray)).run Tryz.prog W = .ok () w' ∧ Pws w' v (l.set I y) ∧ Fx (fun k => v.ownBlock = some k) w w' := by
  obtain ⟨a2, w', i2, s2, p2, x2⟩ := (h.below hW).setAt hs I hI (ok_below (h.has y hy) hW) (hs y hy)
  have e := (hix W).symm.trans (i2 W)
  simp only [Result.ok.injEq, Value.pointer.injEq, Option.some.injEq, and_true] at e
  rw [← e] at s2
  exact ⟨w', s2, p2, (Fx.of_below hW).and x2⟩
theorem Pws.swap2 {w : World} {v : Value} {l : List Pw} (h : Pws w v l) (hs : Apt v l) {I J : Nat} {x y : Pw} {ad : Addr} (hx : l[I]? = some x) (hy : l[J]? = some y) (hjx : ∀ W, (Instr.indexAt 52 v (.int .i64 (J : Int))).run Tryz.prog W = .ok (.pointer (some ad)) W) (W : World) (pW : Pws W v (l.set I y)) (fW : Fx (fun k => v.ownBlock = some k) w W) : ∃ w', (Instr.storeAt 98 (.pointer (some ad)) (.agg (pgC x).toArray)).run Tryz.prog W = .ok () w' ∧ Prm w v l w' ((l.set I y).set J x) := by
  have hI := (List.getElem?_eq_some_iff.1 hx).1
  have hJ := (List.getElem?_eq_some_iff.1 hy).1
  have hxm := List.mem_of_getElem? hx
  have hym := List.mem_of_getElem? hy
  obtain ⟨a2, w', i2, s2, p2, x2⟩ := pW.setAt (hs.set I hym) J (by rw [List.length_set]; exact hJ) (ok_fx (h.has x hxm) fW (hs x hxm)) (hs x hxm)
  have e := (hjx W).symm.trans (i2 W)
  simp only [Result.ok.injEq, Value.pointer.injEq, Option.some.injEq, and_true] at e
  rw [← e] at s2
  refine ⟨w', s2, ?_, p2, fW.and x2⟩
  have := List.set_set_perm hI hJ
  rw [(List.getElem?_eq_some_iff.1 hx).2, (List.getElem?_eq_some_iff.1 hy).2] at this
  exact this
end Go.Proofs.YtmbgeojjklboeaaGreatDoor

set_option linter.unusedVariables false
set_option linter.unusedSimpArgs false
namespace Go.Proofs.YtmbgeojjklboeaaGreatDoor
open Go.RowKit

def isE (v : Value) (a b : Nat) (x : Nat × List Pw) : List (Nat × Value) := [(0, v), (1, .int .i64 (a : Int)), (2, .int .i64 (b : Int)), (3, fnV), (8, .int .i64 (x.1 : Int))]
structure IsR (w : World) (v : Value) (l : List Pw) (a b : Nat) (x : Nat × List Pw) (W : World) : Prop where
  p : Prm w v l W x.2
  lo : a + 1 ≤ x.1
  hi : x.1 ≤ b ∨ x.1 = a + 1
def ijE (v : Value) (a b i : Nat) (x : Nat × List Pw) : List (Nat × Value) := [(0, v), (1, .int .i64 (a : Int)), (2, .int .i64 (b : Int)), (3, fnV), (8, .int .i64 (i : Int)), (9, .int .i64 (x.1 : Int))]
structure IjR (w : World) (v : Value) (l : List Pw) (a i : Nat) (x : Nat × List Pw) (W : World) : Prop where
  p : Prm w v l W x.2
  lo : a ≤ x.1
  hi : x.1 ≤ i
set_option maxRecDepth 100000 in
set_option maxHeartbeats 1000000 in
theorem isort_any {w : World} {v : Value} {l : List Pw} (h : Pws w v l) (hs : Apt v l) (hl : l.length ≤ 1000) (a b : Nat) (hab : a ≤ b) (hb : b ≤ l.length) : Calls Tryz.prog 90 #[v, .int .i64 (a : Int), .int .i64 (b : Int), fnV] w fun e w' => e = .returned (.tuple #[]) ∧ ∃ l', Prm w v l w' l' := by
  refine calls_of_args [v, .int .i64 (a : Int), .int .i64 (b : Int), fnV] Tryz.func90 rfl 53 Tryz.ntmps90 (by show 4 ≤ 53; decide) ?_; refine EW.seq ?_; refine EW.region ?_; refine WL.move rfl rfl rfl ?_; refine WL.bin rfl rfl rfl rfl (int_add (c := ((a + 1 : Nat) : Int)) (by rw [IntKind.wrap_i64]; omega) _ _ _) ?_; refine WL.assign rfl rfl rfl ?_; refine WL.done ?_; refine EW.on ?_; refine EW.block ?_; refine EW.loop (isE v a b) (IsR w v l a b) (fun x => b - x.1) (a + 1, l) [0, 1, 2, 3, 8] rfl ⟨Prm.refl h, Nat.le_refl _, .inr rfl⟩ ?_
  rintro ⟨i, li⟩ wi ⟨pi, hlo, hhi⟩
  simp only at pi hlo hhi
  show EW _ _ _ _ [(0, v), (1, .int .i64 (a : Int)), (2, .int .i64 (b : Int)), (3, fnV), (8, .int .i64 (i : Int))] _
  refine EW.seq ?_; refine EW.seq ?_; refine EW.region ?_; refine WL.move rfl rfl rfl ?_; refine WL.move rfl rfl rfl ?_; refine WL.bin rfl rfl rfl rfl (int_lt_d _ _ _ _ _) ?_; refine WL.done ?_; refine EW.on ?_; refine EW.cond_d rfl (fun h14 => ?_) (fun h14 => ?_)
  · refine EW.skip ?_; refine EW.on ?_; refine EW.seq ?_; refine EW.block ?_; refine EW.seq ?_; refine EW.region ?_; refine WL.move rfl rfl rfl ?_; refine WL.assign rfl rfl rfl ?_; refine WL.done ?_; refine EW.on ?_; refine EW.block ?_
    obtain ⟨li0, hli0⟩ : ∃ l0, li = l0 := ⟨_, rfl⟩
    refine EW.loop (ijE v a b i) (IjR w v l a i) (fun x => x.1) (i, li) [0, 1, 2, 3, 8, 9] rfl ⟨pi, by show a ≤ i; omega, Nat.le_refl _⟩ ?_
    rw [hli0]
    clear pi
    rintro ⟨j, li⟩ wi ⟨pi, hja, hji⟩
    simp only at pi hja hji
    show EW _ _ _ _ [(0, v), (1, .int .i64 (a : Int)), (2, .int .i64 (b : Int)), (3, fnV), (8, .int .i64 (i : Int)), (9, .int .i64 (j : Int))] _
    refine EW.seq ?_; refine EW.seq ?_
    obtain ⟨lj0, hlj0⟩ : ∃ l0, li = l0 := ⟨_, rfl⟩
    by_cases hja2 : a < j
    · refine EW.ordB [(0, 0, 0), (1, 0, 0), (2, 0, 0), (3, 0, 0), (4, 0, 0), (5, 0, 0), (6, 0, 0), (7, 0, 0), (8, 0, 1), (9, 0, 0), (10, 0, 0), (11, 0, 0), (12, 0, 0), (13, 0, 1), (14, 1, 1), (15, 0, 0), (16, 0, 0)] (by kernel_rfl) rfl (by kernel_rfl) ?_; simp only [opsZ, List.getD_cons_zero, List.getD_cons_succ]; refine ZE.move rfl rfl rfl rfl sz0 ?_; refine ZE.move rfl rfl rfl rfl sz0 ?_; refine ZE.bin rfl rfl rfl rfl rfl sz0 (fun W => int_gt_t (by omega) W _ _) ?_; refine ZE.move rfl rfl rfl rfl sz0 ?_
      first | refine ZE.move rfl rfl rfl rfl sz0 ?_ | refine ZE.skip rfl rfl rfl sz0 ?_
      first | refine ZE.move rfl rfl rfl rfl sz0 ?_ | refine ZE.skip rfl rfl rfl sz0 ?_
      first | refine ZE.move rfl rfl rfl rfl sz0 ?_ | refine ZE.skip rfl rfl rfl sz0 ?_
      obtain ⟨x1, ad1, hx1, hm1, ix1, lx1⟩ := pi.r.at' (t := j) (by rw [pi.len]; omega)
      refine ZE.index rfl rfl rfl rfl rfl sz0 (fun W => ix1 W) ?_; refine ZE.load rfl rfl rfl rfl sz1 (fun W hW => lx1 W (sb_of hW)) ?_
      first | refine ZE.move rfl rfl rfl rfl sz0 ?_ | refine ZE.skip rfl rfl rfl sz0 ?_
      first | refine ZE.move rfl rfl rfl rfl sz0 ?_ | refine ZE.skip rfl rfl rfl sz0 ?_
      refine ZE.bin rfl rfl rfl rfl rfl sz0 (fun W => int_sub (c := ((j - 1 : Nat) : Int)) (by rw [IntKind.wrap_i64]; omega) W _ _) ?_
      obtain ⟨x2, ad2, hx2, hm2, ix2, lx2⟩ := pi.r.at' (t := j - 1) (by rw [pi.len]; omega)
      refine ZE.index rfl rfl rfl rfl rfl sz0 (fun W => ix2 W) ?_; refine ZE.load rfl rfl rfl rfl sz1 (fun W hW => lx2 W (sb_of hW)) ?_; refine ZE.callFR [.agg (pgC x1).toArray, .agg (pgC x2).toArray] (fun v W => (∃ r, v = .int .i64 r) ∧ Below wi.heap.size wi W) enter70 rfl rfl rfl rfl (fun _ _ h => .inr h.2) (fun W hW => (cmpf_any x1 x2 W).mono fun e w' ⟨⟨r, g1⟩, g2⟩ => ⟨_, g1, ⟨r, rfl⟩, hW.trans (g2.mono hW.size)⟩) ?_
      rintro _ ⟨_, ⟨rc, rfl⟩, _⟩
      refine ZE.bin rfl rfl rfl rfl rfl sz0 (fun W => int_lt_d _ _ W _ _) ?_; refine ZE.pick rfl rfl rfl rfl rfl sz0 ?_
      rintro wc ⟨_, ec⟩
      replace pi := pi.below ec
      refine EW.on ?_; refine EW.cond_d rfl (fun h34 => ?_) (fun h34 => ?_)
      · refine EW.skip ?_; refine EW.on ?_; refine EW.seq ?_; refine EW.block ?_; refine EW.ordB [(0, 0, 0), (1, 0, 0), (2, 0, 0), (3, 0, 0), (4, 0, 0), (5, 0, 0), (6, 0, 0), (7, 0, 0), (8, 0, 0), (9, 0, 1), (10, 0, 0), (11, 0, 0), (12, 0, 0), (13, 0, 1), (14, 0, 0), (15, 1, 0), (16, 0, 0), (17, 1, 0)] (by kernel_rfl) rfl (by kernel_rfl) ?_; simp only [opsZ, List.getD_cons_zero, List.getD_cons_succ]; refine ZE.move rfl rfl rfl rfl sz0 ?_; refine ZE.move rfl rfl rfl rfl sz0 ?_; refine ZE.move rfl rfl rfl rfl sz0 ?_; refine ZE.move rfl rfl rfl rfl sz0 ?_; refine ZE.bin rfl rfl rfl rfl rfl sz0 (fun W => int_sub (c := ((j - 1 : Nat) : Int)) (by rw [IntKind.wrap_i64]; omega) W _ _) ?_; refine ZE.move rfl rfl rfl rfl sz0 ?_; refine ZE.move rfl rfl rfl rfl sz0 ?_; refine ZE.bin rfl rfl rfl rfl rfl sz0 (fun W => int_sub (c := ((j - 1 : Nat) : Int)) (by rw [IntKind.wrap_i64]; omega) W _ _) ?_
        obtain ⟨x1, ad1, hx1, hm1, ix1, lx1⟩ := pi.r.at' (t := j - 1) (by rw [pi.len]; omega)
        refine ZE.index rfl rfl rfl rfl rfl sz0 (fun W => ix1 W) ?_; refine ZE.load rfl rfl rfl rfl sz1 (fun W hW => lx1 W (sb_of hW)) ?_; refine ZE.move rfl rfl rfl rfl sz0 ?_; refine ZE.move rfl rfl rfl rfl sz0 ?_
        obtain ⟨x2, ad2, hx2, hm2, ix2, lx2⟩ := pi.r.at' (t := j) (by rw [pi.len]; omega)
        refine ZE.index rfl rfl rfl rfl rfl sz0 (fun W => ix2 W) ?_; refine ZE.load rfl rfl rfl rfl sz1 (fun W hW => lx2 W (sb_of hW)) ?_; refine ZE.index rfl rfl rfl rfl rfl sz0 (fun W => ix2 W) ?_
        refine ZE.store (fun W => Pws W v (li.set (j) x1) ∧ Fx (fun k => v.ownBlock = some k) wc W) rfl rfl rfl (fun _ _ => .inl rfl) (fun W hW => by
      obtain ⟨w', g1, g2, g3⟩ := pi.r.swap1 (pi.apt hs) (I := j) (by rw [pi.len]; omega) hm1 ix2 W hW
      exact ⟨w', g1, g2, g3⟩) ?_
        refine ZE.index rfl rfl rfl rfl rfl sz0 (fun W => ix1 W) ?_; refine ZE.store (fun W => Prm wc v li W ((li.set (j) x1).set (j - 1) x2)) rfl rfl rfl (fun _ _ => .inl rfl) (fun W hW => pi.r.swap2 (pi.apt hs) hx2 hx1 ix1 W hW.1 hW.2) ?_
        rintro ws ps_
        replace pi := pi.trans ps_
        refine pn_block ?_; refine EW.on ?_; refine EW.region ?_; refine WL.move rfl rfl rfl ?_; refine WL.bin rfl rfl rfl rfl (int_sub (c := ((j - 1 : Nat) : Int)) (by rw [IntKind.wrap_i64]; omega) _ _ _) ?_; refine WL.assign rfl rfl rfl ?_; refine WL.done ?_; refine EW.again (E := ijE v a b i) (R := IjR w v l a i) (m := fun x => x.1) (x := (j, lj0)) (j - 1, _) [0, 1, 2, 3, 8, 9] rfl ⟨pi, by show a ≤ j - 1; omega, by show j - 1 ≤ i; omega⟩ (by show j - 1 < j; omega)
      · refine EW.exit ?_; refine px_then ?_; refine px_then ?_; refine px_block ?_; refine pn_block ?_; refine EW.on ?_; refine EW.region ?_; refine WL.move rfl rfl rfl ?_; refine WL.bin rfl rfl rfl rfl (int_add (c := ((i + 1 : Nat) : Int)) (by rw [IntKind.wrap_i64]; omega) _ _ _) ?_; refine WL.assign rfl rfl rfl ?_; refine WL.done ?_; refine EW.again (E := isE v a b) (R := IsR w v l a b) (m := fun x => b - x.1) (x := (i, li0)) (i + 1, li) [0, 1, 2, 3, 8] rfl ⟨pi, by show a + 1 ≤ i + 1; omega, .inl (by show i + 1 ≤ b; omega)⟩ (by show b - (i + 1) < b - i; omega)
    · refine EW.ordB [(0, 0, 0), (1, 0, 0), (2, 0, 0), (3, 0, 0), (4, 0, 0), (5, 0, 0), (6, 0, 0), (7, 0, 0), (8, 0, 1), (9, 0, 0), (10, 0, 0), (11, 0, 0), (12, 0, 0), (13, 0, 1), (14, 0, 0), (15, 0, 0), (16, 0, 0)] (by kernel_rfl) rfl (by kernel_rfl) ?_; simp only [opsZ, List.getD_cons_zero, List.getD_cons_succ]; refine ZE.move rfl rfl rfl rfl sz0 ?_; refine ZE.move rfl rfl rfl rfl sz0 ?_; refine ZE.bin rfl rfl rfl rfl rfl sz0 (fun W => int_gt_f (by omega) W _ _) ?_; refine ZE.move rfl rfl rfl rfl sz0 ?_
      first | refine ZE.move rfl rfl rfl rfl sz0 ?_ | refine ZE.skip rfl rfl rfl sz0 ?_
      first | refine ZE.move rfl rfl rfl rfl sz0 ?_ | refine ZE.skip rfl rfl rfl sz0 ?_
      first | refine ZE.move rfl rfl rfl rfl sz0 ?_ | refine ZE.skip rfl rfl rfl sz0 ?_
      refine ZE.skip rfl rfl rfl sz0 ?_; refine ZE.skip rfl rfl rfl sz1 ?_
      first | refine ZE.move rfl rfl rfl rfl sz0 ?_ | refine ZE.skip rfl rfl rfl sz0 ?_
      first | refine ZE.move rfl rfl rfl rfl sz0 ?_ | refine ZE.skip rfl rfl rfl sz0 ?_
      refine ZE.skip rfl rfl rfl sz0 ?_; refine ZE.skip rfl rfl rfl sz0 ?_; refine ZE.skip rfl rfl rfl sz1 ?_; refine ZE.skip rfl rfl rfl sz0 ?_; refine ZE.skip rfl rfl rfl sz0 ?_; refine ZE.pick rfl rfl rfl rfl rfl sz0 ?_
      rintro wc ec
      replace pi := pi.below ec
      refine EW.on ?_; refine EW.cond_f rfl ?_; refine EW.exit ?_; refine px_then ?_; refine px_then ?_; refine px_block ?_; refine pn_block ?_; refine EW.on ?_; refine EW.region ?_; refine WL.move rfl rfl rfl ?_; refine WL.bin rfl rfl rfl rfl (int_add (c := ((i + 1 : Nat) : Int)) (by rw [IntKind.wrap_i64]; omega) _ _ _) ?_; refine WL.assign rfl rfl rfl ?_; refine WL.done ?_; refine EW.again (E := isE v a b) (R := IsR w v l a b) (m := fun x => b - x.1) (x := (i, li0)) (i + 1, li) [0, 1, 2, 3, 8] rfl ⟨pi, by show a + 1 ≤ i + 1; omega, .inl (by show i + 1 ≤ b; omega)⟩ (by show b - (i + 1) < b - i; omega)
  · refine EW.exit ?_; refine px_then ?_; refine px_then ?_; refine px_block ?_
    exact EW.falls Tryz.results90 ⟨rfl, _, pi⟩
end Go.Proofs.YtmbgeojjklboeaaGreatDoor
