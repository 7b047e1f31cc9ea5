import Derived.Test.YtmbgeojjklboeaaGreatDoorXb
set_option linter.unusedVariables false
set_option linter.unusedSimpArgs false
namespace Go.Proofs.YtmbgeojjklboeaaGreatDoor
open Go.RowKit

theorem run_mk114 (w : World) (l : Nat) (h : l ≤ 17592186044416) : (Instr.makeSlice 103 (.int .i64 (l : Int)) (.int .i64 (l : Int))).run Tryz.prog w = .ok (.slice (some ⟨w.heap.size, 0, none⟩) l l) (w.alloc (.cells (List.replicate l (Value.bool false)).toArray 4)) := by
  obtain ⟨i0, hi, hz⟩ := Option.map_eq_some_iff.1 (show (Tryz.prog.info? 4).map (fun i => (i.zero, i.size, i.bytes)) = some (some (.bool false), 1, 1) by kernel_rfl)
  simp only [Prod.mk.injEq] at hz
  obtain ⟨hz0, hz1, hz2⟩ := hz
  have hrun := run_make (P := Tryz.prog) w 103 4 i0 (.bool false) Tryz.underlying103 hi hz0 .i64 .i64 l l (by omega) (by omega) (by rw [hz2]; omega) (by omega)
  rw [hz1, Int.toNat_natCast, Nat.mul_one, made_one _ rfl] at hrun
  exact hrun
theorem idx114 (q i n : Nat) (h : i < n) (W : World) : (Instr.indexAt 103 (.slice (some ⟨q, 0, none⟩) n n) (.int .i64 (i : Int))).run Tryz.prog W = .ok (.pointer (some ⟨q, i, none⟩)) W := by
  have hm : (i : Int) < (n : Int) := by omega
  have e : (⟨q, 0, none⟩ : Addr).add i = ⟨q, i, none⟩ := add_plain0 q i
  rw [← e]
  go_simp
/-- Which numbers were seen. -/
def snC (n : Nat) (l : List Pw) : List Value := (List.range n).map fun j => Value.bool (decide (j ∈ l.map Pw.n))
theorem snC_nil (n : Nat) : snC n [] = List.replicate n (Value.bool false) := by
  unfold snC
  simp [List.map_const']
theorem snC_get (n : Nat) (l : List Pw) (i : Nat) (h : i < n) : (snC n l)[i]? = some (.bool (decide (i ∈ l.map Pw.n))) := by
  unfold snC
  rw [List.getElem?_map, List.getElem?_range h]
  rfl
theorem snC_set (n : Nat) (l : List Pw) (x : Pw) (h : x.n < n) : (snC n l).set x.n (.bool true) = snC n (l ++ [x]) := by
  apply List.ext_getElem?
  intro j
  rw [List.getElem?_set]
  by_cases hj : j < n
  · rw [snC_get n _ j hj]
    by_cases e : x.n = j
    · rw [if_pos e, if_pos (by unfold snC; rw [List.length_map, List.length_range]; exact h), snC_get n (l ++ [x]) j hj, decide_eq_true (show j ∈ (l ++ [x]).map Pw.n by rw [← e]; simp)]
    · rw [if_neg e, snC_get n _ j hj]
      have : (j ∈ (l ++ [x]).map Pw.n) ↔ (j ∈ l.map Pw.n) := by
        simp only [List.map_append, List.mem_append, List.map_cons, List.map_nil, List.mem_singleton]
        exact ⟨fun h => h.elim id (fun h => absurd h.symm e), .inl⟩
      rw [decide_eq_decide.2 this]
  · rw [List.getElem?_eq_none (by simp [snC]; omega), List.getElem?_eq_none (by simp [snC]; omega), if_neg (by omega)]
theorem ldb {W : World} {q i : Nat} {cs : List Value} {b : Bool} (hb : Blk W q cs 4) (h : cs[i]? = some (.bool b)) : (Instr.loadAt 4 (.pointer (some ⟨q, i, none⟩))).run Tryz.prog W = .ok (.bool b) W := by
  have hc : W.cell? ⟨q, i, none⟩ = some (.bool b) := (hb.cell i).trans h
  have hf := hb.frozen i
  go_simp
theorem stb {W : World} {q i : Nat} {cs : List Value} {v0 : Value} (b : Bool) (hb : Blk W q cs 4) (h : cs[i]? = some v0) : ∃ W', (Instr.storeAt 4 (.pointer (some ⟨q, i, none⟩)) (.bool b)).run Tryz.prog W = .ok () W' ∧ Blk W' q (cs.set i (.bool b)) 4 ∧ Fx (fun k => k = q) W W' := by
  have hc : W.cell? ⟨q, i, none⟩ = some v0 := (hb.cell i).trans h
  have hf := hb.frozen i
  exact ⟨W.setCell ⟨q, i, none⟩ (.bool b), by go_simp, hb.set i _, Fx.setCell _ _ _ _ rfl⟩
def rfE (q : Nat) (v : Value) (qs n k : Nat) (t : Nat) : List (Nat × Value) := [(0, .pointer (some ⟨q, 0, none⟩)), (6, .slice (some ⟨qs, 0, none⟩) n n), (12, v), (13, .int .i64 (k : Int)), (14, .int .i64 (t : Int))]
structure RfR (w : World) (l : List Pw) (qs n : Nat) (t : Nat) (W : World) : Prop where
  b : Below w.heap.size w W
  s : Blk W qs (snC n (l.take t)) 4
  le : t ≤ l.length
theorem nodup_new {l : List Pw} {t : Nat} {x : Pw} (h : (l.map Pw.n).Nodup) (hx : l[t]? = some x) : ¬ x.n ∈ (l.take t).map Pw.n := by
  have ht := (List.getElem?_eq_some_iff.1 hx).1
  intro hm
  obtain ⟨y, hy, e⟩ := List.mem_map.1 hm
  obtain ⟨i, hi⟩ := List.getElem?_of_mem hy
  have hit : i < t := by have := (List.getElem?_eq_some_iff.1 hi).1; rw [List.length_take] at this; omega
  rw [List.getElem?_take_of_lt hit] at hi
  have h1 : (l.map Pw.n)[i]? = some x.n := by rw [List.getElem?_map, hi, ← e]; rfl
  have h2 : (l.map Pw.n)[t]? = some x.n := by rw [List.getElem?_map, hx]; rfl
  have := (List.getElem?_inj (by simp; omega) h).1 (h1.trans h2.symm)
  omega
set_option maxRecDepth 100000 in
set_option maxHeartbeats 1000000 in
theorem refusal_ok {w : World} {q p n : Nat} {y : Value} (hb : Blk w q (lgC p n y) 88) (v : Value) (l : List Pw) (hp : Pws w v l) (hk : l.length ≤ 1000) (hn : ∀ x ∈ l, x.n < n) (hn2 : n ≤ 1000) (hd : (l.map Pw.n).Nodup) : Calls Tryz.prog 43 #[.pointer (some ⟨q, 0, none⟩), v] w fun e w' => e = .returned (.tuple #[.int .i64 0, .int .i64 0]) ∧ Below w.heap.size w w' := by
  refine calls_of_args [.pointer (some ⟨q, 0, none⟩), v] Tryz.func43 rfl 41 Tryz.ntmps43 (by show 2 ≤ 41; decide) ?_; refine EW.seq ?_; refine EW.region ?_; refine WL.assign rfl rfl rfl ?_; refine WL.assign rfl rfl rfl ?_; refine WL.done ?_; refine EW.on ?_; refine EW.seq ?_; refine EW.region ?_; refine WL.move rfl rfl rfl ?_; refine WL.call [.pointer (some ⟨q, 0, none⟩)] enter12 rfl rfl rfl (pages_any hb) ?_
  rintro _ w1 ⟨rfl, hz⟩
  rw [hz]
  refine ⟨_, rfl, ?_⟩
  have e1 := below_new w (.cells (List.replicate n (Value.bool false)).toArray 4)
  have s1 : Blk (w.alloc (.cells (List.replicate n (Value.bool false)).toArray 4)) w.heap.size (snC n []) 4 := by rw [snC_nil]; exact Blk.new _ _ _
  obtain ⟨qs, hqs⟩ : ∃ qs, w.heap.size = qs := ⟨_, rfl⟩
  have rm := run_mk114 w n (by omega)
  rw [hqs] at s1 rm
  refine WL.mks rfl rfl rfl rfl rm ?_; refine WL.assign rfl rfl rfl ?_; refine WL.done ?_; refine EW.on ?_; refine EW.seq ?_; refine EW.seq ?_; refine EW.region ?_; refine WL.move rfl rfl rfl ?_; refine WL.len rfl rfl rfl (hp.len _ _) ?_; refine WL.move rfl rfl rfl ?_; refine WL.done ?_; refine EW.on ?_; refine EW.block ?_; refine EW.loop (rfE q v qs n l.length) (RfR w l qs n) (fun t => l.length - t) 0 [0, 6, 12, 13, 14] rfl ⟨e1, s1, Nat.zero_le _⟩ ?_
  rintro t wi ⟨ei, si, hle⟩
  show EW _ _ _ _ [(0, .pointer (some ⟨q, 0, none⟩)), (6, .slice (some ⟨qs, 0, none⟩) n n), (12, v), (13, .int .i64 (l.length : Int)), (14, .int .i64 (t : Int))] _
  refine EW.seq ?_; refine EW.region ?_
  first | refine WL.bin rfl rfl rfl rfl (int_lt_t ‹_› _ _ _) ?_ | refine WL.bin rfl rfl rfl rfl (int_lt_f ‹_› _ _ _) ?_ | refine WL.bin rfl rfl rfl rfl (int_lt_d _ _ _ _ _) ?_
  refine WL.done ?_; refine EW.on ?_; refine EW.seq ?_; refine EW.cond_d rfl (fun h15 => ?_) (fun h15 => ?_)
  · refine EW.skip ?_; refine EW.on ?_; refine EW.seq ?_; refine EW.block ?_; refine EW.seq ?_
    have ht : t < l.length := by omega
    have tn : IntKind.i64.wrap ((t : Int) + 1) = ((t + 1 : Nat) : Int) := by rw [IntKind.wrap_i64]; omega
    obtain ⟨x, hx⟩ : ∃ x, l[t]? = some x := ⟨_, List.getElem?_eq_getElem ht⟩
    have hxm := List.mem_of_getElem? hx
    have hxn := hn x hxm
    have hnew := nodup_new hd hx
    refine EW.region ?_; refine WL.move rfl rfl rfl ?_
    obtain ⟨ad, ix, lx⟩ := (hp.below ei).item hx
    refine WL.index rfl rfl rfl rfl (ix _) ?_; refine WL.load rfl rfl rfl lx ?_
    obtain ⟨wv, w3, q3, r3, s3, b3, e3, hq3⟩ := var111 x ((hp.below ei).has x hxm)
    refine WL.new rfl rfl r3 ?_; refine WL.assign rfl rfl rfl ?_
    have e03 := ei.trans (e3.mono ei.size)
    have sn3 := si.on e3
    refine WL.store rfl rfl rfl s3 ?_; refine WL.done ?_; refine EW.on ?_; refine EW.seq ?_; refine EW.seq ?_; refine EW.region ?_; refine WL.move rfl rfl rfl ?_; refine WL.field rfl rfl rfl (fld111_0 q3 _) ?_; refine WL.load rfl rfl rfl (ldpn b3) ?_; refine WL.call [.pointer (some ⟨q, 0, none⟩), .int .i64 (x.n : Int)] enter48 rfl rfl rfl (has_ok (hb.on e03) x.n hxn) ?_
    rintro _ w4 ⟨rfl, hz4⟩
    rw [hz4]
    refine ⟨_, rfl, ?_⟩; refine WL.un rfl rfl rfl (not_t _ _) ?_; refine WL.done ?_; refine EW.on ?_; refine EW.cond_f rfl ?_; refine EW.skip ?_; refine EW.on ?_; refine EW.seq ?_; refine EW.seq ?_; refine EW.region ?_; refine WL.field rfl rfl rfl (fld111_1 q3 _) ?_; refine WL.load rfl rfl rfl (ldpb b3) ?_; refine WL.len rfl rfl rfl (((hp.has x hxm).1).len _ _) ?_; refine WL.bin rfl rfl rfl rfl (int_ne_f (by rw [(hp.has x hxm).2]; rfl) _ _ _) ?_; refine WL.done ?_; refine EW.on ?_; refine EW.cond_f rfl ?_; refine EW.skip ?_; refine EW.on ?_; refine EW.seq ?_; refine EW.seq ?_; refine EW.region ?_; refine WL.move rfl rfl rfl ?_; refine WL.field rfl rfl rfl (fld111_0 q3 _) ?_; refine WL.load rfl rfl rfl (ldpn b3) ?_; refine WL.index rfl rfl rfl rfl (idx114 qs x.n n hxn _) ?_; refine WL.load rfl rfl rfl (ldb sn3 ((snC_get n _ x.n hxn).trans (by rw [decide_eq_false hnew]))) ?_; refine WL.done ?_; refine EW.on ?_; refine EW.cond_f rfl ?_; refine EW.skip ?_; refine EW.on ?_; refine EW.region ?_; refine WL.move rfl rfl rfl ?_; refine WL.field rfl rfl rfl (fld111_0 q3 _) ?_; refine WL.load rfl rfl rfl (ldpn b3) ?_; refine WL.index rfl rfl rfl rfl (idx114 qs x.n n hxn _) ?_
    obtain ⟨w5, s5, b5, x5⟩ := stb true sn3 (snC_get n _ x.n hxn)
    rw [snC_set n _ x hxn] at b5
    refine WL.store rfl rfl rfl s5 ?_; refine WL.done ?_; refine pn_block ?_; refine EW.on ?_; refine EW.region ?_; refine WL.bin rfl rfl rfl rfl (int_add ‹_› _ _ _) ?_; refine WL.move rfl rfl rfl ?_; refine WL.done ?_; refine EW.again (E := rfE q v qs n l.length) (R := RfR w l qs n) (m := fun t => l.length - t) (x := t) (t + 1) [0, 6, 12, 13, 14] rfl ⟨below_of_new e03 x5 (fun k hk => by omega), by rw [List.take_add_one, hx]; exact b5, by omega⟩ (by show _ - (t + 1) < _ - t; omega)
  · refine EW.exit ?_; refine px_then ?_; refine px_then ?_; refine px_block ?_; refine EW.on ?_; refine EW.seq ?_; refine EW.region ?_; refine WL.assign rfl rfl rfl ?_; refine WL.assign rfl rfl rfl ?_; refine WL.done ?_; refine EW.on ?_; refine EW.ret ?_
    exact EW.returns2 Tryz.results43 rfl rfl ⟨rfl, ei⟩
theorem bsl72n (w : World) : (Instr.buildSlice 52 0 ([] : List (Nat × Value)).toArray).run Tryz.prog w = .ok (.slice (some ⟨w.heap.size, 0, none⟩) 0 0) (w.alloc (.cells #[] 98)) := by
  go_simp
  try rfl
theorem eq72f (ad : Addr) (n c : Nat) (W : World) (x y : Operand) : (do eqGuard .eql 52 x y (.slice (some ad) n c) (.slice none 0 0); binOp .eql 52 (.slice (some ad) n c) (.slice none 0 0) : Sem Value).run Tryz.prog W = .ok (.bool false) W := by kernel_rfl
theorem info111f : (Tryz.prog.info? 98).map (fun i => (i.zero, i.size, i.bytes)) = some (some (.agg #[.int .i64 0, .slice none 0 0]), 2, 32) := by kernel_rfl
theorem pg_one {w : World} {l : List Pw} (h : ∀ x ∈ l, x.ok w) : ∀ u ∈ l.flatMap pgC, u.oneCell' = true := fun u hu => by
  obtain ⟨x, hx, hm⟩ := List.mem_flatMap.1 hu
  obtain ⟨ao, n, c, e⟩ := has_shape (h x hx).1
  simp only [pgC, e, List.mem_cons, List.not_mem_nil, or_false] at hm
  rcases hm with rfl | rfl <;> rfl
theorem pg_len (l : List Pw) : (l.flatMap pgC).length = l.length * 2 := by
  induction l with
  | nil => rfl
  | cons a r ih => rw [List.flatMap_cons, List.length_append, ih]; simp [pgC]; omega
theorem pgs_app {w : World} {g0 : Nat} (hg0 : Blk w g0 [] 98) {g cp : Nat} {l : List Pw} (h : Pws w (.slice (some ⟨g, 0, none⟩) l.length cp) l) (hl : l.length ≤ 1000) (ty : TypeId) : ∃ v' w', (Builtin.append_ #[52, 52] ty #[.slice (some ⟨g0, 0, none⟩) 0 0, .slice (some ⟨g, 0, none⟩) l.length cp]).run Tryz.prog w = .ok v' w' ∧ w'.ownsRow 0 98 2 v' l.length (l.flatMap pgC) ∧ Fx (fun k => k = g0) w w' ∧ (∀ k, v'.ownBlock = some k → k = g0 ∨ w.heap.size ≤ k) := by
  obtain ⟨i, hi, hz⟩ := Option.map_eq_some_iff.1 info111f
  simp only [Prod.mk.injEq] at hz
  have h0 : w.ownsRow 0 98 2 (.slice (some ⟨g0, 0, none⟩) 0 0) 0 [] := ⟨rfl, .inr ⟨g0, 0, #[], rfl, Nat.zero_le _, hg0, Nat.le_refl _, Nat.zero_le _, rfl, rfl⟩⟩
  obtain ⟨v', w', r1, r2, r3, r4⟩ := run_appx w 52 ty 98 i _ 2 32 Tryz.underlying52 hi hz.1 hz.2.1 hz.2.2 rfl (by decide) _ 0 [] h0 ⟨g, 0, none⟩ l.length cp (l.flatMap pgC) (pg_len l) (fun j u hj => World.ownsRow.cells h.row (g := g) rfl j u hj) (pg_one h.has) (by omega) (by decide)
  refine ⟨v', w', r1, by simpa using r2, (grown_fx r3).mono (fun k _ h => by simp [Value.ownBlock] at h; exact h.symm), fun k hk => ?_⟩
  rcases r4 k hk with e | e
  · left; simp [Value.ownBlock] at e; exact e.symm
  · exact .inr e
set_option maxRecDepth 100000 in
set_option maxHeartbeats 1000000 in
theorem clonep_any {w : World} {g cp : Nat} {l : List Pw} (hp : Pws w (.slice (some ⟨g, 0, none⟩) l.length cp) l) (hk : l.length ≤ 1000) : Calls Tryz.prog 68 #[.slice (some ⟨g, 0, none⟩) l.length cp] w fun e w' => ∃ u, e = .returned u ∧ Pws w' u l ∧ Below w.heap.size w w' ∧ (∀ k, u.ownBlock = some k → w.heap.size ≤ k) := by
  refine calls_of_args [.slice (some ⟨g, 0, none⟩) l.length cp] Tryz.func68 rfl 8 Tryz.ntmps68 (by show 1 ≤ 8; decide) ?_; refine EW.seq ?_; refine EW.region ?_; refine WL.assign rfl rfl rfl ?_; refine WL.done ?_; refine EW.on ?_; refine EW.seq ?_; refine EW.seq ?_; refine EW.region ?_; refine WL.move rfl rfl rfl ?_; refine WL.bin rfl rfl rfl rfl (eq72f _ _ _ _ _ _) ?_; refine WL.done ?_; refine EW.on ?_; refine EW.cond_f rfl ?_; refine EW.skip ?_; refine EW.on ?_; refine EW.seq ?_; refine EW.region ?_; refine WL.bslN [] rfl rfl rfl (bsl72n w) ?_; refine WL.move rfl rfl rfl ?_
  have eb := below_new w (.cells #[] 98)
  obtain ⟨v', w', r1, r2, r3, r4⟩ := pgs_app (Blk.new w [] 98) (hp.below eb) hk 52
  refine WL.appR rfl rfl rfl rfl r1 ?_; refine WL.assign rfl rfl rfl ?_; refine WL.done ?_; refine EW.on ?_; refine EW.ret ?_
  exact EW.returns Tryz.results68 rfl (by
    have e2 : Below w.heap.size w w' := below_of_new eb r3 (fun k hk => by omega)
    exact ⟨_, rfl, ⟨r2, (hp.below e2).has⟩, e2, fun k hk => (r4 k hk).elim (fun e => by omega) (fun e => Nat.le_trans eb.size e)⟩)
end Go.Proofs.YtmbgeojjklboeaaGreatDoor

set_option linter.unusedVariables false
set_option linter.unusedSimpArgs false
namespace Go.Proofs.YtmbgeojjklboeaaGreatDoor
open Go.RowKit

theorem WL.idxv {P : Program} {n : Fm} {ops : Array Oper} {Q : Exit → Act → World → Prop} {i : Nat} {ty : TypeId} {ps : String} {af : Array Edge} {gd : Option (Nat × Bool)} {r : List Oper} {e : List (Nat × Value)} {w : World} {t : TypeId} {x y : Operand} {u u' v : Value} (hw : wantE ops e ⟨some i, .index t x y, ty, ps, af, gd⟩ = some true) (hi : decide (i < n.k) = true) (hx : evE e x = some u) (hy : evE e y = some u') (hr : (Instr.index t u u').run P w = .ok v w) (k : WL P n ops Q r ((i, v) :: e) w) : WL P n ops Q (⟨some i, .index t x y, ty, ps, af, gd⟩ :: r) e w :=
  WL.op i v hw rfl hi (fun a ha => by simp [execOp, ha.ev hx, ha.ev hy, hr, Result.andThen]) k
theorem conv121 (W : World) : (Go.convert 3 142 (.int .i64 1)).run Tryz.prog W = .ok (.int .u64 1) W := by kernel_rfl
theorem conv134 (W : World) : (Go.convert 168 5 (.int .u64 1)).run Tryz.prog W = .ok (.int .u8 1) W := by kernel_rfl
theorem conv53 (W : World) : (Go.convert 5 3 (.int .u8 1)).run Tryz.prog W = .ok (.int .i64 1) W := by kernel_rfl
theorem ge134 (b : Int) (hb : ¬ b ≤ 1) (W : World) (x y : Operand) : (do eqGuard .geq 168 x y (.int .u64 1) (.int .u64 b); binOp .geq 168 (.int .u64 1) (.int .u64 b) : Sem Value).run Tryz.prog W = .ok (.bool false) W := by
  go_simp
set_option maxRecDepth 100000 in
set_option maxHeartbeats 1000000 in
theorem len64_1 (w : World) : Calls Tryz.prog 99 #[.int .u64 1] w fun e w' => e = .returned (.int .i64 1) ∧ w' = w := by
  refine calls_of_args [.int .u64 1] Tryz.func99 rfl 25 Tryz.ntmps99 (by show 1 ≤ 25; decide) ?_; refine EW.seq ?_; refine EW.region ?_; refine WL.assign rfl rfl rfl ?_; refine WL.done ?_; refine EW.on ?_; refine EW.seq ?_; refine EW.seq ?_; refine EW.region ?_; refine WL.move rfl rfl rfl ?_; refine WL.bin rfl rfl rfl rfl (ge134 _ (by decide) _ _ _) ?_; refine WL.done ?_; refine EW.on ?_; refine EW.cond_f rfl ?_; refine EW.skip ?_; refine EW.on ?_; refine EW.seq ?_; refine EW.seq ?_; refine EW.region ?_; refine WL.move rfl rfl rfl ?_; refine WL.bin rfl rfl rfl rfl (ge134 _ (by decide) _ _ _) ?_; refine WL.done ?_; refine EW.on ?_; refine EW.cond_f rfl ?_; refine EW.skip ?_; refine EW.on ?_; refine EW.seq ?_; refine EW.seq ?_; refine EW.region ?_; refine WL.move rfl rfl rfl ?_; refine WL.bin rfl rfl rfl rfl (ge134 _ (by decide) _ _ _) ?_; refine WL.done ?_; refine EW.on ?_; refine EW.cond_f rfl ?_; refine EW.skip ?_; refine EW.on ?_; refine EW.seq ?_; refine EW.region ?_; refine WL.move rfl rfl rfl ?_; refine WL.move rfl rfl rfl ?_; refine WL.conv rfl rfl rfl (conv134 _) ?_; refine WL.idxv (v := .int .u8 1) rfl rfl rfl rfl (by kernel_rfl) ?_; refine WL.conv rfl rfl rfl (conv53 _) ?_; refine WL.bin rfl rfl rfl rfl (int_add (c := 1) (by decide) _ _ _) ?_; refine WL.assign rfl rfl rfl ?_; refine WL.done ?_; refine EW.on ?_; refine EW.ret ?_
  exact EW.returns Tryz.results99 rfl ⟨rfl, rfl⟩
set_option maxRecDepth 100000 in
set_option maxHeartbeats 1000000 in
theorem len_1 (w : World) : Calls Tryz.prog 82 #[.int .u64 1] w fun e w' => e = .returned (.int .i64 1) ∧ w' = w := by
  refine calls_of_args [.int .u64 1] Tryz.func82 rfl 8 Tryz.ntmps82 (by show 1 ≤ 8; decide) ?_; refine EW.seq ?_; refine EW.region ?_; refine WL.assign rfl rfl rfl ?_; refine WL.done ?_; refine EW.on ?_; refine EW.seq ?_; refine EW.cond_f rfl ?_; refine EW.skip ?_; refine EW.on ?_; refine EW.seq ?_; refine EW.region ?_; refine WL.move rfl rfl rfl ?_; refine WL.call [.int .u64 1] enter99 rfl rfl rfl (len64_1 _) ?_
  rintro _ w1 ⟨rfl, hz⟩
  rw [hz]
  refine ⟨_, rfl, ?_⟩; refine WL.assign rfl rfl rfl ?_; refine WL.done ?_; refine EW.on ?_; refine EW.ret ?_
  exact EW.returns Tryz.results82 rfl ⟨rfl, rfl⟩
def fnV : Value := .func (.func 70) #[] #[]
def s1E (v : Value) (_ : Unit) : List (Nat × Value) := [(0, v), (1, .int .i64 0), (2, .int .i64 1), (3, fnV), (8, .int .i64 1)]
def s2E (v : Value) (_ : Unit) : List (Nat × Value) := [(0, v), (1, .int .i64 0), (2, .int .i64 1), (3, .int .i64 1), (4, fnV), (10, .bool true), (11, .bool true)]
set_option maxRecDepth 100000 in
set_option maxHeartbeats 1000000 in
theorem isort_1 (v : Value) (w : World) : Calls Tryz.prog 90 #[v, .int .i64 0, .int .i64 1, fnV] w fun e w' => e = .returned (.tuple #[]) ∧ w' = w := by
  refine calls_of_args [v, .int .i64 0, .int .i64 1, fnV] Tryz.func90 rfl 53 Tryz.ntmps90 (by show 4 ≤ 53; decide) ?_; refine EW.seq ?_; refine EW.region ?_; refine WL.move rfl rfl rfl ?_; refine WL.bin rfl rfl rfl rfl (int_add (c := 1) (by decide) _ _ _) ?_; refine WL.assign rfl rfl rfl ?_; refine WL.done ?_; refine EW.on ?_; refine EW.block ?_; refine EW.loop (s1E v) (fun _ W => W = w) (fun _ => 0) () [0, 1, 2, 3, 8] rfl rfl ?_
  rintro _ wi rfl
  show EW _ _ _ _ [(0, v), (1, .int .i64 0), (2, .int .i64 1), (3, fnV), (8, .int .i64 1)] _
  refine EW.seq ?_; refine EW.seq ?_; refine EW.region ?_; refine WL.move rfl rfl rfl ?_; refine WL.move rfl rfl rfl ?_; refine WL.bin rfl rfl rfl rfl (int_lt_f (by decide) _ _ _) ?_; refine WL.done ?_; refine EW.on ?_; refine EW.cond_f rfl ?_; refine EW.exit ?_; refine px_then ?_; refine px_then ?_; refine px_block ?_
  exact EW.falls Tryz.results90 ⟨rfl, rfl⟩
theorem EW.bare {P : Program} {e : List (Nat × Value)} {w : World} {m : Nat} {fn : Func} {R : Ending → World → Prop} (hres : fn.results = #[]) (h : R (.returned (.tuple #[])) w) : ∀ a, Env ⟨m, []⟩ a e → bodyPost P fn R .ret a w := fun a ha =>
  bodyPost_ret (v := .tuple #[]) (results_none hres a.tmps P w) ha.df h
set_option maxRecDepth 100000 in
set_option maxHeartbeats 1000000 in
theorem pdq_1 (v : Value) (w : World) : Calls Tryz.prog 81 #[v, .int .i64 0, .int .i64 1, .int .i64 1, fnV] w fun e w' => e = .returned (.tuple #[]) ∧ w' = w := by
  refine calls_of_args [v, .int .i64 0, .int .i64 1, .int .i64 1, fnV] Tryz.func81 rfl 148 Tryz.ntmps81 (by show 5 ≤ 148; decide) ?_; refine EW.seq ?_; refine EW.region ?_; refine WL.assign rfl rfl rfl ?_; refine WL.done ?_; refine EW.on ?_; refine EW.seq ?_; refine EW.region ?_; refine WL.assign rfl rfl rfl ?_; refine WL.done ?_; refine EW.on ?_; refine EW.block ?_; refine EW.loop (s2E v) (fun _ W => W = w) (fun _ => 0) () [0, 1, 2, 3, 4, 10, 11] rfl rfl ?_
  rintro _ wi rfl
  show EW _ _ _ _ [(0, v), (1, .int .i64 0), (2, .int .i64 1), (3, .int .i64 1), (4, fnV), (10, .bool true), (11, .bool true)] _
  refine EW.block ?_; refine EW.seq ?_; refine EW.region ?_; refine WL.move rfl rfl rfl ?_; refine WL.move rfl rfl rfl ?_; refine WL.bin rfl rfl rfl rfl (int_sub (c := 1) (by decide) _ _ _) ?_; refine WL.assign rfl rfl rfl ?_; refine WL.done ?_; refine EW.on ?_; refine EW.seq ?_; refine EW.seq ?_; refine EW.region ?_; refine WL.move rfl rfl rfl ?_; refine WL.bin rfl rfl rfl rfl (int_le_t (by decide) _ _ _) ?_; refine WL.done ?_; refine EW.on ?_; refine EW.cond_t rfl ?_; refine EW.seq ?_; refine EW.region ?_; refine WL.move rfl rfl rfl ?_; refine WL.move rfl rfl rfl ?_; refine WL.move rfl rfl rfl ?_; refine WL.move rfl rfl rfl ?_; refine WL.call [v, .int .i64 0, .int .i64 1, fnV] enter90 rfl rfl rfl (isort_1 v _) ?_
  rintro _ w1 ⟨rfl, hz⟩
  rw [hz]
  refine ⟨_, rfl, ?_⟩; refine WL.done ?_; refine EW.on ?_; refine EW.ret ?_; refine pr_then ?_; refine pr_block ?_; refine pr_then ?_; refine pr_block ?_
  exact EW.bare Tryz.results81 ⟨rfl, rfl⟩
set_option maxRecDepth 100000 in
set_option maxHeartbeats 1000000 in
theorem sort_1 (v : Value) (w : World) (hl : ∀ ty W, (Builtin.len_ #[52] ty #[v]).run Tryz.prog W = .ok (.int .i64 1) W) : Calls Tryz.prog 69 #[v, fnV] w fun e w' => e = .returned (.tuple #[]) ∧ w' = w := by
  refine calls_of_args [v, fnV] Tryz.func69 rfl 14 Tryz.ntmps69 (by show 2 ≤ 14; decide) ?_; refine EW.seq ?_; refine EW.region ?_; refine WL.move rfl rfl rfl ?_; refine WL.len rfl rfl rfl (hl _ _) ?_; refine WL.assign rfl rfl rfl ?_; refine WL.done ?_; refine EW.on ?_; refine EW.region ?_; refine WL.move rfl rfl rfl ?_; refine WL.move rfl rfl rfl ?_; refine WL.move rfl rfl rfl ?_; refine WL.conv rfl rfl rfl (conv121 _) ?_; refine WL.call [.int .u64 1] enter82 rfl rfl rfl (len_1 _) ?_
  rintro _ w1 ⟨rfl, hz⟩
  rw [hz]
  refine ⟨_, rfl, ?_⟩; refine WL.move rfl rfl rfl ?_; refine WL.call [v, .int .i64 0, .int .i64 1, .int .i64 1, fnV] enter81 rfl rfl rfl (pdq_1 v _) ?_
  rintro _ w2 ⟨rfl, hz2⟩
  rw [hz2]
  refine ⟨_, rfl, ?_⟩; refine WL.done ?_
  exact EW.falls Tryz.results69 ⟨rfl, rfl⟩
set_option maxRecDepth 100000 in
set_option maxHeartbeats 1000000 in
theorem rising_1 {w : World} {g cp : Nat} {x : Pw} (hp : Pws w (.slice (some ⟨g, 0, none⟩) 1 cp) [x]) : Calls Tryz.prog 45 #[.slice (some ⟨g, 0, none⟩) 1 cp] w fun e w' => ∃ u, e = .returned u ∧ Pws w' u [x] ∧ Below w.heap.size w w' ∧ (∀ k, u.ownBlock = some k → w.heap.size ≤ k) := by
  refine calls_of_args [.slice (some ⟨g, 0, none⟩) 1 cp] Tryz.func45 rfl 9 Tryz.ntmps45 (by show 1 ≤ 9; decide) ?_; refine EW.seq ?_; refine EW.region ?_; refine WL.assign rfl rfl rfl ?_; refine WL.done ?_; refine EW.on ?_; refine EW.seq ?_; refine EW.region ?_; refine WL.move rfl rfl rfl ?_; refine WL.call [.slice (some ⟨g, 0, none⟩) 1 cp] enter68 rfl rfl rfl (clonep_any (l := [x]) hp (Nat.le_of_ble_eq_true rfl)) ?_
  rintro _ w1 ⟨u, rfl, p1, e1, hf1⟩
  refine ⟨_, rfl, ?_⟩; refine WL.assign rfl rfl rfl ?_; refine WL.done ?_; refine EW.on ?_; refine EW.seq ?_; refine EW.region ?_; refine WL.move rfl rfl rfl ?_; refine WL.call [u, fnV] enter69 rfl rfl rfl (sort_1 u _ (fun ty W => by have := p1.len ty W; simpa using this)) ?_
  rintro _ w2 ⟨rfl, hz⟩
  rw [hz]
  refine ⟨_, rfl, ?_⟩; refine WL.done ?_; refine EW.on ?_; refine EW.seq ?_; refine EW.region ?_; refine WL.move rfl rfl rfl ?_; refine WL.assign rfl rfl rfl ?_; refine WL.done ?_; refine EW.on ?_; refine EW.ret ?_
  exact EW.returns Tryz.results45 rfl ⟨_, rfl, p1, e1, hf1⟩
set_option maxRecDepth 100000 in
set_option maxHeartbeats 1000000 in
theorem commit_1 {w : World} {L : Lay} {N : Nat} {s : Nat → List UInt8} {c n q : Nat} (h : Dk w L N s 0 c) (hb : Blk w q (lgC L.p n .nilIface) 88) (hnN : 4 * n + 1 ≤ N) (hN : N ≤ 4096) (hn2 : n ≤ 250) (hcal : c ≤ 100000) {g cp : Nat} {x : Pw} (hp : Pws w (.slice (some ⟨g, 0, none⟩) 1 cp) [x]) (hx : x.n < n) (hxF : ∀ k, x.v.ownBlock = some k → ¬ L.F k) (hxB : ∀ k, x.v.ownBlock = some k → k < w.heap.size) : Calls Tryz.prog 14 #[.pointer (some ⟨q, 0, none⟩), .slice (some ⟨g, 0, none⟩) 1 cp] w fun e w' => e = .returned .nilIface ∧ ∃ L', Turn w w' L L' ∧ Dk w' L' N (chS n s [x]) 0 (c + 14) := by
  refine calls_of_argsD [.pointer (some ⟨q, 0, none⟩), .slice (some ⟨g, 0, none⟩) 1 cp] Tryz.func14 rfl 35 Tryz.ntmps14 (by show 2 ≤ 35; decide) ?_; refine EW.seq ?_; refine EW.region ?_
  obtain ⟨w1, q1, r1, b1, e1, hq1, z1⟩ := box22 (some ⟨q, 0, none⟩) w
  refine WL.box rfl rfl rfl r1 ?_
  obtain ⟨w3, q3, r3, b3, e3, hq3, z3⟩ := new24 w1
  have e03 := e1.trans (e3.mono e1.size)
  have h3 := h.below e03
  have g3 := hb.on e03
  have p3 := hp.below e03
  have b13 := b1.on e3
  have hF : ∀ k, w.heap.size ≤ k → ¬ L.F k := fun k hk hF => by have := h.lt _ hF; omega
  refine WL.new rfl rfl r3 ?_; refine WL.done ?_; refine EW.on ?_; refine EW.seq ?_; refine EW.region ?_; refine WL.mkf [.pointer (some ⟨q1, 0, none⟩), .pointer (some ⟨q3, 0, none⟩)] rfl rfl rfl ?_; refine WL.defer rfl rfl ?_; refine WL.done ?_; refine EW.on ?_; refine EW.seq ?_; refine EW.seq ?_; refine EW.region ?_; refine WL.load rfl rfl rfl (ld22c b13) ?_; refine WL.nilc rfl rfl rfl ?_; refine WL.field rfl rfl rfl (fld66_1 q _) ?_; refine WL.load rfl rfl rfl (ldl24 g3) ?_; refine WL.bin rfl rfl rfl rfl (ne24n _ _) ?_; refine WL.done ?_; refine EW.on ?_; refine EW.cond_f rfl ?_; refine EW.skip ?_; refine EW.on ?_; refine EW.seq ?_; refine EW.seq ?_; refine EW.region ?_; refine WL.load rfl rfl rfl (ld22c b13) ?_; refine WL.move rfl rfl rfl ?_; refine WL.call [.pointer (some ⟨q, 0, none⟩), .slice (some ⟨g, 0, none⟩) 1 cp] enter43 rfl rfl rfl (refusal_ok g3 _ [x] p3 (Nat.le_of_ble_eq_true rfl) (fun y hy => by rw [List.mem_singleton.1 hy]; exact hx) (by omega) (by simp)) ?_
  rintro _ w4 ⟨rfl, e4⟩
  have e04 := e03.trans (e4.mono e03.size)
  have h4 := h.below e04
  have g4 := g3.on e4
  have p4 := p3.below e4
  have b14 := b13.on e4
  have b34 := b3.on e4
  refine ⟨_, rfl, ?_⟩; refine WL.move rfl rfl rfl ?_; refine WL.extract rfl rfl rfl (ext_2 _ _ _).1 ?_; refine WL.extract rfl rfl rfl (ext_2 _ _ _).2 ?_; refine WL.assign rfl rfl rfl ?_; refine WL.assign rfl rfl rfl ?_; refine WL.done ?_; refine EW.on ?_; refine EW.seq ?_; refine EW.region ?_; refine WL.move rfl rfl rfl ?_; refine WL.bin rfl rfl rfl rfl (int_ne_f rfl _ _ _) ?_; refine WL.done ?_; refine EW.on ?_; refine EW.cond_f rfl ?_; refine EW.skip ?_; refine EW.on ?_; refine EW.seq ?_; refine EW.seq ?_; refine EW.region ?_; refine WL.move rfl rfl rfl ?_; refine WL.len rfl rfl rfl (p4.len _ _) ?_; refine WL.bin rfl rfl rfl rfl (int_gt_t (show (0 : Int) < 1 by decide) _ _ _) ?_; refine WL.done ?_; refine EW.on ?_; refine EW.cond_t rfl ?_; refine EW.ordB [(0, 0, 1), (1, 0, 0), (2, 0, 0), (3, 0, 1), (4, 0, 0), (5, 1, 1), (6, 1, 0)] (by kernel_rfl) rfl (by kernel_rfl) ?_; simp only [opsZ, List.getD_cons_zero, List.getD_cons_succ]; refine ZE.load rfl rfl rfl rfl sz1 (fun W hW => ld22c (b14.on (sb_of hW))) ?_; refine ZE.nilc rfl rfl rfl rfl sz0 ?_; refine ZE.field rfl rfl rfl rfl sz0 (fun W => fld66_0 q W) ?_; refine ZE.load rfl rfl rfl rfl sz1 (fun W hW => ldl55 (g4.on (sb_of hW))) ?_; refine ZE.move rfl rfl rfl rfl sz0 ?_; refine ZE.callR [.slice (some ⟨g, 0, none⟩) 1 cp] (fun v W => (Pws W v [x] ∧ ∀ k, v.ownBlock = some k → w4.heap.size ≤ k) ∧ Below w4.heap.size w4 W) enter45 rfl rfl rfl (fun _ _ h => .inr h.2) (fun W hW => (rising_1 (p4.below hW)).mono fun e w' ⟨u, g1, g2, g3, g4⟩ => ⟨u, g1, ⟨g2, fun k hk => Nat.le_trans hW.size (g4 k hk)⟩, hW.trans (g3.mono hW.size)⟩) ?_
  rintro vs ⟨_, _, _⟩
  refine ZE.callR [dkV L.p n, vs] (fun v W => v = .tuple #[] ∧ ∃ L', Turn w4 W L L' ∧ Dk W L' N (chS n s [x]) 0 (c + 14)) enter44 rfl rfl rfl (fun _ _ _ => .inl rfl) (fun W hW => (change_ok n (h4.below hW.2) hnN (by omega) vs [x] hW.1.1 (Nat.le_of_ble_eq_true rfl) (fun y hy => by rw [List.mem_singleton.1 hy]; exact hx) hn2 (fun k hk => hF k (Nat.le_trans e04.size (hW.1.2 k hk))) (fun y hy k hk => by rw [List.mem_singleton.1 hy] at hk; exact hxF k hk) (fun y hy k hk => by rw [List.mem_singleton.1 hy] at hk; have := hxB k hk; have := e04.size; have := hW.2.size; omega) (by omega)).mono fun e w' ⟨g1, L', g2, g3⟩ => ⟨_, g1, rfl, L', g2.pre hW.2, g3⟩) ?_
  rintro _ ⟨_, rfl, _⟩
  rintro w6 ⟨_, L6, t6, d6⟩
  have b36 := b34.fx t6.fx (hF q3 (by omega))
  refine EW.on ?_; refine EW.seq ?_; refine EW.region ?_
  obtain ⟨w7, s7, b7, x7⟩ := st24n b36
  refine WL.store rfl rfl rfl s7 ?_; refine WL.done ?_; refine EW.on ?_; refine EW.ret ?_; refine EW.leaves enter41 (commit1_none _ _ _) ?_
  rintro u w' ⟨hu, hw⟩
  subst hu
  rw [hw]
  have t06 := t6.pre e04
  have h6F : ∀ k, L6.F k → ¬ k = q3 := fun k hk hh => (t6.own k hk).elim (hF k (by omega)) (fun h2 => by have := b34.lt; omega)
  refine ⟨rfl, fun a ha => ⟨_, results_c1 Tryz.results14 a.tmps w7 (ha.kn 4 _ rfl) (ld24c b7), rfl, L6, ⟨t06.fx.trans x7 (fun k hk hh => by omega), t06.own, t06.p⟩, ?_⟩⟩
  obtain ⟨D, k1, k2⟩ := d6.ex
  exact ⟨D, k1.fx x7 h6F, k2⟩
end Go.Proofs.YtmbgeojjklboeaaGreatDoor
