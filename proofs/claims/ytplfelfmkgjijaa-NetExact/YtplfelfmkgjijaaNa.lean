import Derived.Test.YtplfelfmkgjijaaHa
import Derived.Test.YtplfelfmkgjijaaOy
import Derived.Laws.StructEq
import Derived.ChangeKeysEq
import Derived.Great.BuildSlice
import Derived.Laws.IdiomCopy
set_option linter.unusedVariables false
set_option linter.unusedSimpArgs false
namespace Go.Proofs.Ytplfelfmkgjijaa
open Go.RowKit

section
variable {w : World} {q o : Nat} {cs a m b : List Value} {t : TypeId}
theorem Blk.range (hb : Blk w q cs t) (hc : cs = a ++ (m ++ b)) (ho : a.length = o) : w.rangeAt q o m := fun j v hj => by
  have hl := (List.getElem?_eq_some_iff.1 hj).1
  rw [hb.cell, hc, List.getElem?_append_right (by omega), ho, Nat.add_sub_cancel_left, List.getElem?_append_left hl]
  exact hj
theorem Blk.ldA (hb : Blk w q cs t) {ty : TypeId} {d : TypeDesc} (hu : Try.prog.underlying ty = some d) (hd : d.isRow = true) (hi : (Try.prog.info? ty).map (·.size) = some m.length) (hc : cs = a ++ (m ++ b)) (ho : a.length = o) : (Instr.loadAt ty (.pointer (some ⟨q, o, none⟩))).run Try.prog w = .ok (.agg m.toArray) w :=
  run_loadAt_mid w q o ty m d (hb.range hc ho) hu hd hi
theorem Blk.stA (hb : Blk w q cs t) {ty : TypeId} {vs : List Value} (hi : (Try.prog.info? ty).map (·.size) = some vs.length) (h1 : vs.toArray.all (·.oneCell') = true) (hc : cs = a ++ (m ++ b)) (ho : a.length = o) (hm : m.length = vs.length) : ∃ w', (Instr.storeAt ty (.pointer (some ⟨q, o, none⟩)) (.agg vs.toArray)).run Try.prog w = .ok () w' ∧ Blk w' q (a ++ (vs ++ b)) t ∧ Fx (fun k => k = q) w w' := by
  have hl : o + vs.length ≤ cs.length := by rw [hc, List.length_append, List.length_append]; omega
  refine ⟨_, run_storeAt_mid w q o ty vs.toArray (fun j hj => ⟨?_, hb.frozen _⟩) (by rw [List.size_toArray]; exact hi) h1, ?_, Fx.setCells (S := fun k => k = q) q rfl _ _ _⟩
  · rw [List.size_toArray] at hj
    rw [hb.cell, List.getElem?_eq_getElem (by omega)]; rfl
  · have := Blk.setCells vs o w cs hb hl
    have e : cs.take o ++ vs ++ cs.drop (o + vs.length) = a ++ (vs ++ b) := by
      rw [hc, ← ho, List.take_left, ← hm, ← List.drop_drop, List.drop_left, List.drop_left, List.append_assoc]
    rw [e] at this
    exact this
theorem Blk.st1 (hb : Blk w q cs t) {x : Value} (hc : cs = a ++ ([x] ++ b)) (ho : a.length = o) (v : Value) : Blk (w.setCell ⟨q, o, none⟩ v) q (a ++ ([v] ++ b)) t := by
  have := hb.set o v
  rw [hc] at this
  rw [List.set_append_right _ _ (by omega), ho, Nat.sub_self] at this
  exact this
theorem Blk.at1 (hb : Blk w q cs t) {x : Value} (hc : cs = a ++ ([x] ++ b)) (ho : a.length = o) : w.cell? ⟨q, o, none⟩ = some x := by
  rw [hb.cell, hc, List.getElem?_append_right (by omega), ho, Nat.sub_self]; rfl
end
theorem info5s : (Try.prog.info? 5).map (·.size) = some 1 := by kernel_rfl
/-- Bytes laid over zeros. -/
def padR (Z bs : List UInt8) : List UInt8 := bs.take Z.length ++ Z.drop (bs.take Z.length).length
theorem padR_len (Z bs : List UInt8) : (padR Z bs).length = Z.length := by
  unfold padR
  rw [List.length_append, List.length_drop]
  have : (bs.take Z.length).length ≤ Z.length := by rw [List.length_take]; omega
  omega
theorem padR_full {Z bs : List UInt8} (h : bs.length = Z.length) : padR Z bs = bs := by
  unfold padR
  rw [List.take_of_length_le (by omega), List.drop_of_length_le (by omega), List.append_nil]
theorem cpB {w : World} {p off : Nat} {cs a b : List Value} {t : TypeId} {Z : List UInt8} (hb : Blk w p cs t) (hc : cs = a ++ (Z.map byt ++ b)) (ho : a.length = off) (cc : Nat) {v : Value} {bs : List UInt8} (hv : Has w v bs) (ty : TypeId) : ∃ (x : Int) (w' : World), (Builtin.copy_ #[29, 29] ty #[.slice (some ⟨p, off, none⟩) Z.length cc, v]).run Try.prog w = .ok (.int .i64 x) w' ∧ Blk w' p (a ++ ((padR Z bs).map byt ++ b)) t ∧ Fx (fun k => k = p) w w' := by
  have hl : (bs.take Z.length).length = min Z.length bs.length := List.length_take
  have hcl : off + Z.length ≤ cs.length := by rw [hc, List.length_append, List.length_append, List.length_map]; omega
  rcases hv with ⟨rfl, rfl⟩ | ⟨ad, cap, rfl, h2, h3⟩
  · have hrun := run_copy_none (P := Try.prog) w 29 29 ty 5 (some ⟨p, off, none⟩) none Z.length cc 0 0 Try.underlying29 info5s (by simp)
    exact ⟨_, _, hrun, by rw [hc] at hb; simpa [padR] using hb, Fx.refl _ _⟩
  · have hrun := run_copy_cells (P := Try.prog) w 29 29 ty 5 p off Z.length cc ad bs.length cap ((bs.take Z.length).map byt) Try.underlying29 info5s (by rw [List.length_map, hl]; exact Nat.min_comm _ _)
      (fun j v hj => by
        rw [List.getElem?_map, Option.map_eq_some_iff] at hj
        obtain ⟨u, hu, rfl⟩ := hj
        have hjq : j < (bs.take Z.length).length := (List.getElem?_eq_some_iff.1 hu).1
        rw [List.getElem?_take_of_lt (by omega)] at hu
        exact h3 j u hu)
      (fun j hj => by
        rw [List.length_map] at hj
        rw [hb.cell, List.getElem?_eq_getElem (by omega)]; rfl) (fun j _ => hb.frozen _) (byt_one _)
    refine ⟨_, _, hrun, ?_, Fx.setCells (S := fun k => k = p) p rfl _ _ _⟩
    have h := Blk.setCells ((bs.take Z.length).map byt) off w cs hb (by rw [List.length_map]; omega)
    have e : cs.take off ++ (bs.take Z.length).map byt ++ cs.drop (off + ((bs.take Z.length).map byt).length) = a ++ ((padR Z bs).map byt ++ b) := by
      rw [hc, ← ho, List.take_left, ← List.drop_drop, List.drop_left, List.length_map, List.drop_append_of_le_length (by rw [List.length_map]; omega), padR, List.map_append, ← List.map_drop]
      simp
    rw [e] at h
    exact h
/-- A flight by its cells, and the bytes that its slice holds. -/
structure Fl where
  n : Int
  f : Int
  t : Int
  v : Value
  b : List UInt8
def Fl.cs (x : Fl) : List Value := [.int .i64 x.n, .int .i64 x.f, .int .i64 x.t, x.v]
def Fl.g (x : Fl) : Value := .agg x.cs.toArray
/-- What a flight says, wherever its bytes lie. -/
def Fl.d (x : Fl) : Int × Int × Int × List UInt8 := (x.n, x.f, x.t, x.b)
/-- The slice is a slice. -/
def Fl.sh (x : Fl) : Prop := ∃ ao n c, x.v = .slice ao n c
def Fl.z : Fl := ⟨0, 0, 0, .slice none 0 0, []⟩
theorem Fl.z_sh : Fl.z.sh := ⟨_, _, _, rfl⟩
theorem Fl.len (x : Fl) : x.cs.length = 4 := rfl
theorem Fl.one {x : Fl} (h : x.sh) : x.cs.toArray.all (·.oneCell') = true := by
  obtain ⟨ao, n, c, e⟩ := h
  unfold Fl.cs
  rw [e, List.all_toArray]
  rfl
theorem Fl.ones {x : Fl} (h : x.sh) : ∀ c ∈ x.cs, c.oneCell' = true := by
  have := Fl.one h
  rw [List.all_toArray, List.all_eq_true] at this
  exact this
theorem sh_of {w : World} {x : Fl} (h : Has w x.v x.b) : x.sh := h.sl
theorem i36 (x : Fl) : (Try.prog.info? 36).map (·.size) = some x.cs.length := by show _ = some 4; kernel_rfl
theorem i36z : (Try.prog.info? 36).map (fun i => (i.zero, i.size, i.bytes)) = some (some (Fl.z.g), 4, 48) := by kernel_rfl
theorem g36_0 (q : Nat) (W : World) : (Instr.fieldAt 36 (.pointer (some ⟨q, 0, none⟩)) 0).run Try.prog W = .ok (.pointer (some ⟨q, 0, none⟩)) W := by go_simp
theorem g36_1 (q : Nat) (W : World) : (Instr.fieldAt 36 (.pointer (some ⟨q, 0, none⟩)) 1).run Try.prog W = .ok (.pointer (some ⟨q, 1, none⟩)) W := by go_simp
theorem g36_2 (q : Nat) (W : World) : (Instr.fieldAt 36 (.pointer (some ⟨q, 0, none⟩)) 2).run Try.prog W = .ok (.pointer (some ⟨q, 2, none⟩)) W := by go_simp
theorem g36_3 (q : Nat) (W : World) : (Instr.fieldAt 36 (.pointer (some ⟨q, 0, none⟩)) 3).run Try.prog W = .ok (.pointer (some ⟨q, 3, none⟩)) W := by go_simp
theorem f36_0 (ad : Addr) (W : World) : (Instr.fieldAt 36 (.pointer (some ad)) 0).run Try.prog W = .ok (.pointer (some (ad.add 0))) W := by go_simp
theorem f36_1 (ad : Addr) (W : World) : (Instr.fieldAt 36 (.pointer (some ad)) 1).run Try.prog W = .ok (.pointer (some (ad.add 1))) W := by go_simp
theorem f36_2 (ad : Addr) (W : World) : (Instr.fieldAt 36 (.pointer (some ad)) 2).run Try.prog W = .ok (.pointer (some (ad.add 2))) W := by go_simp
theorem f36_3 (ad : Addr) (W : World) : (Instr.fieldAt 36 (.pointer (some ad)) 3).run Try.prog W = .ok (.pointer (some (ad.add 3))) W := by go_simp
theorem ld36 {w : World} {q : Nat} {x : Fl} {t : TypeId} (hb : Blk w q x.cs t) : (Instr.loadAt 36 (.pointer (some ⟨q, 0, none⟩))).run Try.prog w = .ok x.g w :=
  hb.ldA (a := []) (m := x.cs) (b := []) Try.underlying36 rfl (i36 x) (by simp) rfl
theorem st36 {w : World} {q : Nat} {x y : Fl} {t : TypeId} (hb : Blk w q x.cs t) (hy : y.sh) : ∃ w', (Instr.storeAt 36 (.pointer (some ⟨q, 0, none⟩)) y.g).run Try.prog w = .ok () w' ∧ Blk w' q y.cs t ∧ Fx (fun k => k = q) w w' := by
  obtain ⟨w', r1, r2, r3⟩ := hb.stA (ty := 36) (vs := y.cs) (o := 0) (a := []) (m := x.cs) (b := []) (i36 y) (Fl.one hy) (by simp) rfl rfl
  exact ⟨w', r1, by simpa using r2, r3⟩
theorem box36 (x : Fl) (w : World) : ∃ w1 q, (Instr.box 36 x.g).run Try.prog w = .ok (.pointer (some ⟨q, 0, none⟩)) w1 ∧ Blk w1 q x.cs 36 ∧ Below w.heap.size w w1 ∧ q = w.heap.size ∧ w1.heap.size = w.heap.size + 1 := ⟨_, _, run_boxR 36 _ w _ rfl, Blk.new _ _ _, below_new _ _, rfl, by simp⟩
theorem new36 (w : World) : ∃ w1 q, (Instr.alloc 36 true (.tuple #[])).run Try.prog w = .ok (.pointer (some ⟨q, 0, none⟩)) w1 ∧ Blk w1 q Fl.z.cs 36 ∧ Below w.heap.size w w1 ∧ q = w.heap.size ∧ w1.heap.size = w.heap.size + 1 :=
  ⟨_, _, run_newR 36 _ (fun w => (zero_of_info (show (Try.prog.info? 36).map (fun i => (i.zero, i.size)) = some (some Fl.z.g, 4) by kernel_rfl)).1 w) w _ rfl, Blk.new _ _ _, below_new _ _, rfl, by simp⟩
theorem bt {a b c : World} (h : Below a.heap.size a b) (k : Below b.heap.size b c) : Below a.heap.size a c := h.trans (k.mono h.size)
/-- A new variable with a flight in it. -/
theorem newF (w : World) (x : Fl) (hx : x.sh) : ∃ q w1 w2, (Instr.alloc 36 true (.tuple #[])).run Try.prog w = .ok (.pointer (some ⟨q, 0, none⟩)) w1 ∧ (Instr.storeAt 36 (.pointer (some ⟨q, 0, none⟩)) x.g).run Try.prog w1 = .ok () w2 ∧ Blk w2 q x.cs 36 ∧ Below w.heap.size w w2 ∧ q = w.heap.size := by
  obtain ⟨w1, q, r1, b1, l1, hq, _⟩ := new36 w
  obtain ⟨w2, r2, b2, f2⟩ := st36 b1 hx
  exact ⟨q, w1, w2, r1, r2, b2, l1.trans (f2.below (fun k hk h => by omega) l1.size), hq⟩
theorem z36 (w : World) : (zeroValue 36).run Try.prog w = .ok Fl.z.g w := (zero_of_info (show (Try.prog.info? 36).map (fun i => (i.zero, i.size)) = some (some Fl.z.g, 4) by kernel_rfl)).1 w
theorem b36 (n f t : Int) (ao : Option Addr) (l c : Nat) (b : List UInt8) (w : World) : (Instr.build 36 [(0, .int .i64 n), (1, .int .i64 f), (2, .int .i64 t), (3, .slice ao l c)].toArray).run Try.prog w = .ok (Fl.g ⟨n, f, t, .slice ao l c, b⟩) w := by
  unfold Fl.g Fl.cs
  go_simp
theorem b36_3 (f t : Int) (ao : Option Addr) (l c : Nat) (b : List UInt8) (w : World) : (Instr.build 36 [(1, .int .i64 f), (2, .int .i64 t), (3, .slice ao l c)].toArray).run Try.prog w = .ok (Fl.g ⟨0, f, t, .slice ao l c, b⟩) w := by
  unfold Fl.g Fl.cs
  go_simp
theorem b36_0 (w : World) : (Instr.build 36 ([] : List (Nat × Value)).toArray).run Try.prog w = .ok Fl.z.g w := by
  unfold Fl.g Fl.cs Fl.z
  go_simp
/-- The results: a flight in a variable, alone or with a number. -/
theorem res_c {P : Program} {fn : Func} {p : Tmp} {ty : TypeId} (h : fn.results = #[.cell p ty]) (tmps : Array Value) (w : World) (g : Nat) (t : TypeId) (cs : Array Value) (fr : Nat × Nat) (d : TypeDesc)
    (hp : tmps.getD p undef = .pointer (some ⟨g, 0, none⟩)) (hg : w.heap[g]? = some (.cells cs t fr))
    (hu : P.underlying ty = some d) (hd : (match d with | .struct _ | .array _ _ => true | _ => false) = true) (hi : (P.info? ty).map (·.size) = some cs.size) : (results fn tmps).run P w = .ok (.agg cs) w := by
  have hp' : tmps[p]?.getD undef = .pointer (some ⟨g, 0, none⟩) := by simpa using hp
  simp [results, h, hp', asAddr, run_loadVar_row w g t ty cs fr d hg hu hd hi]
theorem res_ct {P : Program} {fn : Func} {p q : Tmp} {ty : TypeId} (h : fn.results = #[.cell p ty, .tmp q]) (tmps : Array Value) (w : World) (g : Nat) (t : TypeId) (cs : Array Value) (fr : Nat × Nat) (d : TypeDesc) (v : Value)
    (hp : tmps.getD p undef = .pointer (some ⟨g, 0, none⟩)) (hq : tmps.getD q undef = v) (hg : w.heap[g]? = some (.cells cs t fr))
    (hu : P.underlying ty = some d) (hd : (match d with | .struct _ | .array _ _ => true | _ => false) = true) (hi : (P.info? ty).map (·.size) = some cs.size) : (results fn tmps).run P w = .ok (.tuple #[.agg cs, v]) w := by
  have hp' : tmps[p]?.getD undef = .pointer (some ⟨g, 0, none⟩) := by simpa using hp
  have hq' : tmps[q]?.getD undef = v := by simpa using hq
  simp [results, h, hp', hq', asAddr, run_loadVar_row w g t ty cs fr d hg hu hd hi]
section
variable {n : Nat} {e : List (Nat × Value)} {w : World}
theorem EW.retF {fn : Func} {R : Ending → World → Prop} {t : Nat} {ty' : TypeId} {g : Nat} {x : Fl} (hres : fn.results = #[.cell t 36]) (hv : e.lookup t = some (.pointer (some ⟨g, 0, none⟩))) (hg : Blk w g x.cs ty') (h : R (.returned x.g) w) : ∀ a, Env n a e → bodyPost Try.prog fn R .ret a w := fun a ha =>
  bodyPost_ret (v := x.g) (res_c hres a.tmps w g ty' _ (0, 0) _ (ha.kn t _ hv) hg Try.underlying36 rfl (i36 x)) ha.df h
theorem EW.retFT {fn : Func} {R : Ending → World → Prop} {t u : Nat} {ty' : TypeId} {g : Nat} {x : Fl} {v : Value} (hres : fn.results = #[.cell t 36, .tmp u]) (hv : e.lookup t = some (.pointer (some ⟨g, 0, none⟩))) (hv' : e.lookup u = some v) (hg : Blk w g x.cs ty') (h : R (.returned (.tuple #[x.g, v])) w) : ∀ a, Env n a e → bodyPost Try.prog fn R .ret a w := fun a ha =>
  bodyPost_ret (v := .tuple #[x.g, v]) (res_ct hres a.tmps w g ty' _ (0, 0) _ v (ha.kn t _ hv) (ha.kn u _ hv') hg Try.underlying36 rfl (i36 x)) ha.df h
end
theorem not_b (b : Bool) (W : World) : (Op.unary .not (.bool b)).run Try.prog W = .ok (.bool (!b)) W := by cases b <;> rfl
/-- Bytes that a block holds are one's own. -/
theorem Own.ofBlk {w : World} {q base : Nat} {bs : List UInt8} (hb : Blk w q (bs.map byt) 5) (hq : base ≤ q) (hl : bs.length ≤ maxLen) : Own w base (.slice (some ⟨q, 0, none⟩) bs.length bs.length) bs :=
  ⟨by simp, .inr ⟨q, bs.length, (bs.map byt).toArray, rfl, hq, hb, Nat.le_refl _, hl, by simp, by rw [List.toList_toArray, List.take_of_length_le (by simp)]⟩⟩
theorem Own.fx {S : Nat → Prop} {w w' : World} {base : Nat} {v : Value} {bs : List UInt8} (h : Own w base v bs) (hf : Fx S w w') (ho : ∀ k, v.ownBlock = some k → ¬ S k) : Own w' base v bs := by
  obtain ⟨hx, h1 | ⟨g, cp, cur, rfl, hg, hh2, hr⟩⟩ := h
  · exact ⟨hx, .inl h1⟩
  · refine ⟨hx, .inr ⟨g, cp, cur, rfl, hg, ?_, hr⟩⟩
    rw [hf.block g (by
      rcases Nat.lt_or_ge g w.heap.size with hl | hl
      · exact hl
      · rw [Array.getElem?_eq_none hl] at hh2; cases hh2) (ho g rfl)]
    exact hh2
theorem Own.lt {w : World} {base : Nat} {v : Value} {bs : List UInt8} (h : Own w base v bs) {k : Nat} (hk : v.ownBlock = some k) : k < w.heap.size := by
  obtain ⟨hx, ⟨rfl, _⟩ | ⟨g, cp, cur, rfl, hg, hh2, hr⟩⟩ := h
  · cases hk
  · simp only [Value.ownBlock, Option.some.injEq] at hk
    subst hk
    rcases Nat.lt_or_ge g w.heap.size with hl | hl
    · exact hl
    · rw [Array.getElem?_eq_none hl] at hh2; cases hh2
section
variable {P : Program} {n : Nat} {ops : Array Oper} {Q : Exit → Act → World → Prop} {i : Nat} {ty : TypeId} {ps : String} {af : Array Edge} {gd : Option (Nat × Bool)} {r : List Oper} {e : List (Nat × Value)} {w w' : World}
theorem WL.copy {t s : TypeId} {x y : Operand} {u u' v : Value} (hw : wantE ops e ⟨some i, .call { callee := .builtin .copy, args := #[x, y], argTypes := #[t, s] }, ty, ps, af, gd⟩ = some true) (hi : decide (i < n) = true) (hx : evE e x = some u) (hy : evE e y = some u') (hr : (Builtin.copy_ #[t, s] ty #[u, u']).run P w = .ok v w') (k : WL P n ops Q r ((i, v) :: e) w') : WL P n ops Q (⟨some i, .call { callee := .builtin .copy, args := #[x, y], argTypes := #[t, s] }, ty, ps, af, gd⟩ :: r) e w :=
  WL.op i v hw rfl hi (fun a ha => by simp [execOp, resolve, invoke, builtin, ha.ev hx, ha.ev hy, hr, Result.andThen]) k
end
/-- Bytes that fill a block of their own. -/
def Bx (w : World) (b0 : Nat) (v : Value) (bs : List UInt8) : Prop := ∃ k, b0 ≤ k ∧ v = .slice (some ⟨k, 0, none⟩) bs.length bs.length ∧ Blk w k (bs.map byt) 5
section
variable {w w' : World} {b0 : Nat} {v : Value} {bs : List UInt8}
theorem Bx.has (h : Bx w b0 v bs) : Has w v bs := by
  obtain ⟨k, _, rfl, hb⟩ := h
  exact Has.new hb _ (Nat.le_refl _)
theorem Bx.own (h : Bx w b0 v bs) (hl : bs.length ≤ maxLen) : Own w b0 v bs := by
  obtain ⟨k, hk, rfl, hb⟩ := h
  exact Own.ofBlk hb hk hl
theorem Bx.below (h : Bx w b0 v bs) (hb : Below w.heap.size w w') : Bx w' b0 v bs := by
  obtain ⟨k, hk, rfl, hl⟩ := h
  exact ⟨k, hk, rfl, hl.on hb⟩
theorem Bx.fx {S : Nat → Prop} (h : Bx w b0 v bs) (hf : Fx S w w') (ho : ∀ k, v.ownBlock = some k → ¬ S k) : Bx w' b0 v bs := by
  obtain ⟨k, hk, rfl, hl⟩ := h
  exact ⟨k, hk, rfl, hl.fx hf (ho k rfl)⟩
theorem Bx.weaken {b1 : Nat} (h : Bx w b0 v bs) (hb : b1 ≤ b0) : Bx w b1 v bs := by
  obtain ⟨k, hk, rfl, hl⟩ := h
  exact ⟨k, by omega, rfl, hl⟩
theorem Bx.ownBlock (h : Bx w b0 v bs) : ∀ k, v.ownBlock = some k → b0 ≤ k := by
  obtain ⟨g, hk, rfl, hl⟩ := h
  intro k e
  simp only [Value.ownBlock, Option.some.injEq] at e
  omega
theorem Bx.lt (h : Bx w b0 v bs) {k : Nat} (e : v.ownBlock = some k) : k < w.heap.size := by
  obtain ⟨g, hk, rfl, hl⟩ := h
  simp only [Value.ownBlock, Option.some.injEq] at e
  have := hl.lt
  omega
theorem Bx.blk (h : Bx w b0 v bs) : ∃ k, v.ownBlock = some k := by
  obtain ⟨g, hk, rfl, hl⟩ := h
  exact ⟨g, rfl⟩
end
set_option maxRecDepth 100000 in
set_option maxHeartbeats 4000000 in
theorem own_any (x : Fl) (w : World) (h : Has w x.v x.b) (hl : x.b.length ≤ 140737488355328) : Calls Try.prog 23 #[x.g] w fun e w' => ∃ v', e = .returned (Fl.g ⟨x.n, x.f, x.t, v', x.b⟩) ∧ Bx w' w.heap.size v' x.b ∧ Below w.heap.size w w' := by
  obtain ⟨w1, q1, r1, b1, l1, hq1, s1⟩ := box36 x w
  obtain ⟨w2, q2, r2, b2, l2, hq2, s2⟩ := new36 w1
  have r3 := run_mk22 w2 x.b.length hl
  generalize hw3 : w2.alloc (.cells ((List.replicate x.b.length (0 : UInt8)).map byt).toArray 5) = w3 at r3
  have l3 : Below w2.heap.size w2 w3 := by rw [← hw3]; exact below_new _ _
  have b3 : Blk w3 w2.heap.size ((List.replicate x.b.length (0 : UInt8)).map byt) 5 := by rw [← hw3]; exact Blk.new _ _ _
  have s3 : w3.heap.size = w2.heap.size + 1 := by rw [← hw3]; simp
  have hx3 : Has w3 x.v x.b := h.below (bt l1 (bt l2 l3))
  obtain ⟨c4, w4, r4, b4, f4⟩ := cpB (a := []) (b := []) (Z := List.replicate x.b.length 0) b3 (by rw [List.nil_append, List.append_nil]) rfl x.b.length hx3 3
  rw [List.length_replicate] at r4
  rw [padR_full (by rw [List.length_replicate]), List.nil_append, List.append_nil] at b4
  replace b1 := b1.on l2
  have b1c : Blk w4 q1 x.cs 36 := (b1.on l3).fx f4 (by omega)
  obtain ⟨w5, r5, b5, f5⟩ := stS b1c (j := 3) (by show 3 < 4; decide) (some ⟨w2.heap.size, 0, none⟩) x.b.length x.b.length
  replace b5 : Blk w5 q1 (Fl.cs ⟨x.n, x.f, x.t, .slice (some ⟨w2.heap.size, 0, none⟩) x.b.length x.b.length, x.b⟩) 36 := b5
  have b2c : Blk w5 q2 Fl.z.cs 36 := (((b2.on l3).fx f4 (by omega)).fx f5 (by omega))
  obtain ⟨w6, r6, b6, f6⟩ := st36 (y := ⟨x.n, x.f, x.t, .slice (some ⟨w2.heap.size, 0, none⟩) x.b.length x.b.length, x.b⟩) b2c ⟨_, _, _, rfl⟩
  have hO : Bx w6 w.heap.size (.slice (some ⟨w2.heap.size, 0, none⟩) x.b.length x.b.length) x.b := ⟨_, by omega, rfl, (b4.fx f5 (by omega)).fx f6 (by omega)⟩
  have hB : Below w.heap.size w w6 := by
    refine (bt l1 (bt l2 l3)).trans ((f4.below (fun k hk e => by omega) (by omega)).trans ((f5.below (fun k hk e => by omega) (by have := f4.size; omega)).trans (f6.below (fun k hk e => by omega) (by have := f4.size; have := f5.size; omega))))
  refine calls_of_args [x.g] Try.func23 rfl 15 Try.ntmps23 (by show 1 ≤ 15; decide) ?_
  refine EW.seq ?_
  refine EW.region ?_
  refine WL.box rfl rfl rfl r1 ?_
  refine WL.new rfl rfl r2 ?_
  refine WL.done ?_
  refine EW.on ?_
  refine EW.seq ?_
  refine EW.region ?_
  refine WL.field rfl rfl rfl (g36_3 q1 _) ?_
  refine WL.load rfl rfl rfl (ldS b1 rfl) ?_
  refine WL.len rfl rfl rfl (h.len _ _) ?_
  refine WL.mks rfl rfl rfl rfl r3 ?_
  first | refine WL.assign rfl rfl rfl ?_
  refine WL.done ?_
  refine EW.on ?_
  refine EW.seq ?_
  refine EW.region ?_
  first | refine WL.move rfl rfl rfl ?_
  refine WL.field rfl rfl rfl (g36_3 q1 _) ?_
  refine WL.load rfl rfl rfl (ldS (b1.on l3) rfl) ?_
  refine WL.copy rfl rfl rfl rfl r4 ?_
  refine WL.done ?_
  refine EW.on ?_
  refine EW.seq ?_
  refine EW.region ?_
  first | refine WL.move rfl rfl rfl ?_
  refine WL.field rfl rfl rfl (g36_3 q1 _) ?_
  refine WL.store rfl rfl rfl r5 ?_
  refine WL.done ?_
  refine EW.on ?_
  refine EW.seq ?_
  refine EW.region ?_
  refine WL.load rfl rfl rfl (ld36 b5) ?_
  refine WL.store rfl rfl rfl r6 ?_
  refine WL.done ?_
  refine EW.on ?_
  refine EW.ret ?_
  refine EW.retF Try.results23 rfl b6 ⟨_, rfl, hO, hB⟩
end Go.Proofs.Ytplfelfmkgjijaa
