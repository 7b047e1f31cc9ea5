import Derived.Test.YtiefgmgjlhjjhaaDoorDd
set_option linter.unusedVariables false
set_option linter.unusedSimpArgs false
namespace Go.Proofs.YtiefgmgjlhjjhaaDoor
open Go.RowKit

section
variable {P : Program} {n : Nat} {Q : Exit → Act → World → Prop} {lev : Nat → Nat} {e : List (Nat × Value)} {C : World → Prop} {l : List Oper} {S : Nat → World → Prop} {listed : Array Bool}
theorem AZ.three {M : Nat} (m k1 l1 k2 l2 k3 l3 : Nat) (hM : M = m + 1) (hB : (Region.ready .any l.toArray listed == [k1, k2, k3] && !full l.toArray.size listed && decide (k1 < l.length) && decide (k2 < l.length) && decide (k3 < l.length) && lev k1 == l1 && lev k2 == l2 && lev k3 == l3 && l1 != 99 && l2 != 99 && l3 != 99) = true)
    (h1 : wpZE P n l.toArray S (fun e' C' => AZ P n l Q S lev m (listed.setIfInBounds k1 true) e' C') [(l.getD k1 default, 1, l1)] e C)
    (h2 : wpZE P n l.toArray S (fun e' C' => AZ P n l Q S lev m (listed.setIfInBounds k2 true) e' C') [(l.getD k2 default, 1, l2)] e C)
    (h3 : wpZE P n l.toArray S (fun e' C' => AZ P n l Q S lev m (listed.setIfInBounds k3 true) e' C') [(l.getD k3 default, 1, l3)] e C) : AZ P n l Q S lev M listed e C := fun hcl hsz a ha => by
  simp only [Bool.and_eq_true, beq_iff_eq, Bool.not_eq_true', decide_eq_true_eq, bne_iff_ne] at hB
  obtain ⟨⟨⟨⟨⟨⟨⟨⟨⟨⟨hr, hf⟩, g1⟩, g2⟩, g3⟩, v1⟩, v2⟩, v3⟩, n1⟩, n2⟩, n3⟩ := hB
  have hk0 : ∀ k, k < l.length → l.toArray[k]? = some (l.getD k default) := fun k hk => by
    have e0 : l.getD k default = l[k] := by simp [List.getD_eq_getElem?_getD, hk]
    rw [e0]; simp [hk]
  rw [hM]
  unfold wpAnyZ
  rw [if_neg (by rw [hf]; simp)]
  refine ⟨by rw [hr]; simp, fun i hi => ?_⟩
  have hi' : i = k1 ∨ i = k2 ∨ i = k3 := by rw [hr] at hi; simpa using hi
  rcases hi' with rfl | rfl | rfl
  · exact turn_of_E (hk0 _ g1) hi v1 n1 hcl hsz ha h1
  · exact turn_of_E (hk0 _ g2) hi v2 n2 hcl hsz ha h2
  · exact turn_of_E (hk0 _ g3) hi v3 n3 hcl hsz ha h3
end
attribute [local irreducible] sm sumOf cnt chk partB ptB lgL
/-- A string's bytes behind bytes of the call's own. -/
theorem Own.appS {w : World} {base : Nat} {v : Value} {bs : List UInt8} (h : Own w base v bs) (l : List UInt8) (hb : bs.length + l.length ≤ 1000000) (hbase : base ≤ w.heap.size) (ty : TypeId) : ∃ v' w', (Builtin.append_ #[24, 9] ty #[v, sv l]).run Tryd.prog w = .ok v' w' ∧ Own w' base v' (bs ++ l) ∧ Below base w w' := by
  obtain ⟨i0, hi, hz0, hz1, hz2⟩ := info_parts Tryd.info5
  have hsz : (⟨l.toArray⟩ : ByteArray).size = l.length := by simp [ByteArray.size]
  obtain ⟨v', w', r1, r2, r3, _⟩ := Lib.run_append_own_string (P := Tryd.prog) (w := w) base 24 9 ty 5 i0 Tryd.underlying24 Tryd.underlying9 hi hz0 hz1 hz2 v _ _ h ⟨l.toArray⟩ (by rw [hsz]; unfold maxLen; omega) (by rw [hsz]; omega) hbase
  refine ⟨v', w', r1, ?_, (grown_fx r3).below (fun k hk e => by have := h.ownBlock k e; omega) hbase⟩
  unfold Own
  rw [List.length_append, List.map_append]
  rw [hsz] at r2
  have e : Lib.strCells ⟨l.toArray⟩ = l.map byt := by simp [Lib.strCells, byt]
  rw [e] at r2
  exact r2

/-- A part as the document takes it apart. -/
structure Rq where
  id : Nat
  n : Nat
  i : Nat
  s : List UInt8
  v : Value
def Rq.cs (p : Rq) : List Value := [u32v p.id, .int .i64 (p.n : Int), .int .i64 (p.i : Int), sv p.s, p.v]
def Rq.val (p : Rq) : Value := .agg p.cs.toArray
def Rq.z : Rq := ⟨0, 0, 0, [], .slice none 0 0⟩
theorem zv109 (w : World) : (zeroValue 109).run Tryd.prog w = .ok Rq.z.val w := (zero_of_info (show (Tryd.prog.info? 109).map (fun i => (i.zero, i.size)) = some (some Rq.z.val, 5) by kernel_rfl)).1 w
theorem bd109 (W : World) : (Instr.build 109 ([] : List (Nat × Value)).toArray).run Tryd.prog W = .ok Rq.z.val W := by kernel_rfl
theorem bd109s (id n i : Nat) (s : List UInt8) (v : Value) (hv : ∃ ao n c, v = Value.slice ao n c) (W : World) : (Instr.build 109 [(0, u32v id), (1, .int .i64 (n : Int)), (2, .int .i64 (i : Int)), (3, sv s), (4, v)].toArray).run Tryd.prog W = .ok (Rq.mk id n i s v).val W := by
  obtain ⟨ao, m, c, rfl⟩ := hv
  kernel_rfl
theorem i109 (p : Rq) : (Tryd.prog.info? 109).map (·.size) = some p.cs.length := by show _ = some 5; kernel_rfl
theorem ld109 {w : World} {q : Nat} {p : Rq} (hb : Blk w q p.cs 109) : (Instr.loadAt 109 (.pointer (some ⟨q, 0, none⟩))).run Tryd.prog w = .ok p.val w := hb.ldA (a := []) (b := []) Tryd.underlying109 rfl (i109 p) (by simp) rfl
theorem st109 {w : World} {q : Nat} {p p' : Rq} (hv : ∃ ao n c, p.v = Value.slice ao n c) (hb : Blk w q p'.cs 109) : ∃ w', (Instr.storeAt 109 (.pointer (some ⟨q, 0, none⟩)) p.val).run Tryd.prog w = .ok () w' ∧ Blk w' q p.cs 109 ∧ Fx (fun k => k = q) w w' := by
  obtain ⟨w', r1, r2, r3⟩ := hb.stA (ty := 109) (vs := p.cs) (o := 0) (a := []) (m := p'.cs) (b := []) (i109 p) (by obtain ⟨_, _, _, e⟩ := hv; simp [Rq.cs, u32v, sv, Value.oneCell', e]) (by simp) rfl rfl
  exact ⟨w', r1, by simpa using r2, r3⟩
theorem Rq.zv : ∃ ao n c, Rq.z.v = Value.slice ao n c := ⟨_, _, _, rfl⟩
theorem g109_0 (q : Nat) (W : World) : (Instr.fieldAt 109 (.pointer (some ⟨q, 0, none⟩)) 0).run Tryd.prog W = .ok (.pointer (some ⟨q, 0, none⟩)) W := by go_simp
theorem g109_1 (q : Nat) (W : World) : (Instr.fieldAt 109 (.pointer (some ⟨q, 0, none⟩)) 1).run Tryd.prog W = .ok (.pointer (some ⟨q, 1, none⟩)) W := by go_simp
theorem g109_2 (q : Nat) (W : World) : (Instr.fieldAt 109 (.pointer (some ⟨q, 0, none⟩)) 2).run Tryd.prog W = .ok (.pointer (some ⟨q, 2, none⟩)) W := by go_simp
theorem g109_3 (q : Nat) (W : World) : (Instr.fieldAt 109 (.pointer (some ⟨q, 0, none⟩)) 3).run Tryd.prog W = .ok (.pointer (some ⟨q, 3, none⟩)) W := by go_simp
theorem g109_4 (q : Nat) (W : World) : (Instr.fieldAt 109 (.pointer (some ⟨q, 0, none⟩)) 4).run Tryd.prog W = .ok (.pointer (some ⟨q, 4, none⟩)) W := by go_simp
theorem cvB3 (u : UInt8) (W : World) : (Go.convert 5 3 (byt u)).run Tryd.prog W = .ok (.int .i64 (u.toNat : Int)) W := by
  have := u.toNat_lt
  have e : IntKind.i64.wrap (u.toNat : Int) = (u.toNat : Int) := by rw [IntKind.wrap_i64]; omega
  unfold byt
  go_simp
theorem cvB22 (u : UInt8) (W : World) : (Go.convert 5 22 (byt u)).run Tryd.prog W = .ok (u32v u.toNat) W := conv57 u W
theorem neB5 (u : UInt8) (W : World) (x y : Operand) : (do eqGuard .neq 5 x y (byt u) (.int .u8 5); binOp .neq 5 (byt u) (.int .u8 5) : Sem Value).run Tryd.prog W = .ok (.bool (decide (¬ u.toNat = 5))) W := by
  unfold byt
  go_simp
  rw [Bool.eq_iff_iff]; simp <;> omega
theorem shl24 (x : Nat) (h : x < 256) (W : World) (a b : Operand) : (do eqGuard .shl 22 a b (u32v x) (.int .u64 24); binOp .shl 22 (u32v x) (.int .u64 24) : Sem Value).run Tryd.prog W = .ok (u32v (x * 16777216)) W := by
  have e : IntKind.u32.wrap ((x : Int) * 16777216) = ((x * 16777216 : Nat) : Int) := by rw [IntKind.wrap_u32]; omega
  unfold u32v
  go_simp
theorem shl16 (x : Nat) (h : x < 256) (W : World) (a b : Operand) : (do eqGuard .shl 22 a b (u32v x) (.int .u64 16); binOp .shl 22 (u32v x) (.int .u64 16) : Sem Value).run Tryd.prog W = .ok (u32v (x * 65536)) W := by
  have e : IntKind.u32.wrap ((x : Int) * 65536) = ((x * 65536 : Nat) : Int) := by rw [IntKind.wrap_u32]; omega
  unfold u32v
  go_simp
theorem shl8' (x : Nat) (h : x < 256) (W : World) (a b : Operand) : (do eqGuard .shl 22 a b (u32v x) (.int .u64 8); binOp .shl 22 (u32v x) (.int .u64 8) : Sem Value).run Tryd.prog W = .ok (u32v (x * 256)) W := by
  have e : IntKind.u32.wrap ((x : Int) * 256) = ((x * 256 : Nat) : Int) := by rw [IntKind.wrap_u32]; omega
  unfold u32v
  go_simp
theorem orU (i X y : Nat) (hy : y < 2 ^ i) (hX : X * 2 ^ i + y < 4294967296) (W : World) (a b : Operand) : (do eqGuard .or 22 a b (u32v (X * 2 ^ i)) (u32v y); binOp .or 22 (u32v (X * 2 ^ i)) (u32v y) : Sem Value).run Tryd.prog W = .ok (u32v (X * 2 ^ i + y)) W := by
  have e0 : X * 2 ^ i ||| y = X * 2 ^ i + y := by
    have := Nat.shiftLeft_add_eq_or_of_lt hy X
    rw [Nat.shiftLeft_eq] at this
    exact this.symm
  obtain ⟨A, hA⟩ : ∃ A, A = X * 2 ^ i := ⟨_, rfl⟩
  rw [← hA] at e0 hX ⊢
  have e : bits .or .u32 (A : Int) (y : Int) = ((A + y : Nat) : Int) := by
    have := u32_or_nat A y (by omega) (by omega)
    rw [e0] at this
    exact this
  clear hA hy e0
  unfold u32v
  go_simp
theorem bsl24_7 (a b c d e f g : UInt8) (w : World) : (Instr.buildSlice 24 7 [(0, byt a), (1, byt b), (2, byt c), (3, byt d), (4, byt e), (5, byt f), (6, byt g)].toArray).run Tryd.prog w = .ok (.slice (some ⟨w.heap.size, 0, none⟩) 7 7) (w.alloc (.cells ([a, b, c, d, e, f, g].map byt).toArray 5)) := by
  unfold byt
  go_simp
  try rfl
theorem Own.neB {w : World} {b0 : Nat} {v : Value} {bs : List UInt8} (h : Own w b0 v bs) {q : Nat} {cs : List Value} {t : TypeId} (hb : Blk w q cs t) (ht : t ≠ 5) : v.ownBlock ≠ some q := fun e => by
  obtain ⟨_, cur, hc⟩ := h.ob.lt e
  unfold Blk at hb
  rw [hb] at hc
  cases hc; exact ht rfl
theorem Ob.fxO {w w' : World} {b0 : Nat} {v : Value} {bs : List UInt8} {q : Nat} (h : Ob w b0 v bs) (hf : Fx (fun k => k = q) w w') (hn : v.ownBlock ≠ some q) : Own w' b0 v bs := by
  have := (h.fx hf (fun k hk e => by have e' : k = q := hk; rw [e'] at e; exact hn e))
  obtain ⟨hx, h1 | ⟨g, cp, cur, e, hg, hr⟩⟩ := this.row
  · exact ⟨hx, .inl h1⟩
  · exact ⟨hx, .inr ⟨g, cp, cur, e, h.base g (by rw [e]; rfl), hr⟩⟩
/-- The first bytes. -/
theorem first7 {c : List UInt8} (h : 15 ≤ c.length) : ∃ a b1 b2 b3 b4 n i, c[0]? = some a ∧ c[1]? = some b1 ∧ c[2]? = some b2 ∧ c[3]? = some b3 ∧ c[4]? = some b4 ∧ c[5]? = some n ∧ c[6]? = some i ∧ pM c = a.toNat ∧ pI c = ((b1.toNat * 256 + b2.toNat) * 256 + b3.toNat) * 256 + b4.toNat ∧ pN c = n.toNat ∧ pA c = i.toNat := by
  match c, h with
  | a :: b1 :: b2 :: b3 :: b4 :: n :: i :: r, _ =>
    refine ⟨a, b1, b2, b3, b4, n, i, rfl, rfl, rfl, rfl, rfl, rfl, rfl, ?_, ?_, ?_, ?_⟩ <;> simp [pM, pI, pN, pA, numB]
theorem Has.itemB {w : World} {v : Value} {bs : List UInt8} (h : Has w v bs) {i : Nat} {u : UInt8} (hi : bs[i]? = some u) : ∃ ad, (∀ W, (Instr.indexAt 24 v (.int .i64 (i : Int))).run Tryd.prog W = .ok (.pointer (some ad)) W) ∧ ∀ W, Below w.heap.size w W → (Instr.loadAt 5 (.pointer (some ad))).run Tryd.prog W = .ok (byt u) W := by
  have hil := (List.getElem?_eq_some_iff.1 hi).1
  rcases h with ⟨rfl, rfl⟩ | ⟨ad, cap, rfl, h2, h3⟩
  · simp at hi
  · refine ⟨ad.add i, fun W => idx24 _ _ _ _ hil W, fun W hW => ?_⟩
    have hc := (hW.cell (cell_lt (h3 i u hi))).trans (h3 i u hi)
    unfold byt at hc ⊢
    go_simp
set_option maxRecDepth 100000 in
set_option maxHeartbeats 16000000 in
theorem rread_any (v : Value) (c : List UInt8) (w : World) (hv : Has w v c) (hl : c.length ≤ 140737488355328) : Calls Tryd.prog 50 #[v] w fun e w' => (okP c = false ∧ e = .returned (.tuple #[Rq.z.val, .bool false]) ∧ Below w.heap.size w w') ∨ (okP c = true ∧ ∃ u, e = .returned (.tuple #[(Rq.mk (pI c) (pN c) (pA c) (pS c) u).val, .bool true]) ∧ Ob w' w.heap.size u (pC c) ∧ Below w.heap.size w w') := by
  obtain ⟨ao, cp, rfl⟩ := hv.slice
  have hcap := hv.cap
  refine calls_of_args [.slice ao c.length cp] Tryd.func50 rfl 99 Tryd.ntmps50 (by show 1 ≤ 99; decide) ?_
  refine EW.seq ?_
  refine EW.region ?_
  obtain ⟨w1, q2, rn2, b2, l1, hq2⟩ := newB (cs := Rq.z.cs) zv109 w
  refine WL.new rfl rfl rn2 ?_
  have hv1 := hv.below l1
  first | refine WL.assign rfl rfl rfl ?_
  refine WL.done ?_
  refine EW.on ?_
  refine EW.seq ?_
  refine EW.seq ?_
  rcases (show c.length < 15 ∨ (15 ≤ c.length ∧ 512 < c.length) ∨ (15 ≤ c.length ∧ c.length ≤ 512) by omega) with hA | ⟨hA, hB⟩ | ⟨hA, hB⟩
  · have xa : (c.length : Int) < 15 := by omega
    refine EW.region ?_
    first | refine WL.move rfl rfl rfl ?_
    first | refine WL.len rfl rfl rfl (len24 _ _ _ _ _) ?_ | refine WL.skip _ rfl rfl rfl ?_
    first | refine WL.bin rfl rfl rfl rfl (int_lt_t ‹_› _ _ _) ?_ | refine WL.bin rfl rfl rfl rfl (int_lt_f ‹_› _ _ _) ?_ | refine WL.bin rfl rfl rfl rfl (int_lt_d _ _ _ _ _) ?_
    first | refine WL.move rfl rfl rfl ?_
    first | refine WL.move rfl rfl rfl ?_ | refine WL.skip _ rfl rfl rfl ?_
    first | refine WL.len rfl rfl rfl (len24 _ _ _ _ _) ?_ | refine WL.skip _ rfl rfl rfl ?_
    first | refine WL.bin rfl rfl rfl rfl (int_gt_t ‹_› _ _ _) ?_ | refine WL.bin rfl rfl rfl rfl (int_gt_f ‹_› _ _ _) ?_ | refine WL.bin rfl rfl rfl rfl (int_gt_d _ _ _ _ _) ?_ | refine WL.skip _ rfl rfl rfl ?_
    first | refine WL.pick rfl rfl rfl rfl ?_
    first | refine WL.move rfl rfl rfl ?_
    first | refine WL.move rfl rfl rfl ?_ | refine WL.skip _ rfl rfl rfl ?_
    first | refine WL.index rfl rfl rfl rfl (xa0 _) ?_ | refine WL.skip _ rfl rfl rfl ?_
    first | refine WL.load rfl rfl rfl xb0 ?_ | refine WL.skip _ rfl rfl rfl ?_
    first | refine WL.bin rfl rfl rfl rfl (neB5 _ _ _ _) ?_ | refine WL.skip _ rfl rfl rfl ?_
    first | refine WL.pick rfl rfl rfl rfl ?_
    refine WL.done ?_
    refine EW.on ?_
    refine EW.cond_t rfl ?_
    refine EW.seq ?_
    refine EW.region ?_
    refine WL.build0 rfl rfl (bd109 _) ?_
    obtain ⟨w9, s9, b9, f9⟩ := st109 Rq.zv b2
    refine WL.store rfl rfl rfl s9 ?_
    first | refine WL.assign rfl rfl rfl ?_
    refine WL.done ?_
    refine EW.on ?_
    refine EW.ret ?_
    refine pr_then ?_
    exact EW.returnsCT Tryd.results50 rfl rfl b9 Tryd.underlying109 rfl (i109 _) (.inl ⟨by unfold okP; rw [decide_eq_false (by omega)]; rfl, rfl, l1.trans (f9.below (fun k hk e => by have e' : k = q2 := e; omega) l1.size)⟩)
  · have xa : ¬ (c.length : Int) < 15 := by omega
    have xb : (512 : Int) < (c.length : Int) := by omega
    refine EW.region ?_
    first | refine WL.move rfl rfl rfl ?_
    first | refine WL.len rfl rfl rfl (len24 _ _ _ _ _) ?_ | refine WL.skip _ rfl rfl rfl ?_
    first | refine WL.bin rfl rfl rfl rfl (int_lt_t ‹_› _ _ _) ?_ | refine WL.bin rfl rfl rfl rfl (int_lt_f ‹_› _ _ _) ?_ | refine WL.bin rfl rfl rfl rfl (int_lt_d _ _ _ _ _) ?_
    first | refine WL.move rfl rfl rfl ?_
    first | refine WL.move rfl rfl rfl ?_ | refine WL.skip _ rfl rfl rfl ?_
    first | refine WL.len rfl rfl rfl (len24 _ _ _ _ _) ?_ | refine WL.skip _ rfl rfl rfl ?_
    first | refine WL.bin rfl rfl rfl rfl (int_gt_t ‹_› _ _ _) ?_ | refine WL.bin rfl rfl rfl rfl (int_gt_f ‹_› _ _ _) ?_ | refine WL.bin rfl rfl rfl rfl (int_gt_d _ _ _ _ _) ?_ | refine WL.skip _ rfl rfl rfl ?_
    first | refine WL.pick rfl rfl rfl rfl ?_
    first | refine WL.move rfl rfl rfl ?_
    first | refine WL.move rfl rfl rfl ?_ | refine WL.skip _ rfl rfl rfl ?_
    first | refine WL.index rfl rfl rfl rfl (xa0 _) ?_ | refine WL.skip _ rfl rfl rfl ?_
    first | refine WL.load rfl rfl rfl xb0 ?_ | refine WL.skip _ rfl rfl rfl ?_
    first | refine WL.bin rfl rfl rfl rfl (neB5 _ _ _ _) ?_ | refine WL.skip _ rfl rfl rfl ?_
    first | refine WL.pick rfl rfl rfl rfl ?_
    refine WL.done ?_
    refine EW.on ?_
    refine EW.cond_t rfl ?_
    refine EW.seq ?_
    refine EW.region ?_
    refine WL.build0 rfl rfl (bd109 _) ?_
    obtain ⟨w9, s9, b9, f9⟩ := st109 Rq.zv b2
    refine WL.store rfl rfl rfl s9 ?_
    first | refine WL.assign rfl rfl rfl ?_
    refine WL.done ?_
    refine EW.on ?_
    refine EW.ret ?_
    refine pr_then ?_
    exact EW.returnsCT Tryd.results50 rfl rfl b9 Tryd.underlying109 rfl (i109 _) (.inl ⟨by unfold okP; rw [decide_eq_false (by omega)]; rfl, rfl, l1.trans (f9.below (fun k hk e => by have e' : k = q2 := e; omega) l1.size)⟩)
  · have xa : ¬ (c.length : Int) < 15 := by omega
    have xb : ¬ (512 : Int) < (c.length : Int) := by omega
    obtain ⟨m0, b1, b2', b3, b4, n5, n6, c0, c1, c2, c3, c4, c5, c6, eM, eI, eN, eA⟩ := first7 hA
    obtain ⟨ad0, xa0, xb0⟩ := hv1.itemB c0
    obtain ⟨ad1, xa1, xb1⟩ := hv1.itemB c1
    obtain ⟨ad2, xa2, xb2⟩ := hv1.itemB c2
    obtain ⟨ad3, xa3, xb3⟩ := hv1.itemB c3
    obtain ⟨ad4, xa4, xb4⟩ := hv1.itemB c4
    obtain ⟨ad5, xa5, xb5⟩ := hv1.itemB c5
    obtain ⟨ad6, xa6, xb6⟩ := hv1.itemB c6
    have xb0 := xb0 _ (Below.refl _ _)
    refine EW.region ?_
    first | refine WL.move rfl rfl rfl ?_
    first | refine WL.len rfl rfl rfl (len24 _ _ _ _ _) ?_ | refine WL.skip _ rfl rfl rfl ?_
    first | refine WL.bin rfl rfl rfl rfl (int_lt_t ‹_› _ _ _) ?_ | refine WL.bin rfl rfl rfl rfl (int_lt_f ‹_› _ _ _) ?_ | refine WL.bin rfl rfl rfl rfl (int_lt_d _ _ _ _ _) ?_
    first | refine WL.move rfl rfl rfl ?_
    first | refine WL.move rfl rfl rfl ?_ | refine WL.skip _ rfl rfl rfl ?_
    first | refine WL.len rfl rfl rfl (len24 _ _ _ _ _) ?_ | refine WL.skip _ rfl rfl rfl ?_
    first | refine WL.bin rfl rfl rfl rfl (int_gt_t ‹_› _ _ _) ?_ | refine WL.bin rfl rfl rfl rfl (int_gt_f ‹_› _ _ _) ?_ | refine WL.bin rfl rfl rfl rfl (int_gt_d _ _ _ _ _) ?_ | refine WL.skip _ rfl rfl rfl ?_
    first | refine WL.pick rfl rfl rfl rfl ?_
    first | refine WL.move rfl rfl rfl ?_
    first | refine WL.move rfl rfl rfl ?_ | refine WL.skip _ rfl rfl rfl ?_
    first | refine WL.index rfl rfl rfl rfl (xa0 _) ?_ | refine WL.skip _ rfl rfl rfl ?_
    first | refine WL.load rfl rfl rfl xb0 ?_ | refine WL.skip _ rfl rfl rfl ?_
    first | refine WL.bin rfl rfl rfl rfl (neB5 _ _ _ _) ?_ | refine WL.skip _ rfl rfl rfl ?_
    first | refine WL.pick rfl rfl rfl rfl ?_
    refine WL.done ?_
    refine EW.on ?_
    refine EW.cond_d rfl (fun h18 => ?_) (fun h18 => ?_)
    · skip
      refine EW.seq ?_
      refine EW.region ?_
      refine WL.build0 rfl rfl (bd109 _) ?_
      obtain ⟨w9, s9, b9, f9⟩ := st109 Rq.zv b2
      refine WL.store rfl rfl rfl s9 ?_
      first | refine WL.assign rfl rfl rfl ?_
      refine WL.done ?_
      refine EW.on ?_
      refine EW.ret ?_
      refine pr_then ?_
      exact EW.returnsCT Tryd.results50 rfl rfl b9 Tryd.underlying109 rfl (i109 _) (.inl ⟨by unfold okP; rw [decide_eq_false (by rw [eM]; omega)]; rfl, rfl, l1.trans (f9.below (fun k hk e => by have e' : k = q2 := e; omega) l1.size)⟩)
    · have hM5 : m0.toNat = 5 := Decidable.of_not_not h18
      refine EW.skip ?_
      refine EW.on ?_
      refine EW.seq ?_
      refine EW.az (SQ (fun W => Below w1.heap.size w1 W)) (levZ [(2, 0, 1), (7, 0, 1), (13, 0, 1), (19, 0, 1), (24, 0, 1), (28, 0, 1), (32, 0, 1), (33, 1, 1), (38, 1, 1), (36, 1, 1), (39, 1, 1)]) (fun W => Below w1.heap.size w1 W) 40 (by kernel_rfl) rfl (below_drawn w1) ?_
      refine AZ.seg [(0, 0, 0), (1, 0, 0), (2, 0, 1), (3, 0, 0), (4, 0, 0), (5, 0, 0), (6, 0, 0), (7, 0, 1), (8, 0, 0), (9, 0, 0), (10, 0, 0), (11, 0, 0), (12, 0, 0), (13, 0, 1), (14, 0, 0), (15, 0, 0), (16, 0, 0), (17, 0, 0), (18, 0, 0), (19, 0, 1), (20, 0, 0), (21, 0, 0), (22, 0, 0), (23, 0, 0), (24, 0, 1), (25, 0, 0), (26, 0, 0), (27, 0, 0), (28, 0, 1), (29, 0, 0), (30, 0, 0), (31, 0, 0), (32, 0, 1), (34, 0, 0), (35, 0, 0)] 5 rfl (by kernel_rfl) (sq_anti _) (by kernel_rfl) ?_
      simp only [opsZ, List.getD_cons_zero, List.getD_cons_succ]
      first | refine ZE.move rfl rfl rfl rfl sq0 ?_
      refine ZE.index rfl rfl rfl rfl rfl sq0 (fun W => xa1 W) ?_
      refine ZE.load rfl rfl rfl rfl sq1 (fun W hW => xb1 W (sq_of hW)) ?_
      refine ZE.conv rfl rfl rfl rfl sq0 (fun W _ => cvB22 _ W) ?_
      refine ZE.bin rfl rfl rfl rfl rfl sq0 (fun W => shl24 _ b1.toNat_lt W _ _) ?_
      first | refine ZE.move rfl rfl rfl rfl sq0 ?_
      refine ZE.index rfl rfl rfl rfl rfl sq0 (fun W => xa2 W) ?_
      refine ZE.load rfl rfl rfl rfl sq1 (fun W hW => xb2 W (sq_of hW)) ?_
      refine ZE.conv rfl rfl rfl rfl sq0 (fun W _ => cvB22 _ W) ?_
      refine ZE.bin rfl rfl rfl rfl rfl sq0 (fun W => shl16 _ b2'.toNat_lt W _ _) ?_
      refine ZE.bin rfl rfl rfl rfl rfl sq0 (fun W => orU 24 b1.toNat (b2'.toNat * 65536) (by have := b2'.toNat_lt; omega) (by have := b2'.toNat_lt; have := b1.toNat_lt; omega) W _ _) ?_
      rw [show b1.toNat * 2 ^ 24 + b2'.toNat * 65536 = (b1.toNat * 256 + b2'.toNat) * 2 ^ 16 by omega]
      first | refine ZE.move rfl rfl rfl rfl sq0 ?_
      refine ZE.index rfl rfl rfl rfl rfl sq0 (fun W => xa3 W) ?_
      refine ZE.load rfl rfl rfl rfl sq1 (fun W hW => xb3 W (sq_of hW)) ?_
      refine ZE.conv rfl rfl rfl rfl sq0 (fun W _ => cvB22 _ W) ?_
      refine ZE.bin rfl rfl rfl rfl rfl sq0 (fun W => shl8' _ b3.toNat_lt W _ _) ?_
      refine ZE.bin rfl rfl rfl rfl rfl sq0 (fun W => orU 16 (b1.toNat * 256 + b2'.toNat) (b3.toNat * 256) (by have := b3.toNat_lt; omega) (by have := b2'.toNat_lt; have := b1.toNat_lt; have := b3.toNat_lt; omega) W _ _) ?_
      rw [show (b1.toNat * 256 + b2'.toNat) * 2 ^ 16 + b3.toNat * 256 = ((b1.toNat * 256 + b2'.toNat) * 256 + b3.toNat) * 2 ^ 8 by omega]
      first | refine ZE.move rfl rfl rfl rfl sq0 ?_
      refine ZE.index rfl rfl rfl rfl rfl sq0 (fun W => xa4 W) ?_
      refine ZE.load rfl rfl rfl rfl sq1 (fun W hW => xb4 W (sq_of hW)) ?_
      refine ZE.conv rfl rfl rfl rfl sq0 (fun W _ => cvB22 _ W) ?_
      refine ZE.bin rfl rfl rfl rfl rfl sq0 (fun W => orU 8 ((b1.toNat * 256 + b2'.toNat) * 256 + b3.toNat) b4.toNat (by have := b4.toNat_lt; omega) (by have := b2'.toNat_lt; have := b1.toNat_lt; have := b3.toNat_lt; have := b4.toNat_lt; omega) W _ _) ?_
      rw [show ((b1.toNat * 256 + b2'.toNat) * 256 + b3.toNat) * 2 ^ 8 + b4.toNat = pI c by rw [eI]]
      first | refine ZE.move rfl rfl rfl rfl sq0 ?_
      refine ZE.index rfl rfl rfl rfl rfl sq0 (fun W => xa5 W) ?_
      refine ZE.load rfl rfl rfl rfl sq1 (fun W hW => xb5 W (sq_of hW)) ?_
      refine ZE.conv rfl rfl rfl rfl sq0 (fun W _ => cvB3 _ W) ?_
      first | refine ZE.move rfl rfl rfl rfl sq0 ?_
      refine ZE.index rfl rfl rfl rfl rfl sq0 (fun W => xa6 W) ?_
      refine ZE.load rfl rfl rfl rfl sq1 (fun W hW => xb6 W (sq_of hW)) ?_
      refine ZE.conv rfl rfl rfl rfl sq0 (fun W _ => cvB3 _ W) ?_
      first | refine ZE.move rfl rfl rfl rfl sq0 ?_
      refine ZE.slice2 rfl rfl rfl rfl rfl rfl sq0 (fun W => cut24 ao c.length cp 7 15 (by decide) (by omega) hcap W) ?_
      refine ZE.conv rfl rfl rfl rfl sq1 (fun W hW => show _ = Result.ok (sv (pS c)) W from ((hv1.below (sq_of hW)).cut 7 15 (by decide) (by omega)).convert) ?_
      first | refine ZE.move rfl rfl rfl rfl sq0 ?_
      refine ZE.sliceL rfl rfl rfl rfl rfl sq0 (fun W => c24L ao c.length cp 15 (by omega) hcap W) ?_
      refine AZ.two 4 33 1 38 1 rfl (by kernel_rfl) ?_ ?_
      · simp only [List.getD_cons_zero, List.getD_cons_succ]
        refine ZE.bsl [] (fun v W => Own W w1.heap.size v [] ∧ Below w1.heap.size w1 W) rfl rfl rfl (fun _ _ h => .inr h.2) (fun W hW => ?_) ?_
        · have l := hW
          have l0 := below_new W (.cells #[] 5)
          exact ⟨_, _, bsl22n W, (own0 W).lowerB l.size, bt l l0⟩
        rintro V0 _
        refine AZ.two 3 36 1 38 1 rfl (by kernel_rfl) ?_ ?_
        · simp only [List.getD_cons_zero, List.getD_cons_succ]
          refine ZE.app (fun v W => Own W w1.heap.size v (pC c) ∧ Below w1.heap.size w1 W) rfl rfl rfl rfl (fun _ _ h => .inr h.2) (fun W hW => ?_) ?_
          · obtain ⟨ow, l⟩ := hW
            have hh := (hv1.below l).cut 15 c.length (by omega) (Nat.le_refl _)
            obtain ⟨v', w', p1, p2, p3, p4⟩ := ow.app hh (by simp; omega) l.size 24
            rw [List.nil_append] at p2
            exact ⟨v', w', p1, p2, l.trans p3⟩
          rintro u ⟨Wu, ou, _⟩
          have husl : ∃ ao n c, u = Value.slice ao n c := ou.has.sl
          refine AZ.seg [(37, 0, 0), (38, 1, 1), (39, 1, 1)] 0 rfl (by kernel_rfl) (sq_anti _) (by kernel_rfl) ?_
          simp only [opsZ, List.getD_cons_zero, List.getD_cons_succ]
          refine ZE.buildN [(0, u32v (pI c)), (1, .int .i64 (n5.toNat : Int)), (2, .int .i64 (n6.toNat : Int)), (3, sv (pS c)), (4, u)] rfl rfl rfl rfl sq0 (fun W => bd109s (pI c) n5.toNat n6.toNat (pS c) u husl W) ?_
          refine ZE.newR (fun v W => ∃ q8, v = .pointer (some ⟨q8, 0, none⟩) ∧ Blk W q8 Rq.z.cs 109 ∧ w1.heap.size ≤ q8 ∧ Own W w1.heap.size u (pC c) ∧ Below w1.heap.size w1 W) rfl rfl (fun _ _ h => .inr (by obtain ⟨_, _, _, _, _, h⟩ := h; exact h)) (fun W hW => ?_) ?_
          · obtain ⟨ow, l⟩ := hW
            obtain ⟨W2, q, r, b, l2, hq⟩ := newB (cs := Rq.z.cs) zv109 W
            exact ⟨_, W2, r, q, rfl, b, by have := l.size; omega, ow.below l2, bt l l2⟩
          rintro _ ⟨_, q4, rfl, _, hq4, _⟩
          refine ZE.store (fun W => Blk W q4 (Rq.mk (pI c) n5.toNat n6.toNat (pS c) u).cs 109 ∧ Own W w1.heap.size u (pC c) ∧ Below w1.heap.size w1 W) rfl rfl rfl (fun _ h => .inr h.2.2) (fun W hW => ?_) ?_
          · obtain ⟨q, e, b, _, ow, l⟩ := hW
            cases e
            obtain ⟨W2, s1, s2, s3⟩ := st109 (p := Rq.mk (pI c) n5.toNat n6.toNat (pS c) u) husl b
            exact ⟨W2, s1, s2, ow.ob.fxO s3 (fun e => ow.neB b (by decide) e), l.trans (s3.below (fun k hk e => by have e' : k = q4 := e; omega) l.size)⟩
          refine AZ.done (by kernel_rfl) ?_
          rintro w3 ⟨D4, OU, L3⟩
          have D2 := b2.on L3
          have LL := bt l1 L3
          obtain ⟨uo, ucp, hue⟩ := OU.has.slice
          have hul : (pC c).length = c.length - 15 := by unfold pC; simp
          refine EW.on ?_
          refine EW.seq ?_
          refine EW.seq ?_
          rcases (show n5.toNat < 1 ∨ (1 ≤ n5.toNat ∧ 64 < n5.toNat) ∨ (1 ≤ n5.toNat ∧ n5.toNat ≤ 64 ∧ n5.toNat ≤ n6.toNat) ∨ (1 ≤ n5.toNat ∧ n5.toNat ≤ 64 ∧ n6.toNat < n5.toNat) by omega) with hC | ⟨hC, hD⟩ | ⟨hC, hD, hE⟩ | ⟨hC, hD, hE⟩
          · have ya : (n5.toNat : Int) < 1 := by omega
            refine EW.region ?_
            first | refine WL.field rfl rfl rfl (g109_1 _ _) ?_ | refine WL.skip _ rfl rfl rfl ?_
            first | refine WL.load rfl rfl rfl (ldI D4 (show (Rq.mk (pI c) n5.toNat n6.toNat (pS c) u).cs[1]? = _ from rfl)) ?_ | refine WL.load rfl rfl rfl (ldI D4 (show (Rq.mk (pI c) n5.toNat n6.toNat (pS c) u).cs[2]? = _ from rfl)) ?_ | refine WL.skip _ rfl rfl rfl ?_
            first | refine WL.bin rfl rfl rfl rfl (int_lt_t ‹_› _ _ _) ?_ | refine WL.bin rfl rfl rfl rfl (int_lt_f ‹_› _ _ _) ?_ | refine WL.bin rfl rfl rfl rfl (int_lt_d _ _ _ _ _) ?_
            first | refine WL.move rfl rfl rfl ?_
            first | refine WL.field rfl rfl rfl (g109_1 _ _) ?_ | refine WL.skip _ rfl rfl rfl ?_
            first | refine WL.load rfl rfl rfl (ldI D4 (show (Rq.mk (pI c) n5.toNat n6.toNat (pS c) u).cs[1]? = _ from rfl)) ?_ | refine WL.load rfl rfl rfl (ldI D4 (show (Rq.mk (pI c) n5.toNat n6.toNat (pS c) u).cs[2]? = _ from rfl)) ?_ | refine WL.skip _ rfl rfl rfl ?_
            first | refine WL.bin rfl rfl rfl rfl (int_gt_t ‹_› _ _ _) ?_ | refine WL.bin rfl rfl rfl rfl (int_gt_f ‹_› _ _ _) ?_ | refine WL.bin rfl rfl rfl rfl (int_gt_d _ _ _ _ _) ?_ | refine WL.skip _ rfl rfl rfl ?_
            first | refine WL.pick rfl rfl rfl rfl ?_
            first | refine WL.move rfl rfl rfl ?_
            first | refine WL.field rfl rfl rfl (g109_2 _ _) ?_ | refine WL.skip _ rfl rfl rfl ?_
            first | refine WL.load rfl rfl rfl (ldI D4 (show (Rq.mk (pI c) n5.toNat n6.toNat (pS c) u).cs[1]? = _ from rfl)) ?_ | refine WL.load rfl rfl rfl (ldI D4 (show (Rq.mk (pI c) n5.toNat n6.toNat (pS c) u).cs[2]? = _ from rfl)) ?_ | refine WL.skip _ rfl rfl rfl ?_
            first | refine WL.field rfl rfl rfl (g109_1 _ _) ?_ | refine WL.skip _ rfl rfl rfl ?_
            first | refine WL.load rfl rfl rfl (ldI D4 (show (Rq.mk (pI c) n5.toNat n6.toNat (pS c) u).cs[1]? = _ from rfl)) ?_ | refine WL.load rfl rfl rfl (ldI D4 (show (Rq.mk (pI c) n5.toNat n6.toNat (pS c) u).cs[2]? = _ from rfl)) ?_ | refine WL.skip _ rfl rfl rfl ?_
            first | refine WL.bin rfl rfl rfl rfl (int_ge_t ‹_› _ _ _) ?_ | refine WL.bin rfl rfl rfl rfl (int_ge_f ‹_› _ _ _) ?_ | refine WL.bin rfl rfl rfl rfl (int_ge_d _ _ _ _ _) ?_ | refine WL.skip _ rfl rfl rfl ?_
            first | refine WL.pick rfl rfl rfl rfl ?_
            refine WL.done ?_
            refine EW.on ?_
            refine EW.cond_t rfl ?_
            refine EW.seq ?_
            refine EW.region ?_
            refine WL.build0 rfl rfl (bd109 _) ?_
            obtain ⟨w9, s9, b9, f9⟩ := st109 Rq.zv D2
            refine WL.store rfl rfl rfl s9 ?_
            first | refine WL.assign rfl rfl rfl ?_
            refine WL.done ?_
            refine EW.on ?_
            refine EW.ret ?_
            refine pr_then ?_
            exact EW.returnsCT Tryd.results50 rfl rfl b9 Tryd.underlying109 rfl (i109 _) (.inl ⟨by unfold okP; rw [decide_eq_false (by rw [eN, eA]; omega)]; rfl, rfl, LL.trans (f9.below (fun k hk e => by have e' : k = q2 := e; omega) LL.size)⟩)
          · have ya : ¬ (n5.toNat : Int) < 1 := by omega
            have yb : (64 : Int) < (n5.toNat : Int) := by omega
            refine EW.region ?_
            first | refine WL.field rfl rfl rfl (g109_1 _ _) ?_ | refine WL.skip _ rfl rfl rfl ?_
            first | refine WL.load rfl rfl rfl (ldI D4 (show (Rq.mk (pI c) n5.toNat n6.toNat (pS c) u).cs[1]? = _ from rfl)) ?_ | refine WL.load rfl rfl rfl (ldI D4 (show (Rq.mk (pI c) n5.toNat n6.toNat (pS c) u).cs[2]? = _ from rfl)) ?_ | refine WL.skip _ rfl rfl rfl ?_
            first | refine WL.bin rfl rfl rfl rfl (int_lt_t ‹_› _ _ _) ?_ | refine WL.bin rfl rfl rfl rfl (int_lt_f ‹_› _ _ _) ?_ | refine WL.bin rfl rfl rfl rfl (int_lt_d _ _ _ _ _) ?_
            first | refine WL.move rfl rfl rfl ?_
            first | refine WL.field rfl rfl rfl (g109_1 _ _) ?_ | refine WL.skip _ rfl rfl rfl ?_
            first | refine WL.load rfl rfl rfl (ldI D4 (show (Rq.mk (pI c) n5.toNat n6.toNat (pS c) u).cs[1]? = _ from rfl)) ?_ | refine WL.load rfl rfl rfl (ldI D4 (show (Rq.mk (pI c) n5.toNat n6.toNat (pS c) u).cs[2]? = _ from rfl)) ?_ | refine WL.skip _ rfl rfl rfl ?_
            first | refine WL.bin rfl rfl rfl rfl (int_gt_t ‹_› _ _ _) ?_ | refine WL.bin rfl rfl rfl rfl (int_gt_f ‹_› _ _ _) ?_ | refine WL.bin rfl rfl rfl rfl (int_gt_d _ _ _ _ _) ?_ | refine WL.skip _ rfl rfl rfl ?_
            first | refine WL.pick rfl rfl rfl rfl ?_
            first | refine WL.move rfl rfl rfl ?_
            first | refine WL.field rfl rfl rfl (g109_2 _ _) ?_ | refine WL.skip _ rfl rfl rfl ?_
            first | refine WL.load rfl rfl rfl (ldI D4 (show (Rq.mk (pI c) n5.toNat n6.toNat (pS c) u).cs[1]? = _ from rfl)) ?_ | refine WL.load rfl rfl rfl (ldI D4 (show (Rq.mk (pI c) n5.toNat n6.toNat (pS c) u).cs[2]? = _ from rfl)) ?_ | refine WL.skip _ rfl rfl rfl ?_
            first | refine WL.field rfl rfl rfl (g109_1 _ _) ?_ | refine WL.skip _ rfl rfl rfl ?_
            first | refine WL.load rfl rfl rfl (ldI D4 (show (Rq.mk (pI c) n5.toNat n6.toNat (pS c) u).cs[1]? = _ from rfl)) ?_ | refine WL.load rfl rfl rfl (ldI D4 (show (Rq.mk (pI c) n5.toNat n6.toNat (pS c) u).cs[2]? = _ from rfl)) ?_ | refine WL.skip _ rfl rfl rfl ?_
            first | refine WL.bin rfl rfl rfl rfl (int_ge_t ‹_› _ _ _) ?_ | refine WL.bin rfl rfl rfl rfl (int_ge_f ‹_› _ _ _) ?_ | refine WL.bin rfl rfl rfl rfl (int_ge_d _ _ _ _ _) ?_ | refine WL.skip _ rfl rfl rfl ?_
            first | refine WL.pick rfl rfl rfl rfl ?_
            refine WL.done ?_
            refine EW.on ?_
            refine EW.cond_t rfl ?_
            refine EW.seq ?_
            refine EW.region ?_
            refine WL.build0 rfl rfl (bd109 _) ?_
            obtain ⟨w9, s9, b9, f9⟩ := st109 Rq.zv D2
            refine WL.store rfl rfl rfl s9 ?_
            first | refine WL.assign rfl rfl rfl ?_
            refine WL.done ?_
            refine EW.on ?_
            refine EW.ret ?_
            refine pr_then ?_
            exact EW.returnsCT Tryd.results50 rfl rfl b9 Tryd.underlying109 rfl (i109 _) (.inl ⟨by unfold okP; rw [decide_eq_false (by rw [eN, eA]; omega)]; rfl, rfl, LL.trans (f9.below (fun k hk e => by have e' : k = q2 := e; omega) LL.size)⟩)
          · have ya : ¬ (n5.toNat : Int) < 1 := by omega
            have yb : ¬ (64 : Int) < (n5.toNat : Int) := by omega
            have yc : (n5.toNat : Int) ≤ (n6.toNat : Int) := by omega
            refine EW.region ?_
            first | refine WL.field rfl rfl rfl (g109_1 _ _) ?_ | refine WL.skip _ rfl rfl rfl ?_
            first | refine WL.load rfl rfl rfl (ldI D4 (show (Rq.mk (pI c) n5.toNat n6.toNat (pS c) u).cs[1]? = _ from rfl)) ?_ | refine WL.load rfl rfl rfl (ldI D4 (show (Rq.mk (pI c) n5.toNat n6.toNat (pS c) u).cs[2]? = _ from rfl)) ?_ | refine WL.skip _ rfl rfl rfl ?_
            first | refine WL.bin rfl rfl rfl rfl (int_lt_t ‹_› _ _ _) ?_ | refine WL.bin rfl rfl rfl rfl (int_lt_f ‹_› _ _ _) ?_ | refine WL.bin rfl rfl rfl rfl (int_lt_d _ _ _ _ _) ?_
            first | refine WL.move rfl rfl rfl ?_
            first | refine WL.field rfl rfl rfl (g109_1 _ _) ?_ | refine WL.skip _ rfl rfl rfl ?_
            first | refine WL.load rfl rfl rfl (ldI D4 (show (Rq.mk (pI c) n5.toNat n6.toNat (pS c) u).cs[1]? = _ from rfl)) ?_ | refine WL.load rfl rfl rfl (ldI D4 (show (Rq.mk (pI c) n5.toNat n6.toNat (pS c) u).cs[2]? = _ from rfl)) ?_ | refine WL.skip _ rfl rfl rfl ?_
            first | refine WL.bin rfl rfl rfl rfl (int_gt_t ‹_› _ _ _) ?_ | refine WL.bin rfl rfl rfl rfl (int_gt_f ‹_› _ _ _) ?_ | refine WL.bin rfl rfl rfl rfl (int_gt_d _ _ _ _ _) ?_ | refine WL.skip _ rfl rfl rfl ?_
            first | refine WL.pick rfl rfl rfl rfl ?_
            first | refine WL.move rfl rfl rfl ?_
            first | refine WL.field rfl rfl rfl (g109_2 _ _) ?_ | refine WL.skip _ rfl rfl rfl ?_
            first | refine WL.load rfl rfl rfl (ldI D4 (show (Rq.mk (pI c) n5.toNat n6.toNat (pS c) u).cs[1]? = _ from rfl)) ?_ | refine WL.load rfl rfl rfl (ldI D4 (show (Rq.mk (pI c) n5.toNat n6.toNat (pS c) u).cs[2]? = _ from rfl)) ?_ | refine WL.skip _ rfl rfl rfl ?_
            first | refine WL.field rfl rfl rfl (g109_1 _ _) ?_ | refine WL.skip _ rfl rfl rfl ?_
            first | refine WL.load rfl rfl rfl (ldI D4 (show (Rq.mk (pI c) n5.toNat n6.toNat (pS c) u).cs[1]? = _ from rfl)) ?_ | refine WL.load rfl rfl rfl (ldI D4 (show (Rq.mk (pI c) n5.toNat n6.toNat (pS c) u).cs[2]? = _ from rfl)) ?_ | refine WL.skip _ rfl rfl rfl ?_
            first | refine WL.bin rfl rfl rfl rfl (int_ge_t ‹_› _ _ _) ?_ | refine WL.bin rfl rfl rfl rfl (int_ge_f ‹_› _ _ _) ?_ | refine WL.bin rfl rfl rfl rfl (int_ge_d _ _ _ _ _) ?_ | refine WL.skip _ rfl rfl rfl ?_
            first | refine WL.pick rfl rfl rfl rfl ?_
            refine WL.done ?_
            refine EW.on ?_
            refine EW.cond_t rfl ?_
            refine EW.seq ?_
            refine EW.region ?_
            refine WL.build0 rfl rfl (bd109 _) ?_
            obtain ⟨w9, s9, b9, f9⟩ := st109 Rq.zv D2
            refine WL.store rfl rfl rfl s9 ?_
            first | refine WL.assign rfl rfl rfl ?_
            refine WL.done ?_
            refine EW.on ?_
            refine EW.ret ?_
            refine pr_then ?_
            exact EW.returnsCT Tryd.results50 rfl rfl b9 Tryd.underlying109 rfl (i109 _) (.inl ⟨by unfold okP; rw [decide_eq_false (by rw [eN, eA]; omega)]; rfl, rfl, LL.trans (f9.below (fun k hk e => by have e' : k = q2 := e; omega) LL.size)⟩)
          · have ya : ¬ (n5.toNat : Int) < 1 := by omega
            have yb : ¬ (64 : Int) < (n5.toNat : Int) := by omega
            have yc : ¬ (n5.toNat : Int) ≤ (n6.toNat : Int) := by omega
            refine EW.region ?_
            first | refine WL.field rfl rfl rfl (g109_1 _ _) ?_ | refine WL.skip _ rfl rfl rfl ?_
            first | refine WL.load rfl rfl rfl (ldI D4 (show (Rq.mk (pI c) n5.toNat n6.toNat (pS c) u).cs[1]? = _ from rfl)) ?_ | refine WL.load rfl rfl rfl (ldI D4 (show (Rq.mk (pI c) n5.toNat n6.toNat (pS c) u).cs[2]? = _ from rfl)) ?_ | refine WL.skip _ rfl rfl rfl ?_
            first | refine WL.bin rfl rfl rfl rfl (int_lt_t ‹_› _ _ _) ?_ | refine WL.bin rfl rfl rfl rfl (int_lt_f ‹_› _ _ _) ?_ | refine WL.bin rfl rfl rfl rfl (int_lt_d _ _ _ _ _) ?_
            first | refine WL.move rfl rfl rfl ?_
            first | refine WL.field rfl rfl rfl (g109_1 _ _) ?_ | refine WL.skip _ rfl rfl rfl ?_
            first | refine WL.load rfl rfl rfl (ldI D4 (show (Rq.mk (pI c) n5.toNat n6.toNat (pS c) u).cs[1]? = _ from rfl)) ?_ | refine WL.load rfl rfl rfl (ldI D4 (show (Rq.mk (pI c) n5.toNat n6.toNat (pS c) u).cs[2]? = _ from rfl)) ?_ | refine WL.skip _ rfl rfl rfl ?_
            first | refine WL.bin rfl rfl rfl rfl (int_gt_t ‹_› _ _ _) ?_ | refine WL.bin rfl rfl rfl rfl (int_gt_f ‹_› _ _ _) ?_ | refine WL.bin rfl rfl rfl rfl (int_gt_d _ _ _ _ _) ?_ | refine WL.skip _ rfl rfl rfl ?_
            first | refine WL.pick rfl rfl rfl rfl ?_
            first | refine WL.move rfl rfl rfl ?_
            first | refine WL.field rfl rfl rfl (g109_2 _ _) ?_ | refine WL.skip _ rfl rfl rfl ?_
            first | refine WL.load rfl rfl rfl (ldI D4 (show (Rq.mk (pI c) n5.toNat n6.toNat (pS c) u).cs[1]? = _ from rfl)) ?_ | refine WL.load rfl rfl rfl (ldI D4 (show (Rq.mk (pI c) n5.toNat n6.toNat (pS c) u).cs[2]? = _ from rfl)) ?_ | refine WL.skip _ rfl rfl rfl ?_
            first | refine WL.field rfl rfl rfl (g109_1 _ _) ?_ | refine WL.skip _ rfl rfl rfl ?_
            first | refine WL.load rfl rfl rfl (ldI D4 (show (Rq.mk (pI c) n5.toNat n6.toNat (pS c) u).cs[1]? = _ from rfl)) ?_ | refine WL.load rfl rfl rfl (ldI D4 (show (Rq.mk (pI c) n5.toNat n6.toNat (pS c) u).cs[2]? = _ from rfl)) ?_ | refine WL.skip _ rfl rfl rfl ?_
            first | refine WL.bin rfl rfl rfl rfl (int_ge_t ‹_› _ _ _) ?_ | refine WL.bin rfl rfl rfl rfl (int_ge_f ‹_› _ _ _) ?_ | refine WL.bin rfl rfl rfl rfl (int_ge_d _ _ _ _ _) ?_ | refine WL.skip _ rfl rfl rfl ?_
            first | refine WL.pick rfl rfl rfl rfl ?_
            refine WL.done ?_
            refine EW.on ?_
            refine EW.cond_f rfl ?_
            refine EW.skip ?_
            refine EW.on ?_
            refine EW.seq ?_
            refine EW.seq ?_
            have s1 : IntKind.i64.wrap ((n5.toNat : Int) - 1) = ((n5.toNat - 1 : Nat) : Int) := by rw [IntKind.wrap_i64]; omega
            rcases (show (n6.toNat + 1 < n5.toNat ∧ ¬ (pC c).length = 497) ∨ (n6.toNat + 1 < n5.toNat ∧ (pC c).length = 497) ∨ (¬ n6.toNat + 1 < n5.toNat ∧ 1 < n5.toNat ∧ (pC c).length = 0) ∨ (¬ n6.toNat + 1 < n5.toNat ∧ 1 < n5.toNat ∧ 0 < (pC c).length) ∨ (¬ n6.toNat + 1 < n5.toNat ∧ ¬ 1 < n5.toNat) by omega) with ⟨hF, hG⟩ | ⟨hF, hG⟩ | ⟨hF, hG, hH⟩ | ⟨hF, hG, hH⟩ | ⟨hF, hG⟩
            · have za : (n6.toNat : Int) < ((n5.toNat - 1 : Nat) : Int) := by omega
              have zb : ¬ ((pC c).length : Int) = 497 := by omega
              refine EW.region ?_
              first | refine WL.field rfl rfl rfl (g109_2 _ _) ?_ | refine WL.skip _ rfl rfl rfl ?_
              first | refine WL.load rfl rfl rfl (ldI D4 (show (Rq.mk (pI c) n5.toNat n6.toNat (pS c) u).cs[1]? = _ from rfl)) ?_ | refine WL.load rfl rfl rfl (ldI D4 (show (Rq.mk (pI c) n5.toNat n6.toNat (pS c) u).cs[2]? = _ from rfl)) ?_ | refine WL.skip _ rfl rfl rfl ?_
              first | refine WL.field rfl rfl rfl (g109_1 _ _) ?_ | refine WL.skip _ rfl rfl rfl ?_
              first | refine WL.load rfl rfl rfl (ldI D4 (show (Rq.mk (pI c) n5.toNat n6.toNat (pS c) u).cs[1]? = _ from rfl)) ?_ | refine WL.load rfl rfl rfl (ldI D4 (show (Rq.mk (pI c) n5.toNat n6.toNat (pS c) u).cs[2]? = _ from rfl)) ?_ | refine WL.skip _ rfl rfl rfl ?_
              first | refine WL.bin rfl rfl rfl rfl (int_sub ‹_› _ _ _) ?_
              first | refine WL.bin rfl rfl rfl rfl (int_lt_t ‹_› _ _ _) ?_ | refine WL.bin rfl rfl rfl rfl (int_lt_f ‹_› _ _ _) ?_ | refine WL.bin rfl rfl rfl rfl (int_lt_d _ _ _ _ _) ?_
              first | refine WL.move rfl rfl rfl ?_
              first | refine WL.field rfl rfl rfl (g109_4 _ _) ?_ | refine WL.skip _ rfl rfl rfl ?_
              first | refine WL.load rfl rfl rfl (ldS D4 (show (Rq.mk (pI c) n5.toNat n6.toNat (pS c) u).cs[4]? = _ from rfl)) ?_ | refine WL.skip _ rfl rfl rfl ?_
              try rw [hue]
              first | refine WL.len rfl rfl rfl (len24 _ _ _ _ _) ?_ | refine WL.skip _ rfl rfl rfl ?_
              try rw [← hue]
              first | refine WL.bin rfl rfl rfl rfl (int_ne_f rfl _ _ _) ?_ | refine WL.bin rfl rfl rfl rfl (int_ne_t ‹_› _ _ _) ?_ | refine WL.bin rfl rfl rfl rfl (int_ne_f ‹_› _ _ _) ?_ | refine WL.bin rfl rfl rfl rfl (int_ne_t (by decide) _ _ _) ?_ | refine WL.bin rfl rfl rfl rfl (int_ne_d _ _ _ _ _) ?_ | refine WL.skip _ rfl rfl rfl ?_
              first | refine WL.pick rfl rfl rfl rfl ?_
              first | refine WL.move rfl rfl rfl ?_
              first | refine WL.field rfl rfl rfl (g109_1 _ _) ?_ | refine WL.skip _ rfl rfl rfl ?_
              first | refine WL.load rfl rfl rfl (ldI D4 (show (Rq.mk (pI c) n5.toNat n6.toNat (pS c) u).cs[1]? = _ from rfl)) ?_ | refine WL.load rfl rfl rfl (ldI D4 (show (Rq.mk (pI c) n5.toNat n6.toNat (pS c) u).cs[2]? = _ from rfl)) ?_ | refine WL.skip _ rfl rfl rfl ?_
              first | refine WL.bin rfl rfl rfl rfl (int_gt_t ‹_› _ _ _) ?_ | refine WL.bin rfl rfl rfl rfl (int_gt_f ‹_› _ _ _) ?_ | refine WL.bin rfl rfl rfl rfl (int_gt_d _ _ _ _ _) ?_ | refine WL.skip _ rfl rfl rfl ?_
              first | refine WL.move rfl rfl rfl ?_ | refine WL.skip _ rfl rfl rfl ?_
              first | refine WL.field rfl rfl rfl (g109_4 _ _) ?_ | refine WL.skip _ rfl rfl rfl ?_
              first | refine WL.load rfl rfl rfl (ldS D4 (show (Rq.mk (pI c) n5.toNat n6.toNat (pS c) u).cs[4]? = _ from rfl)) ?_ | refine WL.skip _ rfl rfl rfl ?_
              try rw [hue]
              first | refine WL.len rfl rfl rfl (len24 _ _ _ _ _) ?_ | refine WL.skip _ rfl rfl rfl ?_
              try rw [← hue]
              first | refine WL.bin rfl rfl rfl rfl (int_eq_t rfl _ _ _) ?_ | refine WL.bin rfl rfl rfl rfl (int_eq_t ‹_› _ _ _) ?_ | refine WL.bin rfl rfl rfl rfl (int_eq_f ‹_› _ _ _) ?_ | refine WL.bin rfl rfl rfl rfl (int_eq_d _ _ _ _ _) ?_ | refine WL.skip _ rfl rfl rfl ?_
              first | refine WL.pick rfl rfl rfl rfl ?_ | refine WL.skip _ rfl rfl rfl ?_
              first | refine WL.pick rfl rfl rfl rfl ?_
              refine WL.done ?_
              refine EW.on ?_
              refine EW.cond_t rfl ?_
              refine EW.seq ?_
              refine EW.region ?_
              refine WL.build0 rfl rfl (bd109 _) ?_
              obtain ⟨w9, s9, b9, f9⟩ := st109 Rq.zv D2
              refine WL.store rfl rfl rfl s9 ?_
              first | refine WL.assign rfl rfl rfl ?_
              refine WL.done ?_
              refine EW.on ?_
              refine EW.ret ?_
              refine pr_then ?_
              exact EW.returnsCT Tryd.results50 rfl rfl b9 Tryd.underlying109 rfl (i109 _) (.inl ⟨by unfold okP; rw [show fitB (pN c) (pA c) (c.length - 15) = false by unfold fitB; rw [eN, eA]; rw [if_pos (by omega)]; exact decide_eq_false (by omega), Bool.and_false], rfl, LL.trans (f9.below (fun k hk e => by have e' : k = q2 := e; omega) LL.size)⟩)
            · have za : (n6.toNat : Int) < ((n5.toNat - 1 : Nat) : Int) := by omega
              have zb : ((pC c).length : Int) = 497 := by omega
              have zc : (1 : Int) < (n5.toNat : Int) := by omega
              have zd : ¬ ((pC c).length : Int) = 0 := by omega
              refine EW.region ?_
              first | refine WL.field rfl rfl rfl (g109_2 _ _) ?_ | refine WL.skip _ rfl rfl rfl ?_
              first | refine WL.load rfl rfl rfl (ldI D4 (show (Rq.mk (pI c) n5.toNat n6.toNat (pS c) u).cs[1]? = _ from rfl)) ?_ | refine WL.load rfl rfl rfl (ldI D4 (show (Rq.mk (pI c) n5.toNat n6.toNat (pS c) u).cs[2]? = _ from rfl)) ?_ | refine WL.skip _ rfl rfl rfl ?_
              first | refine WL.field rfl rfl rfl (g109_1 _ _) ?_ | refine WL.skip _ rfl rfl rfl ?_
              first | refine WL.load rfl rfl rfl (ldI D4 (show (Rq.mk (pI c) n5.toNat n6.toNat (pS c) u).cs[1]? = _ from rfl)) ?_ | refine WL.load rfl rfl rfl (ldI D4 (show (Rq.mk (pI c) n5.toNat n6.toNat (pS c) u).cs[2]? = _ from rfl)) ?_ | refine WL.skip _ rfl rfl rfl ?_
              first | refine WL.bin rfl rfl rfl rfl (int_sub ‹_› _ _ _) ?_
              first | refine WL.bin rfl rfl rfl rfl (int_lt_t ‹_› _ _ _) ?_ | refine WL.bin rfl rfl rfl rfl (int_lt_f ‹_› _ _ _) ?_ | refine WL.bin rfl rfl rfl rfl (int_lt_d _ _ _ _ _) ?_
              first | refine WL.move rfl rfl rfl ?_
              first | refine WL.field rfl rfl rfl (g109_4 _ _) ?_ | refine WL.skip _ rfl rfl rfl ?_
              first | refine WL.load rfl rfl rfl (ldS D4 (show (Rq.mk (pI c) n5.toNat n6.toNat (pS c) u).cs[4]? = _ from rfl)) ?_ | refine WL.skip _ rfl rfl rfl ?_
              try rw [hue]
              first | refine WL.len rfl rfl rfl (len24 _ _ _ _ _) ?_ | refine WL.skip _ rfl rfl rfl ?_
              try rw [← hue]
              first | refine WL.bin rfl rfl rfl rfl (int_ne_f rfl _ _ _) ?_ | refine WL.bin rfl rfl rfl rfl (int_ne_t ‹_› _ _ _) ?_ | refine WL.bin rfl rfl rfl rfl (int_ne_f ‹_› _ _ _) ?_ | refine WL.bin rfl rfl rfl rfl (int_ne_t (by decide) _ _ _) ?_ | refine WL.bin rfl rfl rfl rfl (int_ne_d _ _ _ _ _) ?_ | refine WL.skip _ rfl rfl rfl ?_
              first | refine WL.pick rfl rfl rfl rfl ?_
              first | refine WL.move rfl rfl rfl ?_
              first | refine WL.field rfl rfl rfl (g109_1 _ _) ?_ | refine WL.skip _ rfl rfl rfl ?_
              first | refine WL.load rfl rfl rfl (ldI D4 (show (Rq.mk (pI c) n5.toNat n6.toNat (pS c) u).cs[1]? = _ from rfl)) ?_ | refine WL.load rfl rfl rfl (ldI D4 (show (Rq.mk (pI c) n5.toNat n6.toNat (pS c) u).cs[2]? = _ from rfl)) ?_ | refine WL.skip _ rfl rfl rfl ?_
              first | refine WL.bin rfl rfl rfl rfl (int_gt_t ‹_› _ _ _) ?_ | refine WL.bin rfl rfl rfl rfl (int_gt_f ‹_› _ _ _) ?_ | refine WL.bin rfl rfl rfl rfl (int_gt_d _ _ _ _ _) ?_ | refine WL.skip _ rfl rfl rfl ?_
              first | refine WL.move rfl rfl rfl ?_ | refine WL.skip _ rfl rfl rfl ?_
              first | refine WL.field rfl rfl rfl (g109_4 _ _) ?_ | refine WL.skip _ rfl rfl rfl ?_
              first | refine WL.load rfl rfl rfl (ldS D4 (show (Rq.mk (pI c) n5.toNat n6.toNat (pS c) u).cs[4]? = _ from rfl)) ?_ | refine WL.skip _ rfl rfl rfl ?_
              try rw [hue]
              first | refine WL.len rfl rfl rfl (len24 _ _ _ _ _) ?_ | refine WL.skip _ rfl rfl rfl ?_
              try rw [← hue]
              first | refine WL.bin rfl rfl rfl rfl (int_eq_t rfl _ _ _) ?_ | refine WL.bin rfl rfl rfl rfl (int_eq_t ‹_› _ _ _) ?_ | refine WL.bin rfl rfl rfl rfl (int_eq_f ‹_› _ _ _) ?_ | refine WL.bin rfl rfl rfl rfl (int_eq_d _ _ _ _ _) ?_ | refine WL.skip _ rfl rfl rfl ?_
              first | refine WL.pick rfl rfl rfl rfl ?_ | refine WL.skip _ rfl rfl rfl ?_
              first | refine WL.pick rfl rfl rfl rfl ?_
              refine WL.done ?_
              refine EW.on ?_
              refine EW.cond_f rfl ?_
              refine EW.skip ?_
              refine EW.on ?_
              refine EW.seq ?_
              refine EW.region ?_
              refine WL.load rfl rfl rfl (ld109 D4) ?_
              obtain ⟨w9, s9, b9, f9⟩ := st109 (p := Rq.mk (pI c) n5.toNat n6.toNat (pS c) u) husl D2
              refine WL.store rfl rfl rfl s9 ?_
              first | refine WL.assign rfl rfl rfl ?_
              refine WL.done ?_
              refine EW.on ?_
              refine EW.ret ?_
              exact EW.returnsCT Tryd.results50 rfl rfl b9 Tryd.underlying109 rfl (i109 _) (.inr ⟨by unfold okP; rw [show fitB (pN c) (pA c) (c.length - 15) = true by unfold fitB; rw [eN, eA]; rw [if_pos (by omega)]; exact decide_eq_true (by omega), Bool.and_true]; exact decide_eq_true ⟨by omega, by omega, by rw [eM]; exact hM5, by omega, by omega, by omega⟩, u, by rw [eN, eA]; rfl, ((OU.ob.fx f9 (fun k hk e => by have e' : k = q2 := hk; have := OU.ob.base k e; have := b2.lt; omega)).lower l1.size), LL.trans (f9.below (fun k hk e => by have e' : k = q2 := e; omega) LL.size)⟩)
            · have za : ¬ (n6.toNat : Int) < ((n5.toNat - 1 : Nat) : Int) := by omega
              have zc : (1 : Int) < (n5.toNat : Int) := by omega
              have zd : ((pC c).length : Int) = 0 := by omega
              refine EW.region ?_
              first | refine WL.field rfl rfl rfl (g109_2 _ _) ?_ | refine WL.skip _ rfl rfl rfl ?_
              first | refine WL.load rfl rfl rfl (ldI D4 (show (Rq.mk (pI c) n5.toNat n6.toNat (pS c) u).cs[1]? = _ from rfl)) ?_ | refine WL.load rfl rfl rfl (ldI D4 (show (Rq.mk (pI c) n5.toNat n6.toNat (pS c) u).cs[2]? = _ from rfl)) ?_ | refine WL.skip _ rfl rfl rfl ?_
              first | refine WL.field rfl rfl rfl (g109_1 _ _) ?_ | refine WL.skip _ rfl rfl rfl ?_
              first | refine WL.load rfl rfl rfl (ldI D4 (show (Rq.mk (pI c) n5.toNat n6.toNat (pS c) u).cs[1]? = _ from rfl)) ?_ | refine WL.load rfl rfl rfl (ldI D4 (show (Rq.mk (pI c) n5.toNat n6.toNat (pS c) u).cs[2]? = _ from rfl)) ?_ | refine WL.skip _ rfl rfl rfl ?_
              first | refine WL.bin rfl rfl rfl rfl (int_sub ‹_› _ _ _) ?_
              first | refine WL.bin rfl rfl rfl rfl (int_lt_t ‹_› _ _ _) ?_ | refine WL.bin rfl rfl rfl rfl (int_lt_f ‹_› _ _ _) ?_ | refine WL.bin rfl rfl rfl rfl (int_lt_d _ _ _ _ _) ?_
              first | refine WL.move rfl rfl rfl ?_
              first | refine WL.field rfl rfl rfl (g109_4 _ _) ?_ | refine WL.skip _ rfl rfl rfl ?_
              first | refine WL.load rfl rfl rfl (ldS D4 (show (Rq.mk (pI c) n5.toNat n6.toNat (pS c) u).cs[4]? = _ from rfl)) ?_ | refine WL.skip _ rfl rfl rfl ?_
              try rw [hue]
              first | refine WL.len rfl rfl rfl (len24 _ _ _ _ _) ?_ | refine WL.skip _ rfl rfl rfl ?_
              try rw [← hue]
              first | refine WL.bin rfl rfl rfl rfl (int_ne_f rfl _ _ _) ?_ | refine WL.bin rfl rfl rfl rfl (int_ne_t ‹_› _ _ _) ?_ | refine WL.bin rfl rfl rfl rfl (int_ne_f ‹_› _ _ _) ?_ | refine WL.bin rfl rfl rfl rfl (int_ne_t (by decide) _ _ _) ?_ | refine WL.bin rfl rfl rfl rfl (int_ne_d _ _ _ _ _) ?_ | refine WL.skip _ rfl rfl rfl ?_
              first | refine WL.pick rfl rfl rfl rfl ?_
              first | refine WL.move rfl rfl rfl ?_
              first | refine WL.field rfl rfl rfl (g109_1 _ _) ?_ | refine WL.skip _ rfl rfl rfl ?_
              first | refine WL.load rfl rfl rfl (ldI D4 (show (Rq.mk (pI c) n5.toNat n6.toNat (pS c) u).cs[1]? = _ from rfl)) ?_ | refine WL.load rfl rfl rfl (ldI D4 (show (Rq.mk (pI c) n5.toNat n6.toNat (pS c) u).cs[2]? = _ from rfl)) ?_ | refine WL.skip _ rfl rfl rfl ?_
              first | refine WL.bin rfl rfl rfl rfl (int_gt_t ‹_› _ _ _) ?_ | refine WL.bin rfl rfl rfl rfl (int_gt_f ‹_› _ _ _) ?_ | refine WL.bin rfl rfl rfl rfl (int_gt_d _ _ _ _ _) ?_ | refine WL.skip _ rfl rfl rfl ?_
              first | refine WL.move rfl rfl rfl ?_ | refine WL.skip _ rfl rfl rfl ?_
              first | refine WL.field rfl rfl rfl (g109_4 _ _) ?_ | refine WL.skip _ rfl rfl rfl ?_
              first | refine WL.load rfl rfl rfl (ldS D4 (show (Rq.mk (pI c) n5.toNat n6.toNat (pS c) u).cs[4]? = _ from rfl)) ?_ | refine WL.skip _ rfl rfl rfl ?_
              try rw [hue]
              first | refine WL.len rfl rfl rfl (len24 _ _ _ _ _) ?_ | refine WL.skip _ rfl rfl rfl ?_
              try rw [← hue]
              first | refine WL.bin rfl rfl rfl rfl (int_eq_t rfl _ _ _) ?_ | refine WL.bin rfl rfl rfl rfl (int_eq_t ‹_› _ _ _) ?_ | refine WL.bin rfl rfl rfl rfl (int_eq_f ‹_› _ _ _) ?_ | refine WL.bin rfl rfl rfl rfl (int_eq_d _ _ _ _ _) ?_ | refine WL.skip _ rfl rfl rfl ?_
              first | refine WL.pick rfl rfl rfl rfl ?_ | refine WL.skip _ rfl rfl rfl ?_
              first | refine WL.pick rfl rfl rfl rfl ?_
              refine WL.done ?_
              refine EW.on ?_
              refine EW.cond_t rfl ?_
              refine EW.seq ?_
              refine EW.region ?_
              refine WL.build0 rfl rfl (bd109 _) ?_
              obtain ⟨w9, s9, b9, f9⟩ := st109 Rq.zv D2
              refine WL.store rfl rfl rfl s9 ?_
              first | refine WL.assign rfl rfl rfl ?_
              refine WL.done ?_
              refine EW.on ?_
              refine EW.ret ?_
              refine pr_then ?_
              exact EW.returnsCT Tryd.results50 rfl rfl b9 Tryd.underlying109 rfl (i109 _) (.inl ⟨by unfold okP; rw [show fitB (pN c) (pA c) (c.length - 15) = false by unfold fitB; rw [eN, eA]; rw [if_neg (by omega), if_pos (by omega)]; exact decide_eq_false (by omega), Bool.and_false], rfl, LL.trans (f9.below (fun k hk e => by have e' : k = q2 := e; omega) LL.size)⟩)
            · have za : ¬ (n6.toNat : Int) < ((n5.toNat - 1 : Nat) : Int) := by omega
              have zc : (1 : Int) < (n5.toNat : Int) := by omega
              have zd : ¬ ((pC c).length : Int) = 0 := by omega
              refine EW.region ?_
              first | refine WL.field rfl rfl rfl (g109_2 _ _) ?_ | refine WL.skip _ rfl rfl rfl ?_
              first | refine WL.load rfl rfl rfl (ldI D4 (show (Rq.mk (pI c) n5.toNat n6.toNat (pS c) u).cs[1]? = _ from rfl)) ?_ | refine WL.load rfl rfl rfl (ldI D4 (show (Rq.mk (pI c) n5.toNat n6.toNat (pS c) u).cs[2]? = _ from rfl)) ?_ | refine WL.skip _ rfl rfl rfl ?_
              first | refine WL.field rfl rfl rfl (g109_1 _ _) ?_ | refine WL.skip _ rfl rfl rfl ?_
              first | refine WL.load rfl rfl rfl (ldI D4 (show (Rq.mk (pI c) n5.toNat n6.toNat (pS c) u).cs[1]? = _ from rfl)) ?_ | refine WL.load rfl rfl rfl (ldI D4 (show (Rq.mk (pI c) n5.toNat n6.toNat (pS c) u).cs[2]? = _ from rfl)) ?_ | refine WL.skip _ rfl rfl rfl ?_
              first | refine WL.bin rfl rfl rfl rfl (int_sub ‹_› _ _ _) ?_
              first | refine WL.bin rfl rfl rfl rfl (int_lt_t ‹_› _ _ _) ?_ | refine WL.bin rfl rfl rfl rfl (int_lt_f ‹_› _ _ _) ?_ | refine WL.bin rfl rfl rfl rfl (int_lt_d _ _ _ _ _) ?_
              first | refine WL.move rfl rfl rfl ?_
              first | refine WL.field rfl rfl rfl (g109_4 _ _) ?_ | refine WL.skip _ rfl rfl rfl ?_
              first | refine WL.load rfl rfl rfl (ldS D4 (show (Rq.mk (pI c) n5.toNat n6.toNat (pS c) u).cs[4]? = _ from rfl)) ?_ | refine WL.skip _ rfl rfl rfl ?_
              try rw [hue]
              first | refine WL.len rfl rfl rfl (len24 _ _ _ _ _) ?_ | refine WL.skip _ rfl rfl rfl ?_
              try rw [← hue]
              first | refine WL.bin rfl rfl rfl rfl (int_ne_f rfl _ _ _) ?_ | refine WL.bin rfl rfl rfl rfl (int_ne_t ‹_› _ _ _) ?_ | refine WL.bin rfl rfl rfl rfl (int_ne_f ‹_› _ _ _) ?_ | refine WL.bin rfl rfl rfl rfl (int_ne_t (by decide) _ _ _) ?_ | refine WL.bin rfl rfl rfl rfl (int_ne_d _ _ _ _ _) ?_ | refine WL.skip _ rfl rfl rfl ?_
              first | refine WL.pick rfl rfl rfl rfl ?_
              first | refine WL.move rfl rfl rfl ?_
              first | refine WL.field rfl rfl rfl (g109_1 _ _) ?_ | refine WL.skip _ rfl rfl rfl ?_
              first | refine WL.load rfl rfl rfl (ldI D4 (show (Rq.mk (pI c) n5.toNat n6.toNat (pS c) u).cs[1]? = _ from rfl)) ?_ | refine WL.load rfl rfl rfl (ldI D4 (show (Rq.mk (pI c) n5.toNat n6.toNat (pS c) u).cs[2]? = _ from rfl)) ?_ | refine WL.skip _ rfl rfl rfl ?_
              first | refine WL.bin rfl rfl rfl rfl (int_gt_t ‹_› _ _ _) ?_ | refine WL.bin rfl rfl rfl rfl (int_gt_f ‹_› _ _ _) ?_ | refine WL.bin rfl rfl rfl rfl (int_gt_d _ _ _ _ _) ?_ | refine WL.skip _ rfl rfl rfl ?_
              first | refine WL.move rfl rfl rfl ?_ | refine WL.skip _ rfl rfl rfl ?_
              first | refine WL.field rfl rfl rfl (g109_4 _ _) ?_ | refine WL.skip _ rfl rfl rfl ?_
              first | refine WL.load rfl rfl rfl (ldS D4 (show (Rq.mk (pI c) n5.toNat n6.toNat (pS c) u).cs[4]? = _ from rfl)) ?_ | refine WL.skip _ rfl rfl rfl ?_
              try rw [hue]
              first | refine WL.len rfl rfl rfl (len24 _ _ _ _ _) ?_ | refine WL.skip _ rfl rfl rfl ?_
              try rw [← hue]
              first | refine WL.bin rfl rfl rfl rfl (int_eq_t rfl _ _ _) ?_ | refine WL.bin rfl rfl rfl rfl (int_eq_t ‹_› _ _ _) ?_ | refine WL.bin rfl rfl rfl rfl (int_eq_f ‹_› _ _ _) ?_ | refine WL.bin rfl rfl rfl rfl (int_eq_d _ _ _ _ _) ?_ | refine WL.skip _ rfl rfl rfl ?_
              first | refine WL.pick rfl rfl rfl rfl ?_ | refine WL.skip _ rfl rfl rfl ?_
              first | refine WL.pick rfl rfl rfl rfl ?_
              refine WL.done ?_
              refine EW.on ?_
              refine EW.cond_f rfl ?_
              refine EW.skip ?_
              refine EW.on ?_
              refine EW.seq ?_
              refine EW.region ?_
              refine WL.load rfl rfl rfl (ld109 D4) ?_
              obtain ⟨w9, s9, b9, f9⟩ := st109 (p := Rq.mk (pI c) n5.toNat n6.toNat (pS c) u) husl D2
              refine WL.store rfl rfl rfl s9 ?_
              first | refine WL.assign rfl rfl rfl ?_
              refine WL.done ?_
              refine EW.on ?_
              refine EW.ret ?_
              exact EW.returnsCT Tryd.results50 rfl rfl b9 Tryd.underlying109 rfl (i109 _) (.inr ⟨by unfold okP; rw [show fitB (pN c) (pA c) (c.length - 15) = true by unfold fitB; rw [eN, eA]; rw [if_neg (by omega), if_pos (by omega)]; exact decide_eq_true (by omega), Bool.and_true]; exact decide_eq_true ⟨by omega, by omega, by rw [eM]; exact hM5, by omega, by omega, by omega⟩, u, by rw [eN, eA]; rfl, ((OU.ob.fx f9 (fun k hk e => by have e' : k = q2 := hk; have := OU.ob.base k e; have := b2.lt; omega)).lower l1.size), LL.trans (f9.below (fun k hk e => by have e' : k = q2 := e; omega) LL.size)⟩)
            · have za : ¬ (n6.toNat : Int) < ((n5.toNat - 1 : Nat) : Int) := by omega
              have zc : ¬ (1 : Int) < (n5.toNat : Int) := by omega
              refine EW.region ?_
              first | refine WL.field rfl rfl rfl (g109_2 _ _) ?_ | refine WL.skip _ rfl rfl rfl ?_
              first | refine WL.load rfl rfl rfl (ldI D4 (show (Rq.mk (pI c) n5.toNat n6.toNat (pS c) u).cs[1]? = _ from rfl)) ?_ | refine WL.load rfl rfl rfl (ldI D4 (show (Rq.mk (pI c) n5.toNat n6.toNat (pS c) u).cs[2]? = _ from rfl)) ?_ | refine WL.skip _ rfl rfl rfl ?_
              first | refine WL.field rfl rfl rfl (g109_1 _ _) ?_ | refine WL.skip _ rfl rfl rfl ?_
              first | refine WL.load rfl rfl rfl (ldI D4 (show (Rq.mk (pI c) n5.toNat n6.toNat (pS c) u).cs[1]? = _ from rfl)) ?_ | refine WL.load rfl rfl rfl (ldI D4 (show (Rq.mk (pI c) n5.toNat n6.toNat (pS c) u).cs[2]? = _ from rfl)) ?_ | refine WL.skip _ rfl rfl rfl ?_
              first | refine WL.bin rfl rfl rfl rfl (int_sub ‹_› _ _ _) ?_
              first | refine WL.bin rfl rfl rfl rfl (int_lt_t ‹_› _ _ _) ?_ | refine WL.bin rfl rfl rfl rfl (int_lt_f ‹_› _ _ _) ?_ | refine WL.bin rfl rfl rfl rfl (int_lt_d _ _ _ _ _) ?_
              first | refine WL.move rfl rfl rfl ?_
              first | refine WL.field rfl rfl rfl (g109_4 _ _) ?_ | refine WL.skip _ rfl rfl rfl ?_
              first | refine WL.load rfl rfl rfl (ldS D4 (show (Rq.mk (pI c) n5.toNat n6.toNat (pS c) u).cs[4]? = _ from rfl)) ?_ | refine WL.skip _ rfl rfl rfl ?_
              try rw [hue]
              first | refine WL.len rfl rfl rfl (len24 _ _ _ _ _) ?_ | refine WL.skip _ rfl rfl rfl ?_
              try rw [← hue]
              first | refine WL.bin rfl rfl rfl rfl (int_ne_f rfl _ _ _) ?_ | refine WL.bin rfl rfl rfl rfl (int_ne_t ‹_› _ _ _) ?_ | refine WL.bin rfl rfl rfl rfl (int_ne_f ‹_› _ _ _) ?_ | refine WL.bin rfl rfl rfl rfl (int_ne_t (by decide) _ _ _) ?_ | refine WL.bin rfl rfl rfl rfl (int_ne_d _ _ _ _ _) ?_ | refine WL.skip _ rfl rfl rfl ?_
              first | refine WL.pick rfl rfl rfl rfl ?_
              first | refine WL.move rfl rfl rfl ?_
              first | refine WL.field rfl rfl rfl (g109_1 _ _) ?_ | refine WL.skip _ rfl rfl rfl ?_
              first | refine WL.load rfl rfl rfl (ldI D4 (show (Rq.mk (pI c) n5.toNat n6.toNat (pS c) u).cs[1]? = _ from rfl)) ?_ | refine WL.load rfl rfl rfl (ldI D4 (show (Rq.mk (pI c) n5.toNat n6.toNat (pS c) u).cs[2]? = _ from rfl)) ?_ | refine WL.skip _ rfl rfl rfl ?_
              first | refine WL.bin rfl rfl rfl rfl (int_gt_t ‹_› _ _ _) ?_ | refine WL.bin rfl rfl rfl rfl (int_gt_f ‹_› _ _ _) ?_ | refine WL.bin rfl rfl rfl rfl (int_gt_d _ _ _ _ _) ?_ | refine WL.skip _ rfl rfl rfl ?_
              first | refine WL.move rfl rfl rfl ?_ | refine WL.skip _ rfl rfl rfl ?_
              first | refine WL.field rfl rfl rfl (g109_4 _ _) ?_ | refine WL.skip _ rfl rfl rfl ?_
              first | refine WL.load rfl rfl rfl (ldS D4 (show (Rq.mk (pI c) n5.toNat n6.toNat (pS c) u).cs[4]? = _ from rfl)) ?_ | refine WL.skip _ rfl rfl rfl ?_
              try rw [hue]
              first | refine WL.len rfl rfl rfl (len24 _ _ _ _ _) ?_ | refine WL.skip _ rfl rfl rfl ?_
              try rw [← hue]
              first | refine WL.bin rfl rfl rfl rfl (int_eq_t rfl _ _ _) ?_ | refine WL.bin rfl rfl rfl rfl (int_eq_t ‹_› _ _ _) ?_ | refine WL.bin rfl rfl rfl rfl (int_eq_f ‹_› _ _ _) ?_ | refine WL.bin rfl rfl rfl rfl (int_eq_d _ _ _ _ _) ?_ | refine WL.skip _ rfl rfl rfl ?_
              first | refine WL.pick rfl rfl rfl rfl ?_ | refine WL.skip _ rfl rfl rfl ?_
              first | refine WL.pick rfl rfl rfl rfl ?_
              refine WL.done ?_
              refine EW.on ?_
              refine EW.cond_f rfl ?_
              refine EW.skip ?_
              refine EW.on ?_
              refine EW.seq ?_
              refine EW.region ?_
              refine WL.load rfl rfl rfl (ld109 D4) ?_
              obtain ⟨w9, s9, b9, f9⟩ := st109 (p := Rq.mk (pI c) n5.toNat n6.toNat (pS c) u) husl D2
              refine WL.store rfl rfl rfl s9 ?_
              first | refine WL.assign rfl rfl rfl ?_
              refine WL.done ?_
              refine EW.on ?_
              refine EW.ret ?_
              exact EW.returnsCT Tryd.results50 rfl rfl b9 Tryd.underlying109 rfl (i109 _) (.inr ⟨by unfold okP; rw [show fitB (pN c) (pA c) (c.length - 15) = true by unfold fitB; rw [eN, eA]; rw [if_neg (by omega), if_neg (by omega)], Bool.and_true]; exact decide_eq_true ⟨by omega, by omega, by rw [eM]; exact hM5, by omega, by omega, by omega⟩, u, by rw [eN, eA]; rfl, ((OU.ob.fx f9 (fun k hk e => by have e' : k = q2 := hk; have := OU.ob.base k e; have := b2.lt; omega)).lower l1.size), LL.trans (f9.below (fun k hk e => by have e' : k = q2 := e; omega) LL.size)⟩)
        · simp only [List.getD_cons_zero, List.getD_cons_succ]
          refine ZE.newR (fun v W => ∃ q8, v = .pointer (some ⟨q8, 0, none⟩) ∧ Blk W q8 Rq.z.cs 109 ∧ w1.heap.size ≤ q8 ∧ Own W w1.heap.size V0 [] ∧ Below w1.heap.size w1 W) rfl rfl (fun _ _ h => .inr (by obtain ⟨_, _, _, _, _, h⟩ := h; exact h)) (fun W hW => ?_) ?_
          · obtain ⟨ow, l⟩ := hW
            obtain ⟨W2, q, r, b, l2, hq⟩ := newB (cs := Rq.z.cs) zv109 W
            exact ⟨_, W2, r, q, rfl, b, by have := l.size; omega, ow.below l2, bt l l2⟩
          rintro _ ⟨_, q4, rfl, _, hq4, _⟩
          refine AZ.seg [(36, 1, 1), (37, 0, 0), (39, 1, 1)] 0 rfl (by kernel_rfl) (sq_anti _) (by kernel_rfl) ?_
          simp only [opsZ, List.getD_cons_zero, List.getD_cons_succ]
          refine ZE.app (fun v W => Own W w1.heap.size v (pC c) ∧ Blk W q4 Rq.z.cs 109 ∧ Below w1.heap.size w1 W) rfl rfl rfl rfl (fun _ _ h => .inr h.2.2) (fun W hW => ?_) ?_
          · obtain ⟨q, e, b, _, ow, l⟩ := hW
            cases e
            have hh := (hv1.below l).cut 15 c.length (by omega) (Nat.le_refl _)
            obtain ⟨v', w', p1, p2, p3, p4⟩ := ow.app hh (by simp; omega) l.size 24
            rw [List.nil_append] at p2
            exact ⟨v', w', p1, p2, b.fx p4 (fun e => ow.neB b (by decide) e), l.trans p3⟩
          rintro u ⟨Wu, ou, _⟩
          have husl : ∃ ao n c, u = Value.slice ao n c := ou.has.sl
          refine ZE.buildN [(0, u32v (pI c)), (1, .int .i64 (n5.toNat : Int)), (2, .int .i64 (n6.toNat : Int)), (3, sv (pS c)), (4, u)] rfl rfl rfl rfl sq0 (fun W => bd109s (pI c) n5.toNat n6.toNat (pS c) u husl W) ?_
          refine ZE.store (fun W => Blk W q4 (Rq.mk (pI c) n5.toNat n6.toNat (pS c) u).cs 109 ∧ Own W w1.heap.size u (pC c) ∧ Below w1.heap.size w1 W) rfl rfl rfl (fun _ h => .inr h.2.2) (fun W hW => ?_) ?_
          · obtain ⟨ow, b, l⟩ := hW
            obtain ⟨W2, s1, s2, s3⟩ := st109 (p := Rq.mk (pI c) n5.toNat n6.toNat (pS c) u) husl b
            exact ⟨W2, s1, s2, ow.ob.fxO s3 (fun e => ow.neB b (by decide) e), l.trans (s3.below (fun k hk e => by have e' : k = q4 := e; omega) l.size)⟩
          refine AZ.done (by kernel_rfl) ?_
          rintro w3 ⟨D4, OU, L3⟩
          have D2 := b2.on L3
          have LL := bt l1 L3
          obtain ⟨uo, ucp, hue⟩ := OU.has.slice
          have hul : (pC c).length = c.length - 15 := by unfold pC; simp
          refine EW.on ?_
          refine EW.seq ?_
          refine EW.seq ?_
          rcases (show n5.toNat < 1 ∨ (1 ≤ n5.toNat ∧ 64 < n5.toNat) ∨ (1 ≤ n5.toNat ∧ n5.toNat ≤ 64 ∧ n5.toNat ≤ n6.toNat) ∨ (1 ≤ n5.toNat ∧ n5.toNat ≤ 64 ∧ n6.toNat < n5.toNat) by omega) with hC | ⟨hC, hD⟩ | ⟨hC, hD, hE⟩ | ⟨hC, hD, hE⟩
          · have ya : (n5.toNat : Int) < 1 := by omega
            refine EW.region ?_
            first | refine WL.field rfl rfl rfl (g109_1 _ _) ?_ | refine WL.skip _ rfl rfl rfl ?_
            first | refine WL.load rfl rfl rfl (ldI D4 (show (Rq.mk (pI c) n5.toNat n6.toNat (pS c) u).cs[1]? = _ from rfl)) ?_ | refine WL.load rfl rfl rfl (ldI D4 (show (Rq.mk (pI c) n5.toNat n6.toNat (pS c) u).cs[2]? = _ from rfl)) ?_ | refine WL.skip _ rfl rfl rfl ?_
            first | refine WL.bin rfl rfl rfl rfl (int_lt_t ‹_› _ _ _) ?_ | refine WL.bin rfl rfl rfl rfl (int_lt_f ‹_› _ _ _) ?_ | refine WL.bin rfl rfl rfl rfl (int_lt_d _ _ _ _ _) ?_
            first | refine WL.move rfl rfl rfl ?_
            first | refine WL.field rfl rfl rfl (g109_1 _ _) ?_ | refine WL.skip _ rfl rfl rfl ?_
            first | refine WL.load rfl rfl rfl (ldI D4 (show (Rq.mk (pI c) n5.toNat n6.toNat (pS c) u).cs[1]? = _ from rfl)) ?_ | refine WL.load rfl rfl rfl (ldI D4 (show (Rq.mk (pI c) n5.toNat n6.toNat (pS c) u).cs[2]? = _ from rfl)) ?_ | refine WL.skip _ rfl rfl rfl ?_
            first | refine WL.bin rfl rfl rfl rfl (int_gt_t ‹_› _ _ _) ?_ | refine WL.bin rfl rfl rfl rfl (int_gt_f ‹_› _ _ _) ?_ | refine WL.bin rfl rfl rfl rfl (int_gt_d _ _ _ _ _) ?_ | refine WL.skip _ rfl rfl rfl ?_
            first | refine WL.pick rfl rfl rfl rfl ?_
            first | refine WL.move rfl rfl rfl ?_
            first | refine WL.field rfl rfl rfl (g109_2 _ _) ?_ | refine WL.skip _ rfl rfl rfl ?_
            first | refine WL.load rfl rfl rfl (ldI D4 (show (Rq.mk (pI c) n5.toNat n6.toNat (pS c) u).cs[1]? = _ from rfl)) ?_ | refine WL.load rfl rfl rfl (ldI D4 (show (Rq.mk (pI c) n5.toNat n6.toNat (pS c) u).cs[2]? = _ from rfl)) ?_ | refine WL.skip _ rfl rfl rfl ?_
            first | refine WL.field rfl rfl rfl (g109_1 _ _) ?_ | refine WL.skip _ rfl rfl rfl ?_
            first | refine WL.load rfl rfl rfl (ldI D4 (show (Rq.mk (pI c) n5.toNat n6.toNat (pS c) u).cs[1]? = _ from rfl)) ?_ | refine WL.load rfl rfl rfl (ldI D4 (show (Rq.mk (pI c) n5.toNat n6.toNat (pS c) u).cs[2]? = _ from rfl)) ?_ | refine WL.skip _ rfl rfl rfl ?_
            first | refine WL.bin rfl rfl rfl rfl (int_ge_t ‹_› _ _ _) ?_ | refine WL.bin rfl rfl rfl rfl (int_ge_f ‹_› _ _ _) ?_ | refine WL.bin rfl rfl rfl rfl (int_ge_d _ _ _ _ _) ?_ | refine WL.skip _ rfl rfl rfl ?_
            first | refine WL.pick rfl rfl rfl rfl ?_
            refine WL.done ?_
            refine EW.on ?_
            refine EW.cond_t rfl ?_
            refine EW.seq ?_
            refine EW.region ?_
            refine WL.build0 rfl rfl (bd109 _) ?_
            obtain ⟨w9, s9, b9, f9⟩ := st109 Rq.zv D2
            refine WL.store rfl rfl rfl s9 ?_
            first | refine WL.assign rfl rfl rfl ?_
            refine WL.done ?_
            refine EW.on ?_
            refine EW.ret ?_
            refine pr_then ?_
            exact EW.returnsCT Tryd.results50 rfl rfl b9 Tryd.underlying109 rfl (i109 _) (.inl ⟨by unfold okP; rw [decide_eq_false (by rw [eN, eA]; omega)]; rfl, rfl, LL.trans (f9.below (fun k hk e => by have e' : k = q2 := e; omega) LL.size)⟩)
          · have ya : ¬ (n5.toNat : Int) < 1 := by omega
            have yb : (64 : Int) < (n5.toNat : Int) := by omega
            refine EW.region ?_
            first | refine WL.field rfl rfl rfl (g109_1 _ _) ?_ | refine WL.skip _ rfl rfl rfl ?_
            first | refine WL.load rfl rfl rfl (ldI D4 (show (Rq.mk (pI c) n5.toNat n6.toNat (pS c) u).cs[1]? = _ from rfl)) ?_ | refine WL.load rfl rfl rfl (ldI D4 (show (Rq.mk (pI c) n5.toNat n6.toNat (pS c) u).cs[2]? = _ from rfl)) ?_ | refine WL.skip _ rfl rfl rfl ?_
            first | refine WL.bin rfl rfl rfl rfl (int_lt_t ‹_› _ _ _) ?_ | refine WL.bin rfl rfl rfl rfl (int_lt_f ‹_› _ _ _) ?_ | refine WL.bin rfl rfl rfl rfl (int_lt_d _ _ _ _ _) ?_
            first | refine WL.move rfl rfl rfl ?_
            first | refine WL.field rfl rfl rfl (g109_1 _ _) ?_ | refine WL.skip _ rfl rfl rfl ?_
            first | refine WL.load rfl rfl rfl (ldI D4 (show (Rq.mk (pI c) n5.toNat n6.toNat (pS c) u).cs[1]? = _ from rfl)) ?_ | refine WL.load rfl rfl rfl (ldI D4 (show (Rq.mk (pI c) n5.toNat n6.toNat (pS c) u).cs[2]? = _ from rfl)) ?_ | refine WL.skip _ rfl rfl rfl ?_
            first | refine WL.bin rfl rfl rfl rfl (int_gt_t ‹_› _ _ _) ?_ | refine WL.bin rfl rfl rfl rfl (int_gt_f ‹_› _ _ _) ?_ | refine WL.bin rfl rfl rfl rfl (int_gt_d _ _ _ _ _) ?_ | refine WL.skip _ rfl rfl rfl ?_
            first | refine WL.pick rfl rfl rfl rfl ?_
            first | refine WL.move rfl rfl rfl ?_
            first | refine WL.field rfl rfl rfl (g109_2 _ _) ?_ | refine WL.skip _ rfl rfl rfl ?_
            first | refine WL.load rfl rfl rfl (ldI D4 (show (Rq.mk (pI c) n5.toNat n6.toNat (pS c) u).cs[1]? = _ from rfl)) ?_ | refine WL.load rfl rfl rfl (ldI D4 (show (Rq.mk (pI c) n5.toNat n6.toNat (pS c) u).cs[2]? = _ from rfl)) ?_ | refine WL.skip _ rfl rfl rfl ?_
            first | refine WL.field rfl rfl rfl (g109_1 _ _) ?_ | refine WL.skip _ rfl rfl rfl ?_
            first | refine WL.load rfl rfl rfl (ldI D4 (show (Rq.mk (pI c) n5.toNat n6.toNat (pS c) u).cs[1]? = _ from rfl)) ?_ | refine WL.load rfl rfl rfl (ldI D4 (show (Rq.mk (pI c) n5.toNat n6.toNat (pS c) u).cs[2]? = _ from rfl)) ?_ | refine WL.skip _ rfl rfl rfl ?_
            first | refine WL.bin rfl rfl rfl rfl (int_ge_t ‹_› _ _ _) ?_ | refine WL.bin rfl rfl rfl rfl (int_ge_f ‹_› _ _ _) ?_ | refine WL.bin rfl rfl rfl rfl (int_ge_d _ _ _ _ _) ?_ | refine WL.skip _ rfl rfl rfl ?_
            first | refine WL.pick rfl rfl rfl rfl ?_
            refine WL.done ?_
            refine EW.on ?_
            refine EW.cond_t rfl ?_
            refine EW.seq ?_
            refine EW.region ?_
            refine WL.build0 rfl rfl (bd109 _) ?_
            obtain ⟨w9, s9, b9, f9⟩ := st109 Rq.zv D2
            refine WL.store rfl rfl rfl s9 ?_
            first | refine WL.assign rfl rfl rfl ?_
            refine WL.done ?_
            refine EW.on ?_
            refine EW.ret ?_
            refine pr_then ?_
            exact EW.returnsCT Tryd.results50 rfl rfl b9 Tryd.underlying109 rfl (i109 _) (.inl ⟨by unfold okP; rw [decide_eq_false (by rw [eN, eA]; omega)]; rfl, rfl, LL.trans (f9.below (fun k hk e => by have e' : k = q2 := e; omega) LL.size)⟩)
          · have ya : ¬ (n5.toNat : Int) < 1 := by omega
            have yb : ¬ (64 : Int) < (n5.toNat : Int) := by omega
            have yc : (n5.toNat : Int) ≤ (n6.toNat : Int) := by omega
            refine EW.region ?_
            first | refine WL.field rfl rfl rfl (g109_1 _ _) ?_ | refine WL.skip _ rfl rfl rfl ?_
            first | refine WL.load rfl rfl rfl (ldI D4 (show (Rq.mk (pI c) n5.toNat n6.toNat (pS c) u).cs[1]? = _ from rfl)) ?_ | refine WL.load rfl rfl rfl (ldI D4 (show (Rq.mk (pI c) n5.toNat n6.toNat (pS c) u).cs[2]? = _ from rfl)) ?_ | refine WL.skip _ rfl rfl rfl ?_
            first | refine WL.bin rfl rfl rfl rfl (int_lt_t ‹_› _ _ _) ?_ | refine WL.bin rfl rfl rfl rfl (int_lt_f ‹_› _ _ _) ?_ | refine WL.bin rfl rfl rfl rfl (int_lt_d _ _ _ _ _) ?_
            first | refine WL.move rfl rfl rfl ?_
            first | refine WL.field rfl rfl rfl (g109_1 _ _) ?_ | refine WL.skip _ rfl rfl rfl ?_
            first | refine WL.load rfl rfl rfl (ldI D4 (show (Rq.mk (pI c) n5.toNat n6.toNat (pS c) u).cs[1]? = _ from rfl)) ?_ | refine WL.load rfl rfl rfl (ldI D4 (show (Rq.mk (pI c) n5.toNat n6.toNat (pS c) u).cs[2]? = _ from rfl)) ?_ | refine WL.skip _ rfl rfl rfl ?_
            first | refine WL.bin rfl rfl rfl rfl (int_gt_t ‹_› _ _ _) ?_ | refine WL.bin rfl rfl rfl rfl (int_gt_f ‹_› _ _ _) ?_ | refine WL.bin rfl rfl rfl rfl (int_gt_d _ _ _ _ _) ?_ | refine WL.skip _ rfl rfl rfl ?_
            first | refine WL.pick rfl rfl rfl rfl ?_
            first | refine WL.move rfl rfl rfl ?_
            first | refine WL.field rfl rfl rfl (g109_2 _ _) ?_ | refine WL.skip _ rfl rfl rfl ?_
            first | refine WL.load rfl rfl rfl (ldI D4 (show (Rq.mk (pI c) n5.toNat n6.toNat (pS c) u).cs[1]? = _ from rfl)) ?_ | refine WL.load rfl rfl rfl (ldI D4 (show (Rq.mk (pI c) n5.toNat n6.toNat (pS c) u).cs[2]? = _ from rfl)) ?_ | refine WL.skip _ rfl rfl rfl ?_
            first | refine WL.field rfl rfl rfl (g109_1 _ _) ?_ | refine WL.skip _ rfl rfl rfl ?_
            first | refine WL.load rfl rfl rfl (ldI D4 (show (Rq.mk (pI c) n5.toNat n6.toNat (pS c) u).cs[1]? = _ from rfl)) ?_ | refine WL.load rfl rfl rfl (ldI D4 (show (Rq.mk (pI c) n5.toNat n6.toNat (pS c) u).cs[2]? = _ from rfl)) ?_ | refine WL.skip _ rfl rfl rfl ?_
            first | refine WL.bin rfl rfl rfl rfl (int_ge_t ‹_› _ _ _) ?_ | refine WL.bin rfl rfl rfl rfl (int_ge_f ‹_› _ _ _) ?_ | refine WL.bin rfl rfl rfl rfl (int_ge_d _ _ _ _ _) ?_ | refine WL.skip _ rfl rfl rfl ?_
            first | refine WL.pick rfl rfl rfl rfl ?_
            refine WL.done ?_
            refine EW.on ?_
            refine EW.cond_t rfl ?_
            refine EW.seq ?_
            refine EW.region ?_
            refine WL.build0 rfl rfl (bd109 _) ?_
            obtain ⟨w9, s9, b9, f9⟩ := st109 Rq.zv D2
            refine WL.store rfl rfl rfl s9 ?_
            first | refine WL.assign rfl rfl rfl ?_
            refine WL.done ?_
            refine EW.on ?_
            refine EW.ret ?_
            refine pr_then ?_
            exact EW.returnsCT Tryd.results50 rfl rfl b9 Tryd.underlying109 rfl (i109 _) (.inl ⟨by unfold okP; rw [decide_eq_false (by rw [eN, eA]; omega)]; rfl, rfl, LL.trans (f9.below (fun k hk e => by have e' : k = q2 := e; omega) LL.size)⟩)
          · have ya : ¬ (n5.toNat : Int) < 1 := by omega
            have yb : ¬ (64 : Int) < (n5.toNat : Int) := by omega
            have yc : ¬ (n5.toNat : Int) ≤ (n6.toNat : Int) := by omega
            refine EW.region ?_
            first | refine WL.field rfl rfl rfl (g109_1 _ _) ?_ | refine WL.skip _ rfl rfl rfl ?_
            first | refine WL.load rfl rfl rfl (ldI D4 (show (Rq.mk (pI c) n5.toNat n6.toNat (pS c) u).cs[1]? = _ from rfl)) ?_ | refine WL.load rfl rfl rfl (ldI D4 (show (Rq.mk (pI c) n5.toNat n6.toNat (pS c) u).cs[2]? = _ from rfl)) ?_ | refine WL.skip _ rfl rfl rfl ?_
            first | refine WL.bin rfl rfl rfl rfl (int_lt_t ‹_› _ _ _) ?_ | refine WL.bin rfl rfl rfl rfl (int_lt_f ‹_› _ _ _) ?_ | refine WL.bin rfl rfl rfl rfl (int_lt_d _ _ _ _ _) ?_
            first | refine WL.move rfl rfl rfl ?_
            first | refine WL.field rfl rfl rfl (g109_1 _ _) ?_ | refine WL.skip _ rfl rfl rfl ?_
            first | refine WL.load rfl rfl rfl (ldI D4 (show (Rq.mk (pI c) n5.toNat n6.toNat (pS c) u).cs[1]? = _ from rfl)) ?_ | refine WL.load rfl rfl rfl (ldI D4 (show (Rq.mk (pI c) n5.toNat n6.toNat (pS c) u).cs[2]? = _ from rfl)) ?_ | refine WL.skip _ rfl rfl rfl ?_
            first | refine WL.bin rfl rfl rfl rfl (int_gt_t ‹_› _ _ _) ?_ | refine WL.bin rfl rfl rfl rfl (int_gt_f ‹_› _ _ _) ?_ | refine WL.bin rfl rfl rfl rfl (int_gt_d _ _ _ _ _) ?_ | refine WL.skip _ rfl rfl rfl ?_
            first | refine WL.pick rfl rfl rfl rfl ?_
            first | refine WL.move rfl rfl rfl ?_
            first | refine WL.field rfl rfl rfl (g109_2 _ _) ?_ | refine WL.skip _ rfl rfl rfl ?_
            first | refine WL.load rfl rfl rfl (ldI D4 (show (Rq.mk (pI c) n5.toNat n6.toNat (pS c) u).cs[1]? = _ from rfl)) ?_ | refine WL.load rfl rfl rfl (ldI D4 (show (Rq.mk (pI c) n5.toNat n6.toNat (pS c) u).cs[2]? = _ from rfl)) ?_ | refine WL.skip _ rfl rfl rfl ?_
            first | refine WL.field rfl rfl rfl (g109_1 _ _) ?_ | refine WL.skip _ rfl rfl rfl ?_
            first | refine WL.load rfl rfl rfl (ldI D4 (show (Rq.mk (pI c) n5.toNat n6.toNat (pS c) u).cs[1]? = _ from rfl)) ?_ | refine WL.load rfl rfl rfl (ldI D4 (show (Rq.mk (pI c) n5.toNat n6.toNat (pS c) u).cs[2]? = _ from rfl)) ?_ | refine WL.skip _ rfl rfl rfl ?_
            first | refine WL.bin rfl rfl rfl rfl (int_ge_t ‹_› _ _ _) ?_ | refine WL.bin rfl rfl rfl rfl (int_ge_f ‹_› _ _ _) ?_ | refine WL.bin rfl rfl rfl rfl (int_ge_d _ _ _ _ _) ?_ | refine WL.skip _ rfl rfl rfl ?_
            first | refine WL.pick rfl rfl rfl rfl ?_
            refine WL.done ?_
            refine EW.on ?_
            refine EW.cond_f rfl ?_
            refine EW.skip ?_
            refine EW.on ?_
            refine EW.seq ?_
            refine EW.seq ?_
            have s1 : IntKind.i64.wrap ((n5.toNat : Int) - 1) = ((n5.toNat - 1 : Nat) : Int) := by rw [IntKind.wrap_i64]; omega
            rcases (show (n6.toNat + 1 < n5.toNat ∧ ¬ (pC c).length = 497) ∨ (n6.toNat + 1 < n5.toNat ∧ (pC c).length = 497) ∨ (¬ n6.toNat + 1 < n5.toNat ∧ 1 < n5.toNat ∧ (pC c).length = 0) ∨ (¬ n6.toNat + 1 < n5.toNat ∧ 1 < n5.toNat ∧ 0 < (pC c).length) ∨ (¬ n6.toNat + 1 < n5.toNat ∧ ¬ 1 < n5.toNat) by omega) with ⟨hF, hG⟩ | ⟨hF, hG⟩ | ⟨hF, hG, hH⟩ | ⟨hF, hG, hH⟩ | ⟨hF, hG⟩
            · have za : (n6.toNat : Int) < ((n5.toNat - 1 : Nat) : Int) := by omega
              have zb : ¬ ((pC c).length : Int) = 497 := by omega
              refine EW.region ?_
              first | refine WL.field rfl rfl rfl (g109_2 _ _) ?_ | refine WL.skip _ rfl rfl rfl ?_
              first | refine WL.load rfl rfl rfl (ldI D4 (show (Rq.mk (pI c) n5.toNat n6.toNat (pS c) u).cs[1]? = _ from rfl)) ?_ | refine WL.load rfl rfl rfl (ldI D4 (show (Rq.mk (pI c) n5.toNat n6.toNat (pS c) u).cs[2]? = _ from rfl)) ?_ | refine WL.skip _ rfl rfl rfl ?_
              first | refine WL.field rfl rfl rfl (g109_1 _ _) ?_ | refine WL.skip _ rfl rfl rfl ?_
              first | refine WL.load rfl rfl rfl (ldI D4 (show (Rq.mk (pI c) n5.toNat n6.toNat (pS c) u).cs[1]? = _ from rfl)) ?_ | refine WL.load rfl rfl rfl (ldI D4 (show (Rq.mk (pI c) n5.toNat n6.toNat (pS c) u).cs[2]? = _ from rfl)) ?_ | refine WL.skip _ rfl rfl rfl ?_
              first | refine WL.bin rfl rfl rfl rfl (int_sub ‹_› _ _ _) ?_
              first | refine WL.bin rfl rfl rfl rfl (int_lt_t ‹_› _ _ _) ?_ | refine WL.bin rfl rfl rfl rfl (int_lt_f ‹_› _ _ _) ?_ | refine WL.bin rfl rfl rfl rfl (int_lt_d _ _ _ _ _) ?_
              first | refine WL.move rfl rfl rfl ?_
              first | refine WL.field rfl rfl rfl (g109_4 _ _) ?_ | refine WL.skip _ rfl rfl rfl ?_
              first | refine WL.load rfl rfl rfl (ldS D4 (show (Rq.mk (pI c) n5.toNat n6.toNat (pS c) u).cs[4]? = _ from rfl)) ?_ | refine WL.skip _ rfl rfl rfl ?_
              try rw [hue]
              first | refine WL.len rfl rfl rfl (len24 _ _ _ _ _) ?_ | refine WL.skip _ rfl rfl rfl ?_
              try rw [← hue]
              first | refine WL.bin rfl rfl rfl rfl (int_ne_f rfl _ _ _) ?_ | refine WL.bin rfl rfl rfl rfl (int_ne_t ‹_› _ _ _) ?_ | refine WL.bin rfl rfl rfl rfl (int_ne_f ‹_› _ _ _) ?_ | refine WL.bin rfl rfl rfl rfl (int_ne_t (by decide) _ _ _) ?_ | refine WL.bin rfl rfl rfl rfl (int_ne_d _ _ _ _ _) ?_ | refine WL.skip _ rfl rfl rfl ?_
              first | refine WL.pick rfl rfl rfl rfl ?_
              first | refine WL.move rfl rfl rfl ?_
              first | refine WL.field rfl rfl rfl (g109_1 _ _) ?_ | refine WL.skip _ rfl rfl rfl ?_
              first | refine WL.load rfl rfl rfl (ldI D4 (show (Rq.mk (pI c) n5.toNat n6.toNat (pS c) u).cs[1]? = _ from rfl)) ?_ | refine WL.load rfl rfl rfl (ldI D4 (show (Rq.mk (pI c) n5.toNat n6.toNat (pS c) u).cs[2]? = _ from rfl)) ?_ | refine WL.skip _ rfl rfl rfl ?_
              first | refine WL.bin rfl rfl rfl rfl (int_gt_t ‹_› _ _ _) ?_ | refine WL.bin rfl rfl rfl rfl (int_gt_f ‹_› _ _ _) ?_ | refine WL.bin rfl rfl rfl rfl (int_gt_d _ _ _ _ _) ?_ | refine WL.skip _ rfl rfl rfl ?_
              first | refine WL.move rfl rfl rfl ?_ | refine WL.skip _ rfl rfl rfl ?_
              first | refine WL.field rfl rfl rfl (g109_4 _ _) ?_ | refine WL.skip _ rfl rfl rfl ?_
              first | refine WL.load rfl rfl rfl (ldS D4 (show (Rq.mk (pI c) n5.toNat n6.toNat (pS c) u).cs[4]? = _ from rfl)) ?_ | refine WL.skip _ rfl rfl rfl ?_
              try rw [hue]
              first | refine WL.len rfl rfl rfl (len24 _ _ _ _ _) ?_ | refine WL.skip _ rfl rfl rfl ?_
              try rw [← hue]
              first | refine WL.bin rfl rfl rfl rfl (int_eq_t rfl _ _ _) ?_ | refine WL.bin rfl rfl rfl rfl (int_eq_t ‹_› _ _ _) ?_ | refine WL.bin rfl rfl rfl rfl (int_eq_f ‹_› _ _ _) ?_ | refine WL.bin rfl rfl rfl rfl (int_eq_d _ _ _ _ _) ?_ | refine WL.skip _ rfl rfl rfl ?_
              first | refine WL.pick rfl rfl rfl rfl ?_ | refine WL.skip _ rfl rfl rfl ?_
              first | refine WL.pick rfl rfl rfl rfl ?_
              refine WL.done ?_
              refine EW.on ?_
              refine EW.cond_t rfl ?_
              refine EW.seq ?_
              refine EW.region ?_
              refine WL.build0 rfl rfl (bd109 _) ?_
              obtain ⟨w9, s9, b9, f9⟩ := st109 Rq.zv D2
              refine WL.store rfl rfl rfl s9 ?_
              first | refine WL.assign rfl rfl rfl ?_
              refine WL.done ?_
              refine EW.on ?_
              refine EW.ret ?_
              refine pr_then ?_
              exact EW.returnsCT Tryd.results50 rfl rfl b9 Tryd.underlying109 rfl (i109 _) (.inl ⟨by unfold okP; rw [show fitB (pN c) (pA c) (c.length - 15) = false by unfold fitB; rw [eN, eA]; rw [if_pos (by omega)]; exact decide_eq_false (by omega), Bool.and_false], rfl, LL.trans (f9.below (fun k hk e => by have e' : k = q2 := e; omega) LL.size)⟩)
            · have za : (n6.toNat : Int) < ((n5.toNat - 1 : Nat) : Int) := by omega
              have zb : ((pC c).length : Int) = 497 := by omega
              have zc : (1 : Int) < (n5.toNat : Int) := by omega
              have zd : ¬ ((pC c).length : Int) = 0 := by omega
              refine EW.region ?_
              first | refine WL.field rfl rfl rfl (g109_2 _ _) ?_ | refine WL.skip _ rfl rfl rfl ?_
              first | refine WL.load rfl rfl rfl (ldI D4 (show (Rq.mk (pI c) n5.toNat n6.toNat (pS c) u).cs[1]? = _ from rfl)) ?_ | refine WL.load rfl rfl rfl (ldI D4 (show (Rq.mk (pI c) n5.toNat n6.toNat (pS c) u).cs[2]? = _ from rfl)) ?_ | refine WL.skip _ rfl rfl rfl ?_
              first | refine WL.field rfl rfl rfl (g109_1 _ _) ?_ | refine WL.skip _ rfl rfl rfl ?_
              first | refine WL.load rfl rfl rfl (ldI D4 (show (Rq.mk (pI c) n5.toNat n6.toNat (pS c) u).cs[1]? = _ from rfl)) ?_ | refine WL.load rfl rfl rfl (ldI D4 (show (Rq.mk (pI c) n5.toNat n6.toNat (pS c) u).cs[2]? = _ from rfl)) ?_ | refine WL.skip _ rfl rfl rfl ?_
              first | refine WL.bin rfl rfl rfl rfl (int_sub ‹_› _ _ _) ?_
              first | refine WL.bin rfl rfl rfl rfl (int_lt_t ‹_› _ _ _) ?_ | refine WL.bin rfl rfl rfl rfl (int_lt_f ‹_› _ _ _) ?_ | refine WL.bin rfl rfl rfl rfl (int_lt_d _ _ _ _ _) ?_
              first | refine WL.move rfl rfl rfl ?_
              first | refine WL.field rfl rfl rfl (g109_4 _ _) ?_ | refine WL.skip _ rfl rfl rfl ?_
              first | refine WL.load rfl rfl rfl (ldS D4 (show (Rq.mk (pI c) n5.toNat n6.toNat (pS c) u).cs[4]? = _ from rfl)) ?_ | refine WL.skip _ rfl rfl rfl ?_
              try rw [hue]
              first | refine WL.len rfl rfl rfl (len24 _ _ _ _ _) ?_ | refine WL.skip _ rfl rfl rfl ?_
              try rw [← hue]
              first | refine WL.bin rfl rfl rfl rfl (int_ne_f rfl _ _ _) ?_ | refine WL.bin rfl rfl rfl rfl (int_ne_t ‹_› _ _ _) ?_ | refine WL.bin rfl rfl rfl rfl (int_ne_f ‹_› _ _ _) ?_ | refine WL.bin rfl rfl rfl rfl (int_ne_t (by decide) _ _ _) ?_ | refine WL.bin rfl rfl rfl rfl (int_ne_d _ _ _ _ _) ?_ | refine WL.skip _ rfl rfl rfl ?_
              first | refine WL.pick rfl rfl rfl rfl ?_
              first | refine WL.move rfl rfl rfl ?_
              first | refine WL.field rfl rfl rfl (g109_1 _ _) ?_ | refine WL.skip _ rfl rfl rfl ?_
              first | refine WL.load rfl rfl rfl (ldI D4 (show (Rq.mk (pI c) n5.toNat n6.toNat (pS c) u).cs[1]? = _ from rfl)) ?_ | refine WL.load rfl rfl rfl (ldI D4 (show (Rq.mk (pI c) n5.toNat n6.toNat (pS c) u).cs[2]? = _ from rfl)) ?_ | refine WL.skip _ rfl rfl rfl ?_
              first | refine WL.bin rfl rfl rfl rfl (int_gt_t ‹_› _ _ _) ?_ | refine WL.bin rfl rfl rfl rfl (int_gt_f ‹_› _ _ _) ?_ | refine WL.bin rfl rfl rfl rfl (int_gt_d _ _ _ _ _) ?_ | refine WL.skip _ rfl rfl rfl ?_
              first | refine WL.move rfl rfl rfl ?_ | refine WL.skip _ rfl rfl rfl ?_
              first | refine WL.field rfl rfl rfl (g109_4 _ _) ?_ | refine WL.skip _ rfl rfl rfl ?_
              first | refine WL.load rfl rfl rfl (ldS D4 (show (Rq.mk (pI c) n5.toNat n6.toNat (pS c) u).cs[4]? = _ from rfl)) ?_ | refine WL.skip _ rfl rfl rfl ?_
              try rw [hue]
              first | refine WL.len rfl rfl rfl (len24 _ _ _ _ _) ?_ | refine WL.skip _ rfl rfl rfl ?_
              try rw [← hue]
              first | refine WL.bin rfl rfl rfl rfl (int_eq_t rfl _ _ _) ?_ | refine WL.bin rfl rfl rfl rfl (int_eq_t ‹_› _ _ _) ?_ | refine WL.bin rfl rfl rfl rfl (int_eq_f ‹_› _ _ _) ?_ | refine WL.bin rfl rfl rfl rfl (int_eq_d _ _ _ _ _) ?_ | refine WL.skip _ rfl rfl rfl ?_
              first | refine WL.pick rfl rfl rfl rfl ?_ | refine WL.skip _ rfl rfl rfl ?_
              first | refine WL.pick rfl rfl rfl rfl ?_
              refine WL.done ?_
              refine EW.on ?_
              refine EW.cond_f rfl ?_
              refine EW.skip ?_
              refine EW.on ?_
              refine EW.seq ?_
              refine EW.region ?_
              refine WL.load rfl rfl rfl (ld109 D4) ?_
              obtain ⟨w9, s9, b9, f9⟩ := st109 (p := Rq.mk (pI c) n5.toNat n6.toNat (pS c) u) husl D2
              refine WL.store rfl rfl rfl s9 ?_
              first | refine WL.assign rfl rfl rfl ?_
              refine WL.done ?_
              refine EW.on ?_
              refine EW.ret ?_
              exact EW.returnsCT Tryd.results50 rfl rfl b9 Tryd.underlying109 rfl (i109 _) (.inr ⟨by unfold okP; rw [show fitB (pN c) (pA c) (c.length - 15) = true by unfold fitB; rw [eN, eA]; rw [if_pos (by omega)]; exact decide_eq_true (by omega), Bool.and_true]; exact decide_eq_true ⟨by omega, by omega, by rw [eM]; exact hM5, by omega, by omega, by omega⟩, u, by rw [eN, eA]; rfl, ((OU.ob.fx f9 (fun k hk e => by have e' : k = q2 := hk; have := OU.ob.base k e; have := b2.lt; omega)).lower l1.size), LL.trans (f9.below (fun k hk e => by have e' : k = q2 := e; omega) LL.size)⟩)
            · have za : ¬ (n6.toNat : Int) < ((n5.toNat - 1 : Nat) : Int) := by omega
              have zc : (1 : Int) < (n5.toNat : Int) := by omega
              have zd : ((pC c).length : Int) = 0 := by omega
              refine EW.region ?_
              first | refine WL.field rfl rfl rfl (g109_2 _ _) ?_ | refine WL.skip _ rfl rfl rfl ?_
              first | refine WL.load rfl rfl rfl (ldI D4 (show (Rq.mk (pI c) n5.toNat n6.toNat (pS c) u).cs[1]? = _ from rfl)) ?_ | refine WL.load rfl rfl rfl (ldI D4 (show (Rq.mk (pI c) n5.toNat n6.toNat (pS c) u).cs[2]? = _ from rfl)) ?_ | refine WL.skip _ rfl rfl rfl ?_
              first | refine WL.field rfl rfl rfl (g109_1 _ _) ?_ | refine WL.skip _ rfl rfl rfl ?_
              first | refine WL.load rfl rfl rfl (ldI D4 (show (Rq.mk (pI c) n5.toNat n6.toNat (pS c) u).cs[1]? = _ from rfl)) ?_ | refine WL.load rfl rfl rfl (ldI D4 (show (Rq.mk (pI c) n5.toNat n6.toNat (pS c) u).cs[2]? = _ from rfl)) ?_ | refine WL.skip _ rfl rfl rfl ?_
              first | refine WL.bin rfl rfl rfl rfl (int_sub ‹_› _ _ _) ?_
              first | refine WL.bin rfl rfl rfl rfl (int_lt_t ‹_› _ _ _) ?_ | refine WL.bin rfl rfl rfl rfl (int_lt_f ‹_› _ _ _) ?_ | refine WL.bin rfl rfl rfl rfl (int_lt_d _ _ _ _ _) ?_
              first | refine WL.move rfl rfl rfl ?_
              first | refine WL.field rfl rfl rfl (g109_4 _ _) ?_ | refine WL.skip _ rfl rfl rfl ?_
              first | refine WL.load rfl rfl rfl (ldS D4 (show (Rq.mk (pI c) n5.toNat n6.toNat (pS c) u).cs[4]? = _ from rfl)) ?_ | refine WL.skip _ rfl rfl rfl ?_
              try rw [hue]
              first | refine WL.len rfl rfl rfl (len24 _ _ _ _ _) ?_ | refine WL.skip _ rfl rfl rfl ?_
              try rw [← hue]
              first | refine WL.bin rfl rfl rfl rfl (int_ne_f rfl _ _ _) ?_ | refine WL.bin rfl rfl rfl rfl (int_ne_t ‹_› _ _ _) ?_ | refine WL.bin rfl rfl rfl rfl (int_ne_f ‹_› _ _ _) ?_ | refine WL.bin rfl rfl rfl rfl (int_ne_t (by decide) _ _ _) ?_ | refine WL.bin rfl rfl rfl rfl (int_ne_d _ _ _ _ _) ?_ | refine WL.skip _ rfl rfl rfl ?_
              first | refine WL.pick rfl rfl rfl rfl ?_
              first | refine WL.move rfl rfl rfl ?_
              first | refine WL.field rfl rfl rfl (g109_1 _ _) ?_ | refine WL.skip _ rfl rfl rfl ?_
              first | refine WL.load rfl rfl rfl (ldI D4 (show (Rq.mk (pI c) n5.toNat n6.toNat (pS c) u).cs[1]? = _ from rfl)) ?_ | refine WL.load rfl rfl rfl (ldI D4 (show (Rq.mk (pI c) n5.toNat n6.toNat (pS c) u).cs[2]? = _ from rfl)) ?_ | refine WL.skip _ rfl rfl rfl ?_
              first | refine WL.bin rfl rfl rfl rfl (int_gt_t ‹_› _ _ _) ?_ | refine WL.bin rfl rfl rfl rfl (int_gt_f ‹_› _ _ _) ?_ | refine WL.bin rfl rfl rfl rfl (int_gt_d _ _ _ _ _) ?_ | refine WL.skip _ rfl rfl rfl ?_
              first | refine WL.move rfl rfl rfl ?_ | refine WL.skip _ rfl rfl rfl ?_
              first | refine WL.field rfl rfl rfl (g109_4 _ _) ?_ | refine WL.skip _ rfl rfl rfl ?_
              first | refine WL.load rfl rfl rfl (ldS D4 (show (Rq.mk (pI c) n5.toNat n6.toNat (pS c) u).cs[4]? = _ from rfl)) ?_ | refine WL.skip _ rfl rfl rfl ?_
              try rw [hue]
              first | refine WL.len rfl rfl rfl (len24 _ _ _ _ _) ?_ | refine WL.skip _ rfl rfl rfl ?_
              try rw [← hue]
              first | refine WL.bin rfl rfl rfl rfl (int_eq_t rfl _ _ _) ?_ | refine WL.bin rfl rfl rfl rfl (int_eq_t ‹_› _ _ _) ?_ | refine WL.bin rfl rfl rfl rfl (int_eq_f ‹_› _ _ _) ?_ | refine WL.bin rfl rfl rfl rfl (int_eq_d _ _ _ _ _) ?_ | refine WL.skip _ rfl rfl rfl ?_
              first | refine WL.pick rfl rfl rfl rfl ?_ | refine WL.skip _ rfl rfl rfl ?_
              first | refine WL.pick rfl rfl rfl rfl ?_
              refine WL.done ?_
              refine EW.on ?_
              refine EW.cond_t rfl ?_
              refine EW.seq ?_
              refine EW.region ?_
              refine WL.build0 rfl rfl (bd109 _) ?_
              obtain ⟨w9, s9, b9, f9⟩ := st109 Rq.zv D2
              refine WL.store rfl rfl rfl s9 ?_
              first | refine WL.assign rfl rfl rfl ?_
              refine WL.done ?_
              refine EW.on ?_
              refine EW.ret ?_
              refine pr_then ?_
              exact EW.returnsCT Tryd.results50 rfl rfl b9 Tryd.underlying109 rfl (i109 _) (.inl ⟨by unfold okP; rw [show fitB (pN c) (pA c) (c.length - 15) = false by unfold fitB; rw [eN, eA]; rw [if_neg (by omega), if_pos (by omega)]; exact decide_eq_false (by omega), Bool.and_false], rfl, LL.trans (f9.below (fun k hk e => by have e' : k = q2 := e; omega) LL.size)⟩)
            · have za : ¬ (n6.toNat : Int) < ((n5.toNat - 1 : Nat) : Int) := by omega
              have zc : (1 : Int) < (n5.toNat : Int) := by omega
              have zd : ¬ ((pC c).length : Int) = 0 := by omega
              refine EW.region ?_
              first | refine WL.field rfl rfl rfl (g109_2 _ _) ?_ | refine WL.skip _ rfl rfl rfl ?_
              first | refine WL.load rfl rfl rfl (ldI D4 (show (Rq.mk (pI c) n5.toNat n6.toNat (pS c) u).cs[1]? = _ from rfl)) ?_ | refine WL.load rfl rfl rfl (ldI D4 (show (Rq.mk (pI c) n5.toNat n6.toNat (pS c) u).cs[2]? = _ from rfl)) ?_ | refine WL.skip _ rfl rfl rfl ?_
              first | refine WL.field rfl rfl rfl (g109_1 _ _) ?_ | refine WL.skip _ rfl rfl rfl ?_
              first | refine WL.load rfl rfl rfl (ldI D4 (show (Rq.mk (pI c) n5.toNat n6.toNat (pS c) u).cs[1]? = _ from rfl)) ?_ | refine WL.load rfl rfl rfl (ldI D4 (show (Rq.mk (pI c) n5.toNat n6.toNat (pS c) u).cs[2]? = _ from rfl)) ?_ | refine WL.skip _ rfl rfl rfl ?_
              first | refine WL.bin rfl rfl rfl rfl (int_sub ‹_› _ _ _) ?_
              first | refine WL.bin rfl rfl rfl rfl (int_lt_t ‹_› _ _ _) ?_ | refine WL.bin rfl rfl rfl rfl (int_lt_f ‹_› _ _ _) ?_ | refine WL.bin rfl rfl rfl rfl (int_lt_d _ _ _ _ _) ?_
              first | refine WL.move rfl rfl rfl ?_
              first | refine WL.field rfl rfl rfl (g109_4 _ _) ?_ | refine WL.skip _ rfl rfl rfl ?_
              first | refine WL.load rfl rfl rfl (ldS D4 (show (Rq.mk (pI c) n5.toNat n6.toNat (pS c) u).cs[4]? = _ from rfl)) ?_ | refine WL.skip _ rfl rfl rfl ?_
              try rw [hue]
              first | refine WL.len rfl rfl rfl (len24 _ _ _ _ _) ?_ | refine WL.skip _ rfl rfl rfl ?_
              try rw [← hue]
              first | refine WL.bin rfl rfl rfl rfl (int_ne_f rfl _ _ _) ?_ | refine WL.bin rfl rfl rfl rfl (int_ne_t ‹_› _ _ _) ?_ | refine WL.bin rfl rfl rfl rfl (int_ne_f ‹_› _ _ _) ?_ | refine WL.bin rfl rfl rfl rfl (int_ne_t (by decide) _ _ _) ?_ | refine WL.bin rfl rfl rfl rfl (int_ne_d _ _ _ _ _) ?_ | refine WL.skip _ rfl rfl rfl ?_
              first | refine WL.pick rfl rfl rfl rfl ?_
              first | refine WL.move rfl rfl rfl ?_
              first | refine WL.field rfl rfl rfl (g109_1 _ _) ?_ | refine WL.skip _ rfl rfl rfl ?_
              first | refine WL.load rfl rfl rfl (ldI D4 (show (Rq.mk (pI c) n5.toNat n6.toNat (pS c) u).cs[1]? = _ from rfl)) ?_ | refine WL.load rfl rfl rfl (ldI D4 (show (Rq.mk (pI c) n5.toNat n6.toNat (pS c) u).cs[2]? = _ from rfl)) ?_ | refine WL.skip _ rfl rfl rfl ?_
              first | refine WL.bin rfl rfl rfl rfl (int_gt_t ‹_› _ _ _) ?_ | refine WL.bin rfl rfl rfl rfl (int_gt_f ‹_› _ _ _) ?_ | refine WL.bin rfl rfl rfl rfl (int_gt_d _ _ _ _ _) ?_ | refine WL.skip _ rfl rfl rfl ?_
              first | refine WL.move rfl rfl rfl ?_ | refine WL.skip _ rfl rfl rfl ?_
              first | refine WL.field rfl rfl rfl (g109_4 _ _) ?_ | refine WL.skip _ rfl rfl rfl ?_
              first | refine WL.load rfl rfl rfl (ldS D4 (show (Rq.mk (pI c) n5.toNat n6.toNat (pS c) u).cs[4]? = _ from rfl)) ?_ | refine WL.skip _ rfl rfl rfl ?_
              try rw [hue]
              first | refine WL.len rfl rfl rfl (len24 _ _ _ _ _) ?_ | refine WL.skip _ rfl rfl rfl ?_
              try rw [← hue]
              first | refine WL.bin rfl rfl rfl rfl (int_eq_t rfl _ _ _) ?_ | refine WL.bin rfl rfl rfl rfl (int_eq_t ‹_› _ _ _) ?_ | refine WL.bin rfl rfl rfl rfl (int_eq_f ‹_› _ _ _) ?_ | refine WL.bin rfl rfl rfl rfl (int_eq_d _ _ _ _ _) ?_ | refine WL.skip _ rfl rfl rfl ?_
              first | refine WL.pick rfl rfl rfl rfl ?_ | refine WL.skip _ rfl rfl rfl ?_
              first | refine WL.pick rfl rfl rfl rfl ?_
              refine WL.done ?_
              refine EW.on ?_
              refine EW.cond_f rfl ?_
              refine EW.skip ?_
              refine EW.on ?_
              refine EW.seq ?_
              refine EW.region ?_
              refine WL.load rfl rfl rfl (ld109 D4) ?_
              obtain ⟨w9, s9, b9, f9⟩ := st109 (p := Rq.mk (pI c) n5.toNat n6.toNat (pS c) u) husl D2
              refine WL.store rfl rfl rfl s9 ?_
              first | refine WL.assign rfl rfl rfl ?_
              refine WL.done ?_
              refine EW.on ?_
              refine EW.ret ?_
              exact EW.returnsCT Tryd.results50 rfl rfl b9 Tryd.underlying109 rfl (i109 _) (.inr ⟨by unfold okP; rw [show fitB (pN c) (pA c) (c.length - 15) = true by unfold fitB; rw [eN, eA]; rw [if_neg (by omega), if_pos (by omega)]; exact decide_eq_true (by omega), Bool.and_true]; exact decide_eq_true ⟨by omega, by omega, by rw [eM]; exact hM5, by omega, by omega, by omega⟩, u, by rw [eN, eA]; rfl, ((OU.ob.fx f9 (fun k hk e => by have e' : k = q2 := hk; have := OU.ob.base k e; have := b2.lt; omega)).lower l1.size), LL.trans (f9.below (fun k hk e => by have e' : k = q2 := e; omega) LL.size)⟩)
            · have za : ¬ (n6.toNat : Int) < ((n5.toNat - 1 : Nat) : Int) := by omega
              have zc : ¬ (1 : Int) < (n5.toNat : Int) := by omega
              refine EW.region ?_
              first | refine WL.field rfl rfl rfl (g109_2 _ _) ?_ | refine WL.skip _ rfl rfl rfl ?_
              first | refine WL.load rfl rfl rfl (ldI D4 (show (Rq.mk (pI c) n5.toNat n6.toNat (pS c) u).cs[1]? = _ from rfl)) ?_ | refine WL.load rfl rfl rfl (ldI D4 (show (Rq.mk (pI c) n5.toNat n6.toNat (pS c) u).cs[2]? = _ from rfl)) ?_ | refine WL.skip _ rfl rfl rfl ?_
              first | refine WL.field rfl rfl rfl (g109_1 _ _) ?_ | refine WL.skip _ rfl rfl rfl ?_
              first | refine WL.load rfl rfl rfl (ldI D4 (show (Rq.mk (pI c) n5.toNat n6.toNat (pS c) u).cs[1]? = _ from rfl)) ?_ | refine WL.load rfl rfl rfl (ldI D4 (show (Rq.mk (pI c) n5.toNat n6.toNat (pS c) u).cs[2]? = _ from rfl)) ?_ | refine WL.skip _ rfl rfl rfl ?_
              first | refine WL.bin rfl rfl rfl rfl (int_sub ‹_› _ _ _) ?_
              first | refine WL.bin rfl rfl rfl rfl (int_lt_t ‹_› _ _ _) ?_ | refine WL.bin rfl rfl rfl rfl (int_lt_f ‹_› _ _ _) ?_ | refine WL.bin rfl rfl rfl rfl (int_lt_d _ _ _ _ _) ?_
              first | refine WL.move rfl rfl rfl ?_
              first | refine WL.field rfl rfl rfl (g109_4 _ _) ?_ | refine WL.skip _ rfl rfl rfl ?_
              first | refine WL.load rfl rfl rfl (ldS D4 (show (Rq.mk (pI c) n5.toNat n6.toNat (pS c) u).cs[4]? = _ from rfl)) ?_ | refine WL.skip _ rfl rfl rfl ?_
              try rw [hue]
              first | refine WL.len rfl rfl rfl (len24 _ _ _ _ _) ?_ | refine WL.skip _ rfl rfl rfl ?_
              try rw [← hue]
              first | refine WL.bin rfl rfl rfl rfl (int_ne_f rfl _ _ _) ?_ | refine WL.bin rfl rfl rfl rfl (int_ne_t ‹_› _ _ _) ?_ | refine WL.bin rfl rfl rfl rfl (int_ne_f ‹_› _ _ _) ?_ | refine WL.bin rfl rfl rfl rfl (int_ne_t (by decide) _ _ _) ?_ | refine WL.bin rfl rfl rfl rfl (int_ne_d _ _ _ _ _) ?_ | refine WL.skip _ rfl rfl rfl ?_
              first | refine WL.pick rfl rfl rfl rfl ?_
              first | refine WL.move rfl rfl rfl ?_
              first | refine WL.field rfl rfl rfl (g109_1 _ _) ?_ | refine WL.skip _ rfl rfl rfl ?_
              first | refine WL.load rfl rfl rfl (ldI D4 (show (Rq.mk (pI c) n5.toNat n6.toNat (pS c) u).cs[1]? = _ from rfl)) ?_ | refine WL.load rfl rfl rfl (ldI D4 (show (Rq.mk (pI c) n5.toNat n6.toNat (pS c) u).cs[2]? = _ from rfl)) ?_ | refine WL.skip _ rfl rfl rfl ?_
              first | refine WL.bin rfl rfl rfl rfl (int_gt_t ‹_› _ _ _) ?_ | refine WL.bin rfl rfl rfl rfl (int_gt_f ‹_› _ _ _) ?_ | refine WL.bin rfl rfl rfl rfl (int_gt_d _ _ _ _ _) ?_ | refine WL.skip _ rfl rfl rfl ?_
              first | refine WL.move rfl rfl rfl ?_ | refine WL.skip _ rfl rfl rfl ?_
              first | refine WL.field rfl rfl rfl (g109_4 _ _) ?_ | refine WL.skip _ rfl rfl rfl ?_
              first | refine WL.load rfl rfl rfl (ldS D4 (show (Rq.mk (pI c) n5.toNat n6.toNat (pS c) u).cs[4]? = _ from rfl)) ?_ | refine WL.skip _ rfl rfl rfl ?_
              try rw [hue]
              first | refine WL.len rfl rfl rfl (len24 _ _ _ _ _) ?_ | refine WL.skip _ rfl rfl rfl ?_
              try rw [← hue]
              first | refine WL.bin rfl rfl rfl rfl (int_eq_t rfl _ _ _) ?_ | refine WL.bin rfl rfl rfl rfl (int_eq_t ‹_› _ _ _) ?_ | refine WL.bin rfl rfl rfl rfl (int_eq_f ‹_› _ _ _) ?_ | refine WL.bin rfl rfl rfl rfl (int_eq_d _ _ _ _ _) ?_ | refine WL.skip _ rfl rfl rfl ?_
              first | refine WL.pick rfl rfl rfl rfl ?_ | refine WL.skip _ rfl rfl rfl ?_
              first | refine WL.pick rfl rfl rfl rfl ?_
              refine WL.done ?_
              refine EW.on ?_
              refine EW.cond_f rfl ?_
              refine EW.skip ?_
              refine EW.on ?_
              refine EW.seq ?_
              refine EW.region ?_
              refine WL.load rfl rfl rfl (ld109 D4) ?_
              obtain ⟨w9, s9, b9, f9⟩ := st109 (p := Rq.mk (pI c) n5.toNat n6.toNat (pS c) u) husl D2
              refine WL.store rfl rfl rfl s9 ?_
              first | refine WL.assign rfl rfl rfl ?_
              refine WL.done ?_
              refine EW.on ?_
              refine EW.ret ?_
              exact EW.returnsCT Tryd.results50 rfl rfl b9 Tryd.underlying109 rfl (i109 _) (.inr ⟨by unfold okP; rw [show fitB (pN c) (pA c) (c.length - 15) = true by unfold fitB; rw [eN, eA]; rw [if_neg (by omega), if_neg (by omega)], Bool.and_true]; exact decide_eq_true ⟨by omega, by omega, by rw [eM]; exact hM5, by omega, by omega, by omega⟩, u, by rw [eN, eA]; rfl, ((OU.ob.fx f9 (fun k hk e => by have e' : k = q2 := hk; have := OU.ob.base k e; have := b2.lt; omega)).lower l1.size), LL.trans (f9.below (fun k hk e => by have e' : k = q2 := e; omega) LL.size)⟩)
      · simp only [List.getD_cons_zero, List.getD_cons_succ]
        refine ZE.newR (fun v W => ∃ q8, v = .pointer (some ⟨q8, 0, none⟩) ∧ Blk W q8 Rq.z.cs 109 ∧ w1.heap.size ≤ q8 ∧ Below w1.heap.size w1 W) rfl rfl (fun _ _ h => .inr (by obtain ⟨_, _, _, _, h⟩ := h; exact h)) (fun W hW => ?_) ?_
        · have l := hW
          obtain ⟨W2, q, r, b, l2, hq⟩ := newB (cs := Rq.z.cs) zv109 W
          exact ⟨_, W2, r, q, rfl, b, by have := l.size; omega, bt l l2⟩
        rintro _ ⟨_, q4, rfl, _, hq4, _⟩
        refine AZ.seg [(33, 1, 1), (36, 1, 1), (37, 0, 0), (39, 1, 1)] 0 rfl (by kernel_rfl) (sq_anti _) (by kernel_rfl) ?_
        simp only [opsZ, List.getD_cons_zero, List.getD_cons_succ]
        refine ZE.bsl [] (fun v W => Own W w1.heap.size v [] ∧ Blk W q4 Rq.z.cs 109 ∧ Below w1.heap.size w1 W) rfl rfl rfl (fun _ _ h => .inr h.2.2) (fun W hW => ?_) ?_
        · obtain ⟨q, e, b, _, l⟩ := hW
          cases e
          have l0 := below_new W (.cells #[] 5)
          exact ⟨_, _, bsl22n W, (own0 W).lowerB l.size, b.on l0, bt l l0⟩
        rintro V0 _
        refine ZE.app (fun v W => Own W w1.heap.size v (pC c) ∧ Blk W q4 Rq.z.cs 109 ∧ Below w1.heap.size w1 W) rfl rfl rfl rfl (fun _ _ h => .inr h.2.2) (fun W hW => ?_) ?_
        · obtain ⟨ow, b, l⟩ := hW
          have hh := (hv1.below l).cut 15 c.length (by omega) (Nat.le_refl _)
          obtain ⟨v', w', p1, p2, p3, p4⟩ := ow.app hh (by simp; omega) l.size 24
          rw [List.nil_append] at p2
          exact ⟨v', w', p1, p2, b.fx p4 (fun e => ow.neB b (by decide) e), l.trans p3⟩
        rintro u ⟨Wu, ou, _⟩
        have husl : ∃ ao n c, u = Value.slice ao n c := ou.has.sl
        refine ZE.buildN [(0, u32v (pI c)), (1, .int .i64 (n5.toNat : Int)), (2, .int .i64 (n6.toNat : Int)), (3, sv (pS c)), (4, u)] rfl rfl rfl rfl sq0 (fun W => bd109s (pI c) n5.toNat n6.toNat (pS c) u husl W) ?_
        refine ZE.store (fun W => Blk W q4 (Rq.mk (pI c) n5.toNat n6.toNat (pS c) u).cs 109 ∧ Own W w1.heap.size u (pC c) ∧ Below w1.heap.size w1 W) rfl rfl rfl (fun _ h => .inr h.2.2) (fun W hW => ?_) ?_
        · obtain ⟨ow, b, l⟩ := hW
          obtain ⟨W2, s1, s2, s3⟩ := st109 (p := Rq.mk (pI c) n5.toNat n6.toNat (pS c) u) husl b
          exact ⟨W2, s1, s2, ow.ob.fxO s3 (fun e => ow.neB b (by decide) e), l.trans (s3.below (fun k hk e => by have e' : k = q4 := e; omega) l.size)⟩
        refine AZ.done (by kernel_rfl) ?_
        rintro w3 ⟨D4, OU, L3⟩
        have D2 := b2.on L3
        have LL := bt l1 L3
        obtain ⟨uo, ucp, hue⟩ := OU.has.slice
        have hul : (pC c).length = c.length - 15 := by unfold pC; simp
        refine EW.on ?_
        refine EW.seq ?_
        refine EW.seq ?_
        rcases (show n5.toNat < 1 ∨ (1 ≤ n5.toNat ∧ 64 < n5.toNat) ∨ (1 ≤ n5.toNat ∧ n5.toNat ≤ 64 ∧ n5.toNat ≤ n6.toNat) ∨ (1 ≤ n5.toNat ∧ n5.toNat ≤ 64 ∧ n6.toNat < n5.toNat) by omega) with hC | ⟨hC, hD⟩ | ⟨hC, hD, hE⟩ | ⟨hC, hD, hE⟩
        · have ya : (n5.toNat : Int) < 1 := by omega
          refine EW.region ?_
          first | refine WL.field rfl rfl rfl (g109_1 _ _) ?_ | refine WL.skip _ rfl rfl rfl ?_
          first | refine WL.load rfl rfl rfl (ldI D4 (show (Rq.mk (pI c) n5.toNat n6.toNat (pS c) u).cs[1]? = _ from rfl)) ?_ | refine WL.load rfl rfl rfl (ldI D4 (show (Rq.mk (pI c) n5.toNat n6.toNat (pS c) u).cs[2]? = _ from rfl)) ?_ | refine WL.skip _ rfl rfl rfl ?_
          first | refine WL.bin rfl rfl rfl rfl (int_lt_t ‹_› _ _ _) ?_ | refine WL.bin rfl rfl rfl rfl (int_lt_f ‹_› _ _ _) ?_ | refine WL.bin rfl rfl rfl rfl (int_lt_d _ _ _ _ _) ?_
          first | refine WL.move rfl rfl rfl ?_
          first | refine WL.field rfl rfl rfl (g109_1 _ _) ?_ | refine WL.skip _ rfl rfl rfl ?_
          first | refine WL.load rfl rfl rfl (ldI D4 (show (Rq.mk (pI c) n5.toNat n6.toNat (pS c) u).cs[1]? = _ from rfl)) ?_ | refine WL.load rfl rfl rfl (ldI D4 (show (Rq.mk (pI c) n5.toNat n6.toNat (pS c) u).cs[2]? = _ from rfl)) ?_ | refine WL.skip _ rfl rfl rfl ?_
          first | refine WL.bin rfl rfl rfl rfl (int_gt_t ‹_› _ _ _) ?_ | refine WL.bin rfl rfl rfl rfl (int_gt_f ‹_› _ _ _) ?_ | refine WL.bin rfl rfl rfl rfl (int_gt_d _ _ _ _ _) ?_ | refine WL.skip _ rfl rfl rfl ?_
          first | refine WL.pick rfl rfl rfl rfl ?_
          first | refine WL.move rfl rfl rfl ?_
          first | refine WL.field rfl rfl rfl (g109_2 _ _) ?_ | refine WL.skip _ rfl rfl rfl ?_
          first | refine WL.load rfl rfl rfl (ldI D4 (show (Rq.mk (pI c) n5.toNat n6.toNat (pS c) u).cs[1]? = _ from rfl)) ?_ | refine WL.load rfl rfl rfl (ldI D4 (show (Rq.mk (pI c) n5.toNat n6.toNat (pS c) u).cs[2]? = _ from rfl)) ?_ | refine WL.skip _ rfl rfl rfl ?_
          first | refine WL.field rfl rfl rfl (g109_1 _ _) ?_ | refine WL.skip _ rfl rfl rfl ?_
          first | refine WL.load rfl rfl rfl (ldI D4 (show (Rq.mk (pI c) n5.toNat n6.toNat (pS c) u).cs[1]? = _ from rfl)) ?_ | refine WL.load rfl rfl rfl (ldI D4 (show (Rq.mk (pI c) n5.toNat n6.toNat (pS c) u).cs[2]? = _ from rfl)) ?_ | refine WL.skip _ rfl rfl rfl ?_
          first | refine WL.bin rfl rfl rfl rfl (int_ge_t ‹_› _ _ _) ?_ | refine WL.bin rfl rfl rfl rfl (int_ge_f ‹_› _ _ _) ?_ | refine WL.bin rfl rfl rfl rfl (int_ge_d _ _ _ _ _) ?_ | refine WL.skip _ rfl rfl rfl ?_
          first | refine WL.pick rfl rfl rfl rfl ?_
          refine WL.done ?_
          refine EW.on ?_
          refine EW.cond_t rfl ?_
          refine EW.seq ?_
          refine EW.region ?_
          refine WL.build0 rfl rfl (bd109 _) ?_
          obtain ⟨w9, s9, b9, f9⟩ := st109 Rq.zv D2
          refine WL.store rfl rfl rfl s9 ?_
          first | refine WL.assign rfl rfl rfl ?_
          refine WL.done ?_
          refine EW.on ?_
          refine EW.ret ?_
          refine pr_then ?_
          exact EW.returnsCT Tryd.results50 rfl rfl b9 Tryd.underlying109 rfl (i109 _) (.inl ⟨by unfold okP; rw [decide_eq_false (by rw [eN, eA]; omega)]; rfl, rfl, LL.trans (f9.below (fun k hk e => by have e' : k = q2 := e; omega) LL.size)⟩)
        · have ya : ¬ (n5.toNat : Int) < 1 := by omega
          have yb : (64 : Int) < (n5.toNat : Int) := by omega
          refine EW.region ?_
          first | refine WL.field rfl rfl rfl (g109_1 _ _) ?_ | refine WL.skip _ rfl rfl rfl ?_
          first | refine WL.load rfl rfl rfl (ldI D4 (show (Rq.mk (pI c) n5.toNat n6.toNat (pS c) u).cs[1]? = _ from rfl)) ?_ | refine WL.load rfl rfl rfl (ldI D4 (show (Rq.mk (pI c) n5.toNat n6.toNat (pS c) u).cs[2]? = _ from rfl)) ?_ | refine WL.skip _ rfl rfl rfl ?_
          first | refine WL.bin rfl rfl rfl rfl (int_lt_t ‹_› _ _ _) ?_ | refine WL.bin rfl rfl rfl rfl (int_lt_f ‹_› _ _ _) ?_ | refine WL.bin rfl rfl rfl rfl (int_lt_d _ _ _ _ _) ?_
          first | refine WL.move rfl rfl rfl ?_
          first | refine WL.field rfl rfl rfl (g109_1 _ _) ?_ | refine WL.skip _ rfl rfl rfl ?_
          first | refine WL.load rfl rfl rfl (ldI D4 (show (Rq.mk (pI c) n5.toNat n6.toNat (pS c) u).cs[1]? = _ from rfl)) ?_ | refine WL.load rfl rfl rfl (ldI D4 (show (Rq.mk (pI c) n5.toNat n6.toNat (pS c) u).cs[2]? = _ from rfl)) ?_ | refine WL.skip _ rfl rfl rfl ?_
          first | refine WL.bin rfl rfl rfl rfl (int_gt_t ‹_› _ _ _) ?_ | refine WL.bin rfl rfl rfl rfl (int_gt_f ‹_› _ _ _) ?_ | refine WL.bin rfl rfl rfl rfl (int_gt_d _ _ _ _ _) ?_ | refine WL.skip _ rfl rfl rfl ?_
          first | refine WL.pick rfl rfl rfl rfl ?_
          first | refine WL.move rfl rfl rfl ?_
          first | refine WL.field rfl rfl rfl (g109_2 _ _) ?_ | refine WL.skip _ rfl rfl rfl ?_
          first | refine WL.load rfl rfl rfl (ldI D4 (show (Rq.mk (pI c) n5.toNat n6.toNat (pS c) u).cs[1]? = _ from rfl)) ?_ | refine WL.load rfl rfl rfl (ldI D4 (show (Rq.mk (pI c) n5.toNat n6.toNat (pS c) u).cs[2]? = _ from rfl)) ?_ | refine WL.skip _ rfl rfl rfl ?_
          first | refine WL.field rfl rfl rfl (g109_1 _ _) ?_ | refine WL.skip _ rfl rfl rfl ?_
          first | refine WL.load rfl rfl rfl (ldI D4 (show (Rq.mk (pI c) n5.toNat n6.toNat (pS c) u).cs[1]? = _ from rfl)) ?_ | refine WL.load rfl rfl rfl (ldI D4 (show (Rq.mk (pI c) n5.toNat n6.toNat (pS c) u).cs[2]? = _ from rfl)) ?_ | refine WL.skip _ rfl rfl rfl ?_
          first | refine WL.bin rfl rfl rfl rfl (int_ge_t ‹_› _ _ _) ?_ | refine WL.bin rfl rfl rfl rfl (int_ge_f ‹_› _ _ _) ?_ | refine WL.bin rfl rfl rfl rfl (int_ge_d _ _ _ _ _) ?_ | refine WL.skip _ rfl rfl rfl ?_
          first | refine WL.pick rfl rfl rfl rfl ?_
          refine WL.done ?_
          refine EW.on ?_
          refine EW.cond_t rfl ?_
          refine EW.seq ?_
          refine EW.region ?_
          refine WL.build0 rfl rfl (bd109 _) ?_
          obtain ⟨w9, s9, b9, f9⟩ := st109 Rq.zv D2
          refine WL.store rfl rfl rfl s9 ?_
          first | refine WL.assign rfl rfl rfl ?_
          refine WL.done ?_
          refine EW.on ?_
          refine EW.ret ?_
          refine pr_then ?_
          exact EW.returnsCT Tryd.results50 rfl rfl b9 Tryd.underlying109 rfl (i109 _) (.inl ⟨by unfold okP; rw [decide_eq_false (by rw [eN, eA]; omega)]; rfl, rfl, LL.trans (f9.below (fun k hk e => by have e' : k = q2 := e; omega) LL.size)⟩)
        · have ya : ¬ (n5.toNat : Int) < 1 := by omega
          have yb : ¬ (64 : Int) < (n5.toNat : Int) := by omega
          have yc : (n5.toNat : Int) ≤ (n6.toNat : Int) := by omega
          refine EW.region ?_
          first | refine WL.field rfl rfl rfl (g109_1 _ _) ?_ | refine WL.skip _ rfl rfl rfl ?_
          first | refine WL.load rfl rfl rfl (ldI D4 (show (Rq.mk (pI c) n5.toNat n6.toNat (pS c) u).cs[1]? = _ from rfl)) ?_ | refine WL.load rfl rfl rfl (ldI D4 (show (Rq.mk (pI c) n5.toNat n6.toNat (pS c) u).cs[2]? = _ from rfl)) ?_ | refine WL.skip _ rfl rfl rfl ?_
          first | refine WL.bin rfl rfl rfl rfl (int_lt_t ‹_› _ _ _) ?_ | refine WL.bin rfl rfl rfl rfl (int_lt_f ‹_› _ _ _) ?_ | refine WL.bin rfl rfl rfl rfl (int_lt_d _ _ _ _ _) ?_
          first | refine WL.move rfl rfl rfl ?_
          first | refine WL.field rfl rfl rfl (g109_1 _ _) ?_ | refine WL.skip _ rfl rfl rfl ?_
          first | refine WL.load rfl rfl rfl (ldI D4 (show (Rq.mk (pI c) n5.toNat n6.toNat (pS c) u).cs[1]? = _ from rfl)) ?_ | refine WL.load rfl rfl rfl (ldI D4 (show (Rq.mk (pI c) n5.toNat n6.toNat (pS c) u).cs[2]? = _ from rfl)) ?_ | refine WL.skip _ rfl rfl rfl ?_
          first | refine WL.bin rfl rfl rfl rfl (int_gt_t ‹_› _ _ _) ?_ | refine WL.bin rfl rfl rfl rfl (int_gt_f ‹_› _ _ _) ?_ | refine WL.bin rfl rfl rfl rfl (int_gt_d _ _ _ _ _) ?_ | refine WL.skip _ rfl rfl rfl ?_
          first | refine WL.pick rfl rfl rfl rfl ?_
          first | refine WL.move rfl rfl rfl ?_
          first | refine WL.field rfl rfl rfl (g109_2 _ _) ?_ | refine WL.skip _ rfl rfl rfl ?_
          first | refine WL.load rfl rfl rfl (ldI D4 (show (Rq.mk (pI c) n5.toNat n6.toNat (pS c) u).cs[1]? = _ from rfl)) ?_ | refine WL.load rfl rfl rfl (ldI D4 (show (Rq.mk (pI c) n5.toNat n6.toNat (pS c) u).cs[2]? = _ from rfl)) ?_ | refine WL.skip _ rfl rfl rfl ?_
          first | refine WL.field rfl rfl rfl (g109_1 _ _) ?_ | refine WL.skip _ rfl rfl rfl ?_
          first | refine WL.load rfl rfl rfl (ldI D4 (show (Rq.mk (pI c) n5.toNat n6.toNat (pS c) u).cs[1]? = _ from rfl)) ?_ | refine WL.load rfl rfl rfl (ldI D4 (show (Rq.mk (pI c) n5.toNat n6.toNat (pS c) u).cs[2]? = _ from rfl)) ?_ | refine WL.skip _ rfl rfl rfl ?_
          first | refine WL.bin rfl rfl rfl rfl (int_ge_t ‹_› _ _ _) ?_ | refine WL.bin rfl rfl rfl rfl (int_ge_f ‹_› _ _ _) ?_ | refine WL.bin rfl rfl rfl rfl (int_ge_d _ _ _ _ _) ?_ | refine WL.skip _ rfl rfl rfl ?_
          first | refine WL.pick rfl rfl rfl rfl ?_
          refine WL.done ?_
          refine EW.on ?_
          refine EW.cond_t rfl ?_
          refine EW.seq ?_
          refine EW.region ?_
          refine WL.build0 rfl rfl (bd109 _) ?_
          obtain ⟨w9, s9, b9, f9⟩ := st109 Rq.zv D2
          refine WL.store rfl rfl rfl s9 ?_
          first | refine WL.assign rfl rfl rfl ?_
          refine WL.done ?_
          refine EW.on ?_
          refine EW.ret ?_
          refine pr_then ?_
          exact EW.returnsCT Tryd.results50 rfl rfl b9 Tryd.underlying109 rfl (i109 _) (.inl ⟨by unfold okP; rw [decide_eq_false (by rw [eN, eA]; omega)]; rfl, rfl, LL.trans (f9.below (fun k hk e => by have e' : k = q2 := e; omega) LL.size)⟩)
        · have ya : ¬ (n5.toNat : Int) < 1 := by omega
          have yb : ¬ (64 : Int) < (n5.toNat : Int) := by omega
          have yc : ¬ (n5.toNat : Int) ≤ (n6.toNat : Int) := by omega
          refine EW.region ?_
          first | refine WL.field rfl rfl rfl (g109_1 _ _) ?_ | refine WL.skip _ rfl rfl rfl ?_
          first | refine WL.load rfl rfl rfl (ldI D4 (show (Rq.mk (pI c) n5.toNat n6.toNat (pS c) u).cs[1]? = _ from rfl)) ?_ | refine WL.load rfl rfl rfl (ldI D4 (show (Rq.mk (pI c) n5.toNat n6.toNat (pS c) u).cs[2]? = _ from rfl)) ?_ | refine WL.skip _ rfl rfl rfl ?_
          first | refine WL.bin rfl rfl rfl rfl (int_lt_t ‹_› _ _ _) ?_ | refine WL.bin rfl rfl rfl rfl (int_lt_f ‹_› _ _ _) ?_ | refine WL.bin rfl rfl rfl rfl (int_lt_d _ _ _ _ _) ?_
          first | refine WL.move rfl rfl rfl ?_
          first | refine WL.field rfl rfl rfl (g109_1 _ _) ?_ | refine WL.skip _ rfl rfl rfl ?_
          first | refine WL.load rfl rfl rfl (ldI D4 (show (Rq.mk (pI c) n5.toNat n6.toNat (pS c) u).cs[1]? = _ from rfl)) ?_ | refine WL.load rfl rfl rfl (ldI D4 (show (Rq.mk (pI c) n5.toNat n6.toNat (pS c) u).cs[2]? = _ from rfl)) ?_ | refine WL.skip _ rfl rfl rfl ?_
          first | refine WL.bin rfl rfl rfl rfl (int_gt_t ‹_› _ _ _) ?_ | refine WL.bin rfl rfl rfl rfl (int_gt_f ‹_› _ _ _) ?_ | refine WL.bin rfl rfl rfl rfl (int_gt_d _ _ _ _ _) ?_ | refine WL.skip _ rfl rfl rfl ?_
          first | refine WL.pick rfl rfl rfl rfl ?_
          first | refine WL.move rfl rfl rfl ?_
          first | refine WL.field rfl rfl rfl (g109_2 _ _) ?_ | refine WL.skip _ rfl rfl rfl ?_
          first | refine WL.load rfl rfl rfl (ldI D4 (show (Rq.mk (pI c) n5.toNat n6.toNat (pS c) u).cs[1]? = _ from rfl)) ?_ | refine WL.load rfl rfl rfl (ldI D4 (show (Rq.mk (pI c) n5.toNat n6.toNat (pS c) u).cs[2]? = _ from rfl)) ?_ | refine WL.skip _ rfl rfl rfl ?_
          first | refine WL.field rfl rfl rfl (g109_1 _ _) ?_ | refine WL.skip _ rfl rfl rfl ?_
          first | refine WL.load rfl rfl rfl (ldI D4 (show (Rq.mk (pI c) n5.toNat n6.toNat (pS c) u).cs[1]? = _ from rfl)) ?_ | refine WL.load rfl rfl rfl (ldI D4 (show (Rq.mk (pI c) n5.toNat n6.toNat (pS c) u).cs[2]? = _ from rfl)) ?_ | refine WL.skip _ rfl rfl rfl ?_
          first | refine WL.bin rfl rfl rfl rfl (int_ge_t ‹_› _ _ _) ?_ | refine WL.bin rfl rfl rfl rfl (int_ge_f ‹_› _ _ _) ?_ | refine WL.bin rfl rfl rfl rfl (int_ge_d _ _ _ _ _) ?_ | refine WL.skip _ rfl rfl rfl ?_
          first | refine WL.pick rfl rfl rfl rfl ?_
          refine WL.done ?_
          refine EW.on ?_
          refine EW.cond_f rfl ?_
          refine EW.skip ?_
          refine EW.on ?_
          refine EW.seq ?_
          refine EW.seq ?_
          have s1 : IntKind.i64.wrap ((n5.toNat : Int) - 1) = ((n5.toNat - 1 : Nat) : Int) := by rw [IntKind.wrap_i64]; omega
          rcases (show (n6.toNat + 1 < n5.toNat ∧ ¬ (pC c).length = 497) ∨ (n6.toNat + 1 < n5.toNat ∧ (pC c).length = 497) ∨ (¬ n6.toNat + 1 < n5.toNat ∧ 1 < n5.toNat ∧ (pC c).length = 0) ∨ (¬ n6.toNat + 1 < n5.toNat ∧ 1 < n5.toNat ∧ 0 < (pC c).length) ∨ (¬ n6.toNat + 1 < n5.toNat ∧ ¬ 1 < n5.toNat) by omega) with ⟨hF, hG⟩ | ⟨hF, hG⟩ | ⟨hF, hG, hH⟩ | ⟨hF, hG, hH⟩ | ⟨hF, hG⟩
          · have za : (n6.toNat : Int) < ((n5.toNat - 1 : Nat) : Int) := by omega
            have zb : ¬ ((pC c).length : Int) = 497 := by omega
            refine EW.region ?_
            first | refine WL.field rfl rfl rfl (g109_2 _ _) ?_ | refine WL.skip _ rfl rfl rfl ?_
            first | refine WL.load rfl rfl rfl (ldI D4 (show (Rq.mk (pI c) n5.toNat n6.toNat (pS c) u).cs[1]? = _ from rfl)) ?_ | refine WL.load rfl rfl rfl (ldI D4 (show (Rq.mk (pI c) n5.toNat n6.toNat (pS c) u).cs[2]? = _ from rfl)) ?_ | refine WL.skip _ rfl rfl rfl ?_
            first | refine WL.field rfl rfl rfl (g109_1 _ _) ?_ | refine WL.skip _ rfl rfl rfl ?_
            first | refine WL.load rfl rfl rfl (ldI D4 (show (Rq.mk (pI c) n5.toNat n6.toNat (pS c) u).cs[1]? = _ from rfl)) ?_ | refine WL.load rfl rfl rfl (ldI D4 (show (Rq.mk (pI c) n5.toNat n6.toNat (pS c) u).cs[2]? = _ from rfl)) ?_ | refine WL.skip _ rfl rfl rfl ?_
            first | refine WL.bin rfl rfl rfl rfl (int_sub ‹_› _ _ _) ?_
            first | refine WL.bin rfl rfl rfl rfl (int_lt_t ‹_› _ _ _) ?_ | refine WL.bin rfl rfl rfl rfl (int_lt_f ‹_› _ _ _) ?_ | refine WL.bin rfl rfl rfl rfl (int_lt_d _ _ _ _ _) ?_
            first | refine WL.move rfl rfl rfl ?_
            first | refine WL.field rfl rfl rfl (g109_4 _ _) ?_ | refine WL.skip _ rfl rfl rfl ?_
            first | refine WL.load rfl rfl rfl (ldS D4 (show (Rq.mk (pI c) n5.toNat n6.toNat (pS c) u).cs[4]? = _ from rfl)) ?_ | refine WL.skip _ rfl rfl rfl ?_
            try rw [hue]
            first | refine WL.len rfl rfl rfl (len24 _ _ _ _ _) ?_ | refine WL.skip _ rfl rfl rfl ?_
            try rw [← hue]
            first | refine WL.bin rfl rfl rfl rfl (int_ne_f rfl _ _ _) ?_ | refine WL.bin rfl rfl rfl rfl (int_ne_t ‹_› _ _ _) ?_ | refine WL.bin rfl rfl rfl rfl (int_ne_f ‹_› _ _ _) ?_ | refine WL.bin rfl rfl rfl rfl (int_ne_t (by decide) _ _ _) ?_ | refine WL.bin rfl rfl rfl rfl (int_ne_d _ _ _ _ _) ?_ | refine WL.skip _ rfl rfl rfl ?_
            first | refine WL.pick rfl rfl rfl rfl ?_
            first | refine WL.move rfl rfl rfl ?_
            first | refine WL.field rfl rfl rfl (g109_1 _ _) ?_ | refine WL.skip _ rfl rfl rfl ?_
            first | refine WL.load rfl rfl rfl (ldI D4 (show (Rq.mk (pI c) n5.toNat n6.toNat (pS c) u).cs[1]? = _ from rfl)) ?_ | refine WL.load rfl rfl rfl (ldI D4 (show (Rq.mk (pI c) n5.toNat n6.toNat (pS c) u).cs[2]? = _ from rfl)) ?_ | refine WL.skip _ rfl rfl rfl ?_
            first | refine WL.bin rfl rfl rfl rfl (int_gt_t ‹_› _ _ _) ?_ | refine WL.bin rfl rfl rfl rfl (int_gt_f ‹_› _ _ _) ?_ | refine WL.bin rfl rfl rfl rfl (int_gt_d _ _ _ _ _) ?_ | refine WL.skip _ rfl rfl rfl ?_
            first | refine WL.move rfl rfl rfl ?_ | refine WL.skip _ rfl rfl rfl ?_
            first | refine WL.field rfl rfl rfl (g109_4 _ _) ?_ | refine WL.skip _ rfl rfl rfl ?_
            first | refine WL.load rfl rfl rfl (ldS D4 (show (Rq.mk (pI c) n5.toNat n6.toNat (pS c) u).cs[4]? = _ from rfl)) ?_ | refine WL.skip _ rfl rfl rfl ?_
            try rw [hue]
            first | refine WL.len rfl rfl rfl (len24 _ _ _ _ _) ?_ | refine WL.skip _ rfl rfl rfl ?_
            try rw [← hue]
            first | refine WL.bin rfl rfl rfl rfl (int_eq_t rfl _ _ _) ?_ | refine WL.bin rfl rfl rfl rfl (int_eq_t ‹_› _ _ _) ?_ | refine WL.bin rfl rfl rfl rfl (int_eq_f ‹_› _ _ _) ?_ | refine WL.bin rfl rfl rfl rfl (int_eq_d _ _ _ _ _) ?_ | refine WL.skip _ rfl rfl rfl ?_
            first | refine WL.pick rfl rfl rfl rfl ?_ | refine WL.skip _ rfl rfl rfl ?_
            first | refine WL.pick rfl rfl rfl rfl ?_
            refine WL.done ?_
            refine EW.on ?_
            refine EW.cond_t rfl ?_
            refine EW.seq ?_
            refine EW.region ?_
            refine WL.build0 rfl rfl (bd109 _) ?_
            obtain ⟨w9, s9, b9, f9⟩ := st109 Rq.zv D2
            refine WL.store rfl rfl rfl s9 ?_
            first | refine WL.assign rfl rfl rfl ?_
            refine WL.done ?_
            refine EW.on ?_
            refine EW.ret ?_
            refine pr_then ?_
            exact EW.returnsCT Tryd.results50 rfl rfl b9 Tryd.underlying109 rfl (i109 _) (.inl ⟨by unfold okP; rw [show fitB (pN c) (pA c) (c.length - 15) = false by unfold fitB; rw [eN, eA]; rw [if_pos (by omega)]; exact decide_eq_false (by omega), Bool.and_false], rfl, LL.trans (f9.below (fun k hk e => by have e' : k = q2 := e; omega) LL.size)⟩)
          · have za : (n6.toNat : Int) < ((n5.toNat - 1 : Nat) : Int) := by omega
            have zb : ((pC c).length : Int) = 497 := by omega
            have zc : (1 : Int) < (n5.toNat : Int) := by omega
            have zd : ¬ ((pC c).length : Int) = 0 := by omega
            refine EW.region ?_
            first | refine WL.field rfl rfl rfl (g109_2 _ _) ?_ | refine WL.skip _ rfl rfl rfl ?_
            first | refine WL.load rfl rfl rfl (ldI D4 (show (Rq.mk (pI c) n5.toNat n6.toNat (pS c) u).cs[1]? = _ from rfl)) ?_ | refine WL.load rfl rfl rfl (ldI D4 (show (Rq.mk (pI c) n5.toNat n6.toNat (pS c) u).cs[2]? = _ from rfl)) ?_ | refine WL.skip _ rfl rfl rfl ?_
            first | refine WL.field rfl rfl rfl (g109_1 _ _) ?_ | refine WL.skip _ rfl rfl rfl ?_
            first | refine WL.load rfl rfl rfl (ldI D4 (show (Rq.mk (pI c) n5.toNat n6.toNat (pS c) u).cs[1]? = _ from rfl)) ?_ | refine WL.load rfl rfl rfl (ldI D4 (show (Rq.mk (pI c) n5.toNat n6.toNat (pS c) u).cs[2]? = _ from rfl)) ?_ | refine WL.skip _ rfl rfl rfl ?_
            first | refine WL.bin rfl rfl rfl rfl (int_sub ‹_› _ _ _) ?_
            first | refine WL.bin rfl rfl rfl rfl (int_lt_t ‹_› _ _ _) ?_ | refine WL.bin rfl rfl rfl rfl (int_lt_f ‹_› _ _ _) ?_ | refine WL.bin rfl rfl rfl rfl (int_lt_d _ _ _ _ _) ?_
            first | refine WL.move rfl rfl rfl ?_
            first | refine WL.field rfl rfl rfl (g109_4 _ _) ?_ | refine WL.skip _ rfl rfl rfl ?_
            first | refine WL.load rfl rfl rfl (ldS D4 (show (Rq.mk (pI c) n5.toNat n6.toNat (pS c) u).cs[4]? = _ from rfl)) ?_ | refine WL.skip _ rfl rfl rfl ?_
            try rw [hue]
            first | refine WL.len rfl rfl rfl (len24 _ _ _ _ _) ?_ | refine WL.skip _ rfl rfl rfl ?_
            try rw [← hue]
            first | refine WL.bin rfl rfl rfl rfl (int_ne_f rfl _ _ _) ?_ | refine WL.bin rfl rfl rfl rfl (int_ne_t ‹_› _ _ _) ?_ | refine WL.bin rfl rfl rfl rfl (int_ne_f ‹_› _ _ _) ?_ | refine WL.bin rfl rfl rfl rfl (int_ne_t (by decide) _ _ _) ?_ | refine WL.bin rfl rfl rfl rfl (int_ne_d _ _ _ _ _) ?_ | refine WL.skip _ rfl rfl rfl ?_
            first | refine WL.pick rfl rfl rfl rfl ?_
            first | refine WL.move rfl rfl rfl ?_
            first | refine WL.field rfl rfl rfl (g109_1 _ _) ?_ | refine WL.skip _ rfl rfl rfl ?_
            first | refine WL.load rfl rfl rfl (ldI D4 (show (Rq.mk (pI c) n5.toNat n6.toNat (pS c) u).cs[1]? = _ from rfl)) ?_ | refine WL.load rfl rfl rfl (ldI D4 (show (Rq.mk (pI c) n5.toNat n6.toNat (pS c) u).cs[2]? = _ from rfl)) ?_ | refine WL.skip _ rfl rfl rfl ?_
            first | refine WL.bin rfl rfl rfl rfl (int_gt_t ‹_› _ _ _) ?_ | refine WL.bin rfl rfl rfl rfl (int_gt_f ‹_› _ _ _) ?_ | refine WL.bin rfl rfl rfl rfl (int_gt_d _ _ _ _ _) ?_ | refine WL.skip _ rfl rfl rfl ?_
            first | refine WL.move rfl rfl rfl ?_ | refine WL.skip _ rfl rfl rfl ?_
            first | refine WL.field rfl rfl rfl (g109_4 _ _) ?_ | refine WL.skip _ rfl rfl rfl ?_
            first | refine WL.load rfl rfl rfl (ldS D4 (show (Rq.mk (pI c) n5.toNat n6.toNat (pS c) u).cs[4]? = _ from rfl)) ?_ | refine WL.skip _ rfl rfl rfl ?_
            try rw [hue]
            first | refine WL.len rfl rfl rfl (len24 _ _ _ _ _) ?_ | refine WL.skip _ rfl rfl rfl ?_
            try rw [← hue]
            first | refine WL.bin rfl rfl rfl rfl (int_eq_t rfl _ _ _) ?_ | refine WL.bin rfl rfl rfl rfl (int_eq_t ‹_› _ _ _) ?_ | refine WL.bin rfl rfl rfl rfl (int_eq_f ‹_› _ _ _) ?_ | refine WL.bin rfl rfl rfl rfl (int_eq_d _ _ _ _ _) ?_ | refine WL.skip _ rfl rfl rfl ?_
            first | refine WL.pick rfl rfl rfl rfl ?_ | refine WL.skip _ rfl rfl rfl ?_
            first | refine WL.pick rfl rfl rfl rfl ?_
            refine WL.done ?_
            refine EW.on ?_
            refine EW.cond_f rfl ?_
            refine EW.skip ?_
            refine EW.on ?_
            refine EW.seq ?_
            refine EW.region ?_
            refine WL.load rfl rfl rfl (ld109 D4) ?_
            obtain ⟨w9, s9, b9, f9⟩ := st109 (p := Rq.mk (pI c) n5.toNat n6.toNat (pS c) u) husl D2
            refine WL.store rfl rfl rfl s9 ?_
            first | refine WL.assign rfl rfl rfl ?_
            refine WL.done ?_
            refine EW.on ?_
            refine EW.ret ?_
            exact EW.returnsCT Tryd.results50 rfl rfl b9 Tryd.underlying109 rfl (i109 _) (.inr ⟨by unfold okP; rw [show fitB (pN c) (pA c) (c.length - 15) = true by unfold fitB; rw [eN, eA]; rw [if_pos (by omega)]; exact decide_eq_true (by omega), Bool.and_true]; exact decide_eq_true ⟨by omega, by omega, by rw [eM]; exact hM5, by omega, by omega, by omega⟩, u, by rw [eN, eA]; rfl, ((OU.ob.fx f9 (fun k hk e => by have e' : k = q2 := hk; have := OU.ob.base k e; have := b2.lt; omega)).lower l1.size), LL.trans (f9.below (fun k hk e => by have e' : k = q2 := e; omega) LL.size)⟩)
          · have za : ¬ (n6.toNat : Int) < ((n5.toNat - 1 : Nat) : Int) := by omega
            have zc : (1 : Int) < (n5.toNat : Int) := by omega
            have zd : ((pC c).length : Int) = 0 := by omega
            refine EW.region ?_
            first | refine WL.field rfl rfl rfl (g109_2 _ _) ?_ | refine WL.skip _ rfl rfl rfl ?_
            first | refine WL.load rfl rfl rfl (ldI D4 (show (Rq.mk (pI c) n5.toNat n6.toNat (pS c) u).cs[1]? = _ from rfl)) ?_ | refine WL.load rfl rfl rfl (ldI D4 (show (Rq.mk (pI c) n5.toNat n6.toNat (pS c) u).cs[2]? = _ from rfl)) ?_ | refine WL.skip _ rfl rfl rfl ?_
            first | refine WL.field rfl rfl rfl (g109_1 _ _) ?_ | refine WL.skip _ rfl rfl rfl ?_
            first | refine WL.load rfl rfl rfl (ldI D4 (show (Rq.mk (pI c) n5.toNat n6.toNat (pS c) u).cs[1]? = _ from rfl)) ?_ | refine WL.load rfl rfl rfl (ldI D4 (show (Rq.mk (pI c) n5.toNat n6.toNat (pS c) u).cs[2]? = _ from rfl)) ?_ | refine WL.skip _ rfl rfl rfl ?_
            first | refine WL.bin rfl rfl rfl rfl (int_sub ‹_› _ _ _) ?_
            first | refine WL.bin rfl rfl rfl rfl (int_lt_t ‹_› _ _ _) ?_ | refine WL.bin rfl rfl rfl rfl (int_lt_f ‹_› _ _ _) ?_ | refine WL.bin rfl rfl rfl rfl (int_lt_d _ _ _ _ _) ?_
            first | refine WL.move rfl rfl rfl ?_
            first | refine WL.field rfl rfl rfl (g109_4 _ _) ?_ | refine WL.skip _ rfl rfl rfl ?_
            first | refine WL.load rfl rfl rfl (ldS D4 (show (Rq.mk (pI c) n5.toNat n6.toNat (pS c) u).cs[4]? = _ from rfl)) ?_ | refine WL.skip _ rfl rfl rfl ?_
            try rw [hue]
            first | refine WL.len rfl rfl rfl (len24 _ _ _ _ _) ?_ | refine WL.skip _ rfl rfl rfl ?_
            try rw [← hue]
            first | refine WL.bin rfl rfl rfl rfl (int_ne_f rfl _ _ _) ?_ | refine WL.bin rfl rfl rfl rfl (int_ne_t ‹_› _ _ _) ?_ | refine WL.bin rfl rfl rfl rfl (int_ne_f ‹_› _ _ _) ?_ | refine WL.bin rfl rfl rfl rfl (int_ne_t (by decide) _ _ _) ?_ | refine WL.bin rfl rfl rfl rfl (int_ne_d _ _ _ _ _) ?_ | refine WL.skip _ rfl rfl rfl ?_
            first | refine WL.pick rfl rfl rfl rfl ?_
            first | refine WL.move rfl rfl rfl ?_
            first | refine WL.field rfl rfl rfl (g109_1 _ _) ?_ | refine WL.skip _ rfl rfl rfl ?_
            first | refine WL.load rfl rfl rfl (ldI D4 (show (Rq.mk (pI c) n5.toNat n6.toNat (pS c) u).cs[1]? = _ from rfl)) ?_ | refine WL.load rfl rfl rfl (ldI D4 (show (Rq.mk (pI c) n5.toNat n6.toNat (pS c) u).cs[2]? = _ from rfl)) ?_ | refine WL.skip _ rfl rfl rfl ?_
            first | refine WL.bin rfl rfl rfl rfl (int_gt_t ‹_› _ _ _) ?_ | refine WL.bin rfl rfl rfl rfl (int_gt_f ‹_› _ _ _) ?_ | refine WL.bin rfl rfl rfl rfl (int_gt_d _ _ _ _ _) ?_ | refine WL.skip _ rfl rfl rfl ?_
            first | refine WL.move rfl rfl rfl ?_ | refine WL.skip _ rfl rfl rfl ?_
            first | refine WL.field rfl rfl rfl (g109_4 _ _) ?_ | refine WL.skip _ rfl rfl rfl ?_
            first | refine WL.load rfl rfl rfl (ldS D4 (show (Rq.mk (pI c) n5.toNat n6.toNat (pS c) u).cs[4]? = _ from rfl)) ?_ | refine WL.skip _ rfl rfl rfl ?_
            try rw [hue]
            first | refine WL.len rfl rfl rfl (len24 _ _ _ _ _) ?_ | refine WL.skip _ rfl rfl rfl ?_
            try rw [← hue]
            first | refine WL.bin rfl rfl rfl rfl (int_eq_t rfl _ _ _) ?_ | refine WL.bin rfl rfl rfl rfl (int_eq_t ‹_› _ _ _) ?_ | refine WL.bin rfl rfl rfl rfl (int_eq_f ‹_› _ _ _) ?_ | refine WL.bin rfl rfl rfl rfl (int_eq_d _ _ _ _ _) ?_ | refine WL.skip _ rfl rfl rfl ?_
            first | refine WL.pick rfl rfl rfl rfl ?_ | refine WL.skip _ rfl rfl rfl ?_
            first | refine WL.pick rfl rfl rfl rfl ?_
            refine WL.done ?_
            refine EW.on ?_
            refine EW.cond_t rfl ?_
            refine EW.seq ?_
            refine EW.region ?_
            refine WL.build0 rfl rfl (bd109 _) ?_
            obtain ⟨w9, s9, b9, f9⟩ := st109 Rq.zv D2
            refine WL.store rfl rfl rfl s9 ?_
            first | refine WL.assign rfl rfl rfl ?_
            refine WL.done ?_
            refine EW.on ?_
            refine EW.ret ?_
            refine pr_then ?_
            exact EW.returnsCT Tryd.results50 rfl rfl b9 Tryd.underlying109 rfl (i109 _) (.inl ⟨by unfold okP; rw [show fitB (pN c) (pA c) (c.length - 15) = false by unfold fitB; rw [eN, eA]; rw [if_neg (by omega), if_pos (by omega)]; exact decide_eq_false (by omega), Bool.and_false], rfl, LL.trans (f9.below (fun k hk e => by have e' : k = q2 := e; omega) LL.size)⟩)
          · have za : ¬ (n6.toNat : Int) < ((n5.toNat - 1 : Nat) : Int) := by omega
            have zc : (1 : Int) < (n5.toNat : Int) := by omega
            have zd : ¬ ((pC c).length : Int) = 0 := by omega
            refine EW.region ?_
            first | refine WL.field rfl rfl rfl (g109_2 _ _) ?_ | refine WL.skip _ rfl rfl rfl ?_
            first | refine WL.load rfl rfl rfl (ldI D4 (show (Rq.mk (pI c) n5.toNat n6.toNat (pS c) u).cs[1]? = _ from rfl)) ?_ | refine WL.load rfl rfl rfl (ldI D4 (show (Rq.mk (pI c) n5.toNat n6.toNat (pS c) u).cs[2]? = _ from rfl)) ?_ | refine WL.skip _ rfl rfl rfl ?_
            first | refine WL.field rfl rfl rfl (g109_1 _ _) ?_ | refine WL.skip _ rfl rfl rfl ?_
            first | refine WL.load rfl rfl rfl (ldI D4 (show (Rq.mk (pI c) n5.toNat n6.toNat (pS c) u).cs[1]? = _ from rfl)) ?_ | refine WL.load rfl rfl rfl (ldI D4 (show (Rq.mk (pI c) n5.toNat n6.toNat (pS c) u).cs[2]? = _ from rfl)) ?_ | refine WL.skip _ rfl rfl rfl ?_
            first | refine WL.bin rfl rfl rfl rfl (int_sub ‹_› _ _ _) ?_
            first | refine WL.bin rfl rfl rfl rfl (int_lt_t ‹_› _ _ _) ?_ | refine WL.bin rfl rfl rfl rfl (int_lt_f ‹_› _ _ _) ?_ | refine WL.bin rfl rfl rfl rfl (int_lt_d _ _ _ _ _) ?_
            first | refine WL.move rfl rfl rfl ?_
            first | refine WL.field rfl rfl rfl (g109_4 _ _) ?_ | refine WL.skip _ rfl rfl rfl ?_
            first | refine WL.load rfl rfl rfl (ldS D4 (show (Rq.mk (pI c) n5.toNat n6.toNat (pS c) u).cs[4]? = _ from rfl)) ?_ | refine WL.skip _ rfl rfl rfl ?_
            try rw [hue]
            first | refine WL.len rfl rfl rfl (len24 _ _ _ _ _) ?_ | refine WL.skip _ rfl rfl rfl ?_
            try rw [← hue]
            first | refine WL.bin rfl rfl rfl rfl (int_ne_f rfl _ _ _) ?_ | refine WL.bin rfl rfl rfl rfl (int_ne_t ‹_› _ _ _) ?_ | refine WL.bin rfl rfl rfl rfl (int_ne_f ‹_› _ _ _) ?_ | refine WL.bin rfl rfl rfl rfl (int_ne_t (by decide) _ _ _) ?_ | refine WL.bin rfl rfl rfl rfl (int_ne_d _ _ _ _ _) ?_ | refine WL.skip _ rfl rfl rfl ?_
            first | refine WL.pick rfl rfl rfl rfl ?_
            first | refine WL.move rfl rfl rfl ?_
            first | refine WL.field rfl rfl rfl (g109_1 _ _) ?_ | refine WL.skip _ rfl rfl rfl ?_
            first | refine WL.load rfl rfl rfl (ldI D4 (show (Rq.mk (pI c) n5.toNat n6.toNat (pS c) u).cs[1]? = _ from rfl)) ?_ | refine WL.load rfl rfl rfl (ldI D4 (show (Rq.mk (pI c) n5.toNat n6.toNat (pS c) u).cs[2]? = _ from rfl)) ?_ | refine WL.skip _ rfl rfl rfl ?_
            first | refine WL.bin rfl rfl rfl rfl (int_gt_t ‹_› _ _ _) ?_ | refine WL.bin rfl rfl rfl rfl (int_gt_f ‹_› _ _ _) ?_ | refine WL.bin rfl rfl rfl rfl (int_gt_d _ _ _ _ _) ?_ | refine WL.skip _ rfl rfl rfl ?_
            first | refine WL.move rfl rfl rfl ?_ | refine WL.skip _ rfl rfl rfl ?_
            first | refine WL.field rfl rfl rfl (g109_4 _ _) ?_ | refine WL.skip _ rfl rfl rfl ?_
            first | refine WL.load rfl rfl rfl (ldS D4 (show (Rq.mk (pI c) n5.toNat n6.toNat (pS c) u).cs[4]? = _ from rfl)) ?_ | refine WL.skip _ rfl rfl rfl ?_
            try rw [hue]
            first | refine WL.len rfl rfl rfl (len24 _ _ _ _ _) ?_ | refine WL.skip _ rfl rfl rfl ?_
            try rw [← hue]
            first | refine WL.bin rfl rfl rfl rfl (int_eq_t rfl _ _ _) ?_ | refine WL.bin rfl rfl rfl rfl (int_eq_t ‹_› _ _ _) ?_ | refine WL.bin rfl rfl rfl rfl (int_eq_f ‹_› _ _ _) ?_ | refine WL.bin rfl rfl rfl rfl (int_eq_d _ _ _ _ _) ?_ | refine WL.skip _ rfl rfl rfl ?_
            first | refine WL.pick rfl rfl rfl rfl ?_ | refine WL.skip _ rfl rfl rfl ?_
            first | refine WL.pick rfl rfl rfl rfl ?_
            refine WL.done ?_
            refine EW.on ?_
            refine EW.cond_f rfl ?_
            refine EW.skip ?_
            refine EW.on ?_
            refine EW.seq ?_
            refine EW.region ?_
            refine WL.load rfl rfl rfl (ld109 D4) ?_
            obtain ⟨w9, s9, b9, f9⟩ := st109 (p := Rq.mk (pI c) n5.toNat n6.toNat (pS c) u) husl D2
            refine WL.store rfl rfl rfl s9 ?_
            first | refine WL.assign rfl rfl rfl ?_
            refine WL.done ?_
            refine EW.on ?_
            refine EW.ret ?_
            exact EW.returnsCT Tryd.results50 rfl rfl b9 Tryd.underlying109 rfl (i109 _) (.inr ⟨by unfold okP; rw [show fitB (pN c) (pA c) (c.length - 15) = true by unfold fitB; rw [eN, eA]; rw [if_neg (by omega), if_pos (by omega)]; exact decide_eq_true (by omega), Bool.and_true]; exact decide_eq_true ⟨by omega, by omega, by rw [eM]; exact hM5, by omega, by omega, by omega⟩, u, by rw [eN, eA]; rfl, ((OU.ob.fx f9 (fun k hk e => by have e' : k = q2 := hk; have := OU.ob.base k e; have := b2.lt; omega)).lower l1.size), LL.trans (f9.below (fun k hk e => by have e' : k = q2 := e; omega) LL.size)⟩)
          · have za : ¬ (n6.toNat : Int) < ((n5.toNat - 1 : Nat) : Int) := by omega
            have zc : ¬ (1 : Int) < (n5.toNat : Int) := by omega
            refine EW.region ?_
            first | refine WL.field rfl rfl rfl (g109_2 _ _) ?_ | refine WL.skip _ rfl rfl rfl ?_
            first | refine WL.load rfl rfl rfl (ldI D4 (show (Rq.mk (pI c) n5.toNat n6.toNat (pS c) u).cs[1]? = _ from rfl)) ?_ | refine WL.load rfl rfl rfl (ldI D4 (show (Rq.mk (pI c) n5.toNat n6.toNat (pS c) u).cs[2]? = _ from rfl)) ?_ | refine WL.skip _ rfl rfl rfl ?_
            first | refine WL.field rfl rfl rfl (g109_1 _ _) ?_ | refine WL.skip _ rfl rfl rfl ?_
            first | refine WL.load rfl rfl rfl (ldI D4 (show (Rq.mk (pI c) n5.toNat n6.toNat (pS c) u).cs[1]? = _ from rfl)) ?_ | refine WL.load rfl rfl rfl (ldI D4 (show (Rq.mk (pI c) n5.toNat n6.toNat (pS c) u).cs[2]? = _ from rfl)) ?_ | refine WL.skip _ rfl rfl rfl ?_
            first | refine WL.bin rfl rfl rfl rfl (int_sub ‹_› _ _ _) ?_
            first | refine WL.bin rfl rfl rfl rfl (int_lt_t ‹_› _ _ _) ?_ | refine WL.bin rfl rfl rfl rfl (int_lt_f ‹_› _ _ _) ?_ | refine WL.bin rfl rfl rfl rfl (int_lt_d _ _ _ _ _) ?_
            first | refine WL.move rfl rfl rfl ?_
            first | refine WL.field rfl rfl rfl (g109_4 _ _) ?_ | refine WL.skip _ rfl rfl rfl ?_
            first | refine WL.load rfl rfl rfl (ldS D4 (show (Rq.mk (pI c) n5.toNat n6.toNat (pS c) u).cs[4]? = _ from rfl)) ?_ | refine WL.skip _ rfl rfl rfl ?_
            try rw [hue]
            first | refine WL.len rfl rfl rfl (len24 _ _ _ _ _) ?_ | refine WL.skip _ rfl rfl rfl ?_
            try rw [← hue]
            first | refine WL.bin rfl rfl rfl rfl (int_ne_f rfl _ _ _) ?_ | refine WL.bin rfl rfl rfl rfl (int_ne_t ‹_› _ _ _) ?_ | refine WL.bin rfl rfl rfl rfl (int_ne_f ‹_› _ _ _) ?_ | refine WL.bin rfl rfl rfl rfl (int_ne_t (by decide) _ _ _) ?_ | refine WL.bin rfl rfl rfl rfl (int_ne_d _ _ _ _ _) ?_ | refine WL.skip _ rfl rfl rfl ?_
            first | refine WL.pick rfl rfl rfl rfl ?_
            first | refine WL.move rfl rfl rfl ?_
            first | refine WL.field rfl rfl rfl (g109_1 _ _) ?_ | refine WL.skip _ rfl rfl rfl ?_
            first | refine WL.load rfl rfl rfl (ldI D4 (show (Rq.mk (pI c) n5.toNat n6.toNat (pS c) u).cs[1]? = _ from rfl)) ?_ | refine WL.load rfl rfl rfl (ldI D4 (show (Rq.mk (pI c) n5.toNat n6.toNat (pS c) u).cs[2]? = _ from rfl)) ?_ | refine WL.skip _ rfl rfl rfl ?_
            first | refine WL.bin rfl rfl rfl rfl (int_gt_t ‹_› _ _ _) ?_ | refine WL.bin rfl rfl rfl rfl (int_gt_f ‹_› _ _ _) ?_ | refine WL.bin rfl rfl rfl rfl (int_gt_d _ _ _ _ _) ?_ | refine WL.skip _ rfl rfl rfl ?_
            first | refine WL.move rfl rfl rfl ?_ | refine WL.skip _ rfl rfl rfl ?_
            first | refine WL.field rfl rfl rfl (g109_4 _ _) ?_ | refine WL.skip _ rfl rfl rfl ?_
            first | refine WL.load rfl rfl rfl (ldS D4 (show (Rq.mk (pI c) n5.toNat n6.toNat (pS c) u).cs[4]? = _ from rfl)) ?_ | refine WL.skip _ rfl rfl rfl ?_
            try rw [hue]
            first | refine WL.len rfl rfl rfl (len24 _ _ _ _ _) ?_ | refine WL.skip _ rfl rfl rfl ?_
            try rw [← hue]
            first | refine WL.bin rfl rfl rfl rfl (int_eq_t rfl _ _ _) ?_ | refine WL.bin rfl rfl rfl rfl (int_eq_t ‹_› _ _ _) ?_ | refine WL.bin rfl rfl rfl rfl (int_eq_f ‹_› _ _ _) ?_ | refine WL.bin rfl rfl rfl rfl (int_eq_d _ _ _ _ _) ?_ | refine WL.skip _ rfl rfl rfl ?_
            first | refine WL.pick rfl rfl rfl rfl ?_ | refine WL.skip _ rfl rfl rfl ?_
            first | refine WL.pick rfl rfl rfl rfl ?_
            refine WL.done ?_
            refine EW.on ?_
            refine EW.cond_f rfl ?_
            refine EW.skip ?_
            refine EW.on ?_
            refine EW.seq ?_
            refine EW.region ?_
            refine WL.load rfl rfl rfl (ld109 D4) ?_
            obtain ⟨w9, s9, b9, f9⟩ := st109 (p := Rq.mk (pI c) n5.toNat n6.toNat (pS c) u) husl D2
            refine WL.store rfl rfl rfl s9 ?_
            first | refine WL.assign rfl rfl rfl ?_
            refine WL.done ?_
            refine EW.on ?_
            refine EW.ret ?_
            exact EW.returnsCT Tryd.results50 rfl rfl b9 Tryd.underlying109 rfl (i109 _) (.inr ⟨by unfold okP; rw [show fitB (pN c) (pA c) (c.length - 15) = true by unfold fitB; rw [eN, eA]; rw [if_neg (by omega), if_neg (by omega)], Bool.and_true]; exact decide_eq_true ⟨by omega, by omega, by rw [eM]; exact hM5, by omega, by omega, by omega⟩, u, by rw [eN, eA]; rfl, ((OU.ob.fx f9 (fun k hk e => by have e' : k = q2 := hk; have := OU.ob.base k e; have := b2.lt; omega)).lower l1.size), LL.trans (f9.below (fun k hk e => by have e' : k = q2 := e; omega) LL.size)⟩)
end Go.Proofs.YtiefgmgjlhjjhaaDoor
