import Derived.Test.YtacimelcmkhhlaaKg
set_option linter.unusedVariables false
set_option linter.unusedSimpArgs false
namespace Go.Proofs.Ytacimelcmkhhlaa
open Go.RowKit

theorem mulU {x : Nat} (h : x < 16777216) (W : World) (a b : Operand) : (do eqGuard .mul 28 a b (u32v x) (.int .u32 256); binOp .mul 28 (u32v x) (.int .u32 256) : Sem Value).run Try.prog W = .ok (u32v (x * 256)) W := by
  have e : IntKind.u32.wrap ((x : Int) * 256) = ((x * 256 : Nat) : Int) := by rw [IntKind.wrap_u32]; omega
  unfold u32v
  go_simp
theorem addU {x : Nat} (u : UInt8) (h : x < 16777216) (W : World) (a b : Operand) : (do eqGuard .add 28 a b (u32v (x * 256)) (.int .u32 (u.toNat : Int)); binOp .add 28 (u32v (x * 256)) (.int .u32 (u.toNat : Int)) : Sem Value).run Try.prog W = .ok (u32v (x * 256 + u.toNat)) W := by
  have hu := u.toNat_lt
  have e : IntKind.u32.wrap ((x : Int) * 256 + (u.toNat : Int)) = ((x * 256 + u.toNat : Nat) : Int) := by rw [IntKind.wrap_u32]; omega
  unfold u32v
  go_simp
theorem tkB_self {X : List UInt8} {n : Nat} (h : X.length = n) : tkB X n = X := by
  unfold tkB
  rw [List.take_of_length_le (by omega), h, Nat.sub_self]
  simp
/-- The taker, by how far it is. -/
def Tq (w : World) (B q : Nat) (c : List UInt8) (pos : Nat) : Prop := ∃ bv, Tk w B q bv (c.drop pos) (decide (c.length < pos))
theorem Tq.below {w w' : World} {B q : Nat} {c : List UInt8} {pos : Nat} (h : Tq w B q c pos) (hb : Below w.heap.size w w') : Tq w' B q c pos := h.elim fun bv h => ⟨bv, h.below hb⟩
theorem Tq.fx {w w' : World} {B q : Nat} {c : List UInt8} {pos : Nat} (h : Tq w B q c pos) {S : Nat → Prop} (hf : Fx S w w') (hq : ¬ S q) (hS : ∀ k, S k → B ≤ k) : Tq w' B q c pos := h.elim fun bv h => ⟨bv, h.fx hf hq hS⟩
theorem Tq.lt {w : World} {B q : Nat} {c : List UInt8} {pos : Nat} (h : Tq w B q c pos) : B ≤ q ∧ q < w.heap.size := h.elim fun bv h => ⟨h.bq, h.bl.lt⟩
def tkC (c : List UInt8) (pos n : Nat) : List UInt8 := tkB (c.drop pos) n
theorem tkC_len (c : List UInt8) (pos n : Nat) : (tkC c pos n).length = n := tkB_len _ _
theorem tkC_cut {c : List UInt8} {pos n : Nat} (h : pos + n ≤ c.length) : tkC c pos n = cutB c pos n := by
  unfold tkC tkB cutB
  rw [List.length_drop, show n - (c.length - pos) = 0 by omega]
  simp
theorem tq_take (B q n pos : Nat) (c : List UInt8) (w : World) (h : Tq w B q c pos) (hB : B ≤ w.heap.size) (h1 : 1 ≤ n) (hn : n ≤ 1000) (hl : c.length ≤ 140737488355328) : Calls Try.prog 66 #[.pointer (some ⟨q, 0, none⟩), .int .i64 (n : Int)] w fun e w' => ∃ v, e = .returned v ∧ Ob w' w.heap.size v (tkC c pos n) ∧ Tq w' B q c (pos + n) ∧ Fx (fun k => k = q) w w' := by
  obtain ⟨bv, tk⟩ := h
  refine (tkr_any B q n bv (c.drop pos) _ w tk hB hn (by rw [List.length_drop]; omega)).mono ?_
  rintro e w' ⟨v, bv', rfl, g1, g2, g3⟩
  refine ⟨v, rfl, g1, ⟨bv', ?_⟩, g3⟩
  rw [List.drop_drop] at g2
  have e : (decide (c.length < pos) || decide ((c.drop pos).length < n)) = decide (c.length < pos + n) := by
    rw [List.length_drop, ← Bool.decide_or]
    exact decide_eq_decide.2 (by omega)
  rw [e] at g2
  exact g2
def keE (b q2 q3 : Nat) (v : Value) (t : Nat) : List (Nat × Value) := [(2, .pointer (some ⟨q2, 0, none⟩)), (3, .pointer (some ⟨q3, 0, none⟩)), (4, v), (5, .int .i64 (t : Int))]
def KeI (w3 : World) (X : List UInt8) (q3 : Nat) (t : Nat) (W : World) : Prop := t ≤ 32 ∧ Blk W q3 ((ouB X 32 t).map byt) 25 ∧ Fx (fun k => k = q3) w3 W
set_option maxRecDepth 100000 in
set_option maxHeartbeats 4000000 in
theorem tq_key (B q pos : Nat) (c : List UInt8) (w : World) (h : Tq w B q c pos) (hB : B ≤ w.heap.size) (hl : c.length ≤ 140737488355328) : Calls Try.prog 67 #[.pointer (some ⟨q, 0, none⟩)] w fun e w' => e = .returned (kv (tkC c pos 32)) ∧ Tq w' B q c (pos + 32) ∧ Fx (fun k => k = q) w w' := by
  obtain ⟨w1, q2, r1, b1, e1, hq2⟩ := new_any (t := 25) (cs := z32.map byt) zv25 w
  obtain ⟨w2, q3, r2, b2, e2, hq3⟩ := new_any (t := 25) (cs := z32.map byt) zv25 w1
  have hq := h.lt
  have l1 := e1.size
  have l2 := e2.size
  have hb1 := b1.lt
  have hb2 := b2.lt
  refine calls_of_args [.pointer (some ⟨q, 0, none⟩)] Try.func67 rfl 19 Try.ntmps67 (by show 1 ≤ 19; decide) ?_
  refine EW.seq ?_
  refine EW.region ?_
  refine WL.new rfl rfl r1 ?_
  refine WL.done ?_
  refine EW.on ?_
  refine EW.seq ?_
  refine EW.region ?_
  refine WL.new rfl rfl r2 ?_
  refine WL.done ?_
  refine EW.on ?_
  refine EW.seq ?_
  refine EW.region ?_
  first | refine WL.move rfl rfl rfl ?_
  refine WL.call [.pointer (some ⟨q, 0, none⟩), .int .i64 32] enter66 rfl rfl rfl (tq_take B q 32 pos c _ (h.below (bt e1 e2)) (by omega) (by decide) (by decide) hl) ?_
  rintro _ w3 ⟨v, rfl, ob3, tq3, f3⟩
  refine ⟨_, rfl, ?_⟩
  obtain ⟨X, hX⟩ : ∃ X, tkC c pos 32 = X := ⟨_, rfl⟩
  have hXl : X.length = 32 := by rw [← hX]; exact tkC_len _ _ _
  rw [hX] at ob3
  have b3 := b2.fx f3 (fun e => by omega)
  have a3 := (b1.on e2).fx f3 (fun e => by omega)
  have l3 := f3.size
  first | refine WL.assign rfl rfl rfl ?_
  refine WL.done ?_
  refine EW.on ?_
  refine EW.seq ?_
  refine EW.seq ?_
  refine EW.region ?_
  first | refine WL.assign rfl rfl rfl ?_
  refine WL.done ?_
  refine EW.on ?_
  refine EW.block ?_
  refine EW.loop (keE B q2 q3 v) (KeI w3 X q3) (fun t => 32 - t) 0 [2, 3, 4, 5] rfl ⟨Nat.zero_le _, by rw [ouB_zero]; exact b3, Fx.refl _ _⟩ ?_
  rintro t wi ⟨htl, bki, fxi⟩
  show EW _ _ _ _ [(2, .pointer (some ⟨q2, 0, none⟩)), (3, .pointer (some ⟨q3, 0, none⟩)), (4, v), (5, .int .i64 (t : Int))] _
  refine EW.seq ?_
  refine EW.seq ?_
  refine EW.region ?_
  first | refine WL.move rfl rfl rfl ?_
  refine WL.bin rfl rfl rfl rfl (int_lt_d _ _ _ _ _) ?_
  refine WL.done ?_
  refine EW.on ?_
  refine EW.cond_d rfl (fun h9 => ?_) (fun h9 => ?_)
  · refine EW.skip ?_
    refine EW.on ?_
    refine EW.seq ?_
    refine EW.block ?_
    refine EW.region ?_
    first | refine WL.move rfl rfl rfl ?_
    first | refine WL.move rfl rfl rfl ?_
    first | refine WL.move rfl rfl rfl ?_
    have hlt : t < 32 := by omega
    obtain ⟨u, hu⟩ := ofset (l := X) (j := t) (by omega)
    have hvi : Has wi v X := ob3.has.fx fxi (fun k hk e => by have e : k = q3 := e; have := ob3.base _ hk; omega)
    obtain ⟨ad, iu, lu⟩ := hvi.item hu
    refine WL.index rfl rfl rfl rfl (iu _) ?_
    refine WL.load rfl rfl rfl lu ?_
    refine WL.index rfl rfl rfl rfl (ix25 q3 0 t hlt _) ?_
    obtain ⟨w4, s4, b4, f4⟩ := bki.stI (a := []) (b := []) (K := ouB X 32 t) (o := 0) (by simp) rfl (i := t) (by rw [ouB_len (by omega)]; exact hlt) u
    refine WL.store rfl rfl rfl s4 ?_
    rw [ouB_step hlt (by rw [tkB_at hlt (by omega)]; exact hu)] at b4
    refine WL.done ?_
    refine pn_block ?_
    refine EW.on ?_
    refine EW.region ?_
    first | refine WL.move rfl rfl rfl ?_
    refine WL.bin rfl rfl rfl rfl (int_add (c := ((t + 1 : Nat) : Int)) (by rw [IntKind.wrap_i64]; omega) _ _ _) ?_
    first | refine WL.assign rfl rfl rfl ?_
    refine WL.done ?_
    exact EW.again (E := keE B q2 q3 v) (R := KeI w3 X q3) (m := fun t => 32 - t) (x := t) (t + 1) [2, 3, 4, 5] rfl ⟨by omega, by simpa using b4, fxi.and f4⟩ (by show 32 - (t + 1) < 32 - t; omega)
  · refine EW.exit ?_
    refine px_then ?_
    refine px_then ?_
    refine px_block ?_
    refine EW.on ?_
    refine EW.seq ?_
    refine EW.region ?_
    have hte : t = 32 := by omega
    have bkn : Blk wi q3 (X.map byt) 25 := by
      have h := bki
      rw [hte, ouB_all, tkB_self hXl] at h
      exact h
    refine WL.load rfl rfl rfl (bkn.ldA (a := []) (m := X.map byt) (b := []) u25 rfl (i25 hXl) (by simp) rfl) ?_
    obtain ⟨w9, s9, b9, f9⟩ := (a3.fx fxi (fun e => by omega)).stA (o := 0) (a := []) (b := []) (m := z32.map byt) (ty := 25) (vs := X.map byt) (i25 hXl) (byts_one' _) (by simp) rfl (by simp [hXl, z32])
    refine WL.store rfl rfl rfl s9 ?_
    refine WL.done ?_
    refine EW.on ?_
    refine EW.ret ?_
    refine EW.returnsC Try.results67 rfl b9 u25 rfl (by simpa using i25 hXl) ⟨by rw [hX]; simp [kv], ?_, ?_⟩
    · exact (tq3.fx fxi (fun e => by omega) (fun k hk => by have hk : k = q3 := hk; omega)).fx f9 (fun e => by omega) (fun k hk => by have hk : k = q2 := hk; omega)
    · exact (((Fx.of_below (bt e1 e2)).and f3).trans fxi (fun i hi e => by have e : i = q3 := e; omega)).trans f9 (fun i hi e => by have e : i = q2 := e; omega)
def foE (v : Value) (X : List UInt8) (t : Nat) : List (Nat × Value) := [(3, u32v (numB (X.take t))), (4, v), (5, .int .i64 (t : Int))]
def FoI (w1 : World) (t : Nat) (W : World) : Prop := W = w1 ∧ t ≤ 4
set_option maxRecDepth 100000 in
set_option maxHeartbeats 4000000 in
theorem tq_four (B q pos : Nat) (c : List UInt8) (w : World) (h : Tq w B q c pos) (hB : B ≤ w.heap.size) (hl : c.length ≤ 140737488355328) : Calls Try.prog 68 #[.pointer (some ⟨q, 0, none⟩)] w fun e w' => e = .returned (u32v (numB (tkC c pos 4))) ∧ Tq w' B q c (pos + 4) ∧ Fx (fun k => k = q) w w' := by
  refine calls_of_args [.pointer (some ⟨q, 0, none⟩)] Try.func68 rfl 21 Try.ntmps68 (by show 1 ≤ 21; decide) ?_
  refine EW.seq ?_
  refine EW.region ?_
  first | refine WL.assign rfl rfl rfl ?_
  refine WL.done ?_
  refine EW.on ?_
  refine EW.seq ?_
  refine EW.region ?_
  first | refine WL.assign rfl rfl rfl ?_
  refine WL.done ?_
  refine EW.on ?_
  refine EW.seq ?_
  refine EW.region ?_
  first | refine WL.move rfl rfl rfl ?_
  refine WL.call [.pointer (some ⟨q, 0, none⟩), .int .i64 4] enter66 rfl rfl rfl (tq_take B q 4 pos c _ h (by omega) (by decide) (by decide) hl) ?_
  rintro _ w3 ⟨v, rfl, ob3, tq3, f3⟩
  refine ⟨_, rfl, ?_⟩
  obtain ⟨X, hX⟩ : ∃ X, tkC c pos 4 = X := ⟨_, rfl⟩
  have hXl : X.length = 4 := by rw [← hX]; exact tkC_len _ _ _
  rw [hX] at ob3
  first | refine WL.assign rfl rfl rfl ?_
  refine WL.done ?_
  refine EW.on ?_
  refine EW.seq ?_
  refine EW.seq ?_
  refine EW.region ?_
  first | refine WL.assign rfl rfl rfl ?_
  refine WL.done ?_
  refine EW.on ?_
  refine EW.block ?_
  refine EW.loop (foE v X) (FoI w3) (fun t => 4 - t) 0 [3, 4, 5] rfl ⟨rfl, Nat.zero_le _⟩ ?_
  rintro t wi ⟨hwi, htl⟩
  subst hwi
  show EW _ _ _ _ [(3, u32v (numB (X.take t))), (4, v), (5, .int .i64 (t : Int))] _
  refine EW.seq ?_
  refine EW.seq ?_
  refine EW.region ?_
  first | refine WL.move rfl rfl rfl ?_
  refine WL.bin rfl rfl rfl rfl (int_lt_d _ _ _ _ _) ?_
  refine WL.done ?_
  refine EW.on ?_
  refine EW.cond_d rfl (fun h9 => ?_) (fun h9 => ?_)
  · refine EW.skip ?_
    refine EW.on ?_
    refine EW.seq ?_
    refine EW.block ?_
    have ht : t < X.length := by omega
    obtain ⟨u, hu⟩ : ∃ u, X[t]? = some u := ⟨_, List.getElem?_eq_getElem ht⟩
    obtain ⟨ad, iu, lu⟩ := ob3.has.item hu
    have hst : numB (X.take (t + 1)) = numB (X.take t) * 256 + u.toNat := by rw [List.take_add_one, hu]; exact numB_snoc _ _
    have hx : numB (X.take t) < 16777216 := by
      have h1 := numB_lt4 (X.take t)
      have h2 : 256 ^ (X.take t).length ≤ 256 ^ 3 := Nat.pow_le_pow_right (by decide) (by rw [List.length_take]; omega)
      omega
    refine EW.region ?_
    first | refine WL.move rfl rfl rfl ?_
    refine WL.bin rfl rfl rfl rfl (mulU hx _ _ _) ?_
    first | refine WL.move rfl rfl rfl ?_
    first | refine WL.move rfl rfl rfl ?_
    refine WL.index rfl rfl rfl rfl (iu _) ?_
    refine WL.load rfl rfl rfl lu ?_
    refine WL.conv rfl rfl rfl (conv57 u _) ?_
    refine WL.bin rfl rfl rfl rfl (addU u hx _ _ _) ?_
    first | refine WL.assign rfl rfl rfl ?_
    refine WL.done ?_
    refine pn_block ?_
    refine EW.on ?_
    refine EW.region ?_
    first | refine WL.move rfl rfl rfl ?_
    refine WL.bin rfl rfl rfl rfl (int_add (c := ((t + 1 : Nat) : Int)) (by rw [IntKind.wrap_i64]; omega) _ _ _) ?_
    first | refine WL.assign rfl rfl rfl ?_
    refine WL.done ?_
    refine EW.again (E := foE v X) (R := FoI wi) (m := fun t => 4 - t) (x := t) (t + 1) [3, 4, 5] (by rw [foE, hst]; rfl) ⟨rfl, by omega⟩ (by show 4 - (t + 1) < 4 - t; omega)
  · refine EW.exit ?_
    refine px_then ?_
    refine px_then ?_
    refine px_block ?_
    refine EW.on ?_
    refine EW.seq ?_
    have hte : X.take t = X := List.take_of_length_le (by omega)
    rw [hte]
    refine EW.region ?_
    first | refine WL.move rfl rfl rfl ?_
    first | refine WL.assign rfl rfl rfl ?_
    refine WL.done ?_
    refine EW.on ?_
    refine EW.ret ?_
    exact EW.returns Try.results68 rfl ⟨by rw [hX], tq3, f3⟩
end Go.Proofs.Ytacimelcmkhhlaa
