import Derived.Test.YthfcabhelldokaaMd
import Derived.Test.YthfcabhelldokaaLpG
set_option linter.unusedVariables false
set_option linter.unusedSimpArgs false
namespace Go.Proofs.Ythfcabhelldokaa
open Go.RowKit

/-- A step, whatever it is. -/
theorem plays_ex {W : World} {L : Lay} {R : Rl} {D : Dv} {B : Bl} {c : Nat} (h : Three' W L R D B c) (hc : c ≤ 200000) (hpl : D.pen.length ≤ 100000) (hcal : D.calls < 1000000000) (hleft : D.left < 9223372036854775808) (s : Stp) (hs : s.ok W) (hkl : s.ks.length ≤ 100000000) (hbl : s.b.length ≤ 1000000000) (hsn : ∀ k, (s.b ≠ [] ∧ s.vb.ownBlock = some k) ∨ (s.ks ≠ [] ∧ s.vk.ownBlock = some k) → ¬ (L.F k ∨ R.F k)) :
    Calls Try.prog 31 #[.pointer (some ⟨L.p, 0, none⟩), .pointer (some ⟨R.p, 0, none⟩), .agg (stC s).toArray, .pointer (some ⟨B.p, 0, none⟩)] W fun e w' => e = .returned (.bool true) ∧ ∃ L' R' B' D', Three' w' L' R' D' B' (c + D.pen.length + 2) ∧ St3 W w' L L' R R' B B' ∧ Dgo D D' := by
  by_cases n1 : s.kind = 1
  · exact py_read h hc hpl hcal hleft s hs hkl hbl hsn n1
  by_cases n2 : s.kind = 2
  · exact py_write h hc hpl hcal hleft s hs hkl hbl hsn n1 n2
  by_cases n3 : s.kind = 3
  · exact py_raw h hc hpl hcal hleft s hs hkl hbl hsn n1 n2 n3
  by_cases n4 : s.kind = 4
  · exact py_flush h hc hpl hcal hleft s hs hkl hbl hsn n1 n2 n3 n4
  by_cases n5 : s.kind = 5
  · exact py_arm h hc hpl hcal hleft s hs hkl hbl hsn n1 n2 n3 n4 n5
  by_cases n6 : s.kind = 6
  · exact py_armed h hc hpl hcal hleft s hs hkl hbl hsn n1 n2 n3 n4 n5 n6
  by_cases n7 : s.kind = 7
  · exact py_crash h hc hpl hcal hleft s hs hkl hbl hsn n1 n2 n3 n4 n5 n6 n7
  by_cases n8 : s.kind = 8
  · exact py_up h hc hpl hcal hleft s hs hkl hbl hsn n1 n2 n3 n4 n5 n6 n7 n8
  by_cases n9 : s.kind = 9
  · exact py_tell h hc hpl hcal hleft s hs hkl hbl hsn n1 n2 n3 n4 n5 n6 n7 n8 n9
  exact py_none h hc hpl hcal hleft s hs hkl hbl hsn n1 n2 n3 n4 n5 n6 n7 n8 n9
/-- A pair of devices, or none. -/
def Par (V : World) (dp rp : Option Addr) (F : Nat → Prop) (t : Nat) : Prop := (dp = none ∧ rp = none ∧ ∀ k, ¬ F k) ∨ ∃ L R D, dp = some ⟨L.p, 0, none⟩ ∧ rp = some ⟨R.p, 0, none⟩ ∧ Two V L R D ∧ (∀ k, F k ↔ (L.F k ∨ R.F k)) ∧ D.calls ≤ t ∧ D.pen.length ≤ t ∧ D.left < 9223372036854775808
theorem Par.fx {S : Nat → Prop} {V V' : World} {dp rp : Option Addr} {F : Nat → Prop} {t : Nat} (h : Par V dp rp F t) (hf : Fx S V V') (hd : ∀ k, F k → ¬ S k) : Par V' dp rp F t := by
  rcases h with h | ⟨L, R, D, e1, e2, h1, h2, h3⟩
  · exact .inl h
  · exact .inr ⟨L, R, D, e1, e2, h1.fx hf (fun k hk => hd k ((h2 k).2 hk)), h2, h3⟩
theorem Par.lt {V : World} {dp rp : Option Addr} {F : Nat → Prop} {t : Nat} (h : Par V dp rp F t) (k : Nat) (hk : F k) : k < V.heap.size := by
  rcases h with ⟨_, _, h⟩ | ⟨L, R, D, e1, e2, h1, h2, h3⟩
  · exact absurd hk (h k)
  · exact h1.lt k ((h2 k).1 hk)
theorem Par.mono {V : World} {dp rp : Option Addr} {F : Nat → Prop} {t t' : Nat} (h : Par V dp rp F t) (ht : t ≤ t') : Par V dp rp F t' := by
  rcases h with h | ⟨L, R, D, e1, e2, h1, h2, h3, h4, h5⟩
  · exact .inl h
  · exact .inr ⟨L, R, D, e1, e2, h1, h2, Nat.le_trans h3 ht, Nat.le_trans h4 ht, h5⟩
theorem Par.of {w V : World} {dp rp : Option Addr} (h : Par0 w V dp rp) : ∃ F, Par V dp rp F 0 ∧ ∀ k, F k → w.heap.size ≤ k := by
  rcases h with ⟨e1, e2⟩ | ⟨L, R, D, e1, e2, h1, h2, h3, h4, h5⟩
  · exact ⟨fun _ => False, .inl ⟨e1, e2, fun _ e => e⟩, fun _ e => e.elim⟩
  · exact ⟨fun k => L.F k ∨ R.F k, .inr ⟨L, R, D, e1, e2, h1, fun _ => Iff.rfl, by omega, by rw [h4]; exact Nat.zero_le _, by omega⟩, h2⟩
/-- All: two pairs and the book, apart, of the call's own. -/
structure Al (w V : World) (dp0 rp0 dp1 rp1 : Option Addr) (bp : Nat) (F0 F1 : Nat → Prop) (B : Bl) (t : Nat) : Prop where
  be : Below w.heap.size w V
  p0 : Par V dp0 rp0 F0 t
  p1 : Par V dp1 rp1 F1 t
  b : Bst V B (300 * t)
  bp : B.p = bp
  a01 : ∀ k, F0 k → ¬ F1 k
  a0 : ∀ k, F0 k → ¬ B.F k
  a1 : ∀ k, F1 k → ¬ B.F k
  lo : ∀ k, F0 k ∨ F1 k ∨ B.F k → w.heap.size ≤ k
theorem Al.swap {w V : World} {dp0 rp0 dp1 rp1 : Option Addr} {bp : Nat} {F0 F1 : Nat → Prop} {B : Bl} {t : Nat} (h : Al w V dp0 rp0 dp1 rp1 bp F0 F1 B t) : Al w V dp1 rp1 dp0 rp0 bp F1 F0 B t :=
  ⟨h.be, h.p1, h.p0, h.b, h.bp, fun k h1 h2 => h.a01 k h2 h1, h.a1, h.a0, fun k hk => h.lo k (hk.elim (fun e => .inr (.inl e)) (fun e => e.elim (fun e => .inl e) (fun e => .inr (.inr e))))⟩
theorem Al.below {w V V' : World} {dp0 rp0 dp1 rp1 : Option Addr} {bp : Nat} {F0 F1 : Nat → Prop} {B : Bl} {t : Nat} (h : Al w V dp0 rp0 dp1 rp1 bp F0 F1 B t) (hb : Below V.heap.size V V') : Al w V' dp0 rp0 dp1 rp1 bp F0 F1 B t :=
  ⟨h.be.trans (hb.mono h.be.size), h.p0.fx (Fx.of_below (S := fun _ => False) hb) (fun _ _ s => s), h.p1.fx (Fx.of_below (S := fun _ => False) hb) (fun _ _ s => s), h.b.below hb, h.bp, h.a01, h.a0, h.a1, h.lo⟩
theorem Al.mono {w V : World} {dp0 rp0 dp1 rp1 : Option Addr} {bp : Nat} {F0 F1 : Nat → Prop} {B : Bl} {t : Nat} (h : Al w V dp0 rp0 dp1 rp1 bp F0 F1 B t) : Al w V dp0 rp0 dp1 rp1 bp F0 F1 B (t + 1) :=
  ⟨h.be, h.p0.mono (Nat.le_succ _), h.p1.mono (Nat.le_succ _), h.b.mono (by omega), h.bp, h.a01, h.a0, h.a1, h.lo⟩
/-- The pair and the book have turned. -/
theorem Al.turn {w V V' : World} {dp1 rp1 : Option Addr} {bp : Nat} {F0 F1 : Nat → Prop} {B B' : Bl} {t c : Nat} {L L' : Lay} {R R' : Rl} {D' : Dv} (h : Al w V (some ⟨L.p, 0, none⟩) (some ⟨R.p, 0, none⟩) dp1 rp1 bp F0 F1 B t) (hF : ∀ k, F0 k ↔ (L.F k ∨ R.F k)) (k : Three' V' L' R' D' B' c) (st : St3 V V' L L' R R' B B') (hc : c ≤ 300 * (t + 1)) (h1 : D'.calls ≤ t + 1) (h2 : D'.pen.length ≤ t + 1) (h3 : D'.left < 9223372036854775808) :
    Al w V' (some ⟨L.p, 0, none⟩) (some ⟨R.p, 0, none⟩) dp1 rp1 bp (fun k => L'.F k ∨ R'.F k) F1 B' (t + 1) := by
  have hS : ∀ k, F1 k → ¬ ((L.F k ∨ R.F k) ∨ B.F k) := fun k hk e => e.elim (fun e => h.a01 k ((hF k).2 e) hk) (fun e => h.a1 k hk e)
  have hlo : ∀ k, (L.F k ∨ R.F k) ∨ B.F k → w.heap.size ≤ k := fun k e => e.elim (fun e => h.lo k (.inl ((hF k).2 e))) (fun e => h.lo k (.inr (.inr e)))
  have hLR : ∀ k, L'.F k ∨ R'.F k → (L.F k ∨ R.F k) ∨ V.heap.size ≤ k := fun k e => by
    rcases e with e | e
    · rcases st.ol k e with e | e
      · exact .inl (.inl e)
      · exact .inr e
    · rcases st.or k e with e | e
      · exact .inl (.inr e)
      · exact .inr e
  refine ⟨h.be.trans (st.fx.below (fun k hk e => by have := hlo k e; omega) h.be.size), .inr ⟨L', R', D', by rw [st.pl], by rw [st.pr], k.two, fun _ => Iff.rfl, h1, h2, h3⟩, (h.p1.fx st.fx hS).mono (Nat.le_succ _), k.bst.mono hc, st.pb.trans h.bp, fun j hj h5 => ?_, k.ap, fun j hj h5 => ?_, fun j hj => ?_⟩
  · rcases hLR j hj with e | e
    · exact h.a01 j ((hF j).2 e) h5
    · have := h.p1.lt j h5; omega
  · rcases st.ob j h5 with e | e
    · exact h.a1 j hj e
    · have := h.p1.lt j hj; omega
  · have := h.be.size
    rcases hj with hj | hj | hj
    · rcases hLR j hj with e | e
      · exact hlo j (.inl e)
      · omega
    · exact h.lo j (.inr (.inl hj))
    · rcases st.ob j hj with e | e
      · exact hlo j (.inr e)
      · omega
/-- What a step's slices hold lies in the caller's blocks. -/
theorem stp_blocks {w : World} {s : Stp} (hs : s.ok w) (k : Nat) (hk : (s.b ≠ [] ∧ s.vb.ownBlock = some k) ∨ (s.ks ≠ [] ∧ s.vk.ownBlock = some k)) : k < w.heap.size := by
  rcases hk with ⟨hn, hk⟩ | ⟨hn, hk⟩
  · rcases hs.hb with ⟨_, e⟩ | ⟨ad, cap, e, _, hc⟩
    · exact absurd e hn
    · obtain ⟨u, hu⟩ : ∃ u, s.b[0]? = some u := ⟨_, List.getElem?_eq_getElem (List.length_pos_iff.2 hn)⟩
      have := cell_lt (hc 0 u hu)
      rw [add_block] at this
      rw [e] at hk
      have : ad.block = k := by simpa [Value.ownBlock] using hk
      omega
  · rcases hs.hk with ⟨_, e⟩ | ⟨ad, cap, e, _, hc⟩
    · exact absurd e hn
    · obtain ⟨u, hu⟩ : ∃ u, s.ks[0]? = some u := ⟨_, List.getElem?_eq_getElem (List.length_pos_iff.2 hn)⟩
      have := cell_lt (hc 0 u hu)
      rw [add_block] at this
      rw [e] at hk
      have : ad.block = k := by simpa [Value.ownBlock] using hk
      omega
theorem al_play {w V : World} {dp0 rp0 dp1 rp1 : Option Addr} {bp : Nat} {F0 F1 : Nat → Prop} {B : Bl} {t : Nat} (h : Al w V dp0 rp0 dp1 rp1 bp F0 F1 B t) (hd : dp0 ≠ none) (ht : t ≤ 200) (s : Stp) (hs : s.ok w) (hkl : s.ks.length ≤ 100000000) (hbl : s.b.length ≤ 1000000000) :
    Calls Try.prog 31 #[.pointer dp0, .pointer rp0, .agg (stC s).toArray, .pointer (some ⟨bp, 0, none⟩)] V fun e w' => e = .returned (.bool true) ∧ ∃ F0' B', Al w w' dp0 rp0 dp1 rp1 bp F0' F1 B' (t + 1) := by
  rcases h.p0 with ⟨e, _⟩ | ⟨L, R, D, rfl, rfl, k1, k2, k3, k4, k5⟩
  · exact absurd e hd
  · have h3 : Three' V L R D B (300 * t) := ⟨k1, h.b, fun k hk e => h.a0 k ((k2 k).2 hk) e⟩
    have hx := plays_ex h3 (by omega) (by omega) (by omega) k5 s (hs.below h.be) hkl hbl (fun k hk e => by
      have h6 := stp_blocks hs k hk
      have := h.lo k (.inl ((k2 k).2 e)); omega)
    rw [h.bp] at hx
    refine hx.mono fun e w' ⟨e1, L', R', B', D', e2, e3, e4⟩ => ⟨e1, _, B', h.turn k2 e2 e3 (by omega) (by have := e4.cal; omega) (by have := e4.pen; omega) e4.left⟩
theorem al_tell {w V : World} {dp0 rp0 dp1 rp1 : Option Addr} {bp : Nat} {F0 F1 : Nat → Prop} {B : Bl} {t : Nat} (h : Al w V dp0 rp0 dp1 rp1 bp F0 F1 B t) (hd : dp0 ≠ none) (ht : t ≤ 202) :
    Calls Try.prog 33 #[.pointer dp0, .pointer rp0, .pointer (some ⟨bp, 0, none⟩)] V fun e w' => e = .returned (.bool true) ∧ ∃ F0' B', Al w w' dp0 rp0 dp1 rp1 bp F0' F1 B' (t + 1) := by
  rcases h.p0 with ⟨e, _⟩ | ⟨L, R, D, rfl, rfl, k1, k2, k3, k4, k5⟩
  · exact absurd e hd
  · have h3 : Three' V L R D B (300 * t) := ⟨k1, h.b, fun k hk e => h.a0 k ((k2 k).2 hk) e⟩
    have hx := tells_law k1 h.b h3.ap (by omega) (by omega)
    rw [h.bp] at hx
    refine hx.mono fun e w' ⟨e1, B', e2, e3, e4, e5⟩ => ?_
    obtain ⟨k6, st6⟩ := h3.book e3 e4 e5 (e2.trans h.bp.symm)
    exact ⟨e1, _, B', h.turn k2 k6 st6 (by omega) (by omega) (by omega) k5⟩
theorem rem2i (z : Int) (W : World) (x y : Operand) : (do eqGuard .rem 3 x y (.int .i64 z) (.int .i64 2); binOp .rem 3 (.int .i64 z) (.int .i64 2) : Sem Value).run Try.prog W = .ok (.int .i64 (z.tmod 2)) W := by go_simp
theorem ptr_ne_t (ad : Addr) (W : World) (x y : Operand) : (do eqGuard .neq 28 x y (.pointer (some ad)) (.pointer none); binOp .neq 28 (.pointer (some ad)) (.pointer none) : Sem Value).run Try.prog W = .ok (.bool true) W := by go_simp
theorem ptr_ne_f (W : World) (x y : Operand) : (do eqGuard .neq 28 x y (.pointer none) (.pointer none); binOp .neq 28 (.pointer none) (.pointer none) : Sem Value).run Try.prog W = .ok (.bool false) W := by go_simp
theorem bd68 (W : World) : (Instr.build 68 #[]).run Try.prog W = .ok (.agg [Value.slice none 0 0, .slice none 0 0, .int .i64 0, .slice none 0 0].toArray) W := by kernel_rfl
theorem WL.build0 {P : Program} {n : Nat} {ops : Array Oper} {Q : Exit → Act → World → Prop} {i : Nat} {ty : TypeId} {ps : String} {af : Array Edge} {gd : Option (Nat × Bool)} {r : List Oper} {e : List (Nat × Value)} {w : World} {t : TypeId} {v : Value} (hw : wantE ops e ⟨some i, .build t #[], ty, ps, af, gd⟩ = some true) (hi : decide (i < n) = true) (hr : (Instr.build t #[]).run P w = .ok v w) (k : WL P n ops Q r ((i, v) :: e) w) : WL P n ops Q (⟨some i, .build t #[], ty, ps, af, gd⟩ :: r) e w :=
  WL.op i v hw rfl hi (fun a ha => by
    simp only [execOp, List.map_toArray, List.map_nil, Sem.run_bind, hr, Result.andThen_ok, Sem.run_pure]) k
theorem ext_3 (a b c : Value) (W : World) : (Instr.extract (.tuple #[a, b, c]) 0).run Try.prog W = .ok a W ∧ (Instr.extract (.tuple #[a, b, c]) 1).run Try.prog W = .ok b W ∧ (Instr.extract (.tuple #[a, b, c]) 2).run Try.prog W = .ok c W := by
  refine ⟨?_, ?_, ?_⟩ <;> go_simp
theorem f53_1 (ad : Addr) (W : World) : (Instr.fieldAt 53 (.pointer (some ad)) 1).run Try.prog W = .ok (.pointer (some (ad.add 1))) W := by go_simp
def xE (sv bv d0 r0 d1 r1 : Value) (t : Nat) : List (Nat × Value) := [(2, sv), (7, bv), (8, d0), (9, r0), (11, d1), (12, r1), (14, .int .i64 (t : Int))]
set_option maxRecDepth 100000 in
set_option maxHeartbeats 1000000 in
theorem exact_law (n : Int) (iv : Value) (img : List UInt8) (sv : Value) (os : List Stp) (w : World) (hiv : Has w iv img) (himg : img.length ≤ 1000000000) (hsc : Script w sv os) (hsm : ∀ s ∈ os, s.ks.length ≤ 100000000 ∧ s.b.length ≤ 1000000000) : Calls Try.prog 8 #[.int .i64 n, iv, sv] w fun e w' => e = .returned (.bool true) ∧ Below w.heap.size w w' := by
  obtain ⟨gB, hgB⟩ : ∃ g, w.heap.size = g := ⟨_, rfl⟩
  have hbox := run_boxR (P := Try.prog) 68 [Value.slice none 0 0, .slice none 0 0, .int .i64 0, .slice none 0 0] w gB hgB
  have bB : Blk (w.alloc (.cells [Value.slice none 0 0, .slice none 0 0, .int .i64 0, .slice none 0 0].toArray 68)) gB [Value.slice none 0 0, .slice none 0 0, .int .i64 0, .slice none 0 0] 68 := Blk.newAt hgB
  have be0 : Below w.heap.size w (w.alloc (.cells [Value.slice none 0 0, .slice none 0 0, .int .i64 0, .slice none 0 0].toArray 68)) := below_new w _
  have sz0 : (w.alloc (.cells [Value.slice none 0 0, .slice none 0 0, .int .i64 0, .slice none 0 0].toArray 68)).heap.size = gB + 1 := by simp [hgB]
  obtain ⟨w0, hw0⟩ : ∃ w0, w.alloc (.cells [Value.slice none 0 0, .slice none 0 0, .int .i64 0, .slice none 0 0].toArray 68) = w0 := ⟨_, rfl⟩
  rw [hw0] at hbox bB be0 sz0
  have hm0 := made_nil n (.slice none 0 0) w0 (.inl ⟨rfl, rfl⟩)
  refine calls_of_args [.int .i64 n, iv, sv] Try.func8 rfl 108 Try.ntmps8 (by show 3 ≤ 108; decide) ?_
  refine EW.seq ?_
  refine EW.region ?_
  first | refine WL.assign rfl rfl rfl ?_
  refine WL.done ?_
  refine EW.on ?_
  refine EW.seq ?_
  refine EW.region ?_
  refine WL.build0 rfl rfl (bd68 _) ?_
  refine WL.box rfl rfl rfl hbox ?_
  first | refine WL.assign rfl rfl rfl ?_
  refine WL.done ?_
  refine EW.on ?_
  refine EW.seq ?_
  refine EW.region ?_
  first | refine WL.move rfl rfl rfl ?_
  refine WL.call [.int .i64 n, .slice none 0 0] enter17 rfl rfl rfl hm0 ?_
  rintro x w1 ⟨dp0, rp0, rfl, be1, hp0⟩
  refine ⟨_, rfl, ?_⟩
  first | refine WL.move rfl rfl rfl ?_
  refine WL.extract rfl rfl rfl (ext_3 _ _ _ _).1 ?_
  refine WL.extract rfl rfl rfl (ext_3 _ _ _ _).2.1 ?_
  refine WL.extract rfl rfl rfl (ext_3 _ _ _ _).2.2 ?_
  first | refine WL.assign rfl rfl rfl ?_
  first | refine WL.assign rfl rfl rfl ?_
  first | refine WL.assign rfl rfl rfl ?_
  refine WL.done ?_
  have be01 : Below w.heap.size w w1 := be0.trans (be1.mono be0.size)
  have hm1 : Calls Try.prog 17 #[.int .i64 3, iv] w1 fun e w' => ∃ dp rp, e = .returned (.tuple #[.pointer dp, .pointer rp, .bool true]) ∧ Below w1.heap.size w1 w' ∧ Par0 w1 w' dp rp := by
    rcases Nat.eq_zero_or_pos img.length with hz | hz
    · exact made_nil 3 iv w1 ((List.eq_nil_of_length_eq_zero hz ▸ hiv).below be01)
    · exact made_img 3 iv img w1 (hiv.below be01) hz himg
  refine EW.on ?_
  refine EW.seq ?_
  refine EW.region ?_
  first | refine WL.move rfl rfl rfl ?_
  refine WL.call [.int .i64 3, iv] enter17 rfl rfl rfl hm1 ?_
  rintro x w2 ⟨dp1, rp1, rfl, be2, hp1⟩
  refine ⟨_, rfl, ?_⟩
  first | refine WL.move rfl rfl rfl ?_
  refine WL.extract rfl rfl rfl (ext_3 _ _ _ _).1 ?_
  refine WL.extract rfl rfl rfl (ext_3 _ _ _ _).2.1 ?_
  refine WL.extract rfl rfl rfl (ext_3 _ _ _ _).2.2 ?_
  first | refine WL.assign rfl rfl rfl ?_
  first | refine WL.assign rfl rfl rfl ?_
  first | refine WL.assign rfl rfl rfl ?_
  refine WL.done ?_
  have hfi := fixed_any w2
  refine EW.on ?_
  refine EW.seq ?_
  refine EW.seq ?_
  refine EW.region ?_
  first | refine WL.move rfl rfl rfl ?_
  first | refine WL.un rfl rfl rfl (not_t _ _) ?_
  first | refine WL.move rfl rfl rfl ?_
  first | refine WL.move rfl rfl rfl ?_ | refine WL.skip _ rfl rfl rfl ?_
  first | refine WL.un rfl rfl rfl (not_t _ _) ?_ | refine WL.skip _ rfl rfl rfl ?_
  first | refine WL.pick rfl rfl rfl rfl ?_
  first | refine WL.move rfl rfl rfl ?_
  refine WL.call [] enter10 rfl rfl rfl hfi ?_
  rintro x w3 ⟨rfl, be3⟩
  refine ⟨_, rfl, ?_⟩
  first | refine WL.un rfl rfl rfl (not_t _ _) ?_ | refine WL.skip _ rfl rfl rfl ?_
  first | refine WL.pick rfl rfl rfl rfl ?_
  refine WL.done ?_
  obtain ⟨F0, q0, l0⟩ := Par.of hp0
  obtain ⟨F1, q1, l1⟩ := Par.of hp1
  have be23 : Below w1.heap.size w1 w3 := be2.trans (be3.mono be2.size)
  have hAl : Al w w3 dp0 rp0 dp1 rp1 gB F0 F1 ⟨gB, .slice none 0 0, .slice none 0 0, .slice none 0 0, [], [], [], 0⟩ 0 := by
    have hBF : ∀ k, (⟨gB, .slice none 0 0, .slice none 0 0, .slice none 0 0, [], [], [], 0⟩ : Bl).F k → k = gB := fun k hk => by
      rcases hk with e | e | e | e | ⟨x, hx, _⟩ | ⟨x, hx, _⟩
      · exact e
      · simp [Value.ownBlock] at e
      · simp [Value.ownBlock] at e
      · simp [Value.ownBlock] at e
      · simp at hx
      · simp at hx
    have b3 : Blk w3 gB [Value.slice none 0 0, .slice none 0 0, .int .i64 0, .slice none 0 0] 68 := (bB.on be1).on be23
    have hbk : Bok w3 ⟨gB, .slice none 0 0, .slice none 0 0, .slice none 0 0, [], [], [], 0⟩ := ⟨b3, World.ownsRow_nil _ _ _ _, World.ownsRow_nil _ _ _ _, World.ownsRow_nil _ _ _ _, fun x hx => by simp at hx, fun i x hx => by simp at hx, by simp [Value.ownBlock], by simp [Value.ownBlock], by simp [Value.ownBlock], fun k hk => by simp [Value.ownBlock] at hk, fun k hk => by simp [Value.ownBlock] at hk, fun k hk => by simp [Value.ownBlock] at hk, fun x hx => by simp at hx, fun x hx => by simp at hx⟩
    refine ⟨be01.trans (be23.mono be01.size), q0.fx (Fx.of_below (S := fun _ => False) be23) (fun _ _ s => s), q1.fx (Fx.of_below (S := fun _ => False) be3) (fun _ _ s => s), ⟨hbk, rfl, Nat.zero_le _, Nat.zero_le _, Nat.zero_le _, rfl, fun x hx => by simp at hx⟩, rfl, fun k h1 h2 => ?_, fun k h1 h2 => ?_, fun k h1 h2 => ?_, fun k hk => ?_⟩
    · have := q0.lt k h1; have := l1 k h2; omega
    · have := l0 k h1; have := hBF k h2; omega
    · have := l1 k h1; have := hBF k h2; have := be1.size; omega
    · have := be0.size; have := be1.size
      rcases hk with hk | hk | hk
      · have := l0 k hk; omega
      · have := l1 k hk; omega
      · have := hBF k hk; omega
  clear hp0 hp1 q0 q1 l0 l1 hm0 hm1 hfi
  have hsl := hsc.len
  refine EW.on ?_
  refine EW.cond_f rfl ?_
  refine EW.skip ?_
  refine EW.on ?_
  refine EW.seq ?_
  refine EW.seq ?_
  refine EW.region ?_
  first | refine WL.assign rfl rfl rfl ?_
  refine WL.done ?_
  refine EW.on ?_
  refine EW.block ?_
  refine EW.loop (xE sv (.pointer (some ⟨gB, 0, none⟩)) (.pointer dp0) (.pointer rp0) (.pointer dp1) (.pointer rp1)) (fun t w' => t ≤ os.length ∧ t ≤ 200 ∧ ∃ F0 F1 B, Al w w' dp0 rp0 dp1 rp1 gB F0 F1 B t) (fun t => 200 - t) 0 [2, 7, 8, 9, 11, 12, 14] rfl ⟨Nat.zero_le _, Nat.zero_le _, _, _, _, hAl⟩ ?_
  clear hAl
  rintro t wr ⟨htl, ht2, G0, G1, B, hA⟩
  show EW _ _ _ _ [(2, sv), (7, .pointer (some ⟨gB, 0, none⟩)), (8, .pointer dp0), (9, .pointer rp0), (11, .pointer dp1), (12, .pointer rp1), (14, .int .i64 (t : Int))] _
  by_cases h1 : t < os.length
  · have z1 : (t : Int) < (os.length : Int) := Int.ofNat_lt.2 h1
    by_cases h2 : t < 200
    · have z2 : (t : Int) < 200 := Int.ofNat_lt.2 h2
      have tn : IntKind.i64.wrap ((t : Int) + 1) = ((t + 1 : Nat) : Int) := by rw [IntKind.wrap_i64]; omega
      obtain ⟨s, hsg⟩ : ∃ s, os[t]? = some s := ⟨os[t]'h1, List.getElem?_eq_getElem _⟩
      obtain ⟨ad, hix, hat, hok⟩ := hsc.item t s hsg
      have hsmall := hsm s (List.mem_of_getElem? hsg)
      have hat2 := hat.below hA.be
      have hld := run_loadA (P := Try.prog) (ty := 53) hat2 Try.underlying53 rfl (info53 s)
      have hwh : wr.cell? (ad.add 1) = some (.int .i64 s.which) := hat2 1 _ rfl
      refine EW.seq ?_
      refine EW.seq ?_
      refine EW.region ?_
      first | refine WL.move rfl rfl rfl ?_
      first | refine WL.move rfl rfl rfl ?_
      refine WL.len rfl rfl rfl (hsl _ _) ?_
      refine WL.bin rfl rfl rfl rfl (int_lt_t z1 _ _ _) ?_
      first | refine WL.move rfl rfl rfl ?_
      first | refine WL.move rfl rfl rfl ?_ | refine WL.skip _ rfl rfl rfl ?_
      refine WL.bin rfl rfl rfl rfl (int_lt_t z2 _ _ _) ?_
      first | refine WL.pick rfl rfl rfl rfl ?_
      refine WL.done ?_
      refine EW.on ?_
      refine EW.cond_t rfl ?_
      refine EW.skip ?_
      refine EW.on ?_
      refine EW.seq ?_
      by_cases hev : s.which.tmod 2 = 0
      · rcases dp0 with _ | ad0
        · refine EW.block ?_
          refine EW.seq ?_
          refine EW.region ?_
          first | refine WL.assign rfl rfl rfl ?_
          refine WL.done ?_
          refine EW.on ?_
          refine EW.seq ?_
          refine EW.seq ?_
          refine EW.region ?_
          first | refine WL.move rfl rfl rfl ?_
          first | refine WL.move rfl rfl rfl ?_
          refine WL.index rfl rfl rfl rfl (hix _) ?_
          refine WL.field rfl rfl rfl (f53_1 _ _) ?_
          refine WL.load rfl rfl rfl (ld3 hwh) ?_
          refine WL.bin rfl rfl rfl rfl (rem2i _ _ _ _) ?_
          refine WL.bin rfl rfl rfl rfl (int_eq_t hev _ _ _) ?_
          first | refine WL.move rfl rfl rfl ?_
          first | refine WL.move rfl rfl rfl ?_ | refine WL.skip _ rfl rfl rfl ?_
          refine WL.bin rfl rfl rfl rfl (ptr_ne_f _ _ _) ?_
          first | refine WL.pick rfl rfl rfl rfl ?_
          refine WL.done ?_
          refine EW.on ?_
          refine EW.cond_f rfl ?_
          rcases dp1 with _ | ad1
          · refine EW.seq ?_
            refine EW.region ?_
            first | refine WL.move rfl rfl rfl ?_
            refine WL.bin rfl rfl rfl rfl (ptr_ne_f _ _ _) ?_
            refine WL.done ?_
            refine EW.on ?_
            refine EW.cond_f rfl ?_
            refine EW.skip ?_
            have hA6 := hA.mono
            have hho := hold_st hA6.b (by omega)
            rw [hA6.bp] at hho
            refine EW.on ?_
            refine EW.seq ?_
            refine EW.region ?_
            first | refine WL.move rfl rfl rfl ?_
            first | refine WL.un rfl rfl rfl (not_t _ _) ?_
            first | refine WL.move rfl rfl rfl ?_
            first | refine WL.move rfl rfl rfl ?_ | refine WL.skip _ rfl rfl rfl ?_
            refine WL.call [.pointer (some ⟨gB, 0, none⟩)] enter32 rfl rfl rfl hho ?_
            rintro x w6 ⟨rfl, be6⟩
            refine ⟨_, rfl, ?_⟩
            first | refine WL.un rfl rfl rfl (not_t _ _) ?_ | refine WL.skip _ rfl rfl rfl ?_
            first | refine WL.pick rfl rfl rfl rfl ?_
            refine WL.done ?_
            refine EW.on ?_
            refine EW.cond_f rfl ?_
            refine EW.skip ?_
            refine pn_block ?_
            refine EW.on ?_
            refine EW.region ?_
            first | refine WL.move rfl rfl rfl ?_
            first | refine WL.bin rfl rfl rfl rfl (int_add ‹_› _ _ _) ?_
            first | refine WL.assign rfl rfl rfl ?_
            refine WL.done ?_
            exact EW.again (t + 1) [2, 7, 8, 9, 11, 12, 14] rfl ⟨h1, h2, _, _, _, hA6.below be6⟩ (by show 200 - (t + 1) < 200 - t; omega)
          · have hpl := al_play hA.swap (by simp) ht2 s hok hsmall.1 hsmall.2
            refine EW.seq ?_
            refine EW.region ?_
            first | refine WL.move rfl rfl rfl ?_
            refine WL.bin rfl rfl rfl rfl (ptr_ne_t _ _ _ _) ?_
            refine WL.done ?_
            refine EW.on ?_
            refine EW.cond_t rfl ?_
            refine EW.region ?_
            first | refine WL.move rfl rfl rfl ?_
            first | refine WL.move rfl rfl rfl ?_
            first | refine WL.move rfl rfl rfl ?_
            first | refine WL.move rfl rfl rfl ?_
            refine WL.index rfl rfl rfl rfl (hix _) ?_
            refine WL.load rfl rfl rfl hld ?_
            first | refine WL.move rfl rfl rfl ?_
            refine WL.call [.pointer (some ad1), .pointer rp1, .agg (stC s).toArray, .pointer (some ⟨gB, 0, none⟩)] enter31 rfl rfl rfl hpl ?_
            rintro x w5 ⟨rfl, F5, B5, hA5⟩
            refine ⟨_, rfl, ?_⟩
            first | refine WL.assign rfl rfl rfl ?_
            refine WL.done ?_
            have hA6 := hA5.swap
            have hho := hold_st hA6.b (by omega)
            rw [hA6.bp] at hho
            refine EW.on ?_
            refine EW.seq ?_
            refine EW.region ?_
            first | refine WL.move rfl rfl rfl ?_
            first | refine WL.un rfl rfl rfl (not_t _ _) ?_
            first | refine WL.move rfl rfl rfl ?_
            first | refine WL.move rfl rfl rfl ?_ | refine WL.skip _ rfl rfl rfl ?_
            refine WL.call [.pointer (some ⟨gB, 0, none⟩)] enter32 rfl rfl rfl hho ?_
            rintro x w6 ⟨rfl, be6⟩
            refine ⟨_, rfl, ?_⟩
            first | refine WL.un rfl rfl rfl (not_t _ _) ?_ | refine WL.skip _ rfl rfl rfl ?_
            first | refine WL.pick rfl rfl rfl rfl ?_
            refine WL.done ?_
            refine EW.on ?_
            refine EW.cond_f rfl ?_
            refine EW.skip ?_
            refine pn_block ?_
            refine EW.on ?_
            refine EW.region ?_
            first | refine WL.move rfl rfl rfl ?_
            first | refine WL.bin rfl rfl rfl rfl (int_add ‹_› _ _ _) ?_
            first | refine WL.assign rfl rfl rfl ?_
            refine WL.done ?_
            exact EW.again (t + 1) [2, 7, 8, 9, 11, 12, 14] rfl ⟨h1, h2, _, _, _, hA6.below be6⟩ (by show 200 - (t + 1) < 200 - t; omega)
        · have hpl := al_play hA (by simp) ht2 s hok hsmall.1 hsmall.2
          refine EW.block ?_
          refine EW.seq ?_
          refine EW.region ?_
          first | refine WL.assign rfl rfl rfl ?_
          refine WL.done ?_
          refine EW.on ?_
          refine EW.seq ?_
          refine EW.seq ?_
          refine EW.region ?_
          first | refine WL.move rfl rfl rfl ?_
          first | refine WL.move rfl rfl rfl ?_
          refine WL.index rfl rfl rfl rfl (hix _) ?_
          refine WL.field rfl rfl rfl (f53_1 _ _) ?_
          refine WL.load rfl rfl rfl (ld3 hwh) ?_
          refine WL.bin rfl rfl rfl rfl (rem2i _ _ _ _) ?_
          refine WL.bin rfl rfl rfl rfl (int_eq_t hev _ _ _) ?_
          first | refine WL.move rfl rfl rfl ?_
          first | refine WL.move rfl rfl rfl ?_ | refine WL.skip _ rfl rfl rfl ?_
          refine WL.bin rfl rfl rfl rfl (ptr_ne_t _ _ _ _) ?_
          first | refine WL.pick rfl rfl rfl rfl ?_
          refine WL.done ?_
          refine EW.on ?_
          refine EW.cond_t rfl ?_
          refine EW.region ?_
          first | refine WL.move rfl rfl rfl ?_
          first | refine WL.move rfl rfl rfl ?_
          first | refine WL.move rfl rfl rfl ?_
          first | refine WL.move rfl rfl rfl ?_
          refine WL.index rfl rfl rfl rfl (hix _) ?_
          refine WL.load rfl rfl rfl hld ?_
          first | refine WL.move rfl rfl rfl ?_
          refine WL.call [.pointer (some ad0), .pointer rp0, .agg (stC s).toArray, .pointer (some ⟨gB, 0, none⟩)] enter31 rfl rfl rfl hpl ?_
          rintro x w5 ⟨rfl, F5, B5, hA5⟩
          refine ⟨_, rfl, ?_⟩
          first | refine WL.assign rfl rfl rfl ?_
          refine WL.done ?_
          have hho := hold_st hA5.b (by omega)
          rw [hA5.bp] at hho
          refine EW.on ?_
          refine EW.seq ?_
          refine EW.region ?_
          first | refine WL.move rfl rfl rfl ?_
          first | refine WL.un rfl rfl rfl (not_t _ _) ?_
          first | refine WL.move rfl rfl rfl ?_
          first | refine WL.move rfl rfl rfl ?_ | refine WL.skip _ rfl rfl rfl ?_
          refine WL.call [.pointer (some ⟨gB, 0, none⟩)] enter32 rfl rfl rfl hho ?_
          rintro x w6 ⟨rfl, be6⟩
          refine ⟨_, rfl, ?_⟩
          first | refine WL.un rfl rfl rfl (not_t _ _) ?_ | refine WL.skip _ rfl rfl rfl ?_
          first | refine WL.pick rfl rfl rfl rfl ?_
          refine WL.done ?_
          refine EW.on ?_
          refine EW.cond_f rfl ?_
          refine EW.skip ?_
          refine pn_block ?_
          refine EW.on ?_
          refine EW.region ?_
          first | refine WL.move rfl rfl rfl ?_
          first | refine WL.bin rfl rfl rfl rfl (int_add ‹_› _ _ _) ?_
          first | refine WL.assign rfl rfl rfl ?_
          refine WL.done ?_
          exact EW.again (t + 1) [2, 7, 8, 9, 11, 12, 14] rfl ⟨h1, h2, _, _, _, hA5.below be6⟩ (by show 200 - (t + 1) < 200 - t; omega)
      · refine EW.block ?_
        refine EW.seq ?_
        refine EW.region ?_
        first | refine WL.assign rfl rfl rfl ?_
        refine WL.done ?_
        refine EW.on ?_
        refine EW.seq ?_
        refine EW.seq ?_
        refine EW.region ?_
        first | refine WL.move rfl rfl rfl ?_
        first | refine WL.move rfl rfl rfl ?_
        refine WL.index rfl rfl rfl rfl (hix _) ?_
        refine WL.field rfl rfl rfl (f53_1 _ _) ?_
        refine WL.load rfl rfl rfl (ld3 hwh) ?_
        refine WL.bin rfl rfl rfl rfl (rem2i _ _ _ _) ?_
        refine WL.bin rfl rfl rfl rfl (int_eq_f hev _ _ _) ?_
        first | refine WL.move rfl rfl rfl ?_
        refine WL.skip _ rfl rfl rfl ?_
        refine WL.skip _ rfl rfl rfl ?_
        first | refine WL.pick rfl rfl rfl rfl ?_
        refine WL.done ?_
        refine EW.on ?_
        refine EW.cond_f rfl ?_
        rcases dp1 with _ | ad1
        · refine EW.seq ?_
          refine EW.region ?_
          first | refine WL.move rfl rfl rfl ?_
          refine WL.bin rfl rfl rfl rfl (ptr_ne_f _ _ _) ?_
          refine WL.done ?_
          refine EW.on ?_
          refine EW.cond_f rfl ?_
          refine EW.skip ?_
          have hA6 := hA.mono
          have hho := hold_st hA6.b (by omega)
          rw [hA6.bp] at hho
          refine EW.on ?_
          refine EW.seq ?_
          refine EW.region ?_
          first | refine WL.move rfl rfl rfl ?_
          first | refine WL.un rfl rfl rfl (not_t _ _) ?_
          first | refine WL.move rfl rfl rfl ?_
          first | refine WL.move rfl rfl rfl ?_ | refine WL.skip _ rfl rfl rfl ?_
          refine WL.call [.pointer (some ⟨gB, 0, none⟩)] enter32 rfl rfl rfl hho ?_
          rintro x w6 ⟨rfl, be6⟩
          refine ⟨_, rfl, ?_⟩
          first | refine WL.un rfl rfl rfl (not_t _ _) ?_ | refine WL.skip _ rfl rfl rfl ?_
          first | refine WL.pick rfl rfl rfl rfl ?_
          refine WL.done ?_
          refine EW.on ?_
          refine EW.cond_f rfl ?_
          refine EW.skip ?_
          refine pn_block ?_
          refine EW.on ?_
          refine EW.region ?_
          first | refine WL.move rfl rfl rfl ?_
          first | refine WL.bin rfl rfl rfl rfl (int_add ‹_› _ _ _) ?_
          first | refine WL.assign rfl rfl rfl ?_
          refine WL.done ?_
          exact EW.again (t + 1) [2, 7, 8, 9, 11, 12, 14] rfl ⟨h1, h2, _, _, _, hA6.below be6⟩ (by show 200 - (t + 1) < 200 - t; omega)
        · have hpl := al_play hA.swap (by simp) ht2 s hok hsmall.1 hsmall.2
          refine EW.seq ?_
          refine EW.region ?_
          first | refine WL.move rfl rfl rfl ?_
          refine WL.bin rfl rfl rfl rfl (ptr_ne_t _ _ _ _) ?_
          refine WL.done ?_
          refine EW.on ?_
          refine EW.cond_t rfl ?_
          refine EW.region ?_
          first | refine WL.move rfl rfl rfl ?_
          first | refine WL.move rfl rfl rfl ?_
          first | refine WL.move rfl rfl rfl ?_
          first | refine WL.move rfl rfl rfl ?_
          refine WL.index rfl rfl rfl rfl (hix _) ?_
          refine WL.load rfl rfl rfl hld ?_
          first | refine WL.move rfl rfl rfl ?_
          refine WL.call [.pointer (some ad1), .pointer rp1, .agg (stC s).toArray, .pointer (some ⟨gB, 0, none⟩)] enter31 rfl rfl rfl hpl ?_
          rintro x w5 ⟨rfl, F5, B5, hA5⟩
          refine ⟨_, rfl, ?_⟩
          first | refine WL.assign rfl rfl rfl ?_
          refine WL.done ?_
          have hA6 := hA5.swap
          have hho := hold_st hA6.b (by omega)
          rw [hA6.bp] at hho
          refine EW.on ?_
          refine EW.seq ?_
          refine EW.region ?_
          first | refine WL.move rfl rfl rfl ?_
          first | refine WL.un rfl rfl rfl (not_t _ _) ?_
          first | refine WL.move rfl rfl rfl ?_
          first | refine WL.move rfl rfl rfl ?_ | refine WL.skip _ rfl rfl rfl ?_
          refine WL.call [.pointer (some ⟨gB, 0, none⟩)] enter32 rfl rfl rfl hho ?_
          rintro x w6 ⟨rfl, be6⟩
          refine ⟨_, rfl, ?_⟩
          first | refine WL.un rfl rfl rfl (not_t _ _) ?_ | refine WL.skip _ rfl rfl rfl ?_
          first | refine WL.pick rfl rfl rfl rfl ?_
          refine WL.done ?_
          refine EW.on ?_
          refine EW.cond_f rfl ?_
          refine EW.skip ?_
          refine pn_block ?_
          refine EW.on ?_
          refine EW.region ?_
          first | refine WL.move rfl rfl rfl ?_
          first | refine WL.bin rfl rfl rfl rfl (int_add ‹_› _ _ _) ?_
          first | refine WL.assign rfl rfl rfl ?_
          refine WL.done ?_
          exact EW.again (t + 1) [2, 7, 8, 9, 11, 12, 14] rfl ⟨h1, h2, _, _, _, hA6.below be6⟩ (by show 200 - (t + 1) < 200 - t; omega)
    · have z2 : ¬ (t : Int) < 200 := fun hh => h2 (Int.ofNat_lt.1 hh)
      refine EW.seq ?_
      refine EW.seq ?_
      refine EW.region ?_
      first | refine WL.move rfl rfl rfl ?_
      first | refine WL.move rfl rfl rfl ?_
      refine WL.len rfl rfl rfl (hsl _ _) ?_
      refine WL.bin rfl rfl rfl rfl (int_lt_t z1 _ _ _) ?_
      first | refine WL.move rfl rfl rfl ?_
      first | refine WL.move rfl rfl rfl ?_ | refine WL.skip _ rfl rfl rfl ?_
      refine WL.bin rfl rfl rfl rfl (int_lt_f z2 _ _ _) ?_
      first | refine WL.pick rfl rfl rfl rfl ?_
      refine WL.done ?_
      refine EW.on ?_
      refine EW.cond_f rfl ?_
      refine EW.exit ?_
      repeat refine px_then ?_
      refine px_block ?_
      refine EW.on ?_
      refine EW.seq ?_
      rcases dp0 with _ | ad0
      · rcases dp1 with _ | ad1
        · have hho := hold_st hA.b (by omega)
          rw [hA.bp] at hho
          refine EW.region ?_
          first | refine WL.move rfl rfl rfl ?_
          refine WL.bin rfl rfl rfl rfl (ptr_eq_t' _ (by decide) _ _ _) ?_
          first | refine WL.move rfl rfl rfl ?_
          refine WL.skip _ rfl rfl rfl ?_
          refine WL.skip _ rfl rfl rfl ?_
          refine WL.skip _ rfl rfl rfl ?_
          refine WL.skip _ rfl rfl rfl ?_
          first | refine WL.pick rfl rfl rfl rfl ?_
          first | refine WL.move rfl rfl rfl ?_
          first | refine WL.move rfl rfl rfl ?_ | refine WL.skip _ rfl rfl rfl ?_
          refine WL.bin rfl rfl rfl rfl (ptr_eq_t' _ (by decide) _ _ _) ?_
          first | refine WL.move rfl rfl rfl ?_ | refine WL.skip _ rfl rfl rfl ?_
          refine WL.skip _ rfl rfl rfl ?_
          refine WL.skip _ rfl rfl rfl ?_
          refine WL.skip _ rfl rfl rfl ?_
          refine WL.skip _ rfl rfl rfl ?_
          first | refine WL.pick rfl rfl rfl rfl ?_ | refine WL.skip _ rfl rfl rfl ?_
          first | refine WL.pick rfl rfl rfl rfl ?_
          first | refine WL.move rfl rfl rfl ?_
          first | refine WL.move rfl rfl rfl ?_ | refine WL.skip _ rfl rfl rfl ?_
          refine WL.call [.pointer (some ⟨gB, 0, none⟩)] enter32 rfl rfl rfl hho ?_
          rintro x w7 ⟨rfl, be7⟩
          refine ⟨_, rfl, ?_⟩
          first | refine WL.pick rfl rfl rfl rfl ?_
          first | refine WL.assign rfl rfl rfl ?_
          refine WL.done ?_
          refine EW.on ?_
          refine EW.ret ?_
          repeat (first | refine pr_then ?_ | refine pr_block ?_)
          exact EW.returns Try.results8 rfl ⟨rfl, (hA.below be7).be⟩
        · have hte5 := al_tell hA.swap (by simp) (by omega)
          refine EW.region ?_
          first | refine WL.move rfl rfl rfl ?_
          refine WL.bin rfl rfl rfl rfl (ptr_eq_t' _ (by decide) _ _ _) ?_
          first | refine WL.move rfl rfl rfl ?_
          refine WL.skip _ rfl rfl rfl ?_
          refine WL.skip _ rfl rfl rfl ?_
          refine WL.skip _ rfl rfl rfl ?_
          refine WL.skip _ rfl rfl rfl ?_
          first | refine WL.pick rfl rfl rfl rfl ?_
          first | refine WL.move rfl rfl rfl ?_
          first | refine WL.move rfl rfl rfl ?_ | refine WL.skip _ rfl rfl rfl ?_
          refine WL.bin rfl rfl rfl rfl (ptr_eq_f' _ (by decide) _ _ _ _) ?_
          first | refine WL.move rfl rfl rfl ?_ | refine WL.skip _ rfl rfl rfl ?_
          first | refine WL.move rfl rfl rfl ?_ | refine WL.skip _ rfl rfl rfl ?_
          first | refine WL.move rfl rfl rfl ?_ | refine WL.skip _ rfl rfl rfl ?_
          first | refine WL.move rfl rfl rfl ?_ | refine WL.skip _ rfl rfl rfl ?_
          refine WL.call [.pointer (some ad1), .pointer rp1, .pointer (some ⟨gB, 0, none⟩)] enter33 rfl rfl rfl hte5 ?_
          rintro x w6 ⟨rfl, F6, B6, hA6⟩
          refine ⟨_, rfl, ?_⟩
          have hho := hold_st hA6.b (by omega)
          rw [hA6.bp] at hho
          first | refine WL.pick rfl rfl rfl rfl ?_ | refine WL.skip _ rfl rfl rfl ?_
          first | refine WL.pick rfl rfl rfl rfl ?_
          first | refine WL.move rfl rfl rfl ?_
          first | refine WL.move rfl rfl rfl ?_ | refine WL.skip _ rfl rfl rfl ?_
          refine WL.call [.pointer (some ⟨gB, 0, none⟩)] enter32 rfl rfl rfl hho ?_
          rintro x w7 ⟨rfl, be7⟩
          refine ⟨_, rfl, ?_⟩
          first | refine WL.pick rfl rfl rfl rfl ?_
          first | refine WL.assign rfl rfl rfl ?_
          refine WL.done ?_
          refine EW.on ?_
          refine EW.ret ?_
          repeat (first | refine pr_then ?_ | refine pr_block ?_)
          exact EW.returns Try.results8 rfl ⟨rfl, (hA6.below be7).be⟩
      · have hte := al_tell hA (by simp) (by omega)
        rcases dp1 with _ | ad1
        · refine EW.region ?_
          first | refine WL.move rfl rfl rfl ?_
          refine WL.bin rfl rfl rfl rfl (ptr_eq_f' _ (by decide) _ _ _ _) ?_
          first | refine WL.move rfl rfl rfl ?_
          first | refine WL.move rfl rfl rfl ?_ | refine WL.skip _ rfl rfl rfl ?_
          first | refine WL.move rfl rfl rfl ?_ | refine WL.skip _ rfl rfl rfl ?_
          first | refine WL.move rfl rfl rfl ?_ | refine WL.skip _ rfl rfl rfl ?_
          refine WL.call [.pointer (some ad0), .pointer rp0, .pointer (some ⟨gB, 0, none⟩)] enter33 rfl rfl rfl hte ?_
          rintro x w5 ⟨rfl, F5, B5, hA5⟩
          refine ⟨_, rfl, ?_⟩
          have hho := hold_st hA5.b (by omega)
          rw [hA5.bp] at hho
          first | refine WL.pick rfl rfl rfl rfl ?_
          first | refine WL.move rfl rfl rfl ?_
          first | refine WL.move rfl rfl rfl ?_ | refine WL.skip _ rfl rfl rfl ?_
          refine WL.bin rfl rfl rfl rfl (ptr_eq_t' _ (by decide) _ _ _) ?_
          first | refine WL.move rfl rfl rfl ?_ | refine WL.skip _ rfl rfl rfl ?_
          refine WL.skip _ rfl rfl rfl ?_
          refine WL.skip _ rfl rfl rfl ?_
          refine WL.skip _ rfl rfl rfl ?_
          refine WL.skip _ rfl rfl rfl ?_
          first | refine WL.pick rfl rfl rfl rfl ?_ | refine WL.skip _ rfl rfl rfl ?_
          first | refine WL.pick rfl rfl rfl rfl ?_
          first | refine WL.move rfl rfl rfl ?_
          first | refine WL.move rfl rfl rfl ?_ | refine WL.skip _ rfl rfl rfl ?_
          refine WL.call [.pointer (some ⟨gB, 0, none⟩)] enter32 rfl rfl rfl hho ?_
          rintro x w7 ⟨rfl, be7⟩
          refine ⟨_, rfl, ?_⟩
          first | refine WL.pick rfl rfl rfl rfl ?_
          first | refine WL.assign rfl rfl rfl ?_
          refine WL.done ?_
          refine EW.on ?_
          refine EW.ret ?_
          repeat (first | refine pr_then ?_ | refine pr_block ?_)
          exact EW.returns Try.results8 rfl ⟨rfl, (hA5.below be7).be⟩
        · refine EW.region ?_
          first | refine WL.move rfl rfl rfl ?_
          refine WL.bin rfl rfl rfl rfl (ptr_eq_f' _ (by decide) _ _ _ _) ?_
          first | refine WL.move rfl rfl rfl ?_
          first | refine WL.move rfl rfl rfl ?_ | refine WL.skip _ rfl rfl rfl ?_
          first | refine WL.move rfl rfl rfl ?_ | refine WL.skip _ rfl rfl rfl ?_
          first | refine WL.move rfl rfl rfl ?_ | refine WL.skip _ rfl rfl rfl ?_
          refine WL.call [.pointer (some ad0), .pointer rp0, .pointer (some ⟨gB, 0, none⟩)] enter33 rfl rfl rfl hte ?_
          rintro x w5 ⟨rfl, F5, B5, hA5⟩
          refine ⟨_, rfl, ?_⟩
          have hte5 := al_tell hA5.swap (by simp) (by omega)
          first | refine WL.pick rfl rfl rfl rfl ?_
          first | refine WL.move rfl rfl rfl ?_
          first | refine WL.move rfl rfl rfl ?_ | refine WL.skip _ rfl rfl rfl ?_
          refine WL.bin rfl rfl rfl rfl (ptr_eq_f' _ (by decide) _ _ _ _) ?_
          first | refine WL.move rfl rfl rfl ?_ | refine WL.skip _ rfl rfl rfl ?_
          first | refine WL.move rfl rfl rfl ?_ | refine WL.skip _ rfl rfl rfl ?_
          first | refine WL.move rfl rfl rfl ?_ | refine WL.skip _ rfl rfl rfl ?_
          first | refine WL.move rfl rfl rfl ?_ | refine WL.skip _ rfl rfl rfl ?_
          refine WL.call [.pointer (some ad1), .pointer rp1, .pointer (some ⟨gB, 0, none⟩)] enter33 rfl rfl rfl hte5 ?_
          rintro x w6 ⟨rfl, F6, B6, hA6⟩
          refine ⟨_, rfl, ?_⟩
          have hho := hold_st hA6.b (by omega)
          rw [hA6.bp] at hho
          first | refine WL.pick rfl rfl rfl rfl ?_ | refine WL.skip _ rfl rfl rfl ?_
          first | refine WL.pick rfl rfl rfl rfl ?_
          first | refine WL.move rfl rfl rfl ?_
          first | refine WL.move rfl rfl rfl ?_ | refine WL.skip _ rfl rfl rfl ?_
          refine WL.call [.pointer (some ⟨gB, 0, none⟩)] enter32 rfl rfl rfl hho ?_
          rintro x w7 ⟨rfl, be7⟩
          refine ⟨_, rfl, ?_⟩
          first | refine WL.pick rfl rfl rfl rfl ?_
          first | refine WL.assign rfl rfl rfl ?_
          refine WL.done ?_
          refine EW.on ?_
          refine EW.ret ?_
          repeat (first | refine pr_then ?_ | refine pr_block ?_)
          exact EW.returns Try.results8 rfl ⟨rfl, (hA6.below be7).be⟩
  · have z1 : ¬ (t : Int) < (os.length : Int) := fun hh => h1 (Int.ofNat_lt.1 hh)
    refine EW.seq ?_
    refine EW.seq ?_
    refine EW.region ?_
    first | refine WL.move rfl rfl rfl ?_
    first | refine WL.move rfl rfl rfl ?_
    refine WL.len rfl rfl rfl (hsl _ _) ?_
    refine WL.bin rfl rfl rfl rfl (int_lt_f z1 _ _ _) ?_
    first | refine WL.move rfl rfl rfl ?_
    refine WL.skip _ rfl rfl rfl ?_
    refine WL.skip _ rfl rfl rfl ?_
    first | refine WL.pick rfl rfl rfl rfl ?_
    refine WL.done ?_
    refine EW.on ?_
    refine EW.cond_f rfl ?_
    refine EW.exit ?_
    repeat refine px_then ?_
    refine px_block ?_
    refine EW.on ?_
    refine EW.seq ?_
    rcases dp0 with _ | ad0
    · rcases dp1 with _ | ad1
      · have hho := hold_st hA.b (by omega)
        rw [hA.bp] at hho
        refine EW.region ?_
        first | refine WL.move rfl rfl rfl ?_
        refine WL.bin rfl rfl rfl rfl (ptr_eq_t' _ (by decide) _ _ _) ?_
        first | refine WL.move rfl rfl rfl ?_
        refine WL.skip _ rfl rfl rfl ?_
        refine WL.skip _ rfl rfl rfl ?_
        refine WL.skip _ rfl rfl rfl ?_
        refine WL.skip _ rfl rfl rfl ?_
        first | refine WL.pick rfl rfl rfl rfl ?_
        first | refine WL.move rfl rfl rfl ?_
        first | refine WL.move rfl rfl rfl ?_ | refine WL.skip _ rfl rfl rfl ?_
        refine WL.bin rfl rfl rfl rfl (ptr_eq_t' _ (by decide) _ _ _) ?_
        first | refine WL.move rfl rfl rfl ?_ | refine WL.skip _ rfl rfl rfl ?_
        refine WL.skip _ rfl rfl rfl ?_
        refine WL.skip _ rfl rfl rfl ?_
        refine WL.skip _ rfl rfl rfl ?_
        refine WL.skip _ rfl rfl rfl ?_
        first | refine WL.pick rfl rfl rfl rfl ?_ | refine WL.skip _ rfl rfl rfl ?_
        first | refine WL.pick rfl rfl rfl rfl ?_
        first | refine WL.move rfl rfl rfl ?_
        first | refine WL.move rfl rfl rfl ?_ | refine WL.skip _ rfl rfl rfl ?_
        refine WL.call [.pointer (some ⟨gB, 0, none⟩)] enter32 rfl rfl rfl hho ?_
        rintro x w7 ⟨rfl, be7⟩
        refine ⟨_, rfl, ?_⟩
        first | refine WL.pick rfl rfl rfl rfl ?_
        first | refine WL.assign rfl rfl rfl ?_
        refine WL.done ?_
        refine EW.on ?_
        refine EW.ret ?_
        repeat (first | refine pr_then ?_ | refine pr_block ?_)
        exact EW.returns Try.results8 rfl ⟨rfl, (hA.below be7).be⟩
      · have hte5 := al_tell hA.swap (by simp) (by omega)
        refine EW.region ?_
        first | refine WL.move rfl rfl rfl ?_
        refine WL.bin rfl rfl rfl rfl (ptr_eq_t' _ (by decide) _ _ _) ?_
        first | refine WL.move rfl rfl rfl ?_
        refine WL.skip _ rfl rfl rfl ?_
        refine WL.skip _ rfl rfl rfl ?_
        refine WL.skip _ rfl rfl rfl ?_
        refine WL.skip _ rfl rfl rfl ?_
        first | refine WL.pick rfl rfl rfl rfl ?_
        first | refine WL.move rfl rfl rfl ?_
        first | refine WL.move rfl rfl rfl ?_ | refine WL.skip _ rfl rfl rfl ?_
        refine WL.bin rfl rfl rfl rfl (ptr_eq_f' _ (by decide) _ _ _ _) ?_
        first | refine WL.move rfl rfl rfl ?_ | refine WL.skip _ rfl rfl rfl ?_
        first | refine WL.move rfl rfl rfl ?_ | refine WL.skip _ rfl rfl rfl ?_
        first | refine WL.move rfl rfl rfl ?_ | refine WL.skip _ rfl rfl rfl ?_
        first | refine WL.move rfl rfl rfl ?_ | refine WL.skip _ rfl rfl rfl ?_
        refine WL.call [.pointer (some ad1), .pointer rp1, .pointer (some ⟨gB, 0, none⟩)] enter33 rfl rfl rfl hte5 ?_
        rintro x w6 ⟨rfl, F6, B6, hA6⟩
        refine ⟨_, rfl, ?_⟩
        have hho := hold_st hA6.b (by omega)
        rw [hA6.bp] at hho
        first | refine WL.pick rfl rfl rfl rfl ?_ | refine WL.skip _ rfl rfl rfl ?_
        first | refine WL.pick rfl rfl rfl rfl ?_
        first | refine WL.move rfl rfl rfl ?_
        first | refine WL.move rfl rfl rfl ?_ | refine WL.skip _ rfl rfl rfl ?_
        refine WL.call [.pointer (some ⟨gB, 0, none⟩)] enter32 rfl rfl rfl hho ?_
        rintro x w7 ⟨rfl, be7⟩
        refine ⟨_, rfl, ?_⟩
        first | refine WL.pick rfl rfl rfl rfl ?_
        first | refine WL.assign rfl rfl rfl ?_
        refine WL.done ?_
        refine EW.on ?_
        refine EW.ret ?_
        repeat (first | refine pr_then ?_ | refine pr_block ?_)
        exact EW.returns Try.results8 rfl ⟨rfl, (hA6.below be7).be⟩
    · have hte := al_tell hA (by simp) (by omega)
      rcases dp1 with _ | ad1
      · refine EW.region ?_
        first | refine WL.move rfl rfl rfl ?_
        refine WL.bin rfl rfl rfl rfl (ptr_eq_f' _ (by decide) _ _ _ _) ?_
        first | refine WL.move rfl rfl rfl ?_
        first | refine WL.move rfl rfl rfl ?_ | refine WL.skip _ rfl rfl rfl ?_
        first | refine WL.move rfl rfl rfl ?_ | refine WL.skip _ rfl rfl rfl ?_
        first | refine WL.move rfl rfl rfl ?_ | refine WL.skip _ rfl rfl rfl ?_
        refine WL.call [.pointer (some ad0), .pointer rp0, .pointer (some ⟨gB, 0, none⟩)] enter33 rfl rfl rfl hte ?_
        rintro x w5 ⟨rfl, F5, B5, hA5⟩
        refine ⟨_, rfl, ?_⟩
        have hho := hold_st hA5.b (by omega)
        rw [hA5.bp] at hho
        first | refine WL.pick rfl rfl rfl rfl ?_
        first | refine WL.move rfl rfl rfl ?_
        first | refine WL.move rfl rfl rfl ?_ | refine WL.skip _ rfl rfl rfl ?_
        refine WL.bin rfl rfl rfl rfl (ptr_eq_t' _ (by decide) _ _ _) ?_
        first | refine WL.move rfl rfl rfl ?_ | refine WL.skip _ rfl rfl rfl ?_
        refine WL.skip _ rfl rfl rfl ?_
        refine WL.skip _ rfl rfl rfl ?_
        refine WL.skip _ rfl rfl rfl ?_
        refine WL.skip _ rfl rfl rfl ?_
        first | refine WL.pick rfl rfl rfl rfl ?_ | refine WL.skip _ rfl rfl rfl ?_
        first | refine WL.pick rfl rfl rfl rfl ?_
        first | refine WL.move rfl rfl rfl ?_
        first | refine WL.move rfl rfl rfl ?_ | refine WL.skip _ rfl rfl rfl ?_
        refine WL.call [.pointer (some ⟨gB, 0, none⟩)] enter32 rfl rfl rfl hho ?_
        rintro x w7 ⟨rfl, be7⟩
        refine ⟨_, rfl, ?_⟩
        first | refine WL.pick rfl rfl rfl rfl ?_
        first | refine WL.assign rfl rfl rfl ?_
        refine WL.done ?_
        refine EW.on ?_
        refine EW.ret ?_
        repeat (first | refine pr_then ?_ | refine pr_block ?_)
        exact EW.returns Try.results8 rfl ⟨rfl, (hA5.below be7).be⟩
      · refine EW.region ?_
        first | refine WL.move rfl rfl rfl ?_
        refine WL.bin rfl rfl rfl rfl (ptr_eq_f' _ (by decide) _ _ _ _) ?_
        first | refine WL.move rfl rfl rfl ?_
        first | refine WL.move rfl rfl rfl ?_ | refine WL.skip _ rfl rfl rfl ?_
        first | refine WL.move rfl rfl rfl ?_ | refine WL.skip _ rfl rfl rfl ?_
        first | refine WL.move rfl rfl rfl ?_ | refine WL.skip _ rfl rfl rfl ?_
        refine WL.call [.pointer (some ad0), .pointer rp0, .pointer (some ⟨gB, 0, none⟩)] enter33 rfl rfl rfl hte ?_
        rintro x w5 ⟨rfl, F5, B5, hA5⟩
        refine ⟨_, rfl, ?_⟩
        have hte5 := al_tell hA5.swap (by simp) (by omega)
        first | refine WL.pick rfl rfl rfl rfl ?_
        first | refine WL.move rfl rfl rfl ?_
        first | refine WL.move rfl rfl rfl ?_ | refine WL.skip _ rfl rfl rfl ?_
        refine WL.bin rfl rfl rfl rfl (ptr_eq_f' _ (by decide) _ _ _ _) ?_
        first | refine WL.move rfl rfl rfl ?_ | refine WL.skip _ rfl rfl rfl ?_
        first | refine WL.move rfl rfl rfl ?_ | refine WL.skip _ rfl rfl rfl ?_
        first | refine WL.move rfl rfl rfl ?_ | refine WL.skip _ rfl rfl rfl ?_
        first | refine WL.move rfl rfl rfl ?_ | refine WL.skip _ rfl rfl rfl ?_
        refine WL.call [.pointer (some ad1), .pointer rp1, .pointer (some ⟨gB, 0, none⟩)] enter33 rfl rfl rfl hte5 ?_
        rintro x w6 ⟨rfl, F6, B6, hA6⟩
        refine ⟨_, rfl, ?_⟩
        have hho := hold_st hA6.b (by omega)
        rw [hA6.bp] at hho
        first | refine WL.pick rfl rfl rfl rfl ?_ | refine WL.skip _ rfl rfl rfl ?_
        first | refine WL.pick rfl rfl rfl rfl ?_
        first | refine WL.move rfl rfl rfl ?_
        first | refine WL.move rfl rfl rfl ?_ | refine WL.skip _ rfl rfl rfl ?_
        refine WL.call [.pointer (some ⟨gB, 0, none⟩)] enter32 rfl rfl rfl hho ?_
        rintro x w7 ⟨rfl, be7⟩
        refine ⟨_, rfl, ?_⟩
        first | refine WL.pick rfl rfl rfl rfl ?_
        first | refine WL.assign rfl rfl rfl ?_
        refine WL.done ?_
        refine EW.on ?_
        refine EW.ret ?_
        repeat (first | refine pr_then ?_ | refine pr_block ?_)
        exact EW.returns Try.results8 rfl ⟨rfl, (hA6.below be7).be⟩
end Go.Proofs.Ythfcabhelldokaa
