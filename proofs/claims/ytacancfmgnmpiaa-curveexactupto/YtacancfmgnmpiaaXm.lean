import Derived.Test.YtacancfmgnmpiaaXl
import Derived.Test.YtacancfmgnmpiaaCalG
set_option linter.unusedVariables false
set_option linter.unusedSimpArgs false
namespace Go.Proofs.Ytacancfmgnmpiaa
open Go.RowKit Edw

/-- The ladder's four numbers. -/
structure Q4 where
  x2 : List Nat
  z2 : List Nat
  x3 : List Nat
  z3 : List Nat
structure Q4.Ok (q : Q4) : Prop where
  x2 : Dg q.x2
  z2 : Dg q.z2
  x3 : Dg q.x3
  z3 : Dg q.z3
def Q4.swap (q : Q4) : Q4 := ⟨q.x3, q.z3, q.x2, q.z2⟩
theorem Q4.Ok.swap {q : Q4} (h : q.Ok) : q.swap.Ok := ⟨h.x3, h.z3, h.x2, h.z2⟩
/-- Digits as a residue. -/
def ev (t : List Nat) : Fp := re (V t)
section
variable {one zer cc : List Nat} {af sf mf : List Nat → List Nat → List Nat}
theorem ev_add (O : Opn one zer cc af sf mf) {a b : List Nat} (ha : Dg a) (hb : Dg b) : ev (af a b) = ev a + ev b := by
  unfold ev
  rw [← re_add]
  exact re_eq.2 (O.av a b ha hb)
theorem ev_mul (O : Opn one zer cc af sf mf) {a b : List Nat} (ha : Dg a) (hb : Dg b) : ev (mf a b) = ev a * ev b := by
  unfold ev
  rw [← re_mul]
  exact re_eq.2 (O.mv a b ha hb)
theorem ev_sub (O : Opn one zer cc af sf mf) {a b : List Nat} (ha : Dg a) (hb : Dg b) : ev (sf a b) = ev a - ev b := by
  have h : ev (sf a b) + ev b = ev a := by
    unfold ev
    rw [← re_add]
    exact re_eq.2 (O.sv a b ha hb)
  rw [← h]
  grind
theorem ev_one (O : Opn one zer cc af sf mf) : ev one = 1 := by rw [← re_1]; exact re_eq.2 O.v1
theorem ev_zer (O : Opn one zer cc af sf mf) : ev zer = 0 := by rw [← re_0]; exact re_eq.2 O.v0
theorem ev_cc (O : Opn one zer cc af sf mf) : ev cc = cP := re_eq.2 O.vc
theorem ev_inv (O : Opn one zer cc af sf mf) {a : List Nat} (ha : Dg a) : ev (ivN one a mf 255) = Fd.iv (ev a) := by
  unfold ev
  rw [← re_iv]
  have h := iv_val O ha 255 (Nat.le_refl _)
  rw [Nat.sub_self, Nat.pow_zero, Nat.div_one] at h
  exact re_eq.2 h
variable (cc af sf mf) in
/-- One round, of four numbers. -/
def stp (x1 : List Nat) (q : Q4) : Q4 :=
  ⟨mf (mf (af q.x2 q.z2) (af q.x2 q.z2)) (mf (sf q.x2 q.z2) (sf q.x2 q.z2)),
   mf (sf (mf (af q.x2 q.z2) (af q.x2 q.z2)) (mf (sf q.x2 q.z2) (sf q.x2 q.z2))) (af (mf (af q.x2 q.z2) (af q.x2 q.z2)) (mf cc (sf (mf (af q.x2 q.z2) (af q.x2 q.z2)) (mf (sf q.x2 q.z2) (sf q.x2 q.z2))))),
   mf (af (mf (sf q.x3 q.z3) (af q.x2 q.z2)) (mf (af q.x3 q.z3) (sf q.x2 q.z2))) (af (mf (sf q.x3 q.z3) (af q.x2 q.z2)) (mf (af q.x3 q.z3) (sf q.x2 q.z2))),
   mf x1 (mf (sf (mf (sf q.x3 q.z3) (af q.x2 q.z2)) (mf (af q.x3 q.z3) (sf q.x2 q.z2))) (sf (mf (sf q.x3 q.z3) (af q.x2 q.z2)) (mf (af q.x3 q.z3) (sf q.x2 q.z2))))⟩
theorem stp_is (O : Opn one zer cc af sf mf) {x1 : List Nat} (h1 : Dg x1) {q : Q4} (h : q.Ok) : (stp cc af sf mf x1 q).Ok ∧
    ev (stp cc af sf mf x1 q).x2 = dblX (ev q.x2) (ev q.z2) ∧ ev (stp cc af sf mf x1 q).z2 = dblZ cP (ev q.x2) (ev q.z2) ∧
    ev (stp cc af sf mf x1 q).x3 = sumX (ev q.x2) (ev q.z2) (ev q.x3) (ev q.z3) ∧ ev (stp cc af sf mf x1 q).z3 = sumZ (ev x1) (ev q.x2) (ev q.z2) (ev q.x3) (ev q.z3) := by
  unfold stp
  have ha := O.ad _ _ h.x2 h.z2
  have hb := O.sd _ _ h.x2 h.z2
  have hc := O.ad _ _ h.x3 h.z3
  have hd := O.sd _ _ h.x3 h.z3
  have ea := ev_add O h.x2 h.z2
  have eb := ev_sub O h.x2 h.z2
  have ec := ev_add O h.x3 h.z3
  have ed := ev_sub O h.x3 h.z3
  generalize af q.x2 q.z2 = a at *
  generalize sf q.x2 q.z2 = b at *
  generalize af q.x3 q.z3 = c at *
  generalize sf q.x3 q.z3 = d at *
  have hda := O.md _ _ hd ha
  have hcb := O.md _ _ hc hb
  have haa := O.md _ _ ha ha
  have hbb := O.md _ _ hb hb
  have eda := ev_mul O hd ha
  have ecb := ev_mul O hc hb
  have eaa := ev_mul O ha ha
  have ebb := ev_mul O hb hb
  generalize mf d a = da at *
  generalize mf c b = cb at *
  generalize mf a a = aa at *
  generalize mf b b = bb at *
  have hs := O.ad _ _ hda hcb
  have ht := O.sd _ _ hda hcb
  have hf := O.sd _ _ haa hbb
  have es := ev_add O hda hcb
  have et := ev_sub O hda hcb
  have ef := ev_sub O haa hbb
  generalize af da cb = s at *
  generalize sf da cb = t at *
  generalize sf aa bb = f at *
  have htt := O.md _ _ ht ht
  have hcf := O.md _ _ O.dc hf
  have hac := O.ad _ _ haa hcf
  have e1 := ev_mul O haa hbb
  have e2 := ev_mul O hf hac
  have e3 := ev_mul O hs hs
  have e4 := ev_mul O h1 htt
  have ett := ev_mul O ht ht
  have ecf := ev_mul O O.dc hf
  have eac := ev_add O haa hcf
  have ecc := ev_cc O
  refine ⟨⟨O.md _ _ haa hbb, O.md _ _ hf hac, O.md _ _ hs hs, O.md _ _ h1 htt⟩, ?_, ?_, ?_, ?_⟩
  · dsimp only; rw [e1, eaa, ebb, ea, eb]; unfold dblX; grind
  · dsimp only; rw [e2, eac, ecf, ecc, ef, eaa, ebb, ea, eb]; unfold dblZ; grind
  · dsimp only; rw [e3, es, eda, ecb, ea, eb, ec, ed]; unfold sumX; grind
  · dsimp only; rw [e4, ett, et, eda, ecb, ea, eb, ec, ed]; unfold sumZ; grind
variable (one zer cc af sf mf) in
/-- The document's ladder. -/
def rlad (k : List UInt8) (x1 : List Nat) : Nat → Q4
  | 0 => ⟨one, zer, x1, one⟩
  | j + 1 => if kb k (254 - j) = 1 then (stp cc af sf mf x1 (rlad k x1 j).swap).swap else stp cc af sf mf x1 (rlad k x1 j)
theorem rlad_is (O : Opn one zer cc af sf mf) (k : List UInt8) {x1 : List Nat} (h1 : Dg x1) : ∀ j, j ≤ 255 → (rlad one zer cc af sf mf k x1 j).Ok ∧
    ev (rlad one zer cc af sf mf k x1 j).x2 = (ladK cP (ev x1) (kn k) j).x2 ∧ ev (rlad one zer cc af sf mf k x1 j).z2 = (ladK cP (ev x1) (kn k) j).z2 ∧
    ev (rlad one zer cc af sf mf k x1 j).x3 = (ladK cP (ev x1) (kn k) j).x3 ∧ ev (rlad one zer cc af sf mf k x1 j).z3 = (ladK cP (ev x1) (kn k) j).z3
  | 0, _ => ⟨⟨O.d1, O.d0, h1, O.d1⟩, ev_one O, ev_zer O, rfl, ev_one O⟩
  | j + 1, hj => by
    obtain ⟨o, a1, a2, b1, b2⟩ := rlad_is O k h1 j (by omega)
    have hb := kb_is k (254 - j) (by omega)
    rw [rlad, ladK, hb]
    by_cases hq : kn k / 2 ^ (254 - j) % 2 = 1
    · rw [if_pos hq, if_pos hq]
      obtain ⟨p, c1, c2, c3, c4⟩ := stp_is O h1 o.swap
      refine ⟨p.swap, ?_, ?_, ?_, ?_⟩
      · show ev (stp cc af sf mf x1 _).x3 = _
        rw [c3]; show sumX (ev (rlad one zer cc af sf mf k x1 j).x3) (ev (rlad one zer cc af sf mf k x1 j).z3) (ev (rlad one zer cc af sf mf k x1 j).x2) (ev (rlad one zer cc af sf mf k x1 j).z2) = _
        rw [a1, a2, b1, b2]
      · show ev (stp cc af sf mf x1 _).z3 = _
        rw [c4]; show sumZ (ev x1) (ev (rlad one zer cc af sf mf k x1 j).x3) (ev (rlad one zer cc af sf mf k x1 j).z3) (ev (rlad one zer cc af sf mf k x1 j).x2) (ev (rlad one zer cc af sf mf k x1 j).z2) = _
        rw [a1, a2, b1, b2]
      · show ev (stp cc af sf mf x1 _).x2 = _
        rw [c1]; show dblX (ev (rlad one zer cc af sf mf k x1 j).x3) (ev (rlad one zer cc af sf mf k x1 j).z3) = _
        rw [b1, b2]
      · show ev (stp cc af sf mf x1 _).z2 = _
        rw [c2]; show dblZ cP (ev (rlad one zer cc af sf mf k x1 j).x3) (ev (rlad one zer cc af sf mf k x1 j).z3) = _
        rw [b1, b2]
    · rw [if_neg hq, if_neg hq]
      obtain ⟨p, c1, c2, c3, c4⟩ := stp_is O h1 o
      exact ⟨p, by rw [c1, a1, a2], by rw [c2, a1, a2], by rw [c3, a1, a2, b1, b2], by rw [c4, a1, a2, b1, b2]⟩
theorem ev_val (t : List Nat) : (ev t).val = V t % Prm.P := rfl
theorem ev_read (u : List UInt8) : ev (rdL u 255) = un u := by
  have h := (rd_dg u).2
  unfold ev un
  rw [h, K255]
theorem rtimes_is (O : Opn one zer cc af sf mf) (k u : List UInt8) : Dg (mf (rlad one zer cc af sf mf (clampL k) (rdL u 255) 255).x2 (ivN one (rlad one zer cc af sf mf (clampL k) (rdL u 255) 255).z2 mf 255)) ∧
    nb (V (mf (rlad one zer cc af sf mf (clampL k) (rdL u 255) 255).x2 (ivN one (rlad one zer cc af sf mf (clampL k) (rdL u 255) 255).z2 mf 255)) % Prm.P) = timesL k u := by
  obtain ⟨d1, v1⟩ := rd_dg u
  obtain ⟨o, a1, a2, _, _⟩ := rlad_is O (clampL k) d1 255 (Nat.le_refl _)
  have hi := iv_dg O o.z2 255
  refine ⟨O.md _ _ o.x2 hi, ?_⟩
  rw [times_num]
  refine congrArg nb ?_
  have e := ev_mul O o.x2 hi
  rw [ev_inv O o.z2, a1, a2, ev_read] at e
  rw [← ev_val, e]
  rfl
end
end Go.Proofs.Ytacancfmgnmpiaa
