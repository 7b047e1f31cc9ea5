import Derived.Test.YtoceepmehmacbaaDoorKXl
import Derived.Test.YtoceepmehmacbaaDoorKXnG
set_option linter.unusedVariables false
set_option linter.unusedSimpArgs false
namespace Go.Proofs.YtoceepmehmacbaaDoor.Cv
open Go.RowKit Edw

/-- The ladder's four numbers. -/
structure Q4 where
  x2 : List Nat
  z2 : List Nat
  x3 : List Nat
  z3 : List Nat
structure Q4.Ok (q : Q4) : Prop where
  x2 : Dg q.x2
  z2 : Dg q.z2
  x3 : Dg q.x3
  z3 : Dg q.z3
def Q4.swap (q : Q4) : Q4 := ⟨q.x3, q.z3, q.x2, q.z2⟩
theorem Q4.Ok.swap {q : Q4} (h : q.Ok) : q.swap.Ok := ⟨h.x3, h.z3, h.x2, h.z2⟩
/-- Digits as a residue. -/
def ev (t : List Nat) : Fp := re (V t)
section
variable {one zer cc : List Nat} {af sf mf : List Nat → List Nat → List Nat}
theorem ev_add (O : Opn one zer cc af sf mf) {a b : List Nat} (ha : Dg a) (hb : Dg b) : ev (af a b) = ev a + ev b := by
  unfold ev
  rw [← re_add]
  exact re_eq.2 (O.av a b ha hb)
theorem ev_mul (O : Opn one zer cc af sf mf) {a b : List Nat} (ha : Dg a) (hb : Dg b) : ev (mf a b) = ev a * ev b := by
  unfold ev
  rw [← re_mul]
  exact re_eq.2 (O.mv a b ha hb)
theorem ev_sub (O : Opn one zer cc af sf mf) {a b : List Nat} (ha : Dg a) (hb : Dg b) : ev (sf a b) = ev a - ev b := by
  have h : ev (sf a b) + ev b = ev a := by
    unfold ev
    rw [← re_add]
    exact re_eq.2 (O.sv a b ha hb)
  rw [← h]
  grind
theorem ev_one (O : Opn one zer cc af sf mf) : ev one = 1 := by rw [← re_1]; exact re_eq.2 O.v1
theorem ev_zer (O : Opn one zer cc af sf mf) : ev zer = 0 := by rw [← re_0]; exact re_eq.2 O.v0
theorem ev_cc (O : Opn one zer cc af sf mf) : ev cc = cP := re_eq.2 O.vc
theorem ev_inv (O : Opn one zer cc af sf mf) {a : List Nat} (ha : Dg a) : ev (ivN one a mf 255) = Fd.iv (ev a) := by
  unfold ev
  rw [← re_iv]
  have h := iv_val O ha 255 (Nat.le_refl _)
  rw [Nat.sub_self, Nat.pow_zero, Nat.div_one] at h
  exact re_eq.2 h
variable (cc af sf mf) in
/-- One round, of four numbers. -/
def stp (x1 : List Nat) (q : Q4) : Q4 :=
  ⟨mf (mf (af q.x2 q.z2) (af q.x2 q.z2)) (mf (sf q.x2 q.z2) (sf q.x2 q.z2)),
   mf (sf (mf (af q.x2 q.z2) (af q.x2 q.z2)) (mf (sf q.x2 q.z2) (sf q.x2 q.z2))) (af (mf (af q.x2 q.z2) (af q.x2 q.z2)) (mf cc (sf (mf (af q.x2 q.z2) (af q.x2 q.z2)) (mf (sf q.x2 q.z2) (sf q.x2 q.z2))))),
   mf (af (mf (sf q.x3 q.z3) (af q.x2 q.z2)) (mf (af q.x3 q.z3) (sf q.x2 q.z2))) (af (mf (sf q.x3 q.z3) (af q.x2 q.z2)) (mf (af q.x3 q.z3) (sf q.x2 q.z2))),
   mf x1 (mf (sf (mf (sf q.x3 q.z3) (af q.x2 q.z2)) (mf (af q.x3 q.z3) (sf q.x2 q.z2))) (sf (mf (sf q.x3 q.z3) (af q.x2 q.z2)) (mf (af q.x3 q.z3) (sf q.x2 q.z2))))⟩
theorem stp_is (O : Opn one zer cc af sf mf) {x1 : List Nat} (h1 : Dg x1) {q : Q4} (h : q.Ok) : (stp cc af sf mf x1 q).Ok ∧
    ev (stp cc af sf mf x1 q).x2 = dblX (ev q.x2) (ev q.z2) ∧ ev (stp cc af sf mf x1 q).z2 = dblZ cP (ev q.x2) (ev q.z2) ∧
    ev (stp cc af sf mf x1 q).x3 = sumX (ev q.x2) (ev q.z2) (ev q.x3) (ev q.z3) ∧ ev (stp cc af sf mf x1 q).z3 = sumZ (ev x1) (ev q.x2) (ev q.z2) (ev q.x3) (ev q.z3) := by
  unfold stp
  have ha := O.ad _ _ h.x2 h.z2
  have hb := O.sd _ _ h.x2 h.z2
  have hc := O.ad _ _ h.x3 h.z3
  have hd := O.sd _ _ h.x3 h.z3
  have ea := ev_add O h.x2 h.z2
  have eb := ev_sub O h.x2 h.z2
  have ec := ev_add O h.x3 h.z3
  have ed := ev_sub O h.x3 h.z3
  generalize af q.x2 q.z2 = a at *
  generalize sf q.x2 q.z2 = b at *
  generalize af q.x3 q.z3 = c at *
  generalize sf q.x3 q.z3 = d at *
  have hda := O.md _ _ hd ha
  have hcb := O.md _ _ hc hb
  have haa := O.md _ _ ha ha
  have hbb := O.md _ _ hb hb
  have eda := ev_mul O hd ha
  have ecb := ev_mul O hc hb
  have eaa := ev_mul O ha ha
  have ebb := ev_mul O hb hb
  generalize mf d a = da at *
  generalize mf c b = cb at *
  generalize mf a a = aa at *
  generalize mf b b = bb at *
  have hs := O.ad _ _ hda hcb
  have ht := O.sd _ _ hda hcb
  have hf := O.sd _ _ haa hbb
  have es := ev_add O hda hcb
  have et := ev_sub O hda hcb
  have ef := ev_sub O haa hbb
  generalize af da cb = s at *
  generalize sf da cb = t at *
  generalize sf aa bb = f at *
  have htt := O.md _ _ ht ht
  have hcf := O.md _ _ O.dc hf
  have hac := O.ad _ _ haa hcf
  have e1 := ev_mul O haa hbb
  have e2 := ev_mul O hf hac
  have e3 := ev_mul O hs hs
  have e4 := ev_mul O h1 htt
  have ett := ev_mul O ht ht
  have ecf := ev_mul O O.dc hf
  have eac := ev_add O haa hcf
  have ecc := ev_cc O
  refine ⟨⟨O.md _ _ haa hbb, O.md _ _ hf hac, O.md _ _ hs hs, O.md _ _ h1 htt⟩, ?_, ?_, ?_, ?_⟩
  · dsimp only; rw [e1, eaa, ebb, ea, eb]; unfold dblX; grind
  · dsimp only; rw [e2, eac, ecf, ecc, ef, eaa, ebb, ea, eb]; unfold dblZ; grind
  · dsimp only; rw [e3, es, eda, ecb, ea, eb, ec, ed]; unfold sumX; grind
  · dsimp only; rw [e4, ett, et, eda, ecb, ea, eb, ec, ed]; unfold sumZ; grind
variable (one zer cc af sf mf) in
/-- The document's ladder. -/
def rlad (k : List UInt8) (x1 : List Nat) : Nat → Q4
  | 0 => ⟨one, zer, x1, one⟩
  | j + 1 => if kb k (254 - j) = 1 then (stp cc af sf mf x1 (rlad k x1 j).swap).swap else stp cc af sf mf x1 (rlad k x1 j)
theorem rlad_is (O : Opn one zer cc af sf mf) (k : List UInt8) {x1 : List Nat} (h1 : Dg x1) : ∀ j, j ≤ 255 → (rlad one zer cc af sf mf k x1 j).Ok ∧
    ev (rlad one zer cc af sf mf k x1 j).x2 = (ladK cP (ev x1) (kn k) j).x2 ∧ ev (rlad one zer cc af sf mf k x1 j).z2 = (ladK cP (ev x1) (kn k) j).z2 ∧
    ev (rlad one zer cc af sf mf k x1 j).x3 = (ladK cP (ev x1) (kn k) j).x3 ∧ ev (rlad one zer cc af sf mf k x1 j).z3 = (ladK cP (ev x1) (kn k) j).z3
  | 0, _ => ⟨⟨O.d1, O.d0, h1, O.d1⟩, ev_one O, ev_zer O, rfl, ev_one O⟩
  | j + 1, hj => by
    obtain ⟨o, a1, a2, b1, b2⟩ := rlad_is O k h1 j (by omega)
    have hb := kb_is k (254 - j) (by omega)
    rw [rlad, ladK, hb]
    by_cases hq : kn k / 2 ^ (254 - j) % 2 = 1
    · rw [if_pos hq, if_pos hq]
      obtain ⟨p, c1, c2, c3, c4⟩ := stp_is O h1 o.swap
      refine ⟨p.swap, ?_, ?_, ?_, ?_⟩
      · show ev (stp cc af sf mf x1 _).x3 = _
        rw [c3]; show sumX (ev (rlad one zer cc af sf mf k x1 j).x3) (ev (rlad one zer cc af sf mf k x1 j).z3) (ev (rlad one zer cc af sf mf k x1 j).x2) (ev (rlad one zer cc af sf mf k x1 j).z2) = _
        rw [a1, a2, b1, b2]
      · show ev (stp cc af sf mf x1 _).z3 = _
        rw [c4]; show sumZ (ev x1) (ev (rlad one zer cc af sf mf k x1 j).x3) (ev (rlad one zer cc af sf mf k x1 j).z3) (ev (rlad one zer cc af sf mf k x1 j).x2) (ev (rlad one zer cc af sf mf k x1 j).z2) = _
        rw [a1, a2, b1, b2]
      · show ev (stp cc af sf mf x1 _).x2 = _
        rw [c1]; show dblX (ev (rlad one zer cc af sf mf k x1 j).x3) (ev (rlad one zer cc af sf mf k x1 j).z3) = _
        rw [b1, b2]
      · show ev (stp cc af sf mf x1 _).z2 = _
        rw [c2]; show dblZ cP (ev (rlad one zer cc af sf mf k x1 j).x3) (ev (rlad one zer cc af sf mf k x1 j).z3) = _
        rw [b1, b2]
    · rw [if_neg hq, if_neg hq]
      obtain ⟨p, c1, c2, c3, c4⟩ := stp_is O h1 o
      exact ⟨p, by rw [c1, a1, a2], by rw [c2, a1, a2], by rw [c3, a1, a2, b1, b2], by rw [c4, a1, a2, b1, b2]⟩
theorem ev_val (t : List Nat) : (ev t).val = V t % Prm.P := rfl
theorem ev_read (u : List UInt8) : ev (rdL u 255) = un u := by
  have h := (rd_dg u).2
  unfold ev un
  rw [h, K255]
theorem rtimes_is (O : Opn one zer cc af sf mf) (k u : List UInt8) : Dg (mf (rlad one zer cc af sf mf (clampL k) (rdL u 255) 255).x2 (ivN one (rlad one zer cc af sf mf (clampL k) (rdL u 255) 255).z2 mf 255)) ∧
    nb (V (mf (rlad one zer cc af sf mf (clampL k) (rdL u 255) 255).x2 (ivN one (rlad one zer cc af sf mf (clampL k) (rdL u 255) 255).z2 mf 255)) % Prm.P) = timesL k u := by
  obtain ⟨d1, v1⟩ := rd_dg u
  obtain ⟨o, a1, a2, _, _⟩ := rlad_is O (clampL k) d1 255 (Nat.le_refl _)
  have hi := iv_dg O o.z2 255
  refine ⟨O.md _ _ o.x2 hi, ?_⟩
  rw [times_num]
  refine congrArg nb ?_
  have e := ev_mul O o.x2 hi
  rw [ev_inv O o.z2, a1, a2, ev_read] at e
  rw [← ev_val, e]
  rfl
end
end Go.Proofs.YtoceepmehmacbaaDoor.Cv
set_option linter.unusedVariables false
set_option linter.unusedSimpArgs false
namespace Go.Proofs.YtoceepmehmacbaaDoor.Cv
open Go.RowKit

section
variable {P : Program} {ops : Array Oper} {Q : Exit → Act → World → Prop} {md : Region.Mode} {S : Nat → World → Prop}

theorem uni_sub {S C : World → Prop} {o : Oper} {v : Value} {a : Act} (hS : ∀ w, C w → S w) (h : Uni P ops S o v a) : Uni P ops C o v a := by
  rcases h with ⟨hw, h | ⟨f, args, h1, h2⟩⟩ | h
  · exact .inl ⟨hw, .inl fun w hc => h w (hS w hc)⟩
  · exact .inl ⟨hw, .inr ⟨f, args, fun w hc => h1 w (hS w hc), fun w hc => h2 w (hS w hc)⟩⟩
  · exact .inr h
/-- One operation: of one value everywhere, a new variable, or a change of the world that S outlives. -/
def opC (P : Program) (ops : Array Oper) (S : Nat → World → Prop) (i : Nat) (K : Act → (World → Prop) → Prop) (a : Act) (C : World → Prop) : Prop :=
  ∃ o, ops[i]? = some o ∧ ((∃ v, Uni P ops C o v a ∧ K (a.put o.dst v) C) ∨
    (o.guard = none ∧ ∃ t zs, o.op = .alloc t ∧ (∀ w, (zeroValue t).run P w = .ok (.agg (List.toArray zs)) w) ∧
      ∀ g, (∃ w, C w ∧ w.heap.size = g) → K (a.put o.dst (.pointer (some ⟨g, 0, none⟩))) (fun w => C w ∧ Blk w g zs t)) ∨
    (o.guard = none ∧ ∃ (F : World → World) (C' : World → Prop), Stable C' ∧ (∀ w, C' w → S i w) ∧ (∀ w, C w → (execOp a.eval o).run P w = .ok .skip (F w) ∧ C' (F w)) ∧ K (a.put o.dst undef) C'))

def wpAnyC (P : Program) (md : Region.Mode) (ops : Array Oper) (Q : Exit → Act → World → Prop) (S : Nat → World → Prop) : Nat → Array Bool → Act → (World → Prop) → Prop
  | 0, listed, a, C => Region.ready md ops listed = [] ∧ ∀ w, C w → Q .normal a w
  | n + 1, listed, a, C => (Region.ready md ops listed = [] → ∀ w, C w → Q .normal a w) ∧ ∀ i ∈ Region.ready md ops listed, opC P ops S i (fun a' C' => wpAnyC P md ops Q S n (listed.setIfInBounds i true) a' C') a C

theorem opC_mono {i : Nat} {K K' : Act → (World → Prop) → Prop} (hK : ∀ a C, K a C → K' a C) {a : Act} {C : World → Prop} (h : opC P ops S i K a C) : opC P ops S i K' a C := by
  obtain ⟨o, ho, ⟨v, hv, h⟩ | ⟨hg, t, zs, ht, hz, h⟩ | ⟨hg, F, C', h1, h2, h3, h4⟩⟩ := h
  · exact ⟨o, ho, .inl ⟨v, hv, hK _ _ h⟩⟩
  · exact ⟨o, ho, .inr (.inl ⟨hg, t, zs, ht, hz, fun g hg => hK _ _ (h g hg)⟩)⟩
  · exact ⟨o, ho, .inr (.inr ⟨hg, F, C', h1, h2, h3, hK _ _ h4⟩)⟩

theorem wpAny_of_C : ∀ (n : Nat) (listed : Array Bool) (a : Act) (C : World → Prop), Stable C → wpAnyC P md ops Q S n listed a C → ∀ w, C w → wpAny P md ops Q n listed a w
  | 0, _, _, _, _, h, w, hw => ⟨h.1, h.2 w hw⟩
  | n + 1, listed, a, C, hC, h, w, hw => by
    refine ⟨fun h0 => h.1 h0 w hw, fun i hi => ?_⟩
    obtain ⟨o, ho, ⟨v, hv, hk⟩ | ⟨hg, t, zs, ht, hz, hk⟩ | ⟨hg, F, C', h1, h2, h3, hk⟩⟩ := h.2 i hi
    · unfold wpOp
      simp only [ho]
      rcases hv with ⟨hwa, hv | ⟨f, args, hv, hc⟩⟩ | ⟨hwa, rfl⟩
      · simp only [hwa, if_true, Oper.wp, hv w hw, Oper.upon]
        exact .inl (wpAny_of_C n _ _ C hC hk w hw)
      · simp only [hwa, if_true, Oper.wp, hv w hw, Oper.upon]
        refine .inl ((hc w hw).mono fun e w' ⟨he, hb⟩ => ?_)
        subst he
        exact wpAny_of_C n _ _ C hC hk w' (hC w w' hw hb)
      · simp only [hwa, Bool.false_eq_true, if_false]
        exact wpAny_of_C n _ _ C hC hk w hw
    · unfold wpOp
      have hwa : Region.wanted o (yielded ops a.tmps) = true := by simp [Region.wanted, hg]
      simp only [ho, hwa, if_true, Oper.wp, run_new t ht zs hz w, Oper.upon]
      refine .inl (wpAny_of_C n _ _ _ (hC.blk w.heap.size zs t) (hk _ ⟨w, hw, rfl⟩) _ ⟨hC w _ hw ?_, Blk.new w zs t⟩)
      exact (Below.refl _ _).alloc (Nat.le_refl _) _
    · unfold wpOp
      have hwa : Region.wanted o (yielded ops a.tmps) = true := by simp [Region.wanted, hg]
      simp only [ho, hwa, if_true, Oper.wp, (h3 w hw).1, Oper.upon]
      exact .inl (wpAny_of_C n _ _ C' h1 hk _ (h3 w hw).2)

theorem opC_put {S0 : World → Prop} {j : Nat} {oi oj : Oper} {v : Value} (hj : ops[j]? = some oj) (hap : oi.apart ops oj = true)
    (hsi : ∀ cs b, oi.op ≠ .select cs b) (hsj : ∀ cs b, oj.op ≠ .select cs b) {K : Act → (World → Prop) → Prop} {a : Act} {C : World → Prop}
    (hSj : ∀ w, S j w → S0 w) (hS : ∀ w, C w → S0 w) (hy : Uni P ops S0 oi v a) (h : opC P ops S j K (a.put oi.dst v) C) :
    opC P ops S j (fun a' C' => Uni P ops S0 oi v a' ∧ (∀ w, C' w → S0 w) ∧ K (a'.put oi.dst v) C') a C := by
  obtain ⟨h1, h2, h3⟩ := Oper.apart_spec hap
  have keep : ∀ u, Uni P ops S0 oi v (a.put oj.dst u) := fun u => hy.of_same (execOp_put oi hsi a oj.dst u h3) (wanted_put oi a oj.dst u h3)
  obtain ⟨o, ho, h⟩ := h
  obtain rfl : oj = o := Option.some.inj (hj.symm.trans ho)
  refine ⟨oj, hj, ?_⟩
  rcases h with ⟨u, hu, hk⟩ | ⟨hg, t, zs, ht, hz, hk⟩ | ⟨hg, F, C', k1, k2, k3, hk⟩
  · refine .inl ⟨u, hu.of_same (execOp_put oj hsj a oi.dst v h1).symm (wanted_put oj a oi.dst v h1).symm, keep u, hS, ?_⟩
    rw [← Act.put_comm a v u h2]; exact hk
  · refine .inr (.inl ⟨hg, t, zs, ht, hz, fun g hgw => ⟨keep _, fun w h => hS w h.1, ?_⟩⟩)
    rw [← Act.put_comm a v _ h2]; exact hk g hgw
  · refine .inr (.inr ⟨hg, F, C', k1, k2, fun w hw => ?_, keep _, fun w h => hSj w (k2 w h), ?_⟩)
    · have := k3 w hw
      rw [execOp_put oj hsj a oi.dst v h1] at this
      exact this
    · rw [← Act.put_comm a v undef h2]; exact hk

/-- An operation of one value everywhere may be taken first. -/
theorem wpAnyC_first {S0 : World → Prop} {i : Nat} {oi : Oper} {v : Value} (hi : ops[i]? = some oi) (hsel : ∀ (j : Nat) (o : Oper) cs b, ops[j]? = some o → o.op ≠ .select cs b)
    (hSS : ∀ j oj, ops[j]? = some oj → j ≠ i → (∀ e ∈ oj.after, Region.binds md e = true → e.on ≠ i) → ∀ w, S j w → S0 w) :
    ∀ (fuel : Nat) (listed : Array Bool) (a : Act) (C : World → Prop),
      (∀ j oj, ops[j]? = some oj → j ≠ i → listed.getD j true = false → (∀ e ∈ oj.after, Region.binds md e = true → e.on ≠ i) → oi.apart ops oj = true) →
      i ∈ Region.ready md ops listed →
      Uni P ops S0 oi v a → (∀ w, C w → S0 w) →
      wpAnyC P md ops Q S fuel (listed.setIfInBounds i true) (a.put oi.dst v) C → wpAnyC P md ops Q S (fuel + 1) listed a C := by
  intro fuel
  induction fuel with
  | zero =>
    intro listed a C _ hr hy hS H
    refine ⟨fun h => (by rw [h] at hr; cases hr), fun j hj => ?_⟩
    by_cases hji : j = i
    · subst hji; exact ⟨oi, hi, .inl ⟨v, uni_sub hS hy, H⟩⟩
    · have := ready_mono hj hji
      rw [H.1] at this
      cases this
  | succ fuel ih =>
    intro listed a C hfree hr hy hS H
    refine ⟨fun h => (by rw [h] at hr; cases hr), fun j hj => ?_⟩
    by_cases hji : j = i
    · subst hji; exact ⟨oi, hi, .inl ⟨v, uni_sub hS hy, H⟩⟩
    · have h1 := H.2 j (ready_mono hj hji)
      obtain ⟨hjun, oj, hoj, hall⟩ := mem_ready.1 hj
      have hnot : ∀ e ∈ oj.after, Region.binds md e = true → e.on ≠ i := fun e he hb heq => by
        exact getD_no (mem_ready.1 hr).1 (heq ▸ hall e he hb)
      have h2 := opC_put hoj (hfree j oj hoj hji hjun hnot) (fun cs b => hsel i oi cs b hi) (fun cs b => hsel j oj cs b hoj) (hSS j oj hoj hji hnot) hS hy h1
      have hfree' : ∀ k ok, ops[k]? = some ok → k ≠ i → (listed.setIfInBounds j true).getD k true = false →
          (∀ e ∈ ok.after, Region.binds md e = true → e.on ≠ i) → oi.apart ops ok = true := fun k ok hk hki hun hno => by
        refine hfree k ok hk hki ?_ hno
        by_cases hjk : j = k
        · subst hjk; exact hjun
        · rw [getD_set_ne true hjk] at hun; exact hun
      have hr' := ready_mono hr (Ne.symm hji)
      refine opC_mono (fun a' C' h3 => ih (listed.setIfInBounds j true) a' C' hfree' hr' h3.1 h3.2.1 ?_) h2
      rw [Array.setIfInBounds_comm _ _ hji]
      exact h3.2.2

/-- A row is stored into a block that lies there. -/
theorem opC_row {i : Nat} {o : Oper} (hi : ops[i]? = some o) (hg : o.guard = none) (hd : o.dst = none) (t : TypeId) (x y : Operand) (ho : o.op = .store t x y) {K : Act → (World → Prop) → Prop} {a : Act} {C C' : World → Prop}
    (g : Nat) (cs old : List Value) (t' : TypeId) (hx : a.eval x = .pointer (some ⟨g, 0, none⟩)) (hy : a.eval y = .agg (List.toArray cs)) (hb : ∀ w, C w → Blk w g old t') (hin : (P.info? t).map (·.size) = some cs.length) (hl : old.length = cs.length) (h1 : cs.toArray.all (·.oneCell') = true)
    (hC : Stable C') (hS : ∀ w, C' w → S i w) (hCC : ∀ w, C w → C' (w.setRow g cs.toArray)) (h : K a C') : opC P ops S i K a C := by
  refine ⟨o, hi, .inr (.inr ⟨hg, fun w => w.setRow g cs.toArray, C', hC, hS, fun w hw => ⟨?_, hCC w hw⟩, ?_⟩)⟩
  · unfold execOp
    simp only [ho, hx, hy, Instr.storeAt, Instr.sureAddr, Sem.run_bind, Sem.run_pure, Result.andThen_ok, run_storeVar_row w g t' t old.toArray cs.toArray (hb w hw) (by simpa using hin) (by simpa using hl) h1]
  · rw [hd]; exact h

/-- Values, in whatever order, in worlds of one kind. -/
def putVals (dst : Nat → Nat) (val : Nat → Value) : List Nat → Act → Act
  | [], a => a
  | i :: R, a => putVals dst val R (a.put (some (dst i)) (val i))
theorem putVals_erase (dst : Nat → Nat) (val : Nat → Value) (i : Nat) : ∀ (R : List Nat) (a : Act), i ∈ R → (∀ j ∈ R, j ≠ i → dst j ≠ dst i) →
    putVals dst val (R.erase i) (a.put (some (dst i)) (val i)) = putVals dst val R a
  | [], _, h, _ => by cases h
  | j :: R, a, h, hd => by
    by_cases hj : j = i
    · subst hj
      rw [List.erase_cons_head]
      rfl
    · rw [List.erase_cons_tail (by simpa using hj)]
      show putVals dst val (R.erase i) ((a.put _ _).put (some (dst j)) _) = putVals dst val R (a.put (some (dst j)) _)
      rw [put_comm2 a _ _ (Ne.symm (hd j (by simp) hj))]
      refine putVals_erase dst val i R _ ?_ (fun k hk => hd k (by simp [hk]))
      simp only [List.mem_cons] at h
      rcases h with h | h
      · exact absurd h.symm hj
      · exact h
theorem wpAnyC_vals (dst : Nat → Nat) (val : Nat → Value) (fin : Array Bool) (F lim : Nat) (C : World → Prop) :
    ∀ (m : Nat) (R : List Nat) (listed : Array Bool) (a : Act), newsOk md ops fin m R listed = true → R.Nodup → (∀ i ∈ R, lim ≤ dst i) →
      (∀ i ∈ R, ∃ o, ops[i]? = some o ∧ o.dst = some (dst i) ∧ ∀ a', (∀ d, d < lim → a'.eval (.tmp d) = a.eval (.tmp d)) → Uni P ops C o (val i) a') → (∀ i ∈ R, ∀ j ∈ R, i ≠ j → dst i ≠ dst j) →
      wpAnyC P md ops Q S F fin (putVals dst val R a) C → wpAnyC P md ops Q S (F + m) listed a C
  | 0, R, listed, a, hB, hN, hlim, ho, hd, h => by
    simp only [newsOk, Bool.and_eq_true, beq_iff_eq, List.isEmpty_iff] at hB
    obtain ⟨rfl, rfl⟩ := hB
    exact h
  | m + 1, R, listed, a, hB, hN, hlim, ho, hd, h => by
    simp only [newsOk, Bool.and_eq_true, beq_iff_eq, Bool.not_eq_true', List.isEmpty_eq_false_iff, List.all_eq_true] at hB
    obtain ⟨⟨hne, hr⟩, hall⟩ := hB
    refine ⟨fun h0 => absurd (hr.symm.trans h0) hne, fun i hi => ?_⟩
    rw [hr] at hi
    obtain ⟨o, hoi, hdst, hU⟩ := ho i hi
    refine ⟨o, hoi, .inl ⟨val i, hU a (fun _ _ => rfl), ?_⟩⟩
    rw [hdst]
    have sub : ∀ k, k ∈ R.erase i → k ∈ R := fun k hk => List.mem_of_mem_erase hk
    have same : ∀ d, d < lim → (a.put (some (dst i)) (val i)).eval (.tmp d) = a.eval (.tmp d) := fun d hdl => by
      refine Act.eval_put (fun d' hd' hyd => ?_)
      have e1 : dst i = d' := Option.some.inj hd'
      have e2 : d = d' := by injection hyd
      have := hlim i hi
      omega
    refine wpAnyC_vals dst val fin F lim C m (R.erase i) _ _ (hall i hi) (hN.erase i) (fun k hk => hlim k (sub k hk)) (fun k hk => ?_) (fun k hk j hj => hd k (sub k hk) j (sub j hj)) ?_
    · obtain ⟨ok, h1, h2, h3⟩ := ho k (sub k hk)
      exact ⟨ok, h1, h2, fun a' ha' => h3 a' (fun d hdl => (ha' d hdl).trans (same d hdl))⟩
    · rw [putVals_erase dst val i R a hi (fun j hj hji => hd j hj i hi hji)]
      exact h
end
end Go.Proofs.YtoceepmehmacbaaDoor.Cv
set_option linter.unusedVariables false
set_option linter.unusedSimpArgs false
namespace Go.Proofs.YtoceepmehmacbaaDoor.Cv
open Go.RowKit

/-- Where the ladder's variables lie. -/
structure Ad where
  n : Nat
  g5 : Nat
  g6 : Nat
  p7 : Nat
  p8 : Nat
  p9 : Nat
  p10 : Nat
structure Ad.Ok (A : Ad) : Prop where
  h5 : A.n + 2 < A.g5
  h6 : A.g5 < A.g6
  h7 : A.g6 < A.p7
  h8 : A.g6 < A.p8
  h9 : A.g6 < A.p9
  h10 : A.g6 < A.p10
  n78 : A.p7 ≠ A.p8
  n79 : A.p7 ≠ A.p9
  n70 : A.p7 ≠ A.p10
  n89 : A.p8 ≠ A.p9
  n80 : A.p8 ≠ A.p10
  n90 : A.p9 ≠ A.p10
structure Rst4 (A : Ad) (w : World) (k : List UInt8) (x1 : List Nat) (q : Q4) (W : World) : Prop where
  re : Blk W (A.n + 1 + 1) (z32.map byt) 23
  ke : Blk W A.g5 (k.map byt) 23
  xx : Blk W A.g6 (x1.map dg) 134
  b7 : Blk W A.p7 (q.x2.map dg) 134
  b8 : Blk W A.p8 (q.z2.map dg) 134
  b9 : Blk W A.p9 (q.x3.map dg) 134
  b10 : Blk W A.p10 (q.z3.map dg) 134
  ad : A.Ok
  be : Below A.n w W
section
variable {A : Ad} {w W : World} {k : List UInt8} {x1 : List Nat} {q : Q4}
theorem Rst4.on (h : Rst4 A w k x1 q W) {W' : World} (hb : Below W.heap.size W W') : Rst4 A w k x1 q W' :=
  ⟨h.re.on hb, h.ke.on hb, h.xx.on hb, h.b7.on hb, h.b8.on hb, h.b9.on hb, h.b10.on hb, h.ad, h.be.trans (hb.mono (by have := h.re.lt; omega))⟩
theorem rst4_stable (A : Ad) (w : World) (k : List UInt8) (x1 : List Nat) (q : Q4) : Stable (Rst4 A w k x1 q) := fun W W' h hb => h.on hb
theorem Rst4.put7 (h : Rst4 A w k x1 q W) (t : List Nat) : Rst4 A w k x1 ⟨t, q.z2, q.x3, q.z3⟩ (W.setRow A.p7 (t.map dg).toArray) := by
  obtain ⟨h5, h6, h7, h8, h9, h10, a, b, c, d, e, f⟩ := h.ad
  exact ⟨h.re.setRowOther _ _ (by omega), h.ke.setRowOther _ _ (by omega), h.xx.setRowOther _ _ (by omega), h.b7.setRow _, h.b8.setRowOther _ _ (by omega), h.b9.setRowOther _ _ (by omega), h.b10.setRowOther _ _ (by omega), h.ad, below_setRow h.be _ _ (by omega)⟩
theorem Rst4.put8 (h : Rst4 A w k x1 q W) (t : List Nat) : Rst4 A w k x1 ⟨q.x2, t, q.x3, q.z3⟩ (W.setRow A.p8 (t.map dg).toArray) := by
  obtain ⟨h5, h6, h7, h8, h9, h10, a, b, c, d, e, f⟩ := h.ad
  exact ⟨h.re.setRowOther _ _ (by omega), h.ke.setRowOther _ _ (by omega), h.xx.setRowOther _ _ (by omega), h.b7.setRowOther _ _ (by omega), h.b8.setRow _, h.b9.setRowOther _ _ (by omega), h.b10.setRowOther _ _ (by omega), h.ad, below_setRow h.be _ _ (by omega)⟩
theorem Rst4.put9 (h : Rst4 A w k x1 q W) (t : List Nat) : Rst4 A w k x1 ⟨q.x2, q.z2, t, q.z3⟩ (W.setRow A.p9 (t.map dg).toArray) := by
  obtain ⟨h5, h6, h7, h8, h9, h10, a, b, c, d, e, f⟩ := h.ad
  exact ⟨h.re.setRowOther _ _ (by omega), h.ke.setRowOther _ _ (by omega), h.xx.setRowOther _ _ (by omega), h.b7.setRowOther _ _ (by omega), h.b8.setRowOther _ _ (by omega), h.b9.setRow _, h.b10.setRowOther _ _ (by omega), h.ad, below_setRow h.be _ _ (by omega)⟩
theorem Rst4.put10 (h : Rst4 A w k x1 q W) (t : List Nat) : Rst4 A w k x1 ⟨q.x2, q.z2, q.x3, t⟩ (W.setRow A.p10 (t.map dg).toArray) := by
  obtain ⟨h5, h6, h7, h8, h9, h10, a, b, c, d, e, f⟩ := h.ad
  exact ⟨h.re.setRowOther _ _ (by omega), h.ke.setRowOther _ _ (by omega), h.xx.setRowOther _ _ (by omega), h.b7.setRowOther _ _ (by omega), h.b8.setRowOther _ _ (by omega), h.b9.setRowOther _ _ (by omega), h.b10.setRow _, h.ad, below_setRow h.be _ _ (by omega)⟩
end
theorem put_at (a : Act) (d : Nat) (v : Value) (h : d < a.tmps.size) : (a.put (some d) v).eval (.tmp d) = v := by
  simp [Act.eval, Act.put, h, Array.getElem?_setIfInBounds]
theorem put_ne (a : Act) (d e : Nat) (v : Value) (h : d ≠ e) : (a.put (some d) v).eval (.tmp e) = a.eval (.tmp e) :=
  Act.eval_put (fun d' hd' hyd => h (by
    have e1 : d = d' := Option.some.inj hd'
    have e2 : e = d' := by injection hyd
    omega))
/-- What comes behind 5 comes behind 1. -/
def behind1 (l : List Oper) : Bool := (List.range 8).all fun j => decide (j < 5) || match l[j]? with | some o => o.after.any (fun e => Region.binds .any e && e.on == 1) | none => true
theorem dgs_size {t : List Nat} (h : Dg t) : (Tryd.prog.info? 134).map (·.size) = some (t.map dg).length := nm_info h.len

set_option maxHeartbeats 1000000 in
/-- The four numbers are changed crosswise. -/
theorem reg_swap {id : Nat} {l : List Oper} {a : Act} {W : World} {Q : Exit → Act → World → Prop} (hm : Tryd.prog.follows .mixedOrders = true) (e : Nat) (he : 12 ≤ e) (hsz : e + 3 < a.tmps.size) (hl : l.length = 8)
    {A : Ad} {w : World} {k : List UInt8} {x1 : List Nat} {q : Q4} (hq : q.Ok) (h : Rst4 A w k x1 q W)
    {o0 o1 o2 o3 o4 o5 o6 o7 : Oper} (i0 : l[0]? = some o0) (i1 : l[1]? = some o1) (i2 : l[2]? = some o2) (i3 : l[3]? = some o3) (i4 : l[4]? = some o4) (i5 : l[5]? = some o5) (i6 : l[6]? = some o6) (i7 : l[7]? = some o7)
    (g0 : o0.guard = none ∧ o0.op = .load 134 (.tmp 9) ∧ o0.dst = some e) (g1 : o1.guard = none ∧ o1.op = .load 134 (.tmp 10) ∧ o1.dst = some (e + 1))
    (g2 : o2.guard = none ∧ o2.op = .load 134 (.tmp 7) ∧ o2.dst = some (e + 2)) (g3 : o3.guard = none ∧ o3.op = .load 134 (.tmp 8) ∧ o3.dst = some (e + 3))
    (g4 : o4.guard = none ∧ o4.op = .store 134 (.tmp 7) (.tmp e) ∧ o4.dst = none) (g5 : o5.guard = none ∧ o5.op = .store 134 (.tmp 8) (.tmp (e + 1)) ∧ o5.dst = none)
    (g6 : o6.guard = none ∧ o6.op = .store 134 (.tmp 9) (.tmp (e + 2)) ∧ o6.dst = none) (g7 : o7.guard = none ∧ o7.op = .store 134 (.tmp 10) (.tmp (e + 3)) ∧ o7.dst = none)
    (hns : Region.noSelect l.toArray = true) (hfr : Region.free .any l.toArray (none_ 8) 1 = true) (hr : (Region.ready .any l.toArray (none_ 8)).contains 1 = true) (hbh : behind1 l = true)
    (hnew : newsOk .any l.toArray #[true, true, true, true, false, false, false, false] 3 [0, 2, 3] ((none_ 8).setIfInBounds 1 true) = true)
    (hch : chainOk .any l.toArray 4 4 #[true, true, true, true, false, false, false, false] = true)
    (t7 : a.eval (.tmp 7) = .pointer (some ⟨A.p7, 0, none⟩)) (t8 : a.eval (.tmp 8) = .pointer (some ⟨A.p8, 0, none⟩)) (t9 : a.eval (.tmp 9) = .pointer (some ⟨A.p9, 0, none⟩)) (t10 : a.eval (.tmp 10) = .pointer (some ⟨A.p10, 0, none⟩))
    (hQ : ∀ W', Rst4 A w k x1 q.swap W' → Q .normal ((((a.put (some (e + 1)) (num q.z3)).put (some e) (num q.x3)).put (some (e + 2)) (num q.x2)).put (some (e + 3)) (num q.z2)) W') :
    (Code.region id l.toArray true).wp Tryd.prog Q a W := by
  refine wp_region_any hm ?_; refine wpAny_of_C (S := fun j W => j < 5 → Blk W A.p10 (q.z3.map dg) 134) _ _ _ (Rst4 A w k x1 q) (rst4_stable _ _ _ _ _) ?_ _ (h.on (below_drawn W))
  have hsz8 : l.toArray.size = 7 + 1 := by simp [hl]
  have hnone : Array.replicate l.toArray.size false = none_ 8 := by rw [hsz8]; rfl
  rw [hsz8] at *
  refine wpAnyC_first (S0 := fun W => Blk W A.p10 (q.z3.map dg) 134) (i := 1) (oi := o1) (v := num q.z3) (by simpa using i1) (Region.noSelect_spec hns) ?_ 7 _ a _ (Region.free_spec (by simpa using i1) hfr) (show 1 ∈ Region.ready .any l.toArray (none_ 8) by simpa using hr)
    (uni_row g1.1 134 (.tmp 10) g1.2.1 A.p10 (q.z3.map dg) 134 t10 (fun W hW => hW) Tryd.underlying134 rfl (dgs_size hq.z3)) (fun W hW => hW.b10) ?_
  · intro j oj hj hne hno W hW
    by_cases hj5 : j < 5
    · exact hW hj5
    · exfalso
      have hj' : l[j]? = some oj := by simpa using hj
      have hj8 : j < 8 := by
        have := (List.getElem?_eq_some_iff.1 hj').1
        omega
      unfold behind1 at hbh
      rw [List.all_eq_true] at hbh
      have h1 := hbh j (by simpa using hj8)
      simp only [hj', hj5, decide_false, Bool.false_or] at h1
      obtain ⟨ed, hed, hb⟩ := Array.any_eq_true'.1 h1
      simp only [Bool.and_eq_true, beq_iff_eq] at hb
      exact hno ed hed hb.1 hb.2
  · rw [g1.2.2]
    refine wpAnyC_vals (fun i => e + i) (fun i => if i = 0 then num q.x3 else if i = 2 then num q.x2 else num q.z2) #[true, true, true, true, false, false, false, false] 4 12 _ 3 [0, 2, 3] _ _ hnew (by decide) (fun i _ => by omega) ?_ (fun i _ j _ hij => by omega) ?_
    · have ev : ∀ d : Nat, d < 12 → (a.put (some (e + 1)) (num q.z3)).eval (.tmp d) = a.eval (.tmp d) := fun d hd => put_ne _ _ _ _ (by omega)
      intro i hi
      simp only [List.mem_cons, List.not_mem_nil, or_false] at hi
      rcases hi with rfl | rfl | rfl
      · refine ⟨o0, by simpa using i0, g0.2.2, fun a' ha' => ?_⟩
        exact uni_row g0.1 134 (.tmp 9) g0.2.1 A.p9 (q.x3.map dg) 134 (((ha' 9 (by omega)).trans (ev 9 (by omega))).trans t9) (fun W hW => hW.b9) Tryd.underlying134 rfl (dgs_size hq.x3)
      · refine ⟨o2, by simpa using i2, g2.2.2, fun a' ha' => ?_⟩
        exact uni_row g2.1 134 (.tmp 7) g2.2.1 A.p7 (q.x2.map dg) 134 (((ha' 7 (by omega)).trans (ev 7 (by omega))).trans t7) (fun W hW => hW.b7) Tryd.underlying134 rfl (dgs_size hq.x2)
      · refine ⟨o3, by simpa using i3, g3.2.2, fun a' ha' => ?_⟩
        exact uni_row g3.1 134 (.tmp 8) g3.2.1 A.p8 (q.z2.map dg) 134 (((ha' 8 (by omega)).trans (ev 8 (by omega))).trans t8) (fun W hW => hW.b8) Tryd.underlying134 rfl (dgs_size hq.z2)
    · show wpAnyC Tryd.prog .any l.toArray Q _ 4 _ ((((a.put (some (e + 1)) (num q.z3)).put (some e) (num q.x3)).put (some (e + 2)) (num q.x2)).put (some (e + 3)) (num q.z2)) _
      have s1 : (a.put (some (e + 1)) (num q.z3)).tmps.size = a.tmps.size := put_size _ _ _
      have s2 : ((a.put (some (e + 1)) (num q.z3)).put (some e) (num q.x3)).tmps.size = a.tmps.size := (put_size _ _ _).trans s1
      have s3 : (((a.put (some (e + 1)) (num q.z3)).put (some e) (num q.x3)).put (some (e + 2)) (num q.x2)).tmps.size = a.tmps.size := (put_size _ _ _).trans s2
      have ev : ∀ d : Nat, d < 12 → ((((a.put (some (e + 1)) (num q.z3)).put (some e) (num q.x3)).put (some (e + 2)) (num q.x2)).put (some (e + 3)) (num q.z2)).eval (.tmp d) = a.eval (.tmp d) := fun d hd => by
        rw [put_ne _ _ _ _ (by omega), put_ne _ _ _ _ (by omega), put_ne _ _ _ _ (by omega), put_ne _ _ _ _ (by omega)]
      have v0 : ((((a.put (some (e + 1)) (num q.z3)).put (some e) (num q.x3)).put (some (e + 2)) (num q.x2)).put (some (e + 3)) (num q.z2)).eval (.tmp e) = num q.x3 := by
        rw [put_ne _ _ _ _ (by omega), put_ne _ _ _ _ (by omega), put_at _ _ _ (by omega)]
      have v1 : ((((a.put (some (e + 1)) (num q.z3)).put (some e) (num q.x3)).put (some (e + 2)) (num q.x2)).put (some (e + 3)) (num q.z2)).eval (.tmp (e + 1)) = num q.z3 := by
        rw [put_ne _ _ _ _ (by omega), put_ne _ _ _ _ (by omega), put_ne _ _ _ _ (by omega), put_at _ _ _ (by omega)]
      have v2 : ((((a.put (some (e + 1)) (num q.z3)).put (some e) (num q.x3)).put (some (e + 2)) (num q.x2)).put (some (e + 3)) (num q.z2)).eval (.tmp (e + 2)) = num q.x2 := by
        rw [put_ne _ _ _ _ (by omega), put_at _ _ _ (by omega)]
      have v3 : ((((a.put (some (e + 1)) (num q.z3)).put (some e) (num q.x3)).put (some (e + 2)) (num q.x2)).put (some (e + 3)) (num q.z2)).eval (.tmp (e + 3)) = num q.z2 := put_at _ _ _ (by omega)
      generalize (((a.put (some (e + 1)) (num q.z3)).put (some e) (num q.x3)).put (some (e + 2)) (num q.x2)).put (some (e + 3)) (num q.z2) = a4 at hQ ev v0 v1 v2 v3 ⊢
      have w7 := (ev 7 (by omega)).trans t7
      have w8 := (ev 8 (by omega)).trans t8
      have w9 := (ev 9 (by omega)).trans t9
      have w10 := (ev 10 (by omega)).trans t10
      have len : ∀ {t u : List Nat}, Dg t → Dg u → (t.map dg).length = (u.map dg).length := fun ht hu => by rw [List.length_map, List.length_map, ht.len, hu.len]
      simp only [chainOk, Bool.and_eq_true, beq_iff_eq] at hch
      obtain ⟨r4, r5, r6, r7, r8⟩ := hch
      refine ⟨fun h0 => (by rw [h0] at r4; cases r4), fun i hi => ?_⟩
      obtain rfl : i = 4 := by rw [r4] at hi; simpa using hi
      refine opC_row (by simpa using i4) g4.1 g4.2.2 134 _ _ g4.2.1 A.p7 (q.x3.map dg) (q.x2.map dg) 134 w7 v0 (fun W hW => hW.b7) (dgs_size hq.x3) (len hq.x2 hq.x3) (dgs_one _) (rst4_stable A w k x1 ⟨q.x3, q.z2, q.x3, q.z3⟩) (fun W hW _ => hW.b10) (fun W hW => hW.put7 q.x3) ?_; refine ⟨fun h0 => (by rw [h0] at r5; cases r5), fun i hi => ?_⟩
      obtain rfl : i = 4 + 1 := by rw [r5] at hi; simpa using hi
      refine opC_row (by simpa using i5) g5.1 g5.2.2 134 _ _ g5.2.1 A.p8 (q.z3.map dg) (q.z2.map dg) 134 w8 v1 (fun W hW => hW.b8) (dgs_size hq.z3) (len hq.z2 hq.z3) (dgs_one _) (rst4_stable A w k x1 ⟨q.x3, q.z3, q.x3, q.z3⟩) (fun W hW h5 => by omega) (fun W hW => hW.put8 q.z3) ?_; refine ⟨fun h0 => (by rw [h0] at r6; cases r6), fun i hi => ?_⟩
      obtain rfl : i = 4 + 1 + 1 := by rw [r6] at hi; simpa using hi
      refine opC_row (by simpa using i6) g6.1 g6.2.2 134 _ _ g6.2.1 A.p9 (q.x2.map dg) (q.x3.map dg) 134 w9 v2 (fun W hW => hW.b9) (dgs_size hq.x2) (len hq.x3 hq.x2) (dgs_one _) (rst4_stable A w k x1 ⟨q.x3, q.z3, q.x2, q.z3⟩) (fun W hW h5 => by omega) (fun W hW => hW.put9 q.x2) ?_; refine ⟨fun h0 => (by rw [h0] at r7; cases r7), fun i hi => ?_⟩
      obtain rfl : i = 4 + 1 + 1 + 1 := by rw [r7] at hi; simpa using hi
      refine opC_row (by simpa using i7) g7.1 g7.2.2 134 _ _ g7.2.1 A.p10 (q.z2.map dg) (q.z3.map dg) 134 w10 v3 (fun W hW => hW.b10) (dgs_size hq.z2) (len hq.z3 hq.z2) (dgs_one _) (rst4_stable A w k x1 ⟨q.x3, q.z3, q.x2, q.z2⟩) (fun W hW h5 => by omega) (fun W hW => hW.put10 q.z2) ?_
      exact ⟨r8, fun W hW => hQ W hW⟩
end Go.Proofs.YtoceepmehmacbaaDoor.Cv
set_option linter.unusedVariables false
set_option linter.unusedSimpArgs false
namespace Go.Proofs.YtoceepmehmacbaaDoor.Cv
open Go.RowKit

/-- One round's numbers and calls. -/
structure Rnd (x1 cc : List Nat) (q r : Q4) (a b c d da cb s t tt aa bb f cf ac : List Nat) : Prop where
  l_a : a.length = 10
  c_a : ∀ w, Calls Tryd.prog 80 #[num q.x2, num q.z2] w fun e w' => e = .returned (num a) ∧ Below w.heap.size w w'
  l_b : b.length = 10
  c_b : ∀ w, Calls Tryd.prog 81 #[num q.x2, num q.z2] w fun e w' => e = .returned (num b) ∧ Below w.heap.size w w'
  l_c : c.length = 10
  c_c : ∀ w, Calls Tryd.prog 80 #[num q.x3, num q.z3] w fun e w' => e = .returned (num c) ∧ Below w.heap.size w w'
  l_d : d.length = 10
  c_d : ∀ w, Calls Tryd.prog 81 #[num q.x3, num q.z3] w fun e w' => e = .returned (num d) ∧ Below w.heap.size w w'
  l_da : da.length = 10
  c_da : ∀ w, Calls Tryd.prog 82 #[num d, num a] w fun e w' => e = .returned (num da) ∧ Below w.heap.size w w'
  l_cb : cb.length = 10
  c_cb : ∀ w, Calls Tryd.prog 82 #[num c, num b] w fun e w' => e = .returned (num cb) ∧ Below w.heap.size w w'
  l_s : s.length = 10
  c_s : ∀ w, Calls Tryd.prog 80 #[num da, num cb] w fun e w' => e = .returned (num s) ∧ Below w.heap.size w w'
  l_t : t.length = 10
  c_t : ∀ w, Calls Tryd.prog 81 #[num da, num cb] w fun e w' => e = .returned (num t) ∧ Below w.heap.size w w'
  l_tt : tt.length = 10
  c_tt : ∀ w, Calls Tryd.prog 82 #[num t, num t] w fun e w' => e = .returned (num tt) ∧ Below w.heap.size w w'
  l_aa : aa.length = 10
  c_aa : ∀ w, Calls Tryd.prog 82 #[num a, num a] w fun e w' => e = .returned (num aa) ∧ Below w.heap.size w w'
  l_bb : bb.length = 10
  c_bb : ∀ w, Calls Tryd.prog 82 #[num b, num b] w fun e w' => e = .returned (num bb) ∧ Below w.heap.size w w'
  l_f : f.length = 10
  c_f : ∀ w, Calls Tryd.prog 81 #[num aa, num bb] w fun e w' => e = .returned (num f) ∧ Below w.heap.size w w'
  l_cf : cf.length = 10
  c_cf : ∀ w, Calls Tryd.prog 82 #[num cc, num f] w fun e w' => e = .returned (num cf) ∧ Below w.heap.size w w'
  l_ac : ac.length = 10
  c_ac : ∀ w, Calls Tryd.prog 80 #[num aa, num cf] w fun e w' => e = .returned (num ac) ∧ Below w.heap.size w w'
  l_r_x3 : r.x3.length = 10
  c_r_x3 : ∀ w, Calls Tryd.prog 82 #[num s, num s] w fun e w' => e = .returned (num r.x3) ∧ Below w.heap.size w w'
  l_r_z3 : r.z3.length = 10
  c_r_z3 : ∀ w, Calls Tryd.prog 82 #[num x1, num tt] w fun e w' => e = .returned (num r.z3) ∧ Below w.heap.size w w'
  l_r_x2 : r.x2.length = 10
  c_r_x2 : ∀ w, Calls Tryd.prog 82 #[num aa, num bb] w fun e w' => e = .returned (num r.x2) ∧ Below w.heap.size w w'
  l_r_z2 : r.z2.length = 10
  c_r_z2 : ∀ w, Calls Tryd.prog 82 #[num f, num ac] w fun e w' => e = .returned (num r.z2) ∧ Below w.heap.size w w'
theorem rnd_ok {one zer cc : List Nat} {af sf mf : List Nat → List Nat → List Nat} (O : Opn one zer cc af sf mf) {x1 : List Nat} (h1 : Dg x1) {q : Q4} (hq : q.Ok) :
    ∃ a b c d da cb s t tt aa bb f cf ac, Rnd x1 cc q (stp cc af sf mf x1 q) a b c d da cb s t tt aa bb f cf ac := by
  have D_a := O.ad _ _ hq.x2 hq.z2
  have D_b := O.sd _ _ hq.x2 hq.z2
  have D_c := O.ad _ _ hq.x3 hq.z3
  have D_d := O.sd _ _ hq.x3 hq.z3
  have D_da := O.md _ _ D_d D_a
  have D_cb := O.md _ _ D_c D_b
  have D_s := O.ad _ _ D_da D_cb
  have D_t := O.sd _ _ D_da D_cb
  have D_tt := O.md _ _ D_t D_t
  have D_aa := O.md _ _ D_a D_a
  have D_bb := O.md _ _ D_b D_b
  have D_f := O.sd _ _ D_aa D_bb
  have D_cf := O.md _ _ O.dc D_f
  have D_ac := O.ad _ _ D_aa D_cf
  have D_r_x3 := O.md _ _ D_s D_s
  have D_r_z3 := O.md _ _ h1 D_tt
  have D_r_x2 := O.md _ _ D_aa D_bb
  have D_r_z2 := O.md _ _ D_f D_ac
  exact ⟨_, _, _, _, _, _, _, _, _, _, _, _, _, _,
    ⟨D_a.len, O.ac _ _ hq.x2 hq.z2, D_b.len, O.sc _ _ hq.x2 hq.z2, D_c.len, O.ac _ _ hq.x3 hq.z3, D_d.len, O.sc _ _ hq.x3 hq.z3, D_da.len, O.mc _ _ D_d D_a, D_cb.len, O.mc _ _ D_c D_b, D_s.len, O.ac _ _ D_da D_cb, D_t.len, O.sc _ _ D_da D_cb, D_tt.len, O.mc _ _ D_t D_t, D_aa.len, O.mc _ _ D_a D_a, D_bb.len, O.mc _ _ D_b D_b, D_f.len, O.sc _ _ D_aa D_bb, D_cf.len, O.mc _ _ O.dc D_f, D_ac.len, O.ac _ _ D_aa D_cf, D_r_x3.len, O.mc _ _ D_s D_s, D_r_z3.len, O.mc _ _ h1 D_tt, D_r_x2.len, O.mc _ _ D_aa D_bb, D_r_z2.len, O.mc _ _ D_f D_ac⟩⟩
end Go.Proofs.YtoceepmehmacbaaDoor.Cv
