import Derived.Test.YtablmkijlpoaaabDoorRefd
namespace Go.Proofs.YtablmkijlpoaaabDoor
open Go.RowKit

/-! The small functions of the law of layer 2. -/
theorem eq2_yes (va vb : Value) (bs : List UInt8) (w : World) (ha : Has w va bs) (hb : Has w vb bs) :
    Calls Tryd.prog 16 #[va, vb] w fun e w' => e = .returned (.bool true) ∧ w' = w := by
  have e1 := ha.convert
  have e2 := hb.convert
  go_enter Tryd.func16, Tryd.ntmps16
  go_wp2
  go_ret
  exact ⟨by simp, rfl⟩

def marks : List UInt8 := [209, 210, 211]

set_option maxHeartbeats 400000 in
set_option maxRecDepth 100000 in
theorem room_any (v : Value) (bs : List UInt8) (w : World) (hv : Has w v bs) (hl : bs.length ≤ 140000000000000) :
    Calls Tryd.prog 6 #[v] w fun e w' => ∃ ao cap, e = .returned (.slice ao (bs.length + 3) cap) ∧ Own w' w.heap.size (.slice ao (bs.length + 3) cap) (bs ++ marks) ∧ Below w.heap.size w w' := by
  obtain ⟨am, cm, rfl⟩ := hv.slice
  obtain ⟨n, hn⟩ : ∃ n, bs.length = n := ⟨_, rfl⟩
  rw [hn] at hv hl ⊢
  have UM := hide hv
  have Hn : Lk bs.length n := ⟨hn⟩
  have Hl := hide hl
  have L2 : Lk (bs ++ marks).length (n + 3) := ⟨by rw [List.length_append, hn]; rfl⟩
  clear hv hn hl
  go_enter Tryd.func6, Tryd.ntmps6
  go_wp2_with (first
    | (refine wpList_app rfl (.const (.slice none 0 0)) (.tmp 3) rfl w.heap.size (.slice none 0 0) [] rfl (Own.nil _ _) (.slice am n cm) bs rfl UM.out (by rw [Hn.h]; have := Hl.out; simp; omega) (Nat.le_refl _) ?_; intro v1 w2 ho1 hg1; rw [List.nil_append] at ho1; obtain ⟨a1, c1, rfl⟩ := ho1.slice; rw [Hn.h] at ho1 ⊢; have O1 := hide ho1; have B2 : Hid (Below w.heap.size w w2) := (Below.refl _ _).grown hg1 (Nat.le_refl _) (fun k hk => by cases hk); clear ho1 hg1)
    | (refine wpList_app rfl (.tmp 4) (.tmp 5) rfl w.heap.size (.slice a1 n c1) bs rfl (O1.out.below (below_new w2 _)) _ marks rfl (has_news w2 marks) (by rw [Hn.h]; have := Hl.out; simp [marks]; omega) (Nat.le_trans B2.out.size (below_new w2 _).size) ?_; intro v2 w3 ho2 hg2; obtain ⟨a2, c2, rfl⟩ := ho2.slice; rw [L2.h] at ho2 ⊢; have O2 := hide ho2; have B3 : Hid (Below w.heap.size w w3) := (B2.out.trans ((below_new w2 _).mono B2.out.size)).grown hg2 (Nat.le_trans B2.out.size (below_new w2 _).size) O1.out.ownBlock; clear ho2 hg2)
    | fail)
  go_ret
  exact ⟨a2, c2, rfl, O2.out, B3.out⟩

set_option maxHeartbeats 400000 in
set_option maxRecDepth 100000 in
theorem kept_yes (r v : Value) (bs : List UInt8) (w : World) (hr : Has w r (bs ++ marks)) (hv : Has w v bs) (hl : bs.length ≤ 140000000000000) :
    Calls Tryd.prog 15 #[r, v] w fun e w' => e = .returned (.bool true) ∧ Below w.heap.size w w' := by
  have HR := hide hr
  have HV := hide hv
  have HL := hide hl
  clear hr hv hl
  go_enter Tryd.func15, Tryd.ntmps15
  go_wp2_with fail
  refine (room_any v bs w HV.out HL.out).mono ?_
  rintro e w1 ⟨ao, cap, rfl, ho, hb⟩
  have H1 := hide ho.has
  have B1 := hide hb
  clear ho hb
  go_wp2_with fail
  refine (eq2_yes r _ (bs ++ marks) w1 (HR.out.below B1.out) H1.out).mono ?_
  rintro e w2 ⟨rfl, hw2⟩
  subst hw2
  go_wp2
  go_ret
  exact ⟨rfl, B1.out⟩
end Go.Proofs.YtablmkijlpoaaabDoor
