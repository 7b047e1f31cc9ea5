import Derived.Test.YtgfgabgnejnipaaFields
import Derived.Deep.CutBlock
import Derived.Deep.QuietTactic
import Derived.BigQuiet
namespace Go.Proofs.Ytgfgabgnejnipaa
open Go.RowKit

/-- The three marks behind a room's bytes. -/
def marks : List UInt8 := [209, 210, 211]

theorem marks_new (W X : World) (h : Lik (W.alloc (.cells #[.int .u8 209, .int .u8 210, .int .u8 211] 5)) X) : Has X (.slice (some ⟨W.heap.size, 0, none⟩) 3 3) marks := by
  refine .inr ⟨_, 3, rfl, Nat.le_refl _, fun i u hu => ?_⟩
  rw [add_plain]
  unfold World.cell?
  dsimp only
  rw [at_new W X _ h]
  match i, hu with
  | 0, hu => simp [marks] at hu; subst hu; rfl
  | 1, hu => simp [marks] at hu; subst hu; rfl
  | 2, hu => simp [marks] at hu; subst hu; rfl

set_option maxRecDepth 100000 in
set_option maxHeartbeats 400000 in
theorem room_any (v : Value) (bs : List UInt8) (w : World) (h : Has w v bs) (hn : bs.length ≤ 100000000000000) :
    Calls Try.prog 45 #[v] w fun e w' => ∃ rs ao cap, Hid (rs = bs ++ marks) ∧ e = .returned (.slice ao rs.length cap) ∧ Own w' w.heap.size (.slice ao rs.length cap) rs ∧ Below w.heap.size w w' := by
  have HH := hide h
  clear h
  go_enter Try.func45, Try.ntmps45
  go_wp2_with (at_builtin; refine wpList_app rfl _ _ rfl w.heap.size _ [] rfl (Own.nil _ _) _ bs rfl HH.out (by simp; omega) (Nat.le_refl _) ?_)
  intro v1 w1 hown1 hg1
  have HB := hide ((Below.refl w.heap.size w).grown hg1 (Nat.le_refl _) (Own.nil w w.heap.size).ownBlock)
  have HO := hide hown1
  clear hown1 hg1 HH
  go_wp2_with (at_builtin; refine wpList_app rfl _ _ rfl w.heap.size _ bs rfl (HO.out.below (below_new _ _)) _ marks rfl (marks_new w1 _ (by exact ⟨rfl, rfl, rfl, rfl⟩)) (by simp [marks]; omega) (by have := HB.out.size; simp; omega) ?_)
  intro v2 w2 hown2 hg2
  obtain ⟨r2, hr2⟩ : ∃ r2, r2 = bs ++ marks := ⟨_, rfl⟩
  rw [← hr2] at hown2
  obtain ⟨ao, cp, rfl⟩ := hown2.slice
  have HR2 := hide hr2
  clear hr2
  have HB2 := hide ((HB.out.alloc HB.out.size (.cells #[.int .u8 209, .int .u8 210, .int .u8 211] 5)).grown hg2 (by have := HB.out.size; simp; omega) HO.out.ownBlock)
  have HO2 := hide hown2
  clear hown2 hg2 HO HB
  go_wp2
  go_ret
  exact ⟨r2, ao, cp, HR2, rfl, HO2.out, HB2.out⟩

set_option maxRecDepth 100000 in
set_option maxHeartbeats 2000000 in
theorem kept_any (rv v : Value) (rs bs : List UInt8) (w : World) (hr : Has w rv rs) (h : Has w v bs) (hn : bs.length ≤ 100000000000000) (he : rs = bs ++ marks) :
    Calls Try.prog 52 #[rv, v] w fun e w' => e = .returned (.bool true) ∧ Below w.heap.size w w' := by
  subst he
  have HH := hide h
  have HR := hide hr
  clear h hr
  go_enter Try.func52, Try.ntmps52
  go_wp2_with fail
  refine (room_any v bs _ HH.out hn).mono ?_
  rintro e w1 ⟨rs, ao, cap, hrs, rfl, ho, hb⟩
  have HO := hide ho
  have HB := hide hb
  have HR1 := hide (HR.out.below hb)
  clear ho hb
  go_wp2_with fail
  refine (eq_yes rv _ rs w1 (hrs.out ▸ HR1.out) HO.out.has).mono ?_
  rintro e w2 ⟨rfl, rfl⟩
  go_wp2
  go_ret
  exact ⟨rfl, HB.out⟩

set_option maxRecDepth 100000 in
set_option maxHeartbeats 400000 in
theorem spoil_some (g cap base : Nat) (bs : List UInt8) (w : World) (h : Own w base (.slice (some ⟨g, 0, none⟩) bs.length cap) bs) (hn : bs.length ≤ 150000000000000) :
    Calls Try.prog 53 #[.slice (some ⟨g, 0, none⟩) bs.length cap] w fun e w' => e = .returned (.tuple #[]) ∧ Only w w' (some g) := by
  have HH := hide h
  clear h
  go_enter Try.func53, Try.ntmps53
  go_wp2
  go_loopw [2] (fun i wr => ∃ k : Nat, k ≤ bs.length ∧ i = .int .i64 k ∧ Hid (Own wr base (.slice (some ⟨g, 0, none⟩) bs.length cap) (List.replicate k 85 ++ bs.drop k)) ∧ Hid (Only w wr (some g))) (fun i _ => bs.length - (intOf i).toNat)
  case atStart => exact ⟨0, Nat.zero_le _, rfl, by simpa using HH, Only.refl _ _⟩
  case round =>
    obtain ⟨k, hk, rfl, hown, hon⟩ := hrel
    clear HH
    by_cases hlt : k < bs.length
    · have hlen : (List.replicate k (85 : UInt8) ++ bs.drop k).length = bs.length := by simp; omega
      have hown' := hown.out
      obtain ⟨⟨u, hcell⟩, hfz⟩ := Own.cells (bs := List.replicate k 85 ++ bs.drop k) (cap := cap) (by rw [hlen]; exact hown') k (by omega)
      have hw := Own.write (bs := List.replicate k 85 ++ bs.drop k) (cap := cap) (by rw [hlen]; exact hown') k [85] (by simp; omega)
      have e : (List.replicate k (85 : UInt8) ++ bs.drop k).take k ++ [85] ++ (List.replicate k 85 ++ bs.drop k).drop (k + [(85 : UInt8)].length) = List.replicate (k + 1) 85 ++ bs.drop (k + 1) := by
        rw [List.take_left' (by simp), List.length_singleton, List.drop_append]
        simp [List.replicate_succ', List.drop_drop]
      rw [e, hlen] at hw
      have HW : Hid (Own (wr.setCell ⟨g, k, none⟩ (.int .u8 85)) base (.slice (some ⟨g, 0, none⟩) bs.length cap) (List.replicate (k + 1) 85 ++ bs.drop (k + 1))) := hw
      have HN := hide (hon.out.trans (setCell_only wr g k (.int .u8 85)))
      unfold byt at hcell
      clear hw e hown' hown hon
      have hi : (k : Int) < (bs.length : Int) := by omega
      go_wp2
      go_roundw
      case rel => exact ⟨k + 1, by omega, by go_num, HW, HN⟩
      case measure => simp [intOf]; omega
    · go_wp2
      go_end0
      exact ⟨rfl, hon.out⟩

end Go.Proofs.Ytgfgabgnejnipaa
