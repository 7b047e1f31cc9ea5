import Derived.Test.YtablmkijlpoaaabDoorPk
import Derived.Test.YtablmkijlpoaaabDoorOpk
namespace Go.Proofs.YtablmkijlpoaaabDoor
open Go.RowKit

theorem Out.mono {w z : World} {p a b a' b' : Nat} (h : Out w z p a b) (h1 : a ≤ a') (h2 : b ≤ b') : Out w z p a' b' := by
  obtain ⟨L, V, K, M, ls, vs, ks, ms, q1, q2, q3, q4, q5⟩ := h
  exact ⟨L, V, K, M, ls, vs, ks, ms, q1, q2, q3, by omega, by omega⟩
theorem Out.plays {w y : World} {p a b : Nat} (h : Out w y p a b) (ha : a ≤ 100) (hb : b ≤ 100) (o : Opd) (hok : o.ok w) (hK : Kst w) (hR : Rst w) (hS : Bst w) :
    Calls Tryd.prog 4 #[.pointer (some ⟨p, 0, none⟩), .agg o.cells.toArray] y fun e z => e = .returned (.bool true) ∧ Out w z p (a + 2) (b + 2) := by
  obtain ⟨L, V, K, M, ls, vs, ks, ms, q1, q2, q3, q4, q5⟩ := h
  exact (plays_any w y p L V K M ls vs ks ms q1 q2 q3 (by omega) (by omega) o.kind o.vK o.vA o.vB o.bK o.bA o.bB o.n hok.hK hok.hA hok.hB hK hR hS).mono fun e z ⟨h1, h2⟩ => ⟨h1, h2.mono (by omega) (by omega)⟩
theorem Out.holds {w y : World} {p a b : Nat} (h : Out w y p a b) (ha : a ≤ 100) (hb : b ≤ 100) :
    Calls Tryd.prog 5 #[.pointer (some ⟨p, 0, none⟩)] y fun e z => e = .returned (.bool true) ∧ Out w z p a b := by
  have h' := h
  obtain ⟨L, V, K, M, ls, vs, ks, ms, q1, q2, q3, q4, q5⟩ := h
  refine (holds_any w y p L V K M ls vs ks ms q1 q2 q3 (by omega) (by omega)).mono fun e z ⟨h1, q, h2⟩ => ⟨h1, ?_⟩
  rw [h2]
  exact h'.below (below_drewN (Below.refl _ _) q)
theorem Out.new (w : World) : Out w (w.alloc (.cells [nilS, nilS, nilS, nilS].toArray 27)) w.heap.size 0 0 :=
  ⟨nilS, nilS, nilS, nilS, [], [], [], [], ⟨Blk.new w _ _, Nat.le_refl _, World.ownsRow_nil _ _ _ _, World.ownsRow_nil _ _ _ _, World.ownsRow_nil _ _ _ _, World.ownsRow_nil _ _ _ _, fun k h => (by cases h), fun k h => (by cases h), below_new w _⟩, ⟨rfl, fun i l v h => by simp at h⟩, ⟨rfl, fun i l v h => by simp at h⟩, Nat.le_refl _, Nat.le_refl _⟩

set_option maxHeartbeats 1000000 in
set_option maxRecDepth 100000 in
theorem exact_any (sv : Value) (os : List Opd) (w : World) (hsc : Script w sv os) (hK : Kst w) (hR : Rst w) (hS : Bst w) :
    Calls Tryd.prog 3 #[sv] w fun e w' => e = .returned (.bool true) ∧ Below w.heap.size w w' := by
  have HSC := hide hsc
  have PL : Hid (∀ (o : Opd) (p a b : Nat) (y : World), o.ok w → a ≤ 100 → b ≤ 100 → Out w y p a b → Calls Tryd.prog 4 #[.pointer (some ⟨p, 0, none⟩), .agg o.cells.toArray] y fun e z => e = .returned (.bool true) ∧ Out w z p (a + 2) (b + 2)) := hide (fun o p a b y h1 h2 h3 h4 => h4.plays h2 h3 o h1 hK hR hS)
  clear hsc hK hR hS
  have F0 := hide (Out.new w)
  have hb27 := built27
  obtain ⟨T0, hT0⟩ : ∃ T, [nilS, nilS, nilS, nilS] = T := ⟨_, rfl⟩
  rw [hT0] at F0 hb27
  clear hT0
  have hlen := HSC.out.len
  obtain ⟨nO, hnO⟩ : ∃ n, os.length = n := ⟨_, rfl⟩
  rw [hnO] at hlen
  have HNO : Lk os.length nO := ⟨hnO⟩
  clear hnO
  go_enter Tryd.func3, Tryd.ntmps3
  go_wp2_with (first
    | (refine wpList_bldG (by kernel_rfl) 27 #[] rfl [] (by simp) T0.toArray hb27 ?_)
    | (refine wpList_boxAt rfl 27 _ rfl T0 rfl w.heap.size rfl ?_; generalize w.alloc (.cells T0.toArray 27) = w2 at F0 ⊢; obtain ⟨p, hp⟩ : ∃ p, w.heap.size = p := ⟨_, rfl⟩; rw [hp] at F0 ⊢; clear hp)
    | fail)
  have P1 : Hid (∀ y, Out w y p 60 60 → Calls Tryd.prog 4 #[.pointer (some ⟨p, 0, none⟩), .agg (opK 1 nilS nilS nilS 0).toArray] y fun e z => e = .returned (.bool true) ∧ Out w z p 62 62) := hide (fun y h => PL.out ⟨1, nilS, nilS, nilS, 0, [], [], []⟩ p 60 60 y ⟨Has.nil _, Has.nil _, Has.nil _⟩ (by decide) (by decide) h)
  have P3 : Hid (∀ y, Out w y p 62 62 → Calls Tryd.prog 4 #[.pointer (some ⟨p, 0, none⟩), .agg (opK 3 nilS nilS nilS 33).toArray] y fun e z => e = .returned (.bool true) ∧ Out w z p 64 64) := hide (fun y h => PL.out ⟨3, nilS, nilS, nilS, 33, [], [], []⟩ p 62 62 y ⟨Has.nil _, Has.nil _, Has.nil _⟩ (by decide) (by decide) h)
  have HH : Hid (∀ y, Out w y p 64 64 → Calls Tryd.prog 5 #[.pointer (some ⟨p, 0, none⟩)] y fun e z => e = .returned (.bool true) ∧ Out w z p 64 64) := hide (fun y h => h.holds (by decide) (by decide))
  have b1 := built31_1
  have b3 := built31_3
  obtain ⟨q1, hq1⟩ : ∃ q, opK 1 nilS nilS nilS 0 = q := ⟨_, rfl⟩
  obtain ⟨q3, hq3⟩ : ∃ q, opK 3 nilS nilS nilS 33 = q := ⟨_, rfl⟩
  rw [hq1] at P1 b1
  rw [hq3] at P3 b3
  clear hq1 hq3
  go_loopw [4] (fun i wx => ∃ k : Nat, k ≤ nO ∧ k ≤ 30 ∧ i = .int .i64 (k : Int) ∧ Hid (Out w wx p (2 * k) (2 * k))) (fun i _ => 30 - (intOf i).toNat)
  case atStart => exact ⟨0, by omega, by omega, rfl, F0⟩
  case round =>
    obtain ⟨k, hk, hk30, rfl, hy⟩ := hrel
    by_cases hin : k < nO
    · by_cases h30 : k < 30
      · have hkz : (k : Int) < nO := by omega
        have hk3 : (k : Int) < 30 := by omega
        obtain ⟨o, ho⟩ : ∃ o, os[k]? = some o := ⟨os[k]'(by rw [HNO.h]; exact hin), List.getElem?_eq_getElem _⟩
        obtain ⟨ad, hix, hrg, hok⟩ := HSC.out.item k o ho
        have RG := hide (hrg.below hy.out.be)
        have hcall : Hid (∀ y, Out w y p (2 * k) (2 * k) → Calls Tryd.prog 4 #[.pointer (some ⟨p, 0, none⟩), .agg o.cells.toArray] y fun e z => e = .returned (.bool true) ∧ Out w z p (2 * k + 2) (2 * k + 2)) := hide (fun y h => PL.out o p _ _ y hok (by omega) (by omega) h)
        have hhold : Hid (∀ y, Out w y p (2 * k + 2) (2 * k + 2) → Calls Tryd.prog 5 #[.pointer (some ⟨p, 0, none⟩)] y fun e z => e = .returned (.bool true) ∧ Out w z p (2 * k + 2) (2 * k + 2)) := hide (fun y h => h.holds (by omega) (by omega))
        have h31 : (Tryd.prog.info? 31).map (·.size) = some o.cells.length := by rw [Opd.cells, opK]; kernel_rfl
        obtain ⟨oc, hoc⟩ : ∃ oc, o.cells = oc := ⟨_, rfl⟩
        rw [hoc] at RG hcall h31
        clear hoc hok hrg ho P1 P3 HH b1 b3 PL
        go_wp2_with (first
          | (refine wpList_load_at rfl 31 (.tmp 21) rfl ad rfl oc _ RG.out Tryd.underlying31 rfl h31 ?_)
          | (go_at_call 4; refine (hcall.out _ hy.out).mono ?_; rintro e y1 ⟨rfl, hp⟩; have O1 := hide hp; clear hp)
          | (go_at_call 5; refine (hhold.out _ O1.out).mono ?_; rintro e y2 ⟨rfl, hp⟩; have O2 := hide hp; clear hp)
          | fail)
        go_roundw
        case rel => exact ⟨k + 1, by omega, by omega, by go_num, O2⟩
        case measure => simp [intOf]; omega
      · have hkz : (k : Int) < nO := by omega
        have hk3 : ¬ (k : Int) < 30 := by omega
        have OUT : Hid (Out w wr p 60 60) := hide (hy.out.mono (by omega) (by omega))
        clear hy PL
        go_wp2_with (first
          | (refine wpList_bldG (by kernel_rfl) 31 #[(0, .const (.int .i64 1))] rfl [(0, .int .i64 1)] (by simp [Act.eval]) q1.toArray b1 ?_)
          | (refine wpList_bldG (by kernel_rfl) 31 #[(0, .const (.int .i64 3)), (4, .const (.int .i64 33))] rfl [(0, .int .i64 3), (4, .int .i64 33)] (by simp [Act.eval]) q3.toArray b3 ?_)
          | (go_at_call 4; refine (P1.out _ OUT.out).mono ?_; rintro e y1 ⟨rfl, hp⟩; have OUT1 := hide hp; clear hp OUT P1)
          | (go_at_call 4; refine (P3.out _ OUT1.out).mono ?_; rintro e y2 ⟨rfl, hp⟩; have OUT2 := hide hp; clear hp OUT1 P3)
          | (go_at_call 5; refine (HH.out _ OUT2.out).mono ?_; rintro e y3 ⟨rfl, hp⟩; have OUT3 := hide hp; clear hp OUT2 HH)
          | fail)
        go_ret
        exact ⟨rfl, OUT3.out.be⟩
    · have hkz : ¬ (k : Int) < nO := by omega
      have OUT : Hid (Out w wr p 60 60) := hide (hy.out.mono (by omega) (by omega))
      clear hy PL
      go_wp2_with (first
        | (refine wpList_bldG (by kernel_rfl) 31 #[(0, .const (.int .i64 1))] rfl [(0, .int .i64 1)] (by simp [Act.eval]) q1.toArray b1 ?_)
        | (refine wpList_bldG (by kernel_rfl) 31 #[(0, .const (.int .i64 3)), (4, .const (.int .i64 33))] rfl [(0, .int .i64 3), (4, .int .i64 33)] (by simp [Act.eval]) q3.toArray b3 ?_)
        | (go_at_call 4; refine (P1.out _ OUT.out).mono ?_; rintro e y1 ⟨rfl, hp⟩; have OUT1 := hide hp; clear hp OUT P1)
        | (go_at_call 4; refine (P3.out _ OUT1.out).mono ?_; rintro e y2 ⟨rfl, hp⟩; have OUT2 := hide hp; clear hp OUT1 P3)
        | (go_at_call 5; refine (HH.out _ OUT2.out).mono ?_; rintro e y3 ⟨rfl, hp⟩; have OUT3 := hide hp; clear hp OUT2 HH)
        | fail)
      go_ret
      exact ⟨rfl, OUT3.out.be⟩
end Go.Proofs.YtablmkijlpoaaabDoor
