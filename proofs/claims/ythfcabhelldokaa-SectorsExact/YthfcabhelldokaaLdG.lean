import Derived.Test.YthfcabhelldokaaLpG
import Derived.Test.YthfcabhelldokaaUpG
set_option linter.unusedVariables false
set_option linter.unusedSimpArgs false
namespace Go.Proofs.Ythfcabhelldokaa
open Go.RowKit

/-- The cells of the document's device. -/
def rfC (vi vl : Value) (off : Bool) (left : Int) (vk : Value) (torn ofs count : Int) : List Value := [vi, vl, .bool off, .int .i64 left, vk, .int .i64 torn, .int .i64 ofs, .int .i64 count]
theorem build96 (g N : Nat) (W : World) : (Instr.build 96 #[(0, .slice (some ⟨g, 0, none⟩) N N)]).run Try.prog W = .ok (.agg (rfC (.slice (some ⟨g, 0, none⟩) N N) (.slice none 0 0) false 0 (.slice none 0 0) 0 0 0).toArray) W := by kernel_rfl
theorem wpList_build1 {P : Program} {ops : Array Oper} {rest : List Oper} {o : Oper} {a a' : Act} {w : World} {Q : Exit → Act → World → Prop} (hgd : o.guard = none) (t : TypeId) (x : Operand) (ho : o.op = .build t #[(0, x)]) (u v : Value) (hx : a.eval x = u) (h : (Instr.build t #[(0, u)]).run P w = .ok v w) (ha : a.put o.dst v = a')
    (k : wpList P ops Q rest a' w) : wpList P ops Q (o :: rest) a w := by
  refine wpList_plain hgd fun K hK => ?_
  unfold Oper.wp execOp
  simp only [ho, List.map_toArray, List.map_cons, List.map_nil, hx, Sem.run_bind, h, Result.andThen_ok, Sem.run_pure]
  subst ha
  exact hK _ _ k
/-- The world behind the document's New. -/
def refW (w : World) (n : Nat) : World := (w.alloc (.cells ((zer n).map byt).toArray 5)).alloc (.cells (rfC (.slice (some ⟨w.heap.size, 0, none⟩) (n * 512) (n * 512)) (.slice none 0 0) false 0 (.slice none 0 0) 0 0 0).toArray 96)
theorem refW_below (w : World) (n : Nat) : Below w.heap.size w (refW w n) := by
  unfold refW
  exact ((Below.refl _ _).alloc (Nat.le_refl _) _).alloc (by simp) _
set_option maxRecDepth 100000 in
theorem refnew_any (n : Nat) (h1 : 1 ≤ n) (h2 : n ≤ 4096) (w : World) : Calls Try.prog 39 #[.int .i64 (n : Int)] w fun e w' =>
    e = .returned (.tuple #[.pointer (some ⟨w.heap.size + 1, 0, none⟩), .int .i64 0]) ∧ w' = refW w n := by
  have hmk := run_mk34 w (n * 512) (by omega)
  have a1 : ¬ (n : Int) < 1 := by omega
  have a2 : ¬ (4096 : Int) < (n : Int) := by omega
  rw [show (List.replicate (n * 512) (0 : UInt8)) = zer n from rfl] at hmk
  unfold refW
  have hbd := fun W => build96 w.heap.size (n * 512) W
  obtain ⟨g, hg⟩ : ∃ g, w.heap.size = g := ⟨_, rfl⟩
  have hsz : (w.alloc (.cells ((zer n).map byt).toArray 5)).heap.size = g + 1 := by simp [hg]
  obtain ⟨w1, hw1⟩ : ∃ w1, w.alloc (.cells ((zer n).map byt).toArray 5) = w1 := ⟨_, rfl⟩
  rw [hw1, hg] at hmk
  rw [hw1] at hsz
  rw [hg] at hbd
  rw [hw1, hg]
  clear hw1 hg
  have e1 : wrap64 ((n : Int) * 512) = ((n * 512 : Nat) : Int) := by rw [IntWalk.wrap64_in _ (by omega)]; simp
  have e2 : (n : Int) * 512 = ((n * 512 : Nat) : Int) := by simp
  obtain ⟨N, hN⟩ : ∃ N, n * 512 = N := ⟨_, rfl⟩
  rw [hN] at hmk e1 e2 hbd ⊢
  clear hN
  unfold rfC at hbd ⊢
  go_enter Try.func39, Try.ntmps39
  go_wp2_with (first
    | (refine wpList_boxAt rfl 96 (.tmp 13) rfl _ rfl (g + 1) hsz ?_)
    | fail)
  go_ret2
  exact ⟨rfl, rfl⟩
theorem refnew_no (n : Int) (h : n < 1 ∨ 4096 < n) (w : World) : Calls Try.prog 39 #[.int .i64 n] w fun e w' => e = .returned (.tuple #[.pointer none, .int .i64 4]) ∧ w' = w := by
  by_cases h1 : n < 1
  · go_enter Try.func39, Try.ntmps39
    go_wp2
    go_ret2
    exact ⟨rfl, rfl⟩
  · have h2 : 4096 < n := h.resolve_left h1
    go_enter Try.func39, Try.ntmps39
    go_wp2
    go_ret2
    exact ⟨rfl, rfl⟩

set_option maxRecDepth 100000 in
set_option maxHeartbeats 2000000 in
theorem made_new (n : Nat) (h1 : 1 ≤ n) (h2 : n ≤ 4096) (w : World) : Calls Try.prog 17 #[.int .i64 (n : Int), .slice none 0 0] w fun e w' =>
    e = .returned (.tuple #[.pointer (some ⟨w.heap.size + 2, 0, none⟩), .pointer (some ⟨w.heap.size + 4, 0, none⟩), .bool true]) ∧ w' = refW (newW w n (zer n)) n := by
  have c1 := hide (new_any n h1 h2 w)
  have c2 := hide (refnew_any n h1 h2 (newW w n (zer n)))
  rw [show (newW w n (zer n)).heap.size + 1 = w.heap.size + 4 by unfold newW; simp] at c2
  obtain ⟨w1, hw1⟩ : ∃ w1, newW w n (zer n) = w1 := ⟨_, rfl⟩
  rw [hw1] at c1 c2 ⊢
  obtain ⟨w2, hw2⟩ : ∃ w2, refW w1 n = w2 := ⟨_, rfl⟩
  rw [hw2] at c2 ⊢
  clear hw1 hw2
  go_enter Try.func17, Try.ntmps17
  go_wp2_with (first
    | (go_at_call 18; refine c1.out.mono ?_; rintro e wz ⟨rfl, hz⟩; rw [hz]; clear hz wz)
    | (go_at_call 39; refine c2.out.mono ?_; rintro e wz ⟨rfl, hz⟩; rw [hz]; clear hz wz)
    | fail)
  refine bodyPost_ret (results_tmp3 Try.results17 _ _ _) rfl ?_
  exact ⟨rfl, rfl⟩
theorem made_no (n : Int) (h : n < 1 ∨ 4096 < n) (w : World) : Calls Try.prog 17 #[.int .i64 n, .slice none 0 0] w fun e w' => e = .returned (.tuple #[.pointer none, .pointer none, .bool true]) ∧ w' = w := by
  have c1 := hide (new_no n h w)
  have c2 := hide (refnew_no n h w)
  clear h
  go_enter Try.func17, Try.ntmps17
  go_wp2_with (first
    | (go_at_call 18; refine c1.out.mono ?_; rintro e wz ⟨rfl, hz⟩; rw [hz]; clear hz wz)
    | (go_at_call 39; refine c2.out.mono ?_; rintro e wz ⟨rfl, hz⟩; rw [hz]; clear hz wz)
    | fail)
  refine bodyPost_ret (results_tmp3 Try.results17 _ _ _) rfl ?_
  exact ⟨rfl, rfl⟩
set_option maxRecDepth 100000 in
set_option maxHeartbeats 2000000 in
theorem names_any (w : World) : Calls Try.prog 4 #[] w fun e w' => e = .returned (.bool true) ∧ Below w.heap.size w w' := by
  have c1 : Hid (∀ W, Calls Try.prog 17 #[.int .i64 1, .slice none 0 0] W fun e w' => (∃ d r, e = .returned (.tuple #[.pointer d, .pointer r, .bool true])) ∧ Below W.heap.size W w') := hide (fun W => (made_new 1 (by decide) (by decide) W).mono fun e w' ⟨h1, h2⟩ => ⟨⟨_, _, h1⟩, by rw [h2]; exact (newW_below W 1 _).trans ((refW_below _ 1).mono (newW_below W 1 _).size)⟩)
  have c2 : Hid (∀ W, Calls Try.prog 17 #[.int .i64 4096, .slice none 0 0] W fun e w' => (∃ d r, e = .returned (.tuple #[.pointer d, .pointer r, .bool true])) ∧ Below W.heap.size W w') := hide (fun W => (made_new 4096 (by decide) (by decide) W).mono fun e w' ⟨h1, h2⟩ => ⟨⟨_, _, h1⟩, by rw [h2]; exact (newW_below W 4096 _).trans ((refW_below _ 4096).mono (newW_below W 4096 _).size)⟩)
  have c3 : Hid (∀ W, Calls Try.prog 17 #[.int .i64 4097, .slice none 0 0] W fun e w' => e = .returned (.tuple #[.pointer none, .pointer none, .bool true]) ∧ w' = W) := hide (fun W => made_no 4097 (by decide) W)
  have cf := hide fixed_any
  have BE : Hid (Below w.heap.size w w) := hide (Below.refl _ _)
  go_enter Try.func4, Try.ntmps4
  go_upto_region 2 with (first
    | (go_at_call 17; refine (c1.out _).mono ?_; rintro e w1 ⟨⟨d, r, rfl⟩, hb⟩; have BE := hide (BE.out.trans (hb.mono BE.out.size)); clear hb)
    | fail)
  clear c1
  go_upto_region 3 with (first
    | (go_at_call 17; refine (c2.out _).mono ?_; rintro e w2 ⟨⟨d2, r2, rfl⟩, hb⟩; have BE := hide (BE.out.trans (hb.mono BE.out.size)); clear hb)
    | fail)
  clear c2
  go_wp2_with (first
    | (go_at_call 17; refine (c3.out _).mono ?_; rintro e wz ⟨rfl, hz⟩; rw [hz]; clear hz wz)
    | (go_at_call 10; refine (cf.out _).mono ?_; rintro e w3 ⟨rfl, hb⟩; have BE := hide (BE.out.trans (hb.mono BE.out.size)); clear hb)
    | fail)
  go_ret
  exact ⟨rfl, BE.out⟩
end Go.Proofs.Ythfcabhelldokaa

set_option linter.unusedVariables false
set_option linter.unusedSimpArgs false
namespace Go.Proofs.Ythfcabhelldokaa
open Go.RowKit

set_option maxRecDepth 100000 in
set_option maxHeartbeats 1000000 in
theorem load_ok (v : Value) (img : List UInt8) (n : Nat) (h1 : 1 ≤ n) (h2 : n ≤ 4096) (hl : img.length = n * 512) (w : World) (hv : Has w v img) : Calls Try.prog 27 #[v] w fun e w' =>
    e = .returned (.tuple #[.pointer (some ⟨w.heap.size + 2, 0, none⟩), .int .i64 0]) ∧ w' = newW w n img := by
  have hlen := hv.len
  have hcp := copied_any v img (by omega) w hv
  have hov := over_any w.heap.size n h2 (w.alloc (.cells (img.map byt).toArray 5))
  rw [show (w.alloc (.cells (img.map byt).toArray 5)).heap.size = w.heap.size + 1 by simp] at hov
  have hov2 : Hid (Calls Try.prog 40 #[.slice (some ⟨w.heap.size, 0, none⟩) (n * 512) (n * 512)] (w.alloc (.cells (img.map byt).toArray 5)) fun e w' => e = .returned (.pointer (some ⟨w.heap.size + 2, 0, none⟩)) ∧ w' = newW w n img) := hide hov
  clear hov hv
  rw [hl] at hcp hlen
  have HCP := hide hcp
  clear hcp
  obtain ⟨w1, hw1⟩ : ∃ w1, w.alloc (.cells (img.map byt).toArray 5) = w1 := ⟨_, rfl⟩
  obtain ⟨w2, hw2⟩ : ∃ w2, newW w n img = w2 := ⟨_, rfl⟩
  obtain ⟨g, hg⟩ : ∃ g, w.heap.size = g := ⟨_, rfl⟩
  rw [hw1, hg] at HCP
  rw [hw1, hw2, hg] at hov2
  rw [hw2, hg]
  clear hw1 hw2 hg
  have e1 : (((n * 512 : Nat) : Int)) / 512 = (n : Int) := by omega
  have e2 : (((n * 512 : Nat) : Int)) % 512 = 0 := by omega
  have e3 : wrap64 (n : Int) = (n : Int) := IntWalk.wrap64_in _ (by omega)
  have a1 : ¬ (n : Int) < 1 := by omega
  have a2 : ¬ (4096 : Int) < (n : Int) := by omega
  obtain ⟨N, hN⟩ : ∃ N, n * 512 = N := ⟨_, rfl⟩
  rw [hN] at HCP hov2 e1 e2 hlen
  clear hN hl
  go_enter Try.func27, Try.ntmps27
  go_wp2_with (first
    | (go_at_call 35; refine HCP.out.mono ?_; rintro e wz ⟨rfl, hz⟩; rw [hz]; clear hz wz)
    | (go_at_call 40; refine hov2.out.mono ?_; rintro e wz ⟨rfl, hz⟩; rw [hz]; clear hz wz)
    | fail)
  go_ret2
  exact ⟨rfl, rfl⟩
end Go.Proofs.Ythfcabhelldokaa
