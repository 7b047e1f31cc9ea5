import Derived.Test.YthlpfpggjkocmaaArmG
import Derived.Test.YthlpfpggjkocmaaXd
set_option linter.unusedVariables false
set_option linter.unusedSimpArgs false
namespace Go.Proofs.Ythlpfpggjkocmaa
open Go.RowKit

set_option maxRecDepth 100000 in
set_option maxHeartbeats 1000000 in
theorem load_ok (v : Value) (img : List UInt8) (n : Nat) (h1 : 1 ≤ n) (h2 : n ≤ 4096) (hl : img.length = n * 512) (w : World) (hv : Has w v img) : Calls Try.prog 14 #[v] w fun e w' =>
    e = .returned (.tuple #[.pointer (some ⟨w.heap.size + 2, 0, none⟩), .int .i64 0]) ∧ w' = newW w n img := by
  have hlen := hv.len
  have hcp := copied_any v img (by omega) w hv
  have hov := over_any w.heap.size n h2 (w.alloc (.cells (img.map byt).toArray 5))
  rw [show (w.alloc (.cells (img.map byt).toArray 5)).heap.size = w.heap.size + 1 by simp] at hov
  have hov2 : Hid (Calls Try.prog 42 #[.slice (some ⟨w.heap.size, 0, none⟩) (n * 512) (n * 512)] (w.alloc (.cells (img.map byt).toArray 5)) fun e w' => e = .returned (.pointer (some ⟨w.heap.size + 2, 0, none⟩)) ∧ w' = newW w n img) := hide hov
  clear hov hv
  rw [hl] at hcp hlen
  have HCP := hide hcp
  clear hcp
  obtain ⟨w1, hw1⟩ : ∃ w1, w.alloc (.cells (img.map byt).toArray 5) = w1 := ⟨_, rfl⟩
  obtain ⟨w2, hw2⟩ : ∃ w2, newW w n img = w2 := ⟨_, rfl⟩
  obtain ⟨g, hg⟩ : ∃ g, w.heap.size = g := ⟨_, rfl⟩
  rw [hw1, hg] at HCP
  rw [hw1, hw2, hg] at hov2
  rw [hw2, hg]
  clear hw1 hw2 hg
  have e1 : (((n * 512 : Nat) : Int)) / 512 = (n : Int) := by omega
  have e2 : (((n * 512 : Nat) : Int)) % 512 = 0 := by omega
  have e3 : wrap64 (n : Int) = (n : Int) := IntWalk.wrap64_in _ (by omega)
  have a1 : ¬ (n : Int) < 1 := by omega
  have a2 : ¬ (4096 : Int) < (n : Int) := by omega
  obtain ⟨N, hN⟩ : ∃ N, n * 512 = N := ⟨_, rfl⟩
  rw [hN] at HCP hov2 e1 e2 hlen
  clear hN hl
  go_enter Try.func14, Try.ntmps14
  go_wp2_with (first
    | (go_at_call 43; refine HCP.out.mono ?_; rintro e wz ⟨rfl, hz⟩; rw [hz]; clear hz wz)
    | (go_at_call 42; refine hov2.out.mono ?_; rintro e wz ⟨rfl, hz⟩; rw [hz]; clear hz wz)
    | fail)
  go_ret2
  exact ⟨rfl, rfl⟩
end Go.Proofs.Ythlpfpggjkocmaa

set_option linter.unusedVariables false
set_option linter.unusedSimpArgs false
namespace Go.Proofs.Ythlpfpggjkocmaa
open Go.RowKit

/-- A device with just these sectors, of the call's own. -/
theorem Dk.new (w : World) (n : Nat) (img : List UInt8) (h1 : 1 ≤ n) (h2 : n ≤ 4096) (hl : img.length = n * 512) : ∃ L, L.p = w.heap.size + 2 ∧ (∀ k, L.F k → w.heap.size ≤ k) ∧ Dk (newW w n img) L n (secB img) 0 0 := by
  refine ⟨_, rfl, ?_, ⟨_, newW_dev w n img h1 h2 hl, rfl, rfl, rfl, fun i hi => rfl, rfl, rfl⟩⟩
  rintro k hk
  rcases hk with hk | hk | hk | hk | hk | hk
  · have : k = w.heap.size + 2 := hk
    omega
  · have : k = w.heap.size := hk
    omega
  · have : k = w.heap.size + 1 := hk
    omega
  · cases hk
  · cases hk
  · cases hk
theorem secB_zer (n i : Nat) (hi : i < n) : secB (zer n) i = zS := by
  unfold secB zer zS
  rw [List.drop_replicate, List.take_replicate]
  congr 1
  omega
/-- The image: the sectors, one behind the other. -/
def imgS (N : Nat) (s : Nat → List UInt8) : List UInt8 := (List.range N).flatMap s
theorem img_sec : ∀ (N : Nat) (img : List UInt8), img.length = N * 512 → imgS N (secB img) = img
  | 0, img, h => by
    have : img = [] := List.length_eq_zero_iff.1 (by omega)
    subst this
    rfl
  | N + 1, img, h => by
    have ih := img_sec N (img.take (N * 512)) (by rw [List.length_take]; omega)
    have e1 : (List.range N).flatMap (secB img) = (List.range N).flatMap (secB (img.take (N * 512))) := by
      rw [List.flatMap_def, List.flatMap_def]
      congr 1
      apply List.map_congr_left
      intro i hi
      have hi := List.mem_range.1 hi
      unfold secB
      rw [List.drop_take, List.take_take, Nat.min_eq_left (by omega)]
    unfold imgS at *
    rw [List.range_succ, List.flatMap_append, e1, ih, List.flatMap_cons, List.flatMap_nil, List.append_nil]
    unfold secB
    rw [List.take_of_length_le (l := img.drop (N * 512)) (by rw [List.length_drop]; omega), List.take_append_drop]
theorem imgS_congr {N : Nat} {s s' : Nat → List UInt8} (h : ∀ i, i < N → s i = s' i) : imgS N s = imgS N s' := by
  unfold imgS
  rw [List.flatMap_def, List.flatMap_def]
  congr 1
  apply List.map_congr_left
  intro i hi
  exact h i (List.mem_range.1 hi)
theorem imgS_len (N : Nat) (s : Nat → List UInt8) (h : ∀ i, i < N → (s i).length = 512) : (imgS N s).length = N * 512 := by
  induction N with
  | zero => rfl
  | succ N ih =>
    unfold imgS at *
    rw [List.range_succ, List.flatMap_append, List.length_append, ih (fun i hi => h i (by omega)), List.flatMap_cons, List.flatMap_nil, List.append_nil, h N (by omega)]
    omega
theorem kimage_any {w : World} {L : Lay} {N : Nat} {s : Nat → List UInt8} {c : Nat} (h : Dk w L N s 0 c) : Calls Try.prog 15 #[.pointer (some ⟨L.p, 0, none⟩)] w fun e w' => ∃ u, e = .returned u ∧ Ob w' w.heap.size u (imgS N s) ∧ Below w.heap.size w w' := by
  obtain ⟨D, h1, h2, h3, h4, h5, h6, h7⟩ := h.ex
  have hpen : D.pen = [] := List.length_eq_zero_iff.1 h6
  have hi : imgS N s = D.img := by
    rw [← img_sec N D.img (by rw [h1.ok.len, h4])]
    refine imgS_congr fun i hi => ?_
    rw [← h5 i hi, readB_sec, hpen, nw_nil, if_pos rfl]
  refine (image_any h1).mono ?_
  rintro e w' ⟨rfl, rfl⟩
  rw [hi]
  exact ⟨_, rfl, Ob.blk (Blk.new _ _ _) (by have := h1.ok.len; have := h1.ok.n2; omega), below_new _ _⟩
theorem kcalls_any {w : World} {L : Lay} {N : Nat} {s : Nat → List UInt8} {m c : Nat} (h : Dk w L N s m c) : Calls Try.prog 39 #[.pointer (some ⟨L.p, 0, none⟩)] w fun e w' => e = .returned (.int .i64 (c : Int)) ∧ w' = w := by
  obtain ⟨D, h1, h2, h3, h4, h5, h6, h7⟩ := h.ex
  rw [← h7]
  exact calls_any h1
def paC (num : Nat) (fill : UInt8) : List Value := [.int .i64 (num : Int), byt fill, .int .i64 0]
def pgB (num : Nat) (fill : UInt8) : List UInt8 := ((List.replicate 1024 fill).set 0 (UInt8.ofNat (num % 256))).set 511 (UInt8.ofNat ((num + 1) % 256))
theorem pgB_len (num : Nat) (fill : UInt8) : (pgB num fill).length = 1024 := by unfold pgB; rw [List.length_set, List.length_set, List.length_replicate]
theorem fld75 (q j : Nat) (hj : j < 3) (W : World) : (Instr.fieldAt 75 (.pointer (some ⟨q, 0, none⟩)) j).run Try.prog W = .ok (.pointer (some ⟨q, j, none⟩)) W := by
  have h : j = 0 ∨ j = 1 ∨ j = 2 := by omega
  rcases h with rfl | rfl | rfl <;> go_simp
theorem ldc5 {W : World} {q j : Nat} {cs : List Value} {t : TypeId} {u : UInt8} (hb : Blk W q cs t) (h : cs[j]? = some (byt u)) : (Instr.loadAt 5 (.pointer (some ⟨q, j, none⟩))).run Try.prog W = .ok (byt u) W := by
  have hc : W.cell? ⟨q, j, none⟩ = some (byt u) := (hb.cell j).trans h
  have hf := hb.frozen j
  unfold byt at *
  go_simp
theorem conv_lo (x : Nat) (h : x < 65536) (W : World) : (Go.convert 3 5 (.int .i64 (x : Int))).run Try.prog W = .ok (byt (UInt8.ofNat (x % 256))) W := by
  have e : IntKind.u8.wrap (x : Int) = ((x % 256 : Nat) : Int) := by rw [IntKind.wrap_u8]; omega
  have e2 : ((UInt8.ofNat (x % 256)).toNat : Int) = ((x % 256 : Nat) : Int) := by rw [UInt8.toNat_ofNat', Nat.mod_eq_of_lt (by omega)]
  unfold byt
  rw [e2]
  go_simp
theorem fill_set (t : Nat) (ht : t < 1024) (f : UInt8) : (List.replicate t f ++ List.replicate (1024 - t) (0 : UInt8)).set t f = List.replicate (t + 1) f ++ List.replicate (1024 - (t + 1)) 0 := by
  have e : 1024 - t = (1024 - (t + 1)) + 1 := by omega
  rw [e, List.replicate_succ, List.set_append_right _ _ (by rw [List.length_replicate]; exact Nat.le_refl _), List.length_replicate, Nat.sub_self, List.set_cons_zero, List.replicate_succ' (n := t), List.append_assoc]
  rfl
def byE (q : Nat) (u : Value) (t : Nat) : List (Nat × Value) := [(1, .pointer (some ⟨q, 0, none⟩)), (3, .int .i64 1024), (4, u), (5, .int .i64 (t : Int))]
structure ByR (w : World) (q num : Nat) (fill : UInt8) (u : Value) (t : Nat) (W : World) : Prop where
  o : Ob W (w.heap.size + 1) u (List.replicate t fill ++ List.replicate (1024 - t) 0)
  b : Blk W q (paC num fill) 75
  e : Below w.heap.size w W
  le : t ≤ 1024
set_option maxRecDepth 100000 in
set_option maxHeartbeats 1000000 in
theorem bytes_ok (num : Nat) (fill : UInt8) (hnum : num < 60000) (w : World) : Calls Try.prog 63 #[.agg (paC num fill).toArray] w fun e w' => ∃ u, e = .returned u ∧ Ob w' w.heap.size u (pgB num fill) ∧ Below w.heap.size w w' := by
  refine calls_of_args [.agg (paC num fill).toArray] Try.func63 rfl 34 Try.ntmps63 (by show 1 ≤ 34; decide) ?_
  refine EW.seq ?_
  refine EW.region ?_
  have r1 := run_boxR (P := Try.prog) 75 (paC num fill) w _ rfl
  have e1 := below_new w (.cells (paC num fill).toArray 75)
  have b1 := Blk.new w (paC num fill) 75
  obtain ⟨q, hq⟩ : ∃ q, w.heap.size = q := ⟨_, rfl⟩
  have z1 : (w.alloc (.cells (paC num fill).toArray 75)).heap.size = w.heap.size + 1 := by show (w.heap.push _).size = _; rw [Array.size_push]
  obtain ⟨w1, hw1⟩ : ∃ w1, w.alloc (.cells (paC num fill).toArray 75) = w1 := ⟨_, rfl⟩
  rw [hw1] at r1 e1 b1 z1
  rw [hq] at r1 b1
  refine WL.box rfl rfl rfl r1 ?_
  first | refine WL.assign rfl rfl rfl ?_
  refine WL.done ?_
  refine EW.on ?_
  refine EW.seq ?_
  refine EW.region ?_
  refine WL.field rfl rfl rfl (fld75 q 2 (by decide) _) ?_
  refine WL.load rfl rfl rfl (ldc3 b1 rfl) ?_
  refine WL.bin rfl rfl rfl rfl (rem8 0 (by decide) _ _ _) ?_
  refine WL.bin rfl rfl rfl rfl (int_sub (c := 1024) (by decide) _ _ _) ?_
  first | refine WL.assign rfl rfl rfl ?_
  refine WL.done ?_
  refine EW.on ?_
  refine EW.seq ?_
  refine EW.region ?_
  first | refine WL.move rfl rfl rfl ?_
  have r2 := run_mk34 w1 1024 (by decide)
  have e2 := below_new w1 (.cells ((List.replicate 1024 (0 : UInt8)).map byt).toArray 5)
  have o2 := Ob.blk (bs := List.replicate 1024 (0 : UInt8)) (Blk.new w1 _ 5) (by rw [List.length_replicate]; decide)
  rw [List.length_replicate] at o2
  obtain ⟨w2, hw2⟩ : ∃ w2, w1.alloc (.cells ((List.replicate 1024 (0 : UInt8)).map byt).toArray 5) = w2 := ⟨_, rfl⟩
  rw [hw2] at r2 e2 o2
  obtain ⟨u, hu⟩ : ∃ u, Value.slice (some ⟨w1.heap.size, 0, none⟩) 1024 1024 = u := ⟨_, rfl⟩
  rw [hu] at r2 o2
  refine WL.mks rfl rfl rfl rfl r2 ?_
  first | refine WL.assign rfl rfl rfl ?_
  refine WL.done ?_
  refine EW.on ?_
  refine EW.seq ?_
  refine EW.seq ?_
  refine EW.region ?_
  first | refine WL.assign rfl rfl rfl ?_
  refine WL.done ?_
  refine EW.on ?_
  refine EW.block ?_
  refine EW.loop (byE q u) (ByR w q num fill u) (fun t => 1024 - t) 0 [1, 3, 4, 5] rfl ⟨by rw [← z1]; exact o2, b1.on e2, e1.trans (e2.mono e1.size), Nat.zero_le _⟩ ?_
  rintro t wi ⟨oi, bi, ei, hle⟩
  show EW _ _ _ _ [(1, .pointer (some ⟨q, 0, none⟩)), (3, .int .i64 1024), (4, u), (5, .int .i64 (t : Int))] _
  refine EW.seq ?_
  refine EW.seq ?_
  refine EW.region ?_
  first | refine WL.move rfl rfl rfl ?_
  first | refine WL.move rfl rfl rfl ?_
  first | refine WL.bin rfl rfl rfl rfl (int_lt_t ‹_› _ _ _) ?_ | refine WL.bin rfl rfl rfl rfl (int_lt_f ‹_› _ _ _) ?_ | refine WL.bin rfl rfl rfl rfl (int_lt_d _ _ _ _ _) ?_
  refine WL.done ?_
  refine EW.on ?_
  refine EW.cond_d rfl (fun h14 => ?_) (fun h14 => ?_)
  · refine EW.skip ?_
    refine EW.on ?_
    refine EW.seq ?_
    refine EW.block ?_
    have ht : t < 1024 := by omega
    have tn : IntKind.i64.wrap ((t : Int) + 1) = ((t + 1 : Nat) : Int) := by rw [IntKind.wrap_i64]; omega
    refine EW.region ?_
    first | refine WL.move rfl rfl rfl ?_
    first | refine WL.move rfl rfl rfl ?_
    refine WL.field rfl rfl rfl (fld75 q 1 (by decide) _) ?_
    refine WL.load rfl rfl rfl (ldc5 bi rfl) ?_
    obtain ⟨ad, w3, ix, s3, o3, x3⟩ := oi.setAt t (by rw [List.length_append, List.length_replicate, List.length_replicate]; omega) fill 37 (.inl rfl)
    rw [fill_set t ht] at o3
    refine WL.index rfl rfl rfl rfl (ix _) ?_
    refine WL.store rfl rfl rfl s3 ?_
    refine WL.done ?_
    refine pn_block ?_
    refine EW.on ?_
    refine EW.region ?_
    first | refine WL.move rfl rfl rfl ?_
    first | refine WL.bin rfl rfl rfl rfl (int_add ‹_› _ _ _) ?_
    first | refine WL.assign rfl rfl rfl ?_
    refine WL.done ?_
    refine EW.again (E := byE q u) (R := ByR w q num fill u) (m := fun t => 1024 - t) (x := t) (t + 1) [1, 3, 4, 5] rfl ⟨o3, bi.fx x3 (fun e => by have := oi.base _ e; omega), below_of_new ei x3 (fun k hk => by have := oi.base _ hk; omega), by omega⟩ (by show 1024 - (t + 1) < 1024 - t; omega)
  · refine EW.exit ?_
    refine px_then ?_
    refine px_then ?_
    refine px_block ?_
    refine EW.on ?_
    refine EW.seq ?_
    have hte : t = 1024 := by omega
    refine EW.region ?_
    first | refine WL.move rfl rfl rfl ?_
    refine WL.field rfl rfl rfl (fld75 q 0 (by decide) _) ?_
    refine WL.load rfl rfl rfl (ldc3 bi rfl) ?_
    refine WL.conv rfl rfl rfl (conv_lo num (by omega) _) ?_
    obtain ⟨ad, w7, ix, s7, o7, x7⟩ := oi.setAt 0 (by rw [hte, List.length_append, List.length_replicate, List.length_replicate]; decide) (UInt8.ofNat (num % 256)) 37 (.inl rfl)
    have b7 := bi.fx x7 (fun e => by have := oi.base _ e; omega)
    refine WL.index rfl rfl rfl rfl (ix _) ?_
    refine WL.store rfl rfl rfl s7 ?_
    refine WL.done ?_
    refine EW.on ?_
    refine EW.seq ?_
    refine EW.region ?_
    first | refine WL.move rfl rfl rfl ?_
    refine WL.field rfl rfl rfl (fld75 q 0 (by decide) _) ?_
    refine WL.load rfl rfl rfl (ldc3 b7 rfl) ?_
    refine WL.bin rfl rfl rfl rfl (int_add (c := ((num + 1 : Nat) : Int)) (by rw [IntKind.wrap_i64]; omega) _ _ _) ?_
    refine WL.conv rfl rfl rfl (conv_lo (num + 1) (by omega) _) ?_
    obtain ⟨ad8, w8, ix8, s8, o8, x8⟩ := o7.setAt 511 (by rw [List.length_set, hte, List.length_append, List.length_replicate, List.length_replicate]; decide) (UInt8.ofNat ((num + 1) % 256)) 37 (.inl rfl)
    refine WL.index rfl rfl rfl rfl (ix8 _) ?_
    refine WL.store rfl rfl rfl s8 ?_
    refine WL.done ?_
    refine EW.on ?_
    refine EW.seq ?_
    refine EW.region ?_
    first | refine WL.move rfl rfl rfl ?_
    first | refine WL.assign rfl rfl rfl ?_
    refine WL.done ?_
    refine EW.on ?_
    refine EW.ret ?_
    exact EW.returns Try.results63 rfl ⟨u, rfl, (by
    rw [hte, Nat.sub_self, List.replicate_zero, List.append_nil] at o8
    exact o8.mono (Nat.le_succ _)), below_of_new (below_of_new ei x7 (fun k hk => by have := oi.base _ hk; omega)) x8 (fun k hk => by have := oi.base _ hk; omega)⟩
end Go.Proofs.Ythlpfpggjkocmaa
