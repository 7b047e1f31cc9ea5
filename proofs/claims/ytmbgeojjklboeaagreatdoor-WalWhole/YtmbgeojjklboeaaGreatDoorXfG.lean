import Derived.Test.YtmbgeojjklboeaaGreatDoorArmG
import Derived.Test.YtmbgeojjklboeaaGreatDoorXdG
set_option linter.unusedVariables false
set_option linter.unusedSimpArgs false
namespace Go.Proofs.YtmbgeojjklboeaaGreatDoor
open Go.RowKit

set_option maxRecDepth 100000 in
set_option maxHeartbeats 1000000 in
theorem load_ok (v : Value) (img : List UInt8) (n : Nat) (h1 : 1 ≤ n) (h2 : n ≤ 4096) (hl : img.length = n * 512) (w : World) (hv : Has w v img) : Calls Tryz.prog 26 #[v] w fun e w' =>
    e = .returned (.tuple #[.pointer (some ⟨w.heap.size + 2, 0, none⟩), .int .i64 0]) ∧ w' = newW w n img := by
  have hlen := hv.len
  have hcp := copied_any v img (by omega) w hv
  have hov := over_any w.heap.size n h2 (w.alloc (.cells (img.map byt).toArray 5))
  rw [show (w.alloc (.cells (img.map byt).toArray 5)).heap.size = w.heap.size + 1 by simp] at hov
  have hov2 : Hid (Calls Tryz.prog 27 #[.slice (some ⟨w.heap.size, 0, none⟩) (n * 512) (n * 512)] (w.alloc (.cells (img.map byt).toArray 5)) fun e w' => e = .returned (.pointer (some ⟨w.heap.size + 2, 0, none⟩)) ∧ w' = newW w n img) := hide hov
  clear hov hv
  rw [hl] at hcp hlen
  have HCP := hide hcp
  clear hcp
  obtain ⟨w1, hw1⟩ : ∃ w1, w.alloc (.cells (img.map byt).toArray 5) = w1 := ⟨_, rfl⟩
  obtain ⟨w2, hw2⟩ : ∃ w2, newW w n img = w2 := ⟨_, rfl⟩
  obtain ⟨g, hg⟩ : ∃ g, w.heap.size = g := ⟨_, rfl⟩
  rw [hw1, hg] at HCP
  rw [hw1, hw2, hg] at hov2
  rw [hw2, hg]
  clear hw1 hw2 hg
  have e1 : (((n * 512 : Nat) : Int)) / 512 = (n : Int) := by omega
  have e2 : (((n * 512 : Nat) : Int)) % 512 = 0 := by omega
  have e3 : wrap64 (n : Int) = (n : Int) := IntWalk.wrap64_in _ (by omega)
  have a1 : ¬ (n : Int) < 1 := by omega
  have a2 : ¬ (4096 : Int) < (n : Int) := by omega
  obtain ⟨N, hN⟩ : ∃ N, n * 512 = N := ⟨_, rfl⟩
  rw [hN] at HCP hov2 e1 e2 hlen
  clear hN hl
  go_enter Tryz.func26, Tryz.ntmps26
  go_wp2_with (first
    | (go_at_call 51; refine HCP.out.mono ?_; rintro e wz ⟨rfl, hz⟩; rw [hz]; clear hz wz)
    | (go_at_call 27; refine hov2.out.mono ?_; rintro e wz ⟨rfl, hz⟩; rw [hz]; clear hz wz)
    | fail)
  go_ret2
  exact ⟨rfl, rfl⟩
end Go.Proofs.YtmbgeojjklboeaaGreatDoor

set_option linter.unusedVariables false
set_option linter.unusedSimpArgs false
namespace Go.Proofs.YtmbgeojjklboeaaGreatDoor
open Go.RowKit

/-- A device with just these sectors, of the call's own. -/
theorem Dk.new (w : World) (n : Nat) (img : List UInt8) (h1 : 1 ≤ n) (h2 : n ≤ 4096) (hl : img.length = n * 512) : ∃ L, L.p = w.heap.size + 2 ∧ (∀ k, L.F k → w.heap.size ≤ k) ∧ Dk (newW w n img) L n (secB img) 0 0 := by
  refine ⟨_, rfl, ?_, ⟨_, newW_dev w n img h1 h2 hl, rfl, rfl, rfl, fun i hi => rfl, rfl, rfl⟩⟩
  rintro k hk
  rcases hk with hk | hk | hk | hk | hk | hk
  · have : k = w.heap.size + 2 := hk
    omega
  · have : k = w.heap.size := hk
    omega
  · have : k = w.heap.size + 1 := hk
    omega
  · cases hk
  · cases hk
  · cases hk
theorem secB_zer (n i : Nat) (hi : i < n) : secB (zer n) i = zS := by
  unfold secB zer zS
  rw [List.drop_replicate, List.take_replicate]
  congr 1
  omega
/-- The image: the sectors, one behind the other. -/
def imgS (N : Nat) (s : Nat → List UInt8) : List UInt8 := (List.range N).flatMap s
theorem img_sec : ∀ (N : Nat) (img : List UInt8), img.length = N * 512 → imgS N (secB img) = img
  | 0, img, h => by
    have : img = [] := List.length_eq_zero_iff.1 (by omega)
    subst this
    rfl
  | N + 1, img, h => by
    have ih := img_sec N (img.take (N * 512)) (by rw [List.length_take]; omega)
    have e1 : (List.range N).flatMap (secB img) = (List.range N).flatMap (secB (img.take (N * 512))) := by
      rw [List.flatMap_def, List.flatMap_def]
      congr 1
      apply List.map_congr_left
      intro i hi
      have hi := List.mem_range.1 hi
      unfold secB
      rw [List.drop_take, List.take_take, Nat.min_eq_left (by omega)]
    unfold imgS at *
    rw [List.range_succ, List.flatMap_append, e1, ih, List.flatMap_cons, List.flatMap_nil, List.append_nil]
    unfold secB
    rw [List.take_of_length_le (l := img.drop (N * 512)) (by rw [List.length_drop]; omega), List.take_append_drop]
theorem imgS_congr {N : Nat} {s s' : Nat → List UInt8} (h : ∀ i, i < N → s i = s' i) : imgS N s = imgS N s' := by
  unfold imgS
  rw [List.flatMap_def, List.flatMap_def]
  congr 1
  apply List.map_congr_left
  intro i hi
  exact h i (List.mem_range.1 hi)
theorem imgS_len (N : Nat) (s : Nat → List UInt8) (h : ∀ i, i < N → (s i).length = 512) : (imgS N s).length = N * 512 := by
  induction N with
  | zero => rfl
  | succ N ih =>
    unfold imgS at *
    rw [List.range_succ, List.flatMap_append, List.length_append, ih (fun i hi => h i (by omega)), List.flatMap_cons, List.flatMap_nil, List.append_nil, h N (by omega)]
    omega
theorem kimage_any {w : World} {L : Lay} {N : Nat} {s : Nat → List UInt8} {c : Nat} (h : Dk w L N s 0 c) : Calls Tryz.prog 17 #[.pointer (some ⟨L.p, 0, none⟩)] w fun e w' => ∃ u, e = .returned u ∧ Ob w' w.heap.size u (imgS N s) ∧ Below w.heap.size w w' := by
  obtain ⟨D, h1, h2, h3, h4, h5, h6, h7⟩ := h.ex
  have hpen : D.pen = [] := List.length_eq_zero_iff.1 h6
  have hi : imgS N s = D.img := by
    rw [← img_sec N D.img (by rw [h1.ok.len, h4])]
    refine imgS_congr fun i hi => ?_
    rw [← h5 i hi, readB_sec, hpen, nw_nil, if_pos rfl]
  refine (image_any h1).mono ?_
  rintro e w' ⟨rfl, rfl⟩
  rw [hi]
  exact ⟨_, rfl, Ob.blk (Blk.new _ _ _) (by have := h1.ok.len; have := h1.ok.n2; omega), below_new _ _⟩
theorem kcalls_any {w : World} {L : Lay} {N : Nat} {s : Nat → List UInt8} {m c : Nat} (h : Dk w L N s m c) : Calls Tryz.prog 18 #[.pointer (some ⟨L.p, 0, none⟩)] w fun e w' => e = .returned (.int .i64 (c : Int)) ∧ w' = w := by
  obtain ⟨D, h1, h2, h3, h4, h5, h6, h7⟩ := h.ex
  rw [← h7]
  exact calls_any h1
def paC (num : Nat) (fill : UInt8) : List Value := [.int .i64 (num : Int), byt fill, .int .i64 0]
def pgB (num : Nat) (fill : UInt8) : List UInt8 := ((List.replicate 1024 fill).set 0 (UInt8.ofNat (num % 256))).set 511 (UInt8.ofNat ((num + 1) % 256))
theorem pgB_len (num : Nat) (fill : UInt8) : (pgB num fill).length = 1024 := by unfold pgB; rw [List.length_set, List.length_set, List.length_replicate]
theorem fld75 (q j : Nat) (hj : j < 3) (W : World) : (Instr.fieldAt 55 (.pointer (some ⟨q, 0, none⟩)) j).run Tryz.prog W = .ok (.pointer (some ⟨q, j, none⟩)) W := by
  have h : j = 0 ∨ j = 1 ∨ j = 2 := by omega
  rcases h with rfl | rfl | rfl <;> go_simp
theorem ldc5 {W : World} {q j : Nat} {cs : List Value} {t : TypeId} {u : UInt8} (hb : Blk W q cs t) (h : cs[j]? = some (byt u)) : (Instr.loadAt 5 (.pointer (some ⟨q, j, none⟩))).run Tryz.prog W = .ok (byt u) W := by
  have hc : W.cell? ⟨q, j, none⟩ = some (byt u) := (hb.cell j).trans h
  have hf := hb.frozen j
  unfold byt at *
  go_simp
theorem conv_lo (x : Nat) (h : x < 65536) (W : World) : (Go.convert 3 5 (.int .i64 (x : Int))).run Tryz.prog W = .ok (byt (UInt8.ofNat (x % 256))) W := by
  have e : IntKind.u8.wrap (x : Int) = ((x % 256 : Nat) : Int) := by rw [IntKind.wrap_u8]; omega
  have e2 : ((UInt8.ofNat (x % 256)).toNat : Int) = ((x % 256 : Nat) : Int) := by rw [UInt8.toNat_ofNat', Nat.mod_eq_of_lt (by omega)]
  unfold byt
  rw [e2]
  go_simp
theorem fill_set (t : Nat) (ht : t < 1024) (f : UInt8) : (List.replicate t f ++ List.replicate (1024 - t) (0 : UInt8)).set t f = List.replicate (t + 1) f ++ List.replicate (1024 - (t + 1)) 0 := by
  have e : 1024 - t = (1024 - (t + 1)) + 1 := by omega
  rw [e, List.replicate_succ, List.set_append_right _ _ (by rw [List.length_replicate]; exact Nat.le_refl _), List.length_replicate, Nat.sub_self, List.set_cons_zero, List.replicate_succ' (n := t), List.append_assoc]
  rfl
def byE (q : Nat) (u : Value) (t : Nat) : List (Nat × Value) := [(1, .pointer (some ⟨q, 0, none⟩)), (3, .int .i64 1024), (4, u), (5, .int .i64 (t : Int))]
structure ByR (w : World) (q num : Nat) (fill : UInt8) (u : Value) (t : Nat) (W : World) : Prop where
  o : Ob W (w.heap.size + 1) u (List.replicate t fill ++ List.replicate (1024 - t) 0)
  b : Blk W q (paC num fill) 55
  e : Below w.heap.size w W
  le : t ≤ 1024
set_option maxRecDepth 100000 in
set_option maxHeartbeats 1000000 in
theorem bytes_ok (num : Nat) (fill : UInt8) (hnum : num < 60000) (w : World) : Calls Tryz.prog 46 #[.agg (paC num fill).toArray] w fun e w' => ∃ u, e = .returned u ∧ Ob w' w.heap.size u (pgB num fill) ∧ Below w.heap.size w w' := by
  refine calls_of_args [.agg (paC num fill).toArray] Tryz.func46 rfl 34 Tryz.ntmps46 (by show 1 ≤ 34; decide) ?_; refine EW.seq ?_; refine EW.region ?_
  have r1 := run_boxR (P := Tryz.prog) 55 (paC num fill) w _ rfl
  have e1 := below_new w (.cells (paC num fill).toArray 55)
  have b1 := Blk.new w (paC num fill) 55
  obtain ⟨q, hq⟩ : ∃ q, w.heap.size = q := ⟨_, rfl⟩
  have z1 : (w.alloc (.cells (paC num fill).toArray 55)).heap.size = w.heap.size + 1 := by show (w.heap.push _).size = _; rw [Array.size_push]
  obtain ⟨w1, hw1⟩ : ∃ w1, w.alloc (.cells (paC num fill).toArray 55) = w1 := ⟨_, rfl⟩
  rw [hw1] at r1 e1 b1 z1
  rw [hq] at r1 b1
  refine WL.box rfl rfl rfl r1 ?_; refine WL.assign rfl rfl rfl ?_; refine WL.done ?_; refine EW.on ?_; refine EW.seq ?_; refine EW.region ?_; refine WL.field rfl rfl rfl (fld75 q 2 (by decide) _) ?_; refine WL.load rfl rfl rfl (ldc3 b1 rfl) ?_; refine WL.bin rfl rfl rfl rfl (rem8 0 (by decide) _ _ _) ?_; refine WL.bin rfl rfl rfl rfl (int_sub (c := 1024) (by decide) _ _ _) ?_; refine WL.assign rfl rfl rfl ?_; refine WL.done ?_; refine EW.on ?_; refine EW.seq ?_; refine EW.region ?_; refine WL.move rfl rfl rfl ?_
  have r2 := run_mk34 w1 1024 (by decide)
  have e2 := below_new w1 (.cells ((List.replicate 1024 (0 : UInt8)).map byt).toArray 5)
  have o2 := Ob.blk (bs := List.replicate 1024 (0 : UInt8)) (Blk.new w1 _ 5) (by rw [List.length_replicate]; decide)
  rw [List.length_replicate] at o2
  obtain ⟨w2, hw2⟩ : ∃ w2, w1.alloc (.cells ((List.replicate 1024 (0 : UInt8)).map byt).toArray 5) = w2 := ⟨_, rfl⟩
  rw [hw2] at r2 e2 o2
  obtain ⟨u, hu⟩ : ∃ u, Value.slice (some ⟨w1.heap.size, 0, none⟩) 1024 1024 = u := ⟨_, rfl⟩
  rw [hu] at r2 o2
  refine WL.mks rfl rfl rfl rfl r2 ?_; refine WL.assign rfl rfl rfl ?_; refine WL.done ?_; refine EW.on ?_; refine EW.seq ?_; refine EW.seq ?_; refine EW.region ?_; refine WL.assign rfl rfl rfl ?_; refine WL.done ?_; refine EW.on ?_; refine EW.block ?_; refine EW.loop (byE q u) (ByR w q num fill u) (fun t => 1024 - t) 0 [1, 3, 4, 5] rfl ⟨by rw [← z1]; exact o2, b1.on e2, e1.trans (e2.mono e1.size), Nat.zero_le _⟩ ?_
  rintro t wi ⟨oi, bi, ei, hle⟩
  show EW _ _ _ _ [(1, .pointer (some ⟨q, 0, none⟩)), (3, .int .i64 1024), (4, u), (5, .int .i64 (t : Int))] _
  refine EW.seq ?_; refine EW.seq ?_; refine EW.region ?_; refine WL.move rfl rfl rfl ?_; refine WL.move rfl rfl rfl ?_
  first | refine WL.bin rfl rfl rfl rfl (int_lt_t ‹_› _ _ _) ?_ | refine WL.bin rfl rfl rfl rfl (int_lt_f ‹_› _ _ _) ?_ | refine WL.bin rfl rfl rfl rfl (int_lt_d _ _ _ _ _) ?_
  refine WL.done ?_; refine EW.on ?_; refine EW.cond_d rfl (fun h14 => ?_) (fun h14 => ?_)
  · refine EW.skip ?_; refine EW.on ?_; refine EW.seq ?_; refine EW.block ?_
    have ht : t < 1024 := by omega
    have tn : IntKind.i64.wrap ((t : Int) + 1) = ((t + 1 : Nat) : Int) := by rw [IntKind.wrap_i64]; omega
    refine EW.region ?_; refine WL.move rfl rfl rfl ?_; refine WL.move rfl rfl rfl ?_; refine WL.field rfl rfl rfl (fld75 q 1 (by decide) _) ?_; refine WL.load rfl rfl rfl (ldc5 bi rfl) ?_
    obtain ⟨ad, w3, ix, s3, o3, x3⟩ := oi.setAt t (by rw [List.length_append, List.length_replicate, List.length_replicate]; omega) fill 49 (.inl rfl)
    rw [fill_set t ht] at o3
    refine WL.index rfl rfl rfl rfl (ix _) ?_; refine WL.store rfl rfl rfl s3 ?_; refine WL.done ?_; refine pn_block ?_; refine EW.on ?_; refine EW.region ?_; refine WL.move rfl rfl rfl ?_; refine WL.bin rfl rfl rfl rfl (int_add ‹_› _ _ _) ?_; refine WL.assign rfl rfl rfl ?_; refine WL.done ?_; refine EW.again (E := byE q u) (R := ByR w q num fill u) (m := fun t => 1024 - t) (x := t) (t + 1) [1, 3, 4, 5] rfl ⟨o3, bi.fx x3 (fun e => by have := oi.base _ e; omega), below_of_new ei x3 (fun k hk => by have := oi.base _ hk; omega), by omega⟩ (by show 1024 - (t + 1) < 1024 - t; omega)
  · refine EW.exit ?_; refine px_then ?_; refine px_then ?_; refine px_block ?_; refine EW.on ?_; refine EW.seq ?_
    have hte : t = 1024 := by omega
    refine EW.region ?_; refine WL.move rfl rfl rfl ?_; refine WL.field rfl rfl rfl (fld75 q 0 (by decide) _) ?_; refine WL.load rfl rfl rfl (ldc3 bi rfl) ?_; refine WL.conv rfl rfl rfl (conv_lo num (by omega) _) ?_
    obtain ⟨ad, w7, ix, s7, o7, x7⟩ := oi.setAt 0 (by rw [hte, List.length_append, List.length_replicate, List.length_replicate]; decide) (UInt8.ofNat (num % 256)) 49 (.inl rfl)
    have b7 := bi.fx x7 (fun e => by have := oi.base _ e; omega)
    refine WL.index rfl rfl rfl rfl (ix _) ?_; refine WL.store rfl rfl rfl s7 ?_; refine WL.done ?_; refine EW.on ?_; refine EW.seq ?_; refine EW.region ?_; refine WL.move rfl rfl rfl ?_; refine WL.field rfl rfl rfl (fld75 q 0 (by decide) _) ?_; refine WL.load rfl rfl rfl (ldc3 b7 rfl) ?_; refine WL.bin rfl rfl rfl rfl (int_add (c := ((num + 1 : Nat) : Int)) (by rw [IntKind.wrap_i64]; omega) _ _ _) ?_; refine WL.conv rfl rfl rfl (conv_lo (num + 1) (by omega) _) ?_
    obtain ⟨ad8, w8, ix8, s8, o8, x8⟩ := o7.setAt 511 (by rw [List.length_set, hte, List.length_append, List.length_replicate, List.length_replicate]; decide) (UInt8.ofNat ((num + 1) % 256)) 49 (.inl rfl)
    refine WL.index rfl rfl rfl rfl (ix8 _) ?_; refine WL.store rfl rfl rfl s8 ?_; refine WL.done ?_; refine EW.on ?_; refine EW.seq ?_; refine EW.region ?_; refine WL.move rfl rfl rfl ?_; refine WL.assign rfl rfl rfl ?_; refine WL.done ?_; refine EW.on ?_; refine EW.ret ?_
    exact EW.returns Tryz.results46 rfl ⟨u, rfl, (by
    rw [hte, Nat.sub_self, List.replicate_zero, List.append_nil] at o8
    exact o8.mono (Nat.le_succ _)), below_of_new (below_of_new ei x7 (fun k hk => by have := oi.base _ hk; omega)) x8 (fun k hk => by have := oi.base _ hk; omega)⟩
end Go.Proofs.YtmbgeojjklboeaaGreatDoor

set_option linter.unusedVariables false
set_option linter.unusedSimpArgs false
namespace Go.Proofs.YtmbgeojjklboeaaGreatDoor
open Go.RowKit

/-- One page more. -/
theorem Pws.push {w : World} {v : Value} {l : List Pw} (h : Pws w v l) (hl : l.length ≤ 1000) (x : Pw) (q c : Nat) (hq : Blk w q (pgC x) 98) (hx : x.ok w) (hsep : ∀ y ∈ l ++ [x], ∀ k, v.ownBlock = some k → y.v.ownBlock ≠ some k) (ty : TypeId) : ∃ v' w', (Builtin.append_ #[52, 52] ty #[v, .slice (some ⟨q, 0, none⟩) 1 c]).run Tryz.prog w = .ok v' w' ∧ Pws w' v' (l ++ [x]) ∧ Fx (fun k => v.ownBlock = some k) w w' ∧ (∀ k, v'.ownBlock = some k → v.ownBlock = some k ∨ w.heap.size ≤ k) := by
  obtain ⟨i, hi, hz⟩ := Option.map_eq_some_iff.1 info111f
  simp only [Prod.mk.injEq] at hz
  obtain ⟨v', w', r1, r2, r3, r4⟩ := run_appx w 52 ty 98 i _ 2 32 Tryz.underlying52 hi hz.1 hz.2.1 hz.2.2 rfl (by decide) v l.length (l.flatMap pgC) h.row ⟨q, 0, none⟩ 1 c (pgC x) rfl (fun j u hj => by rw [add_plain0, hq.cell]; exact hj) (fun u hu => pg_one (l := [x]) (w := w) (fun y hy => by rw [List.mem_singleton.1 hy]; exact hx) u (by simpa using hu)) (by omega) (by decide)
  have hf := grown_fx r3
  refine ⟨v', w', r1, ⟨by simpa using r2, fun y hy => ?_⟩, hf, r4⟩
  have hok : y.ok w := by
    rcases List.mem_append.1 hy with e | e
    · exact h.has y e
    · rw [List.mem_singleton.1 e]; exact hx
  exact ⟨hok.1.fx hf (fun k hk hv => hsep y hy k hv hk), hok.2⟩
theorem bsl72 (x : Pw) (hx : ∃ ao n c, x.v = .slice ao n c) (w : World) : (Instr.buildSlice 52 1 [(0, .agg (pgC x).toArray)].toArray).run Tryz.prog w = .ok (.slice (some ⟨w.heap.size, 0, none⟩) 1 1) (w.alloc (.cells (pgC x).toArray 98)) := by
  obtain ⟨ao, n, c, e⟩ := hx
  unfold pgC
  rw [e]
  go_simp
  try rfl
theorem bld111 (x : Pw) (hx : ∃ ao n c, x.v = .slice ao n c) (W : World) : (Instr.build 98 [(0, .int .i64 (x.n : Int)), (1, x.v)].toArray).run Tryz.prog W = .ok (.agg (pgC x).toArray) W := by
  obtain ⟨ao, n, c, e⟩ := hx
  unfold pgC
  rw [e]
  kernel_rfl
theorem mk72 (w : World) (c : Nat) (hc : c ≤ 1000) : ∃ v w', (Instr.makeSlice 52 (.int .i64 0) (.int .i64 (c : Int))).run Tryz.prog w = .ok v w' ∧ w'.ownsRow 0 98 2 v 0 [] ∧ Below w.heap.size w w' ∧ (∀ k, v.ownBlock = some k → w.heap.size ≤ k) := by
  obtain ⟨i, hi, hz⟩ := Option.map_eq_some_iff.1 info111f
  simp only [Prod.mk.injEq] at hz
  obtain ⟨hz0, hz1, hz2⟩ := hz
  have hrun := run_make (P := Tryz.prog) w 52 98 i _ Tryz.underlying52 hi hz0 .i64 .i64 0 c (by omega) (by omega) (by rw [hz2]; omega) (by omega)
  rw [hz1, Int.toNat_natCast] at hrun
  refine ⟨_, _, hrun, ⟨rfl, .inr ⟨w.heap.size, c, _, rfl, Nat.zero_le _, heap_alloc_new w _, Nat.zero_le _, by unfold maxLen; omega, by rw [size_madeCells], by simp⟩⟩, below_new _ _, fun k hk => ?_⟩
  simp [Value.ownBlock] at hk
  omega
theorem len76 (ao : Option Addr) (n c : Nat) (W : World) (ty : TypeId) : (Builtin.len_ #[30] ty #[.slice ao n c]).run Tryz.prog W = .ok (.int .i64 (n : Int)) W := by go_simp
theorem idx76 (g : Nat) (W : World) : (Instr.indexAt 30 (.slice (some ⟨g, 0, none⟩) 1 1) (.int .i64 ((0 : Nat) : Int))).run Tryz.prog W = .ok (.pointer (some ⟨g, 0, none⟩)) W := by
  have e : (⟨g, 0, none⟩ : Addr).add 0 = ⟨g, 0, none⟩ := add_plain0 g 0
  go_simp
theorem info75 (num : Nat) (fill : UInt8) : (Tryz.prog.info? 55).map (·.size) = some (paC num fill).length := by kernel_rfl
theorem ld75 {W : World} {g num : Nat} {fill : UInt8} (hb : Blk W g (paC num fill) 55) : (Instr.loadAt 55 (.pointer (some ⟨g, 0, none⟩))).run Tryz.prog W = .ok (.agg (paC num fill).toArray) W := run_loadR hb Tryz.underlying55 rfl (info75 num fill)
def liE (vs : Value) (x : Nat × Value) : List (Nat × Value) := [(0, vs), (1, .bool false), (5, x.2), (6, .int .i64 (x.1 : Int))]
def LiR (w : World) (num : Nat) (fill : UInt8) (x : Nat × Value) (W : World) : Prop := Below w.heap.size w W ∧ (∀ k, x.2.ownBlock = some k → w.heap.size ≤ k) ∧ ((x.1 = 0 ∧ W.ownsRow 0 98 2 x.2 0 []) ∨ (x.1 = 1 ∧ ∃ vb, Pws W x.2 [⟨num, vb, pgB num fill⟩] ∧ ∀ k, vb.ownBlock = some k → w.heap.size ≤ k ∧ k < W.heap.size))
set_option maxRecDepth 100000 in
set_option maxHeartbeats 1000000 in
theorem list_1 {w : World} {g num : Nat} {fill : UInt8} (hnum : num < 60000) (hb : Blk w g (paC num fill) 55) : Calls Tryz.prog 15 #[.slice (some ⟨g, 0, none⟩) 1 1, .bool false] w fun e w' => ∃ v vb, e = .returned v ∧ Pws w' v [⟨num, vb, pgB num fill⟩] ∧ Below w.heap.size w w' ∧ (∀ k, vb.ownBlock = some k → w.heap.size ≤ k ∧ k < w'.heap.size) := by
  refine calls_of_args [.slice (some ⟨g, 0, none⟩) 1 1, .bool false] Tryz.func15 rfl 47 Tryz.ntmps15 (by show 2 ≤ 47; decide) ?_; refine EW.seq ?_; refine EW.region ?_; refine WL.assign rfl rfl rfl ?_; refine WL.done ?_; refine EW.on ?_; refine EW.seq ?_; refine EW.region ?_; refine WL.move rfl rfl rfl ?_; refine WL.len rfl rfl rfl (len76 _ _ _ _ _) ?_; refine WL.bin rfl rfl rfl rfl (int_add (c := ((2 : Nat) : Int)) (by decide) _ _ _) ?_
  obtain ⟨v0, w1, r1, o1, e1, f1⟩ := mk72 w 2 (by decide)
  refine WL.mks rfl rfl rfl rfl r1 ?_; refine WL.assign rfl rfl rfl ?_; refine WL.done ?_; refine EW.on ?_; refine EW.seq ?_; refine EW.seq ?_; refine EW.region ?_; refine WL.assign rfl rfl rfl ?_; refine WL.done ?_; refine EW.on ?_; refine EW.block ?_; refine EW.loop (liE (.slice (some ⟨g, 0, none⟩) 1 1)) (LiR w num fill) (fun x => 1 - x.1) (0, v0) [0, 1, 5, 6] rfl ⟨e1, f1, .inl ⟨rfl, o1⟩⟩ ?_
  rintro ⟨t, v⟩ wi ⟨ei, fi, hcs⟩
  simp only at fi hcs
  show EW _ _ _ _ [(0, .slice (some ⟨g, 0, none⟩) 1 1), (1, .bool false), (5, v), (6, .int .i64 (t : Int))] _
  refine EW.seq ?_; refine EW.seq ?_
  rcases hcs with ⟨h0, hown⟩ | ⟨h1, vb, pw, hvb⟩
  all_goals subst_vars
  · refine EW.region ?_; refine WL.move rfl rfl rfl ?_; refine WL.move rfl rfl rfl ?_; refine WL.len rfl rfl rfl (len76 _ _ _ _ _) ?_; refine WL.bin rfl rfl rfl rfl (int_lt_t (by decide) _ _ _) ?_; refine WL.move rfl rfl rfl ?_
    first | refine WL.move rfl rfl rfl ?_ | refine WL.skip _ rfl rfl rfl ?_
    first | refine WL.bin rfl rfl rfl rfl (int_lt_t (by decide) _ _ _) ?_ | refine WL.skip _ rfl rfl rfl ?_
    refine WL.pick rfl rfl rfl rfl ?_; refine WL.done ?_; refine EW.on ?_; refine EW.cond_t rfl ?_; refine EW.skip ?_; refine EW.on ?_; refine EW.seq ?_; refine EW.block ?_; refine EW.seq ?_; refine EW.region ?_; refine WL.move rfl rfl rfl ?_; refine WL.move rfl rfl rfl ?_; refine WL.index rfl rfl rfl rfl (idx76 g _) ?_; refine WL.load rfl rfl rfl (ld75 (hb.on ei)) ?_; refine WL.call [.agg (paC num fill).toArray] enter46 rfl rfl rfl (bytes_ok num fill hnum wi) ?_
    rintro _ w2 ⟨u, rfl, o2, e2⟩
    have e02 := ei.trans (e2.mono ei.size)
    refine ⟨_, rfl, ?_⟩; refine WL.assign rfl rfl rfl ?_; refine WL.done ?_; refine EW.on ?_; refine EW.seq ?_; refine EW.region ?_; refine WL.move rfl rfl rfl ?_; refine WL.len rfl rfl rfl (o2.has.len _ _) ?_; refine WL.assign rfl rfl rfl ?_; refine WL.done ?_
    have hx2 : Pw.ok w2 ⟨num, cutV u 0 (pgB num fill).length, pgB num fill⟩ := ⟨by have := o2.has.cut 0 (pgB num fill).length (Nat.zero_le _) (Nat.le_refl _); simpa using this, pgB_len num fill⟩
    refine EW.on ?_; refine EW.seq ?_; refine EW.seq ?_; refine EW.region ?_; refine WL.move rfl rfl rfl ?_; refine WL.done ?_; refine EW.on ?_; refine EW.cond_f rfl ?_; refine EW.skip ?_; refine EW.on ?_; refine EW.ordB [(0, 0, 0), (1, 0, 0), (2, 0, 0), (3, 0, 0), (4, 0, 0), (5, 0, 1), (6, 0, 0), (7, 0, 0), (8, 0, 0), (9, 0, 0), (10, 1, 1), (11, 1, 0), (12, 0, 0)] (by kernel_rfl) rfl (by kernel_rfl) ?_; simp only [opsZ, List.getD_cons_zero, List.getD_cons_succ]; refine ZE.move rfl rfl rfl rfl sz0 ?_; refine ZE.move rfl rfl rfl rfl sz0 ?_; refine ZE.move rfl rfl rfl rfl sz0 ?_; refine ZE.index rfl rfl rfl rfl rfl sz0 (fun W => idx76 g W) ?_; refine ZE.field rfl rfl rfl rfl sz0 (fun W => fld75 g 0 (by decide) W) ?_; refine ZE.load rfl rfl rfl rfl sz1 (fun W hW => ldc3 ((hb.on e02).on (sb_of hW)) rfl) ?_; refine ZE.move rfl rfl rfl rfl sz0 ?_; refine ZE.move rfl rfl rfl rfl sz0 ?_; refine ZE.sliceH rfl rfl rfl rfl rfl sz0 (fun W => by rw [sl37]; exact o2.has.cutH _ (Nat.le_refl _) W) ?_; refine ZE.buildN [(0, .int .i64 (num : Int)), (1, cutV u 0 (pgB num fill).length)] rfl rfl rfl rfl sz0 (fun W => bld111 ⟨num, cutV u 0 (pgB num fill).length, pgB num fill⟩ (has_shape hx2.1) W) ?_; refine ZE.bsl [(0, .agg (pgC ⟨num, cutV u 0 (pgB num fill).length, pgB num fill⟩).toArray)] (fun v W => (∃ q, v = .slice (some ⟨q, 0, none⟩) 1 1 ∧ w2.heap.size ≤ q ∧ Blk W q (pgC ⟨num, cutV u 0 (pgB num fill).length, pgB num fill⟩) 98) ∧ Below w2.heap.size w2 W) rfl rfl rfl (fun _ _ h => .inr h.2) (fun W hW => ⟨_, _, bsl72 _ (has_shape hx2.1) W, ⟨_, rfl, hW.size, Blk.new _ _ _⟩, hW.trans ((below_new W _).mono hW.size)⟩) ?_
    rintro _ ⟨_, ⟨qs, rfl, _, _⟩, _⟩
    refine ZE.app (fun v W => (Pws W v [⟨num, cutV u 0 (pgB num fill).length, pgB num fill⟩] ∧ ∀ k, v.ownBlock = some k → w.heap.size ≤ k) ∧ Below w.heap.size w W ∧ w2.heap.size ≤ W.heap.size) rfl rfl rfl rfl (fun _ _ h => .inl rfl) (fun W hW => by
      obtain ⟨⟨q', hv', hq', bq'⟩, eW⟩ := hW
      injection hv' with hv1 _ _
      injection hv1 with hv2
      injection hv2 with hv3 _ _
      subst hv3
      obtain ⟨v', w', r1, r2, r3, r4⟩ := Pws.push (v := v) (l := []) ⟨ownsRow_fx (ownsRow_fx hown (Fx.of_below (S := fun _ => False) e2) (fun _ _ h => h)) (Fx.of_below (S := fun _ => False) eW) (fun _ _ h => h), fun y hy => by cases hy⟩ (by decide) ⟨num, cutV u 0 (pgB num fill).length, pgB num fill⟩ qs 1 bq' ⟨hx2.1.below eW, hx2.2⟩ (fun y hy k hk e => by
        rw [List.nil_append, List.mem_singleton] at hy
        rw [hy] at e
        have := o2.base k (cut_own e)
        have := ownsRow_lt hown k hk
        omega) 52
      exact ⟨v', w', r1, ⟨r2, fun k hk => (r4 k hk).elim (fun e => fi k e) (fun e => Nat.le_trans e02.size (Nat.le_trans eW.size e))⟩, below_of_new (e02.trans (eW.mono e02.size)) r3 (fun k hk => fi k hk), Nat.le_trans eW.size r3.size⟩) ?_
    rintro vr ⟨_, _, _⟩
    refine ZE.assign rfl rfl rfl rfl sz0 ?_
    rintro w9 ⟨p9, e9⟩
    refine pn_block ?_; refine EW.on ?_; refine EW.region ?_; refine WL.move rfl rfl rfl ?_; refine WL.bin rfl rfl rfl rfl (int_add (c := ((1 : Nat) : Int)) (by decide) _ _ _) ?_; refine WL.assign rfl rfl rfl ?_; refine WL.done ?_
    refine EW.again (E := liE (.slice (some ⟨g, 0, none⟩) 1 1)) (R := LiR w num fill) (m := fun x => 1 - x.1) (x := (0, v)) (1, vr) [0, 1, 5, 6] rfl ⟨e9.1, p9.2, .inr ⟨rfl, _, p9.1, fun k hk => by
        have h1 := o2.base k (cut_own hk)
        have h2 := (o2.lt (cut_own hk)).1
        exact ⟨Nat.le_trans ei.size h1, Nat.lt_of_lt_of_le h2 e9.2⟩⟩⟩ (by show 1 - 1 < 1 - 0; decide)
  · refine EW.region ?_; refine WL.move rfl rfl rfl ?_; refine WL.move rfl rfl rfl ?_; refine WL.len rfl rfl rfl (len76 _ _ _ _ _) ?_; refine WL.bin rfl rfl rfl rfl (int_lt_f (by decide) _ _ _) ?_; refine WL.move rfl rfl rfl ?_
    first | refine WL.move rfl rfl rfl ?_ | refine WL.skip _ rfl rfl rfl ?_
    first | refine WL.bin rfl rfl rfl rfl (int_lt_t (by decide) _ _ _) ?_ | refine WL.skip _ rfl rfl rfl ?_
    refine WL.pick rfl rfl rfl rfl ?_; refine WL.done ?_; refine EW.on ?_; refine EW.cond_f rfl ?_; refine EW.exit ?_; refine px_then ?_; refine px_then ?_; refine px_block ?_; refine EW.on ?_; refine EW.seq ?_; refine EW.region ?_; refine WL.move rfl rfl rfl ?_; refine WL.assign rfl rfl rfl ?_; refine WL.done ?_; refine EW.on ?_; refine EW.ret ?_
    exact EW.returns Tryz.results15 rfl ⟨v, vb, rfl, pw, ei, hvb⟩
end Go.Proofs.YtmbgeojjklboeaaGreatDoor
