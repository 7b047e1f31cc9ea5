import Derived.Test.YtoceepmehmacbaaDoorKWideG
import Derived.Test.YtoceepmehmacbaaDoorKRegG
import Derived.Deep.DeepCutAuto
set_option linter.unusedVariables false
set_option linter.unusedSimpArgs false
namespace Go.Proofs.YtoceepmehmacbaaDoor.Cv
open Go.RowKit

def addE (x y : L5) : L5 := carr ⟨x.a + y.a, x.b + y.b, x.c + y.c, x.d + y.d, x.e + y.e⟩
def kA : BitVec 64 := 4503599627370458#64
def kB : BitVec 64 := 4503599627370494#64
def subE (x y : L5) : L5 := carr ⟨x.a + kA - y.a, x.b + kB - y.b, x.c + kB - y.c, x.d + kB - y.d, x.e + kB - y.e⟩
theorem waddA (x : BitVec 64) : IntKind.u64.wrap (wn x + (4503599627370458 : Int)) = wn (x + kA) := wadd x kA
theorem waddB (x : BitVec 64) : IntKind.u64.wrap (wn x + (4503599627370494 : Int)) = wn (x + kB) := wadd x kB

def z5 : List Value := [.int .u64 0, .int .u64 0, .int .u64 0, .int .u64 0, .int .u64 0]
theorem zero27 (w : World) : (zeroValue 71).run Tryd.prog w = .ok (.agg z5.toArray) w := by rw [Tryd.zeroValue71]; rfl
theorem zero25 (w : World) : (zeroValue 69).run Tryd.prog w = .ok (.agg z5.toArray) w := by rw [Tryd.zeroValue69]; rfl

theorem cs_one (X : L5) : X.cs.toArray.all (·.oneCell') = true := by simp [L5.cs, Value.oneCell']
theorem cs_len (X : L5) : z5.length = X.cs.length := rfl
theorem cs_size (X : L5) : z5.toArray.size = X.cs.toArray.size := rfl
theorem cs_sz (X Y : L5) : X.cs.toArray.size = Y.cs.toArray.size := rfl
theorem cs_info (X : L5) : (Tryd.prog.info? 71).map (·.size) = some X.cs.length := by kernel_rfl
theorem cs_infoA (X : L5) : (Tryd.prog.info? 71).map (·.size) = some X.cs.toArray.size := by kernel_rfl
theorem cs_info25 (X : L5) : (Tryd.prog.info? 69).map (·.size) = some X.cs.length := by kernel_rfl
/-- The limbs' copies lie in blocks of their own. -/
structure Two (n : Nat) (w w' : World) (p q : Nat) (xs ys : List Value) : Prop where
  re : Blk w' (n + 1 + 1) z5 71
  bp : Blk w' p xs 69
  bq : Blk w' q ys 69
  be : Below n w w'
  np : n + 1 + 1 < p
  nq : n + 1 + 1 < q

set_option maxRecDepth 100000 in
set_option maxHeartbeats 4000000 in
theorem add_any (x y : L5) (w : World) :
    Calls Tryd.prog 52 #[x.v, y.v] w fun e w' => e = .returned (addE x y).v ∧ Below w.heap.size w w' := by
  obtain ⟨xa, xb, xc, xd, xe⟩ := x
  obtain ⟨ya, yb, yc, yd, ye⟩ := y
  obtain ⟨X, hX⟩ : ∃ X : L5, X = ⟨xa, xb, xc, xd, xe⟩ := ⟨_, rfl⟩
  obtain ⟨Y, hY⟩ : ∃ Y : L5, Y = ⟨ya, yb, yc, yd, ye⟩ := ⟨_, rfl⟩
  rw [← hX, ← hY]
  go_enter Tryd.func52, Tryd.ntmps52
  go_upto_region 1 with (first | (refine wpList_boxAt rfl 71 (.tmp 0) rfl X.cs rfl w.heap.size rfl ?_) | (refine wpList_boxAt rfl 71 (.tmp 1) rfl Y.cs rfl (w.heap.size + 1) (by simp) ?_) | (refine wpList_newAt rfl 71 rfl z5 zero27 (w.heap.size + 1 + 1) (by simp) ?_))
  have b1 : Blk (((w.alloc (.cells X.cs.toArray 71)).alloc (.cells Y.cs.toArray 71)).alloc (.cells z5.toArray 71)) w.heap.size X.cs 71 := ((Blk.new _ _ _).alloc _).alloc _
  have b2 : Blk (((w.alloc (.cells X.cs.toArray 71)).alloc (.cells Y.cs.toArray 71)).alloc (.cells z5.toArray 71)) (w.heap.size + 1) Y.cs 71 := by
    have := (Blk.new (w.alloc (.cells X.cs.toArray 71)) Y.cs 71).alloc (.cells z5.toArray 71)
    simpa using this
  have b3 : Blk (((w.alloc (.cells X.cs.toArray 71)).alloc (.cells Y.cs.toArray 71)).alloc (.cells z5.toArray 71)) (w.heap.size + 1 + 1) z5 71 := by
    have := Blk.new ((w.alloc (.cells X.cs.toArray 71)).alloc (.cells Y.cs.toArray 71)) z5 71
    simpa using this
  have be : Below w.heap.size w (((w.alloc (.cells X.cs.toArray 71)).alloc (.cells Y.cs.toArray 71)).alloc (.cells z5.toArray 71)) := by go_grown
  have hs : (((w.alloc (.cells X.cs.toArray 71)).alloc (.cells Y.cs.toArray 71)).alloc (.cells z5.toArray 71)).heap.size = w.heap.size + 1 + 1 + 1 := by simp
  generalize ((w.alloc (.cells X.cs.toArray 71)).alloc (.cells Y.cs.toArray 71)).alloc (.cells z5.toArray 71) = w1 at b1 b2 b3 be hs ⊢
  simp only [Act.put, List.setIfInBounds_toArray, List.set_cons_zero, List.set_cons_succ]
  obtain ⟨n, hn⟩ : ∃ n, w.heap.size = n := ⟨_, rfl⟩
  rw [hn] at b1 b2 b3 be hs ⊢
  go_cut [5, 6] (fun u5 u6 w2 => ∃ p q, u5 = .pointer (some ⟨p, 0, none⟩) ∧ u6 = .pointer (some ⟨q, 0, none⟩) ∧ Two n w w2 p q X.cs Y.cs)
  · have rx : ∀ W, Below w1.heap.size w1 W → W.rangeAt n 0 X.cs := fun W hW j v hv => by
      rw [(b1.on hW).cell, Nat.zero_add]; exact hv
    have ry : ∀ W, Below w1.heap.size w1 W → W.rangeAt (n + 1) 0 Y.cs := fun W hW j v hv => by
      rw [(b2.on hW).cell, Nat.zero_add]; exact hv
    have H0 : Below w1.heap.size w1 { w1 with drawn := w1.drawn + 1 } := (Below.refl _ _).drew
    have Z : ∀ W, Below w1.heap.size w1 W → ∀ p q, Blk W p X.cs 69 → Blk W q Y.cs 69 → w1.heap.size ≤ p → w1.heap.size ≤ q → Two n w W p q X.cs Y.cs := fun W hW p q hp hq lp lq =>
      ⟨b3.on hW, hp, hq, be.trans (hW.mono (by omega)), by omega, by omega⟩
    refine wp_region_noPanic ?_; refine wp_region_held (S := fun W => Below w1.heap.size w1 W) (by kernel_rfl) ?_; refine takeH (i := 0) rfl (.fieldAddr 71 (.tmp 2) 0) rfl 7 rfl (v := .pointer (some ⟨n, 0, none⟩)) (by kernel_rfl) (by kernel_rfl) (by kernel_rfl) (fun _ _ _ h => h) (by rfl) (fun o' ho W hW => by clear hW; go_simp) H0 ?_
    simp only [Act.put, List.setIfInBounds_toArray, List.set_cons_zero, List.set_cons_succ]
    refine takeH_load (i := 1) rfl 8 rfl 69 (.tmp 7) rfl (by kernel_rfl) (by kernel_rfl) (by kernel_rfl) (fun _ _ _ h => h) (by rfl) n 0 rfl X.cs rfl rx Tryd.underlying69 rfl (cs_info25 _) H0 ?_
    simp only [Act.put, List.setIfInBounds_toArray, List.set_cons_zero, List.set_cons_succ]
    refine takeH (i := 2) rfl (.fieldAddr 71 (.tmp 3) 0) rfl 9 rfl (v := .pointer (some ⟨n + 1, 0, none⟩)) (by kernel_rfl) (by kernel_rfl) (by kernel_rfl) (fun _ _ _ h => h) (by rfl) (fun o' ho W hW => by clear hW; go_simp) H0 ?_
    simp only [Act.put, List.setIfInBounds_toArray, List.set_cons_zero, List.set_cons_succ]
    refine takeH_load (i := 3) rfl 10 rfl 69 (.tmp 9) rfl (by kernel_rfl) (by kernel_rfl) (by kernel_rfl) (fun _ _ _ h => h) (by rfl) (n + 1) 0 rfl Y.cs rfl ry Tryd.underlying69 rfl (cs_info25 _) H0 ?_
    simp only [Act.put, List.setIfInBounds_toArray, List.set_cons_zero, List.set_cons_succ]
    generalize ({ w1 with drawn := w1.drawn + 1 } : World) = w2 at H0 ⊢
    have hz := H0.size
    have H3 : Below w1.heap.size w1 (w2.alloc (.cells z5.toArray 69)) := H0.alloc hz _
    have H4 : Below w1.heap.size w1 ((w2.alloc (.cells z5.toArray 69)).alloc (.cells z5.toArray 69)) := H3.alloc (by simp; omega) _
    have c1 : Blk ((w2.alloc (.cells z5.toArray 69)).alloc (.cells z5.toArray 69)) w2.heap.size z5 69 := (Blk.new _ _ _).alloc _
    have c2 : Blk ((w2.alloc (.cells z5.toArray 69)).alloc (.cells z5.toArray 69)) (w2.heap.size + 1) z5 69 := by
      have := Blk.new (w2.alloc (.cells z5.toArray 69)) z5 69
      simpa using this
    refine eitherH (i := 4) (j := 5) (by kernel_rfl) ?_ ?_
    · refine opG_run rfl (by rfl) (.alloc 69) rfl 5 rfl _ _ (fun o' ho => run_new 69 ho z5 zero25 w2) ?_; refine ⟨H3, ?_⟩
      simp only [Act.put, List.setIfInBounds_toArray, List.set_cons_zero, List.set_cons_succ]
      refine onlyH (i := 5) (by kernel_rfl) ?_; refine opG_run rfl (by rfl) (.alloc 69) rfl 6 rfl _ _ (fun o' ho => run_new 69 ho z5 zero25 _) ?_; refine ⟨H4, ?_⟩
      simp only [Act.put, List.setIfInBounds_toArray, List.set_cons_zero, List.set_cons_succ]
      generalize (w2.alloc (.cells z5.toArray 69)).alloc (.cells z5.toArray 69) = w4 at H4 c1 c2 ⊢
      rw [show (w2.alloc (.cells z5.toArray 69)).heap.size = w2.heap.size + 1 by simp]
      refine onlyH (i := 6) (by kernel_rfl) ?_; refine op_row rfl (by rfl) rfl 69 (.tmp 5) (.tmp 8) rfl w2.heap.size X.cs z5 69 rfl rfl c1 (cs_info25 X) (cs_len X) (cs_one X) ?_; refine ⟨below_setRow H4 _ _ hz, ?_⟩; refine onlyH (i := 7) (by kernel_rfl) ?_; refine op_row rfl (by rfl) rfl 69 (.tmp 6) (.tmp 10) rfl (w2.heap.size + 1) Y.cs z5 69 rfl rfl (c2.setRowOther _ _ (by omega)) (cs_info25 Y) (cs_len Y) (cs_one Y) ?_; refine ⟨below_setRow (below_setRow H4 _ _ hz) _ _ (by omega), ?_⟩; refine wpAnyH_done (by kernel_rfl) ?_ _
      have T := Z _ (below_setRow (below_setRow H4 _ X.cs.toArray hz) _ Y.cs.toArray (by omega)) w2.heap.size (w2.heap.size + 1) ((c1.setRow _).setRowOther _ _ (by omega)) ((c2.setRowOther _ _ (by omega)).setRow _) hz (by omega)
      refine NoPanic.normal ?_
      go_wp2
      go_meet
      exact ⟨_, _, rfl, rfl, T⟩
    · refine opG_run rfl (by rfl) (.alloc 69) rfl 6 rfl _ _ (fun o' ho => run_new 69 ho z5 zero25 w2) ?_; refine ⟨H3, ?_⟩
      simp only [Act.put, List.setIfInBounds_toArray, List.set_cons_zero, List.set_cons_succ]
      refine onlyH (i := 4) (by kernel_rfl) ?_; refine opG_run rfl (by rfl) (.alloc 69) rfl 5 rfl _ _ (fun o' ho => run_new 69 ho z5 zero25 _) ?_; refine ⟨H4, ?_⟩
      simp only [Act.put, List.setIfInBounds_toArray, List.set_cons_zero, List.set_cons_succ]
      generalize (w2.alloc (.cells z5.toArray 69)).alloc (.cells z5.toArray 69) = w4 at H4 c1 c2 ⊢
      rw [show (w2.alloc (.cells z5.toArray 69)).heap.size = w2.heap.size + 1 by simp]
      refine onlyH (i := 6) (by kernel_rfl) ?_; refine op_row rfl (by rfl) rfl 69 (.tmp 5) (.tmp 8) rfl (w2.heap.size + 1) X.cs z5 69 rfl rfl c2 (cs_info25 X) (cs_len X) (cs_one X) ?_; refine ⟨below_setRow H4 _ _ (by omega), ?_⟩; refine onlyH (i := 7) (by kernel_rfl) ?_; refine op_row rfl (by rfl) rfl 69 (.tmp 6) (.tmp 10) rfl w2.heap.size Y.cs z5 69 rfl rfl (c1.setRowOther _ _ (by omega)) (cs_info25 Y) (cs_len Y) (cs_one Y) ?_; refine ⟨below_setRow (below_setRow H4 _ _ (by omega)) _ _ hz, ?_⟩; refine wpAnyH_done (by kernel_rfl) ?_ _
      have T := Z _ (below_setRow (below_setRow H4 _ X.cs.toArray (by omega)) _ Y.cs.toArray hz) (w2.heap.size + 1) w2.heap.size ((c2.setRow _).setRowOther _ _ (by omega)) ((c1.setRowOther _ _ (by omega)).setRow _) (by omega) hz
      refine NoPanic.normal ?_
      go_wp2
      go_meet
      exact ⟨_, _, rfl, rfl, T⟩
  · obtain ⟨p, q, rfl, rfl, T⟩ := hcut
    subst hX hY
    have p0 : wc.cell? ⟨p, 0, none⟩ = some (.int .u64 (wn xa)) := T.bp.cell 0
    have p1 : wc.cell? ⟨p, 1, none⟩ = some (.int .u64 (wn xb)) := T.bp.cell 1
    have p2 : wc.cell? ⟨p, 2, none⟩ = some (.int .u64 (wn xc)) := T.bp.cell 2
    have p3 : wc.cell? ⟨p, 3, none⟩ = some (.int .u64 (wn xd)) := T.bp.cell 3
    have p4 : wc.cell? ⟨p, 4, none⟩ = some (.int .u64 (wn xe)) := T.bp.cell 4
    have q0 : wc.cell? ⟨q, 0, none⟩ = some (.int .u64 (wn ya)) := T.bq.cell 0
    have q1 : wc.cell? ⟨q, 1, none⟩ = some (.int .u64 (wn yb)) := T.bq.cell 1
    have q2 : wc.cell? ⟨q, 2, none⟩ = some (.int .u64 (wn yc)) := T.bq.cell 2
    have q3 : wc.cell? ⟨q, 3, none⟩ = some (.int .u64 (wn yd)) := T.bq.cell 3
    have q4 : wc.cell? ⟨q, 4, none⟩ = some (.int .u64 (wn ye)) := T.bq.cell 4
    have RE := hide T.re
    have BE := hide T.be
    clear T b1 b2 b3 be hs w1
    have h3 := wadd
    skip
    obtain ⟨Z, hZ⟩ : ∃ Z : L5, carr ⟨xa + ya, xb + yb, xc + yc, xd + yd, xe + ye⟩ = Z := ⟨_, rfl⟩
    have HZ := hide hZ
    go_wp2_with (first | (go_at_call 56; refine (carried_any ⟨xa + ya, xb + yb, xc + yc, xd + yd, xe + ye⟩ _).mono ?_; rintro e w3 ⟨rfl, hb⟩; rw [hZ]; clear hZ; have B3 := hide hb; clear hb) | (refine wpList_store_row rfl 71 (.tmp 4) (.tmp 37) rfl (n + 1 + 1) Z.cs.toArray rfl rfl 71 z5.toArray (RE.out.on B3.out) (cs_infoA Z) (cs_size Z) (cs_one Z) ?_))
    refine bodyPost_ret (results_cell_row Tryd.results52 _ _ (n + 1 + 1) 71 Z.cs.toArray (0, 0) _ rfl ((RE.out.on B3.out).setRow _) Tryd.underlying71 rfl (cs_infoA Z)) rfl ?_
    exact ⟨by rw [← HZ.out]; rfl, by rw [hn]; exact below_setRow (BE.out.trans (B3.out.mono (by have := BE.out.size; omega))) _ _ (by omega)⟩

set_option maxRecDepth 100000 in
set_option maxHeartbeats 4000000 in
theorem sub_any (x y : L5) (w : World) :
    Calls Tryd.prog 53 #[x.v, y.v] w fun e w' => e = .returned (subE x y).v ∧ Below w.heap.size w w' := by
  obtain ⟨xa, xb, xc, xd, xe⟩ := x
  obtain ⟨ya, yb, yc, yd, ye⟩ := y
  obtain ⟨X, hX⟩ : ∃ X : L5, X = ⟨xa, xb, xc, xd, xe⟩ := ⟨_, rfl⟩
  obtain ⟨Y, hY⟩ : ∃ Y : L5, Y = ⟨ya, yb, yc, yd, ye⟩ := ⟨_, rfl⟩
  rw [← hX, ← hY]
  go_enter Tryd.func53, Tryd.ntmps53
  go_upto_region 1 with (first | (refine wpList_boxAt rfl 71 (.tmp 0) rfl X.cs rfl w.heap.size rfl ?_) | (refine wpList_boxAt rfl 71 (.tmp 1) rfl Y.cs rfl (w.heap.size + 1) (by simp) ?_) | (refine wpList_newAt rfl 71 rfl z5 zero27 (w.heap.size + 1 + 1) (by simp) ?_))
  have b1 : Blk (((w.alloc (.cells X.cs.toArray 71)).alloc (.cells Y.cs.toArray 71)).alloc (.cells z5.toArray 71)) w.heap.size X.cs 71 := ((Blk.new _ _ _).alloc _).alloc _
  have b2 : Blk (((w.alloc (.cells X.cs.toArray 71)).alloc (.cells Y.cs.toArray 71)).alloc (.cells z5.toArray 71)) (w.heap.size + 1) Y.cs 71 := by
    have := (Blk.new (w.alloc (.cells X.cs.toArray 71)) Y.cs 71).alloc (.cells z5.toArray 71)
    simpa using this
  have b3 : Blk (((w.alloc (.cells X.cs.toArray 71)).alloc (.cells Y.cs.toArray 71)).alloc (.cells z5.toArray 71)) (w.heap.size + 1 + 1) z5 71 := by
    have := Blk.new ((w.alloc (.cells X.cs.toArray 71)).alloc (.cells Y.cs.toArray 71)) z5 71
    simpa using this
  have be : Below w.heap.size w (((w.alloc (.cells X.cs.toArray 71)).alloc (.cells Y.cs.toArray 71)).alloc (.cells z5.toArray 71)) := by go_grown
  have hs : (((w.alloc (.cells X.cs.toArray 71)).alloc (.cells Y.cs.toArray 71)).alloc (.cells z5.toArray 71)).heap.size = w.heap.size + 1 + 1 + 1 := by simp
  generalize ((w.alloc (.cells X.cs.toArray 71)).alloc (.cells Y.cs.toArray 71)).alloc (.cells z5.toArray 71) = w1 at b1 b2 b3 be hs ⊢
  simp only [Act.put, List.setIfInBounds_toArray, List.set_cons_zero, List.set_cons_succ]
  obtain ⟨n, hn⟩ : ∃ n, w.heap.size = n := ⟨_, rfl⟩
  rw [hn] at b1 b2 b3 be hs ⊢
  go_cut [5, 6] (fun u5 u6 w2 => ∃ p q, u5 = .pointer (some ⟨p, 0, none⟩) ∧ u6 = .pointer (some ⟨q, 0, none⟩) ∧ Two n w w2 p q X.cs Y.cs)
  · have rx : ∀ W, Below w1.heap.size w1 W → W.rangeAt n 0 X.cs := fun W hW j v hv => by
      rw [(b1.on hW).cell, Nat.zero_add]; exact hv
    have ry : ∀ W, Below w1.heap.size w1 W → W.rangeAt (n + 1) 0 Y.cs := fun W hW j v hv => by
      rw [(b2.on hW).cell, Nat.zero_add]; exact hv
    have H0 : Below w1.heap.size w1 { w1 with drawn := w1.drawn + 1 } := (Below.refl _ _).drew
    have Z : ∀ W, Below w1.heap.size w1 W → ∀ p q, Blk W p X.cs 69 → Blk W q Y.cs 69 → w1.heap.size ≤ p → w1.heap.size ≤ q → Two n w W p q X.cs Y.cs := fun W hW p q hp hq lp lq =>
      ⟨b3.on hW, hp, hq, be.trans (hW.mono (by omega)), by omega, by omega⟩
    refine wp_region_noPanic ?_; refine wp_region_held (S := fun W => Below w1.heap.size w1 W) (by kernel_rfl) ?_; refine takeH (i := 0) rfl (.fieldAddr 71 (.tmp 2) 0) rfl 7 rfl (v := .pointer (some ⟨n, 0, none⟩)) (by kernel_rfl) (by kernel_rfl) (by kernel_rfl) (fun _ _ _ h => h) (by rfl) (fun o' ho W hW => by clear hW; go_simp) H0 ?_
    simp only [Act.put, List.setIfInBounds_toArray, List.set_cons_zero, List.set_cons_succ]
    refine takeH_load (i := 1) rfl 8 rfl 69 (.tmp 7) rfl (by kernel_rfl) (by kernel_rfl) (by kernel_rfl) (fun _ _ _ h => h) (by rfl) n 0 rfl X.cs rfl rx Tryd.underlying69 rfl (cs_info25 _) H0 ?_
    simp only [Act.put, List.setIfInBounds_toArray, List.set_cons_zero, List.set_cons_succ]
    refine takeH (i := 2) rfl (.fieldAddr 71 (.tmp 3) 0) rfl 9 rfl (v := .pointer (some ⟨n + 1, 0, none⟩)) (by kernel_rfl) (by kernel_rfl) (by kernel_rfl) (fun _ _ _ h => h) (by rfl) (fun o' ho W hW => by clear hW; go_simp) H0 ?_
    simp only [Act.put, List.setIfInBounds_toArray, List.set_cons_zero, List.set_cons_succ]
    refine takeH_load (i := 3) rfl 10 rfl 69 (.tmp 9) rfl (by kernel_rfl) (by kernel_rfl) (by kernel_rfl) (fun _ _ _ h => h) (by rfl) (n + 1) 0 rfl Y.cs rfl ry Tryd.underlying69 rfl (cs_info25 _) H0 ?_
    simp only [Act.put, List.setIfInBounds_toArray, List.set_cons_zero, List.set_cons_succ]
    generalize ({ w1 with drawn := w1.drawn + 1 } : World) = w2 at H0 ⊢
    have hz := H0.size
    have H3 : Below w1.heap.size w1 (w2.alloc (.cells z5.toArray 69)) := H0.alloc hz _
    have H4 : Below w1.heap.size w1 ((w2.alloc (.cells z5.toArray 69)).alloc (.cells z5.toArray 69)) := H3.alloc (by simp; omega) _
    have c1 : Blk ((w2.alloc (.cells z5.toArray 69)).alloc (.cells z5.toArray 69)) w2.heap.size z5 69 := (Blk.new _ _ _).alloc _
    have c2 : Blk ((w2.alloc (.cells z5.toArray 69)).alloc (.cells z5.toArray 69)) (w2.heap.size + 1) z5 69 := by
      have := Blk.new (w2.alloc (.cells z5.toArray 69)) z5 69
      simpa using this
    refine eitherH (i := 4) (j := 5) (by kernel_rfl) ?_ ?_
    · refine opG_run rfl (by rfl) (.alloc 69) rfl 5 rfl _ _ (fun o' ho => run_new 69 ho z5 zero25 w2) ?_; refine ⟨H3, ?_⟩
      simp only [Act.put, List.setIfInBounds_toArray, List.set_cons_zero, List.set_cons_succ]
      refine onlyH (i := 5) (by kernel_rfl) ?_; refine opG_run rfl (by rfl) (.alloc 69) rfl 6 rfl _ _ (fun o' ho => run_new 69 ho z5 zero25 _) ?_; refine ⟨H4, ?_⟩
      simp only [Act.put, List.setIfInBounds_toArray, List.set_cons_zero, List.set_cons_succ]
      generalize (w2.alloc (.cells z5.toArray 69)).alloc (.cells z5.toArray 69) = w4 at H4 c1 c2 ⊢
      rw [show (w2.alloc (.cells z5.toArray 69)).heap.size = w2.heap.size + 1 by simp]
      refine onlyH (i := 6) (by kernel_rfl) ?_; refine op_row rfl (by rfl) rfl 69 (.tmp 5) (.tmp 8) rfl w2.heap.size X.cs z5 69 rfl rfl c1 (cs_info25 X) (cs_len X) (cs_one X) ?_; refine ⟨below_setRow H4 _ _ hz, ?_⟩; refine onlyH (i := 7) (by kernel_rfl) ?_; refine op_row rfl (by rfl) rfl 69 (.tmp 6) (.tmp 10) rfl (w2.heap.size + 1) Y.cs z5 69 rfl rfl (c2.setRowOther _ _ (by omega)) (cs_info25 Y) (cs_len Y) (cs_one Y) ?_; refine ⟨below_setRow (below_setRow H4 _ _ hz) _ _ (by omega), ?_⟩; refine wpAnyH_done (by kernel_rfl) ?_ _
      have T := Z _ (below_setRow (below_setRow H4 _ X.cs.toArray hz) _ Y.cs.toArray (by omega)) w2.heap.size (w2.heap.size + 1) ((c1.setRow _).setRowOther _ _ (by omega)) ((c2.setRowOther _ _ (by omega)).setRow _) hz (by omega)
      refine NoPanic.normal ?_
      go_wp2
      go_meet
      exact ⟨_, _, rfl, rfl, T⟩
    · refine opG_run rfl (by rfl) (.alloc 69) rfl 6 rfl _ _ (fun o' ho => run_new 69 ho z5 zero25 w2) ?_; refine ⟨H3, ?_⟩
      simp only [Act.put, List.setIfInBounds_toArray, List.set_cons_zero, List.set_cons_succ]
      refine onlyH (i := 4) (by kernel_rfl) ?_; refine opG_run rfl (by rfl) (.alloc 69) rfl 5 rfl _ _ (fun o' ho => run_new 69 ho z5 zero25 _) ?_; refine ⟨H4, ?_⟩
      simp only [Act.put, List.setIfInBounds_toArray, List.set_cons_zero, List.set_cons_succ]
      generalize (w2.alloc (.cells z5.toArray 69)).alloc (.cells z5.toArray 69) = w4 at H4 c1 c2 ⊢
      rw [show (w2.alloc (.cells z5.toArray 69)).heap.size = w2.heap.size + 1 by simp]
      refine onlyH (i := 6) (by kernel_rfl) ?_; refine op_row rfl (by rfl) rfl 69 (.tmp 5) (.tmp 8) rfl (w2.heap.size + 1) X.cs z5 69 rfl rfl c2 (cs_info25 X) (cs_len X) (cs_one X) ?_; refine ⟨below_setRow H4 _ _ (by omega), ?_⟩; refine onlyH (i := 7) (by kernel_rfl) ?_; refine op_row rfl (by rfl) rfl 69 (.tmp 6) (.tmp 10) rfl w2.heap.size Y.cs z5 69 rfl rfl (c1.setRowOther _ _ (by omega)) (cs_info25 Y) (cs_len Y) (cs_one Y) ?_; refine ⟨below_setRow (below_setRow H4 _ _ (by omega)) _ _ hz, ?_⟩; refine wpAnyH_done (by kernel_rfl) ?_ _
      have T := Z _ (below_setRow (below_setRow H4 _ X.cs.toArray (by omega)) _ Y.cs.toArray hz) (w2.heap.size + 1) w2.heap.size ((c2.setRow _).setRowOther _ _ (by omega)) ((c1.setRowOther _ _ (by omega)).setRow _) (by omega) hz
      refine NoPanic.normal ?_
      go_wp2
      go_meet
      exact ⟨_, _, rfl, rfl, T⟩
  · obtain ⟨p, q, rfl, rfl, T⟩ := hcut
    subst hX hY
    have p0 : wc.cell? ⟨p, 0, none⟩ = some (.int .u64 (wn xa)) := T.bp.cell 0
    have p1 : wc.cell? ⟨p, 1, none⟩ = some (.int .u64 (wn xb)) := T.bp.cell 1
    have p2 : wc.cell? ⟨p, 2, none⟩ = some (.int .u64 (wn xc)) := T.bp.cell 2
    have p3 : wc.cell? ⟨p, 3, none⟩ = some (.int .u64 (wn xd)) := T.bp.cell 3
    have p4 : wc.cell? ⟨p, 4, none⟩ = some (.int .u64 (wn xe)) := T.bp.cell 4
    have q0 : wc.cell? ⟨q, 0, none⟩ = some (.int .u64 (wn ya)) := T.bq.cell 0
    have q1 : wc.cell? ⟨q, 1, none⟩ = some (.int .u64 (wn yb)) := T.bq.cell 1
    have q2 : wc.cell? ⟨q, 2, none⟩ = some (.int .u64 (wn yc)) := T.bq.cell 2
    have q3 : wc.cell? ⟨q, 3, none⟩ = some (.int .u64 (wn yd)) := T.bq.cell 3
    have q4 : wc.cell? ⟨q, 4, none⟩ = some (.int .u64 (wn ye)) := T.bq.cell 4
    have RE := hide T.re
    have BE := hide T.be
    clear T b1 b2 b3 be hs w1
    have h3 := wadd
    have h4 := waddA
    have h5 := waddB
    have h6 := wsub
    obtain ⟨Z, hZ⟩ : ∃ Z : L5, carr ⟨xa + kA - ya, xb + kB - yb, xc + kB - yc, xd + kB - yd, xe + kB - ye⟩ = Z := ⟨_, rfl⟩
    have HZ := hide hZ
    go_wp2_with (first | (go_at_call 56; refine (carried_any ⟨xa + kA - ya, xb + kB - yb, xc + kB - yc, xd + kB - yd, xe + kB - ye⟩ _).mono ?_; rintro e w3 ⟨rfl, hb⟩; rw [hZ]; clear hZ; have B3 := hide hb; clear hb) | (refine wpList_store_row rfl 71 (.tmp 4) (.tmp 42) rfl (n + 1 + 1) Z.cs.toArray rfl rfl 71 z5.toArray (RE.out.on B3.out) (cs_infoA Z) (cs_size Z) (cs_one Z) ?_))
    refine bodyPost_ret (results_cell_row Tryd.results53 _ _ (n + 1 + 1) 71 Z.cs.toArray (0, 0) _ rfl ((RE.out.on B3.out).setRow _) Tryd.underlying71 rfl (cs_infoA Z)) rfl ?_
    exact ⟨by rw [← HZ.out]; rfl, by rw [hn]; exact below_setRow (BE.out.trans (B3.out.mono (by have := BE.out.size; omega))) _ _ (by omega)⟩

end Go.Proofs.YtoceepmehmacbaaDoor.Cv
