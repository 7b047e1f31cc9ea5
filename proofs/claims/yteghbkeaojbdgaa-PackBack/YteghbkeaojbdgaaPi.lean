import Derived.Test.YteghbkeaojbdgaaPh
set_option linter.unusedVariables false
set_option linter.unusedSimpArgs false
namespace Go.Proofs.Yteghbkeaojbdgaa
open Go.RowKit

/-- Does the next one stand in that place? -/
def isAt (ds : List Rc) (x : Rc) : Bool := match ds[placeN ds x]? with
  | some d => decide (cmpD d x = 0)
  | none => false
def wantR (t : Int) (vk : Value) (k : List UInt8) : RV := ⟨t, vk, .slice none 0 0, k, []⟩
theorem bld32w (t : Int) (a : Value) (ha : ∃ ao n c, a = .slice ao n c) (W : World) : (Instr.build 32 [(0, .int .i64 t), (1, a)].toArray).run Try.prog W = .ok (.agg [.int .i64 t, a, .slice none 0 0].toArray) W := by
  obtain ⟨_, _, _, rfl⟩ := ha
  go_simp
  try rfl
theorem box23 (v : Value) (hv : ∃ ao n c, v = .slice ao n c) (w : World) : ∃ w1 q, (Instr.box 23 v).run Try.prog w = .ok (.pointer (some ⟨q, 0, none⟩)) w1 ∧ Blk w1 q [v] 23 ∧ Below w.heap.size w w1 ∧ q = w.heap.size := by
  obtain ⟨ao, n, c, rfl⟩ := hv
  refine ⟨_, _, ?_, Blk.new w [.slice ao n c] 23, below_new _ _, rfl⟩
  simp [Instr.box, newVar, newRow, Value.cells]
theorem Ls.sl {w : World} {v : Value} {rs : List RV} (h : Ls w v rs) : ∃ ao n c, v = .slice ao n c := by
  obtain ⟨ao, c, rfl, _⟩ := h.shape
  exact ⟨_, _, _, rfl⟩
theorem place_le (ds : List Rc) (x : Rc) : placeN ds x ≤ ds.length := (List.takeWhile_sublist _).length_le
set_option maxRecDepth 100000 in
set_option maxHeartbeats 1000000 in
theorem place_any (v : Value) (rs : List RV) (t : Int) (vk : Value) (k : List UInt8) (w : World) (hL : Ls w v rs) (hk : Has w vk k) (hn : rs.length ≤ 1000000000000) (hs : Srt (rs.map RV.d)) : Calls Try.prog 38 #[v, .int .i64 t, vk] w fun e w' => e = .returned (.tuple #[.int .i64 (placeN (rs.map RV.d) ⟨t, k, []⟩ : Int), .bool (isAt (rs.map RV.d) ⟨t, k, []⟩)]) ∧ Below w.heap.size w w' := by
  have okx : (wantR t vk k).ok w := ⟨hk, Has.nil _⟩
  have hm : ∀ (a b : Nat) (ya yb : RV), a ≤ b → rs[a]? = some ya → rs[b]? = some yb → 0 ≤ cmpR ya (wantR t vk k) → 0 ≤ cmpR yb (wantR t vk k) := fun a b ya yb hab ha hb hc => hs.mono (x := (wantR t vk k).d) (d_at ha) (d_at hb) hab hc
  obtain ⟨w1, q1, r1, b1, e1, hq1⟩ := box23 v hL.sl w
  obtain ⟨w2, q2, r2, b2, f2, hq2⟩ := new32 w1
  obtain ⟨w3, s1, bW, s3⟩ := st32 b2 rfl (okx.one)
  have f3 : Below w1.heap.size w1 w3 := f2.trans (s3.below (fun k hk e => by omega) f2.size)
  have bL := b1.on f3
  have e3 := e1.trans (f3.mono e1.size)
  obtain ⟨p, hp⟩ : ∃ p, placeN (rs.map RV.d) ⟨t, k, []⟩ = p := ⟨_, rfl⟩
  have hpl := place_le (rs.map RV.d) ⟨t, k, []⟩
  rw [hp, List.length_map] at hpl
  by_cases hlt : p < rs.length
  · obtain ⟨y, hy⟩ : ∃ y, rs[p]? = some y := ⟨_, List.getElem?_eq_getElem hlt⟩
    have zlt : (p : Int) < (rs.length : Int) := by omega
    have he : isAt (rs.map RV.d) ⟨t, k, []⟩ = decide (cmpR y (wantR t vk k) = 0) := by
      unfold isAt
      rw [hp, d_at hy]; rfl
    refine calls_of_args [v, .int .i64 t, vk] Try.func38 rfl 31 Try.ntmps38 (by show 3 ≤ 31; decide) ?_
    refine EW.seq ?_
    refine EW.region ?_
    refine WL.box rfl rfl rfl r1 ?_
    first | refine WL.assign rfl rfl rfl ?_
    first | refine WL.assign rfl rfl rfl ?_
    refine WL.done ?_
    refine EW.on ?_
    refine EW.seq ?_
    refine EW.region ?_
    first | refine WL.move rfl rfl rfl ?_
    first | refine WL.move rfl rfl rfl ?_
    refine WL.buildN [(0, .int .i64 t), (1, vk)] rfl rfl rfl (bld32w t vk hk.sl _) ?_
    refine WL.new rfl rfl r2 ?_
    refine WL.store rfl rfl rfl s1 ?_
    refine WL.done ?_
    refine EW.on ?_
    refine EW.seq ?_
    refine EW.region ?_
    refine WL.load rfl rfl rfl (ldL bL rfl) ?_
    refine WL.len rfl rfl rfl (hL.len _ _) ?_
    refine WL.mkf [.pointer (some ⟨q1, 0, none⟩), .pointer (some ⟨q2, 0, none⟩)] rfl rfl rfl ?_
    refine WL.call [.int .i64 (rs.length : Int), fnV q1 q2] enter47 rfl rfl rfl (search_any v rs (wantR t vk k) q1 q2 _ (hL.below e3) bL bW (okx.below e3) hn hm) ?_
    rintro _ w4 ⟨rfl, be4⟩
    refine ⟨_, rfl, ?_⟩
    first | refine WL.assign rfl rfl rfl ?_
    refine WL.done ?_
    refine EW.on ?_
    refine EW.seq ?_
    have e4 := e3.trans (be4.mono e3.size)
    rw [show placeN (rs.map RV.d) (wantR t vk k).d = p from hp]
    have hpw := hL.below e4
    obtain ⟨ad, iy, ay⟩ := hpw.item hy
    have oky := hpw.ok y (List.mem_of_getElem? hy)
    have okx4 := okx.below e4
    refine EW.ordB [(0, 0, 0), (1, 0, 0), (2, 0, 1), (3, 0, 0), (4, 0, 0), (5, 0, 0), (6, 0, 1), (7, 0, 0), (8, 0, 0), (9, 0, 1), (10, 0, 1), (11, 1, 1), (12, 0, 0), (13, 0, 0), (14, 0, 0), (15, 0, 0)] (by kernel_rfl) rfl (by kernel_rfl) ?_
    simp only [opsZ, List.getD_cons_zero, List.getD_cons_succ]
    first | refine ZE.move rfl rfl rfl rfl sz0 ?_
    first | refine ZE.move rfl rfl rfl rfl sz0 ?_
    first | refine ZE.load rfl rfl rfl rfl sz1 (fun W hW => ldL ((bL.on be4).on (sb_of hW)) rfl) ?_
    refine ZE.len rfl rfl rfl rfl sz0 (fun W => hL.len W _) ?_
    first | refine ZE.bin rfl rfl rfl rfl rfl sz0 (fun W => int_lt_t ‹_› W _ _) ?_ | refine ZE.bin rfl rfl rfl rfl rfl sz0 (fun W => int_lt_f ‹_› W _ _) ?_ | refine ZE.bin rfl rfl rfl rfl rfl sz0 (fun W => int_lt_d _ _ W _ _) ?_
    first | refine ZE.move rfl rfl rfl rfl sz0 ?_
    first | refine ZE.load rfl rfl rfl rfl sz1 (fun W hW => ldL ((bL.on be4).on (sb_of hW)) rfl) ?_ | refine ZE.skip rfl rfl rfl sz1 ?_
    first | refine ZE.move rfl rfl rfl rfl sz0 ?_ | refine ZE.skip rfl rfl rfl sz0 ?_
    first | refine ZE.index rfl rfl rfl rfl rfl sz0 (fun W => iy W) ?_ | refine ZE.skip rfl rfl rfl sz0 ?_
    first | refine ZE.load rfl rfl rfl rfl sz1 (fun W hW => ldA (ay.below (sb_of hW))) ?_ | refine ZE.load rfl rfl rfl rfl sz1 (fun W hW => ld32 ((bW.on be4).on (sb_of hW))) ?_ | refine ZE.skip rfl rfl rfl sz1 ?_
    first | refine ZE.load rfl rfl rfl rfl sz1 (fun W hW => ldA (ay.below (sb_of hW))) ?_ | refine ZE.load rfl rfl rfl rfl sz1 (fun W hW => ld32 ((bW.on be4).on (sb_of hW))) ?_ | refine ZE.skip rfl rfl rfl sz1 ?_
    refine ZE.callB [y.val, (wantR t vk k).val] enter13 rfl rfl rfl (fun W h => .inr h) (fun W hW => cmpr_any y (wantR t vk k) W (oky.below hW) (okx4.below hW)) ?_
    first | refine ZE.bin rfl rfl rfl rfl rfl sz0 (fun W => int_eq_t ‹_› W _ _) ?_ | refine ZE.bin rfl rfl rfl rfl rfl sz0 (fun W => int_eq_f ‹_› W _ _) ?_ | refine ZE.bin rfl rfl rfl rfl rfl sz0 (fun W => int_eq_d _ _ W _ _) ?_ | refine ZE.skip rfl rfl rfl sz0 ?_
    first | refine ZE.pick rfl rfl rfl rfl rfl sz0 ?_
    first | refine ZE.assign rfl rfl rfl rfl sz0 ?_
    first | refine ZE.assign rfl rfl rfl rfl sz0 ?_
    intro w5 h5
    refine EW.on ?_
    refine EW.ret ?_
    exact EW.returns2 Try.results38 rfl rfl ⟨by rw [hp, he], e4.trans (h5.mono e4.size)⟩
  · have zlt : ¬ (p : Int) < (rs.length : Int) := by omega
    have he : isAt (rs.map RV.d) ⟨t, k, []⟩ = false := by
      unfold isAt
      rw [hp, List.getElem?_eq_none (by rw [List.length_map]; omega)]
    refine calls_of_args [v, .int .i64 t, vk] Try.func38 rfl 31 Try.ntmps38 (by show 3 ≤ 31; decide) ?_
    refine EW.seq ?_
    refine EW.region ?_
    refine WL.box rfl rfl rfl r1 ?_
    first | refine WL.assign rfl rfl rfl ?_
    first | refine WL.assign rfl rfl rfl ?_
    refine WL.done ?_
    refine EW.on ?_
    refine EW.seq ?_
    refine EW.region ?_
    first | refine WL.move rfl rfl rfl ?_
    first | refine WL.move rfl rfl rfl ?_
    refine WL.buildN [(0, .int .i64 t), (1, vk)] rfl rfl rfl (bld32w t vk hk.sl _) ?_
    refine WL.new rfl rfl r2 ?_
    refine WL.store rfl rfl rfl s1 ?_
    refine WL.done ?_
    refine EW.on ?_
    refine EW.seq ?_
    refine EW.region ?_
    refine WL.load rfl rfl rfl (ldL bL rfl) ?_
    refine WL.len rfl rfl rfl (hL.len _ _) ?_
    refine WL.mkf [.pointer (some ⟨q1, 0, none⟩), .pointer (some ⟨q2, 0, none⟩)] rfl rfl rfl ?_
    refine WL.call [.int .i64 (rs.length : Int), fnV q1 q2] enter47 rfl rfl rfl (search_any v rs (wantR t vk k) q1 q2 _ (hL.below e3) bL bW (okx.below e3) hn hm) ?_
    rintro _ w4 ⟨rfl, be4⟩
    refine ⟨_, rfl, ?_⟩
    first | refine WL.assign rfl rfl rfl ?_
    refine WL.done ?_
    refine EW.on ?_
    refine EW.seq ?_
    have e4 := e3.trans (be4.mono e3.size)
    rw [show placeN (rs.map RV.d) (wantR t vk k).d = p from hp]
    refine EW.ordB [(0, 0, 0), (1, 0, 0), (2, 0, 1), (3, 0, 0), (4, 0, 0), (5, 0, 0), (6, 0, 1), (7, 0, 0), (8, 0, 0), (9, 0, 1), (10, 0, 1), (11, 0, 0), (12, 0, 0), (13, 0, 0), (14, 0, 0), (15, 0, 0)] (by kernel_rfl) rfl (by kernel_rfl) ?_
    simp only [opsZ, List.getD_cons_zero, List.getD_cons_succ]
    first | refine ZE.move rfl rfl rfl rfl sz0 ?_
    first | refine ZE.move rfl rfl rfl rfl sz0 ?_
    first | refine ZE.load rfl rfl rfl rfl sz1 (fun W hW => ldL ((bL.on be4).on (sb_of hW)) rfl) ?_
    refine ZE.len rfl rfl rfl rfl sz0 (fun W => hL.len W _) ?_
    first | refine ZE.bin rfl rfl rfl rfl rfl sz0 (fun W => int_lt_t ‹_› W _ _) ?_ | refine ZE.bin rfl rfl rfl rfl rfl sz0 (fun W => int_lt_f ‹_› W _ _) ?_ | refine ZE.bin rfl rfl rfl rfl rfl sz0 (fun W => int_lt_d _ _ W _ _) ?_
    first | refine ZE.move rfl rfl rfl rfl sz0 ?_
    first | refine ZE.load rfl rfl rfl rfl sz1 (fun W hW => ldL ((bL.on be4).on (sb_of hW)) rfl) ?_ | refine ZE.skip rfl rfl rfl sz1 ?_
    first | refine ZE.move rfl rfl rfl rfl sz0 ?_ | refine ZE.skip rfl rfl rfl sz0 ?_
    first | refine ZE.index rfl rfl rfl rfl rfl sz0 (fun W => iy W) ?_ | refine ZE.skip rfl rfl rfl sz0 ?_
    first | refine ZE.load rfl rfl rfl rfl sz1 (fun W hW => ldA (ay.below (sb_of hW))) ?_ | refine ZE.load rfl rfl rfl rfl sz1 (fun W hW => ld32 ((bW.on be4).on (sb_of hW))) ?_ | refine ZE.skip rfl rfl rfl sz1 ?_
    first | refine ZE.load rfl rfl rfl rfl sz1 (fun W hW => ldA (ay.below (sb_of hW))) ?_ | refine ZE.load rfl rfl rfl rfl sz1 (fun W hW => ld32 ((bW.on be4).on (sb_of hW))) ?_ | refine ZE.skip rfl rfl rfl sz1 ?_
    refine ZE.skip rfl rfl rfl sz0 ?_
    first | refine ZE.bin rfl rfl rfl rfl rfl sz0 (fun W => int_eq_t ‹_› W _ _) ?_ | refine ZE.bin rfl rfl rfl rfl rfl sz0 (fun W => int_eq_f ‹_› W _ _) ?_ | refine ZE.bin rfl rfl rfl rfl rfl sz0 (fun W => int_eq_d _ _ W _ _) ?_ | refine ZE.skip rfl rfl rfl sz0 ?_
    first | refine ZE.pick rfl rfl rfl rfl rfl sz0 ?_
    first | refine ZE.assign rfl rfl rfl rfl sz0 ?_
    first | refine ZE.assign rfl rfl rfl rfl sz0 ?_
    intro w5 h5
    refine EW.on ?_
    refine EW.ret ?_
    exact EW.returns2 Try.results38 rfl rfl ⟨by rw [hp, he], e4.trans (h5.mono e4.size)⟩
set_option maxRecDepth 100000 in
set_option maxHeartbeats 1000000 in
theorem find_any (v : Value) (rs : List RV) (t : Int) (vk : Value) (k : List UInt8) (w : World) (hL : Ls w v rs) (hk : Has w vk k) (hn : rs.length ≤ 1000000000000) (hs : Srt (rs.map RV.d)) : Calls Try.prog 16 #[v, .int .i64 t, vk] w fun e w' => e = .returned (.tuple #[.int .i64 (placeN (rs.map RV.d) ⟨t, k, []⟩ : Int), .bool (isAt (rs.map RV.d) ⟨t, k, []⟩)]) ∧ Below w.heap.size w w' := by
  have hLa := hL
  refine calls_of_args [v, .int .i64 t, vk] Try.func16 rfl 17 Try.ntmps16 (by show 3 ≤ 17; decide) ?_
  refine EW.seq ?_
  refine EW.region ?_
  first | refine WL.assign rfl rfl rfl ?_
  first | refine WL.assign rfl rfl rfl ?_
  refine WL.done ?_
  refine EW.on ?_
  refine EW.seq ?_
  refine EW.seq ?_
  refine EW.region ?_
  first | refine WL.move rfl rfl rfl ?_
  refine WL.call [v] enter22 rfl rfl rfl (fault_ok v rs _ hLa hs hn) ?_
  rintro _ w3 ⟨rfl, be3⟩
  refine ⟨_, rfl, ?_⟩
  first | refine WL.bin rfl rfl rfl rfl (int_ne_f rfl _ _ _) ?_ | refine WL.bin rfl rfl rfl rfl (int_ne_t ‹_› _ _ _) ?_ | refine WL.bin rfl rfl rfl rfl (int_ne_f ‹_› _ _ _) ?_ | refine WL.bin rfl rfl rfl rfl (int_ne_t (by decide) _ _ _) ?_ | refine WL.bin rfl rfl rfl rfl (int_ne_d _ _ _ _ _) ?_
  refine WL.done ?_
  refine EW.on ?_
  refine EW.cond_f rfl ?_
  refine EW.skip ?_
  refine EW.on ?_
  refine EW.seq ?_
  have hLb := hL.below be3
  have hkb := hk.below be3
  refine EW.region ?_
  first | refine WL.move rfl rfl rfl ?_
  first | refine WL.move rfl rfl rfl ?_
  first | refine WL.move rfl rfl rfl ?_
  refine WL.call [v, .int .i64 t, vk] enter38 rfl rfl rfl (place_any v rs t vk k _ hLb hkb hn hs) ?_
  rintro _ w4 ⟨rfl, be4⟩
  refine ⟨_, rfl, ?_⟩
  first | refine WL.extract rfl rfl rfl (ext_2 _ _ _).1 ?_
  first | refine WL.extract rfl rfl rfl (ext_2 _ _ _).2 ?_
  first | refine WL.assign rfl rfl rfl ?_
  first | refine WL.assign rfl rfl rfl ?_
  refine WL.done ?_
  refine EW.on ?_
  refine EW.ret ?_
  exact EW.returns2 Try.results16 rfl rfl ⟨rfl, be3.trans (be4.mono be3.size)⟩
def insD (ds : List Rc) (x : Rc) : List Rc := ds.take (placeN ds x) ++ x :: ds.drop (placeN ds x + if isAt ds x then 1 else 0)
def delD (ds : List Rc) (x : Rc) : List Rc := ds.take (placeN ds x) ++ ds.drop (placeN ds x + 1)
theorem bsl83_2 (a b : Value) (ha : ∃ ao n c, a = .slice ao n c) (hb : ∃ ao n c, b = .slice ao n c) (w : World) : (Instr.buildSlice 83 2 [(0, a), (1, b)].toArray).run Try.prog w = .ok (.slice (some ⟨w.heap.size, 0, none⟩) 2 2) (w.alloc (.cells [a, b].toArray 23)) := by
  obtain ⟨_, _, _, rfl⟩ := ha
  obtain ⟨_, _, _, rfl⟩ := hb
  go_simp
  try rfl
theorem bsl83_3 (a b c : Value) (ha : ∃ ao n c, a = .slice ao n c) (hb : ∃ ao n c, b = .slice ao n c) (hc : ∃ ao n c', c = .slice ao n c') (w : World) : (Instr.buildSlice 83 3 [(0, a), (1, b), (2, c)].toArray).run Try.prog w = .ok (.slice (some ⟨w.heap.size, 0, none⟩) 3 3) (w.alloc (.cells [a, b, c].toArray 23)) := by
  obtain ⟨_, _, _, rfl⟩ := ha
  obtain ⟨_, _, _, rfl⟩ := hb
  obtain ⟨_, _, _, rfl⟩ := hc
  go_simp
  try rfl
theorem Srt.sm {rs : List RV} (h : Srt (rs.map RV.d)) {r : RV} (hr : r ∈ rs) : r.k.length ≤ 140737488355328 ∧ r.v.length ≤ 140737488355328 := by
  have := h.ok _ (List.mem_map_of_mem hr)
  obtain ⟨_, _, _, h4, h5⟩ := this
  have h4' : r.k.length ≤ 64 := h4
  have h5' : r.v.length ≤ 900 := h5
  omega
end Go.Proofs.Yteghbkeaojbdgaa
