import Derived.Test.YthfcabhelldokaaBc
set_option linter.unusedVariables false
set_option linter.unusedSimpArgs false
namespace Go.Proofs.Ythfcabhelldokaa
open Go.RowKit

theorem idx65 (g n cap m : Nat) (h : m < n) (W : World) : (Instr.indexAt 65 (.slice (some ⟨g, 0, none⟩) n cap) (.int .i64 (m : Int))).run Try.prog W = .ok (.pointer (some ⟨g, m, none⟩)) W := by
  have hm : (m : Int) < (n : Int) := by omega
  go_simp
  try simp
  try rw [add_plain]
theorem idx66 (g n cap m : Nat) (h : m < n) (W : World) : (Instr.indexAt 66 (.slice (some ⟨g, 0, none⟩) n cap) (.int .i64 (m : Int))).run Try.prog W = .ok (.pointer (some ⟨g, m, none⟩)) W := by
  have hm : (m : Int) < (n : Int) := by omega
  go_simp
  try simp
  try rw [add_plain]
theorem len65 (ad : Option Addr) (n cap : Nat) (W : World) (ty : TypeId) : (Builtin.len_ #[65] ty #[.slice ad n cap]).run Try.prog W = .ok (.int .i64 (n : Int)) W := by go_simp
theorem len66 (ad : Option Addr) (n cap : Nat) (W : World) (ty : TypeId) : (Builtin.len_ #[66] ty #[.slice ad n cap]).run Try.prog W = .ok (.int .i64 (n : Int)) W := by go_simp
theorem row_shape {w : World} {e : TypeId} {v : Value} {n : Nat} {xs : List Value} (h : w.ownsRow 0 e 1 v n xs) : ∃ ao cap, v = .slice ao n cap ∧ ∀ k u, xs[k]? = some u → ∃ g, ao = some ⟨g, 0, none⟩ ∧ k < n ∧ w.cell? ⟨g, k, none⟩ = some u := by
  obtain ⟨h0, ⟨rfl, rfl⟩ | ⟨g, cap, cur, rfl, _, hh, hn, hc, hs, ht⟩⟩ := h
  · refine ⟨none, 0, rfl, fun k u hu => ?_⟩
    rw [show xs = [] from List.eq_nil_of_length_eq_zero (by omega)] at hu
    simp at hu
  · refine ⟨_, cap, rfl, fun k u hu => ⟨g, rfl, ?_, ?_⟩⟩
    · have := (List.getElem?_eq_some_iff.1 hu).1; omega
    · have hk : k < n := by have := (List.getElem?_eq_some_iff.1 hu).1; omega
      rw [← ht, List.getElem?_take_of_lt (by omega), Array.getElem?_toList] at hu
      simp [World.cell?, hh, hu]
theorem nil_ne_f (W : World) (x y : Operand) : (do eqGuard .neq 34 x y (.slice none 0 0) (.slice none 0 0); binOp .neq 34 (.slice none 0 0) (.slice none 0 0) : Sem Value).run Try.prog W = .ok (.bool false) W := by go_simp
theorem quo2 (k : Nat) (h : k < 1000000000000) (W : World) (x y : Operand) : (do eqGuard .quo 3 x y (.int .i64 (k : Int)) (.int .i64 2); binOp .quo 3 (.int .i64 (k : Int)) (.int .i64 2) : Sem Value).run Try.prog W = .ok (.int .i64 ((k / 2 : Nat) : Int)) W := by
  have q1 : (k : Int) / 2 = ((k / 2 : Nat) : Int) := by omega
  have q4 : k / 2 < 1000000000000 := by omega
  obtain ⟨q, hq⟩ : ∃ q, k / 2 = q := ⟨_, rfl⟩
  rw [hq] at q1 q4 ⊢
  clear hq
  go_simp
  rw [IntKind.wrap_i64]; omega
theorem m1sub (q : Nat) (h : q < 1000000000000) : IntKind.i64.wrap (-1 - (q : Int)) = -1 - (q : Int) := by rw [IntKind.wrap_i64]; omega
theorem tnB (t m : Nat) (h : t < m) (hm : m ≤ 100000000000) : IntKind.i64.wrap ((t : Int) + 1) = ((t + 1 : Nat) : Int) := by rw [IntKind.wrap_i64]; omega
def hoE (p t : Nat) : List (Nat × Value) := [(0, .pointer (some ⟨p, 0, none⟩)), (3, .int .i64 (t : Int))]
def hpE (p t : Nat) : List (Nat × Value) := [(0, .pointer (some ⟨p, 0, none⟩)), (4, .int .i64 (t : Int))]
def hqE (p i t : Nat) : List (Nat × Value) := [(0, .pointer (some ⟨p, 0, none⟩)), (4, .int .i64 (i : Int)), (5, .int .i64 (t : Int))]
theorem Marks.shape {W : World} {v : Value} {n : Nat} {z : Int} (h : Marks W v n z) : ∃ ao cap, v = .slice ao n cap ∧ ∀ k, k < n → ∃ g, ao = some ⟨g, 0, none⟩ ∧ W.cell? ⟨g, k * 2, none⟩ = some (.int .i64 z) ∧ W.cell? ⟨g, k * 2 + 1, none⟩ = some (.slice none 0 0) := by
  rcases h with ⟨rfl, rfl⟩ | ⟨g, cap, rfl, h2⟩
  · exact ⟨none, 0, rfl, fun k hk => absurd hk (Nat.not_lt_zero _)⟩
  · exact ⟨_, cap, rfl, fun k hk => ⟨g, rfl, h2 k hk⟩⟩
set_option maxRecDepth 100000 in
set_option maxHeartbeats 1000000 in
theorem hold_law {W : World} {B : Bl} (h : Bok W B) (hwn : B.wn = B.got.map (·.2)) (hg : B.got.length ≤ 100000000) (hl : B.ls.length ≤ 100000000) (hn : ∀ x ∈ B.ls, x.2 ≤ 100000000) : Calls Try.prog 32 #[.pointer (some ⟨B.p, 0, none⟩)] W fun e w' => e = .returned (.bool true) ∧ Below W.heap.size W w' := by
  obtain ⟨go, gcap, hge, hgc⟩ := row_shape h.g
  obtain ⟨wo, wcap, hwe, hwc⟩ := row_shape h.w
  obtain ⟨lo, lcap, hle, hlc⟩ := row_shape h.l
  have r0 : ∀ V, Below W.heap.size W V → V.cell? ⟨B.p, 0, none⟩ = some (.slice go B.got.length gcap) := fun V hV => by rw [← hge]; exact (h.below hV).r0
  have r1 : ∀ V, Below W.heap.size W V → V.cell? ⟨B.p, 1, none⟩ = some (.slice wo B.wn.length wcap) := fun V hV => by rw [← hwe]; exact (h.below hV).r1
  have r3 : ∀ V, Below W.heap.size W V → V.cell? ⟨B.p, 3, none⟩ = some (.slice lo B.ls.length lcap) := fun V hV => by rw [← hle]; exact (h.below hV).r3
  have hwl : B.wn.length = B.got.length := by rw [hwn, List.length_map]
  refine calls_of_args [.pointer (some ⟨B.p, 0, none⟩)] Try.func32 rfl 81 Try.ntmps32 (by show 1 ≤ 81; decide) ?_
  refine EW.seq ?_
  refine EW.region ?_
  first | refine WL.assign rfl rfl rfl ?_
  refine WL.done ?_
  refine EW.on ?_
  refine EW.seq ?_
  refine EW.seq ?_
  refine EW.region ?_
  first | refine WL.assign rfl rfl rfl ?_
  refine WL.done ?_
  refine EW.on ?_
  refine EW.block ?_
  refine EW.loop (hoE B.p) (fun t w' => t ≤ B.got.length ∧ Below W.heap.size W w') (fun t => B.got.length - t) 0 [0, 3] rfl ⟨Nat.zero_le _, Below.refl _ _⟩ ?_
  rintro t wr ⟨ht, hbe⟩
  show EW _ _ _ _ [(0, .pointer (some ⟨B.p, 0, none⟩)), (3, .int .i64 (t : Int))] _
  by_cases hlt : t < B.got.length
  · have z1 : (t : Int) < (B.got.length : Int) := Int.ofNat_lt.2 hlt
    have tn := tnB t _ hlt (by omega)
    obtain ⟨x, hx⟩ : ∃ x, B.got[t]? = some x := ⟨_, List.getElem?_eq_getElem hlt⟩
    obtain ⟨g1, hgo, _, hcg⟩ := hgc t x.1 (by rw [List.getElem?_map, hx]; rfl)
    obtain ⟨g2, hwo, ht2, hcw⟩ := hwc t (.string ⟨x.2.toArray⟩) (by rw [List.getElem?_map, hwn, List.getElem?_map, hx]; rfl)
    have bd : Below W.heap.size W { wr with drawn := wr.drawn + 1 } := hbe.trans ((below_drawn wr).mono hbe.size)
    have hcv : ∀ V, Below W.heap.size W V → (Go.convert 34 9 x.1).run Try.prog V = .ok (.string ⟨x.2.toArray⟩) V := fun V hV => ((h.below hV).gh x (List.mem_of_getElem? hx)).convert
    have q1 : ∀ V, Below W.heap.size W V → V.cell? ⟨g1, t, none⟩ = some x.1 := fun V hV => (hV.cell (cell_lt hcg)).trans hcg
    have q2 : ∀ V, Below W.heap.size W V → V.cell? ⟨g2, t, none⟩ = some (.string ⟨x.2.toArray⟩) := fun V hV => (hV.cell (cell_lt hcw)).trans hcw
    rw [hgo] at r0
    rw [hwo] at r1
    refine EW.seq ?_
    refine EW.seq ?_
    refine EW.region ?_
    first | refine WL.move rfl rfl rfl ?_
    first | refine WL.move rfl rfl rfl ?_
    first | refine WL.nilc rfl rfl rfl ?_
    first | refine WL.field rfl rfl rfl (fld68_0 _ _) ?_
    refine WL.load rfl rfl rfl (ld65 (r0 _ hbe)) ?_
    refine WL.len rfl rfl rfl (len65 _ _ _ _ _) ?_
    first | refine WL.bin rfl rfl rfl rfl (int_lt_t ‹_› _ _ _) ?_ | refine WL.bin rfl rfl rfl rfl (int_lt_f ‹_› _ _ _) ?_
    refine WL.done ?_
    refine EW.on ?_
    refine EW.cond_t rfl ?_
    refine EW.skip ?_
    refine EW.on ?_
    refine EW.seq ?_
    refine EW.block ?_
    refine EW.seq ?_
    refine EW.ord [(0, false), (1, false), (2, false), (3, false), (4, false), (5, false), (6, false), (7, false), (8, false), (9, false), (10, false), (11, false), (12, false), (13, false), (14, false), (15, false)] (fun V => Below W.heap.size W V) (by kernel_rfl) rfl (by kernel_rfl) bd ?_
    simp only [ordOps, List.getD_cons_zero, List.getD_cons_succ]
    refine OE.move rfl rfl rfl ?_
    refine OE.nilc rfl rfl rfl ?_
    refine OE.field rfl rfl rfl (fun V => fld68_0 _ V) ?_
    refine OE.load rfl rfl rfl (fun V hV => ld65 (r0 V hV)) ?_
    refine OE.move rfl rfl rfl ?_
    refine OE.index rfl rfl rfl rfl (fun V => idx65 g1 _ _ t hlt V) ?_
    refine OE.load rfl rfl rfl (fun V hV => ld34 (q1 V hV)) ?_
    refine OE.conv rfl rfl rfl hcv ?_
    refine OE.move rfl rfl rfl ?_
    refine OE.nilc rfl rfl rfl ?_
    refine OE.field rfl rfl rfl (fun V => fld68_1 _ V) ?_
    refine OE.load rfl rfl rfl (fun V hV => ld29 (r1 V hV)) ?_
    refine OE.move rfl rfl rfl ?_
    refine OE.index rfl rfl rfl rfl (fun V => idx29 g2 _ _ t ht2 V) ?_
    refine OE.load rfl rfl rfl (fun V hV => ld9 (q2 V hV)) ?_
    refine OE.bin rfl rfl rfl rfl (fun V => str_ne_f _ V _ _) ?_
    refine fun a ha W5 hW => ?_
    rw [hW]
    revert a ha
    refine EW.on ?_
    refine EW.cond_f rfl ?_
    refine EW.skip ?_
    refine pn_block ?_
    refine EW.on ?_
    refine EW.region ?_
    first | refine WL.move rfl rfl rfl ?_
    first | refine WL.bin rfl rfl rfl rfl (int_add ‹_› _ _ _) ?_
    first | refine WL.assign rfl rfl rfl ?_
    refine WL.done ?_
    exact EW.again (t + 1) [0, 3] rfl ⟨hlt, bd⟩ (by show B.got.length - (t + 1) < B.got.length - t; omega)
  · have z1 : ¬ (t : Int) < (B.got.length : Int) := fun hh => hlt (Int.ofNat_lt.1 hh)
    refine EW.seq ?_
    refine EW.seq ?_
    refine EW.region ?_
    first | refine WL.move rfl rfl rfl ?_
    first | refine WL.move rfl rfl rfl ?_
    first | refine WL.nilc rfl rfl rfl ?_
    first | refine WL.field rfl rfl rfl (fld68_0 _ _) ?_
    refine WL.load rfl rfl rfl (ld65 (r0 _ hbe)) ?_
    refine WL.len rfl rfl rfl (len65 _ _ _ _ _) ?_
    first | refine WL.bin rfl rfl rfl rfl (int_lt_t ‹_› _ _ _) ?_ | refine WL.bin rfl rfl rfl rfl (int_lt_f ‹_› _ _ _) ?_
    refine WL.done ?_
    refine EW.on ?_
    refine EW.cond_f rfl ?_
    refine EW.exit ?_
    repeat refine px_then ?_
    refine px_block ?_
    refine EW.on ?_
    refine EW.seq ?_
    refine EW.seq ?_
    refine EW.region ?_
    first | refine WL.assign rfl rfl rfl ?_
    refine WL.done ?_
    refine EW.on ?_
    refine EW.block ?_
    refine EW.loop (hpE B.p) (fun t w' => t ≤ B.ls.length ∧ Below W.heap.size W w') (fun t => B.ls.length - t) 0 [0, 4] rfl ⟨Nat.zero_le _, hbe⟩ ?_
    clear hbe hlt ht z1 wr t
    rintro i wr ⟨hi, hbe⟩
    show EW _ _ _ _ [(0, .pointer (some ⟨B.p, 0, none⟩)), (4, .int .i64 (i : Int))] _
    by_cases hlt : i < B.ls.length
    · have z1 : (i : Int) < (B.ls.length : Int) := Int.ofNat_lt.2 hlt
      have tn := tnB i _ hlt (by omega)
      obtain ⟨x, hx⟩ : ∃ x, B.ls[i]? = some x := ⟨_, List.getElem?_eq_getElem hlt⟩
      obtain ⟨g1, hlo, _, hcl⟩ := hlc i x.1 (by rw [List.getElem?_map, hx]; rfl)
      obtain ⟨mo, mcap, hme, hmc⟩ := (h.lh i x hx).shape
      have hxn := hn x (List.mem_of_getElem? hx)
      have q1 : ∀ V, Below W.heap.size W V → V.cell? ⟨g1, i, none⟩ = some (.slice mo x.2 mcap) := fun V hV => by rw [← hme]; exact (hV.cell (cell_lt hcl)).trans hcl
      rw [hlo] at r3
      refine EW.seq ?_
      refine EW.seq ?_
      refine EW.region ?_
      first | refine WL.move rfl rfl rfl ?_
      first | refine WL.move rfl rfl rfl ?_
      first | refine WL.nilc rfl rfl rfl ?_
      first | refine WL.field rfl rfl rfl (fld68_3 _ _) ?_
      refine WL.load rfl rfl rfl (ld66 (r3 _ hbe)) ?_
      refine WL.len rfl rfl rfl (len66 _ _ _ _ _) ?_
      first | refine WL.bin rfl rfl rfl rfl (int_lt_t ‹_› _ _ _) ?_ | refine WL.bin rfl rfl rfl rfl (int_lt_f ‹_› _ _ _) ?_
      refine WL.done ?_
      refine EW.on ?_
      refine EW.cond_t rfl ?_
      refine EW.skip ?_
      refine EW.on ?_
      refine EW.seq ?_
      refine EW.block ?_
      refine EW.seq ?_
      refine EW.region ?_
      first | refine WL.assign rfl rfl rfl ?_
      refine WL.done ?_
      refine EW.on ?_
      refine EW.block ?_
      refine EW.loop (hqE B.p i) (fun t w' => t ≤ x.2 ∧ w' = wr) (fun t => x.2 - t) 0 [0, 4, 5] rfl ⟨Nat.zero_le _, rfl⟩ ?_
      rintro t wx ⟨ht, hzx⟩
      rw [hzx]
      clear hzx wx
      show EW _ _ _ _ [(0, .pointer (some ⟨B.p, 0, none⟩)), (4, .int .i64 (i : Int)), (5, .int .i64 (t : Int))] _
      by_cases hl2 : t < x.2
      · have y1 : (t : Int) < (x.2 : Int) := Int.ofNat_lt.2 hl2
        have tn2 := tnB t _ hl2 (by omega)
        obtain ⟨gm, hmo, hm0, hm1⟩ := hmc t hl2
        have p0 : wr.cell? ⟨gm, t * 2, none⟩ = some (.int .i64 (-1 - ((i / 2 : Nat) : Int))) := (hbe.cell (cell_lt hm0)).trans hm0
        have p1 : wr.cell? ⟨gm, t * 2 + 1, none⟩ = some (.slice none 0 0) := (hbe.cell (cell_lt hm1)).trans hm1
        rw [hmo] at q1
        have ms := m1sub (i / 2) (by omega)
        refine EW.seq ?_
        refine EW.seq ?_
        refine EW.region ?_
        first | refine WL.move rfl rfl rfl ?_
        first | refine WL.move rfl rfl rfl ?_
        first | refine WL.nilc rfl rfl rfl ?_
        first | refine WL.field rfl rfl rfl (fld68_3 _ _) ?_
        refine WL.load rfl rfl rfl (ld66 (r3 _ hbe)) ?_
        first | refine WL.move rfl rfl rfl ?_
        refine WL.index rfl rfl rfl rfl (idx66 g1 _ _ i hlt _) ?_
        refine WL.load rfl rfl rfl (ld30 (q1 _ hbe)) ?_
        refine WL.len rfl rfl rfl (len30 _ _ _ _ _) ?_
        first | refine WL.bin rfl rfl rfl rfl (int_lt_t ‹_› _ _ _) ?_ | refine WL.bin rfl rfl rfl rfl (int_lt_f ‹_› _ _ _) ?_
        refine WL.done ?_
        refine EW.on ?_
        refine EW.cond_t rfl ?_
        refine EW.skip ?_
        refine EW.on ?_
        refine EW.seq ?_
        refine EW.block ?_
        refine EW.seq ?_
        refine EW.region ?_
        first | refine WL.move rfl rfl rfl ?_
        first | refine WL.nilc rfl rfl rfl ?_
        first | refine WL.field rfl rfl rfl (fld68_3 _ _) ?_
        refine WL.load rfl rfl rfl (ld66 (r3 _ hbe)) ?_
        first | refine WL.move rfl rfl rfl ?_
        refine WL.index rfl rfl rfl rfl (idx66 g1 _ _ i hlt _) ?_
        refine WL.load rfl rfl rfl (ld30 (q1 _ hbe)) ?_
        first | refine WL.move rfl rfl rfl ?_
        refine WL.index rfl rfl rfl rfl (idx30 gm _ _ t hl2 _) ?_
        refine WL.field rfl rfl rfl (fld78_0 _ _ _) ?_
        refine WL.load rfl rfl rfl (ld3 p0) ?_
        first | refine WL.move rfl rfl rfl ?_
        refine WL.bin rfl rfl rfl rfl (quo2 i (by omega) _ _ _) ?_
        refine WL.bin rfl rfl rfl rfl (int_sub ms _ _ _) ?_
        refine WL.bin rfl rfl rfl rfl (int_ne_f rfl _ _ _) ?_
        first | refine WL.move rfl rfl rfl ?_
        first | refine WL.move rfl rfl rfl ?_ | refine WL.skip _ rfl rfl rfl ?_
        first | refine WL.nilc rfl rfl rfl ?_ | refine WL.skip _ rfl rfl rfl ?_
        first | refine WL.field rfl rfl rfl (fld68_3 _ _) ?_ | refine WL.skip _ rfl rfl rfl ?_
        refine WL.load rfl rfl rfl (ld66 (r3 _ hbe)) ?_
        first | refine WL.move rfl rfl rfl ?_ | refine WL.skip _ rfl rfl rfl ?_
        refine WL.index rfl rfl rfl rfl (idx66 g1 _ _ i hlt _) ?_
        refine WL.load rfl rfl rfl (ld30 (q1 _ hbe)) ?_
        first | refine WL.move rfl rfl rfl ?_ | refine WL.skip _ rfl rfl rfl ?_
        refine WL.index rfl rfl rfl rfl (idx30 gm _ _ t hl2 _) ?_
        refine WL.field rfl rfl rfl (fld78_1 _ _ _) ?_
        refine WL.load rfl rfl rfl (ld34 p1) ?_
        refine WL.bin rfl rfl rfl rfl (nil_ne_f _ _ _) ?_
        first | refine WL.pick rfl rfl rfl rfl ?_
        refine WL.done ?_
        refine EW.on ?_
        refine EW.cond_f rfl ?_
        refine EW.skip ?_
        refine pn_block ?_
        refine EW.on ?_
        refine EW.region ?_
        first | refine WL.move rfl rfl rfl ?_
        first | refine WL.bin rfl rfl rfl rfl (int_add ‹_› _ _ _) ?_
        first | refine WL.assign rfl rfl rfl ?_
        refine WL.done ?_
        exact EW.again (E := hqE B.p i) (R := fun t w' => t ≤ x.2 ∧ w' = wr) (m := fun t => x.2 - t) (x := t) (t + 1) [0, 4, 5] rfl ⟨hl2, rfl⟩ (by show x.2 - (t + 1) < x.2 - t; omega)
      · have y1 : ¬ (t : Int) < (x.2 : Int) := fun hh => hl2 (Int.ofNat_lt.1 hh)
        refine EW.seq ?_
        refine EW.seq ?_
        refine EW.region ?_
        first | refine WL.move rfl rfl rfl ?_
        first | refine WL.move rfl rfl rfl ?_
        first | refine WL.nilc rfl rfl rfl ?_
        first | refine WL.field rfl rfl rfl (fld68_3 _ _) ?_
        refine WL.load rfl rfl rfl (ld66 (r3 _ hbe)) ?_
        first | refine WL.move rfl rfl rfl ?_
        refine WL.index rfl rfl rfl rfl (idx66 g1 _ _ i hlt _) ?_
        refine WL.load rfl rfl rfl (ld30 (q1 _ hbe)) ?_
        refine WL.len rfl rfl rfl (len30 _ _ _ _ _) ?_
        first | refine WL.bin rfl rfl rfl rfl (int_lt_t ‹_› _ _ _) ?_ | refine WL.bin rfl rfl rfl rfl (int_lt_f ‹_› _ _ _) ?_
        refine WL.done ?_
        refine EW.on ?_
        refine EW.cond_f rfl ?_
        refine EW.exit ?_
        repeat refine px_then ?_
        refine px_block ?_
        refine pn_block ?_
        refine EW.on ?_
        refine EW.region ?_
        first | refine WL.move rfl rfl rfl ?_
        first | refine WL.bin rfl rfl rfl rfl (int_add ‹_› _ _ _) ?_
        first | refine WL.assign rfl rfl rfl ?_
        refine WL.done ?_
        exact EW.again (i + 1) [0, 4] rfl ⟨hlt, hbe⟩ (by show B.ls.length - (i + 1) < B.ls.length - i; omega)
    · have z1 : ¬ (i : Int) < (B.ls.length : Int) := fun hh => hlt (Int.ofNat_lt.1 hh)
      refine EW.seq ?_
      refine EW.seq ?_
      refine EW.region ?_
      first | refine WL.move rfl rfl rfl ?_
      first | refine WL.move rfl rfl rfl ?_
      first | refine WL.nilc rfl rfl rfl ?_
      first | refine WL.field rfl rfl rfl (fld68_3 _ _) ?_
      refine WL.load rfl rfl rfl (ld66 (r3 _ hbe)) ?_
      refine WL.len rfl rfl rfl (len66 _ _ _ _ _) ?_
      first | refine WL.bin rfl rfl rfl rfl (int_lt_t ‹_› _ _ _) ?_ | refine WL.bin rfl rfl rfl rfl (int_lt_f ‹_› _ _ _) ?_
      refine WL.done ?_
      refine EW.on ?_
      refine EW.cond_f rfl ?_
      refine EW.exit ?_
      repeat refine px_then ?_
      refine px_block ?_
      refine EW.on ?_
      refine EW.seq ?_
      refine EW.region ?_
      first | refine WL.assign rfl rfl rfl ?_
      refine WL.done ?_
      refine EW.on ?_
      refine EW.ret ?_
      repeat (first | refine pr_then ?_ | refine pr_block ?_)
      exact EW.returns Try.results32 rfl ⟨rfl, hbe⟩
end Go.Proofs.Ythfcabhelldokaa
