import Derived.Test.YtnfikgnploockaaDoorSe
import Derived.Laws.OwnMore
set_option linter.unusedVariables false
set_option linter.unusedSimpArgs false
namespace Go.Proofs.YtnfikgnploockaaDoor
open Go.RowKit

theorem Own.app {w : World} {base : Nat} {v : Value} {bs : List UInt8} (h : Own w base v bs) {u : Value} {ys : List UInt8} (hu : Has w u ys) (hb : bs.length + ys.length ≤ 150000000000000) (hbase : base ≤ w.heap.size) (ty : TypeId) : ∃ v' w', (Builtin.append_ #[27, 27] ty #[v, u]).run Tryd.prog w = .ok v' w' ∧ Own w' base v' (bs ++ ys) ∧ Below base w w' ∧ Fx (fun k => v.ownBlock = some k) w w' := by
  obtain ⟨i0, hi, hz0, hz1, hz2⟩ := info_parts Tryd.info5
  rcases hu with ⟨rfl, rfl⟩ | ⟨ad, cap, rfl, h2, h3⟩
  · exact ⟨_, w, run_append_owned_none (P := Tryd.prog) w base 27 ty 5 i0 1 Tryd.underlying27 hi v _ _ h, by simpa using h, Below.refl _ _, Fx.refl _ _⟩
  · obtain ⟨v', w', r1, r2, r3⟩ := run_app w base v bs h ad cap ys h3 hb hbase ty
    exact ⟨v', w', r1, r2, (grown_fx r3).below (fun k hk e => by have := h.ownBlock k e; omega) hbase, grown_fx r3⟩
theorem bsl27_1 (b : UInt8) (w : World) : (Instr.buildSlice 27 1 [(0, byt b)].toArray).run Tryd.prog w = .ok (.slice (some ⟨w.heap.size, 0, none⟩) 1 1) (w.alloc (.cells ([b].map byt).toArray 5)) := by
  unfold byt
  go_simp
  try simp
  try rfl
/-- A byte is put behind bytes of the call's own. -/
theorem Own.push {w : World} {base : Nat} {v : Value} {bs : List UInt8} (h : Own w base v bs) (u : UInt8) (hb : bs.length < 150000000000000) (hbase : base ≤ w.heap.size) (ty : TypeId) : ∃ s w1 v' w2, (Instr.buildSlice 27 1 [(0, byt u)].toArray).run Tryd.prog w = .ok s w1 ∧ (Builtin.append_ #[27, 27] ty #[v, s]).run Tryd.prog w1 = .ok v' w2 ∧ Own w2 base v' (bs ++ [u]) ∧ Below base w w2 ∧ Fx (fun k => v.ownBlock = some k) w w2 := by
  have hs := has_news w [u]
  have l1 := below_new w (.cells (([u] : List UInt8).map byt).toArray 5)
  obtain ⟨v', w2, r2, o2, b2, f2⟩ := (h.below l1).app hs (by simp; omega) (Nat.le_trans hbase l1.size) ty
  exact ⟨_, _, v', w2, bsl27_1 u w, r2, o2, (l1.mono hbase).trans b2, (Fx.of_below l1).trans f2 (fun _ _ e => e)⟩
/-- Strings of the call's own. -/
def OwnS (w : World) (base : Nat) (v : Value) (ss : List (List UInt8)) : Prop := w.ownsRow base 9 1 v ss.length (ss.map sv)
theorem OwnS.nil (w : World) (base : Nat) : OwnS w base (.slice none 0 0) [] := ⟨rfl, .inl ⟨rfl, rfl⟩⟩
theorem OwnS.below {w w' : World} {base : Nat} {v : Value} {ss : List (List UInt8)} (h : OwnS w base v ss) (hb : Below w.heap.size w w') : OwnS w' base v ss := by
  obtain ⟨h1, h | ⟨g, cap, cur, hv, hg, hh, r⟩⟩ := h
  · exact ⟨h1, .inl h⟩
  · refine ⟨h1, .inr ⟨g, cap, cur, hv, hg, ?_, r⟩⟩
    rw [hb.block g (Array.getElem?_eq_some_iff.1 hh).1, hh]
theorem bsl41_1 (s : List UInt8) (w : World) : (Instr.buildSlice 41 1 [(0, sv s)].toArray).run Tryd.prog w = .ok (.slice (some ⟨w.heap.size, 0, none⟩) 1 1) (w.alloc (.cells #[sv s] 9)) := by
  unfold sv
  go_simp
  try simp
  try rfl
theorem OwnS.push {w : World} {base : Nat} {v : Value} {ss : List (List UInt8)} (h : OwnS w base v ss) (s : List UInt8) (hb : ss.length < 1000000) (hbase : base ≤ w.heap.size) (ty : TypeId) : ∃ t w1 v' w2, (Instr.buildSlice 41 1 [(0, sv s)].toArray).run Tryd.prog w = .ok t w1 ∧ (Builtin.append_ #[41, 41] ty #[v, t]).run Tryd.prog w1 = .ok v' w2 ∧ OwnS w2 base v' (ss ++ [s]) ∧ Below base w w2 := by
  have l1 := below_new w (.cells #[sv s] 9)
  have h1 := h.below l1
  obtain ⟨i0, hi, hz0, hz1, hz2⟩ := info_parts (show (Tryd.prog.info? 9).map (fun i => (i.zero, i.size, i.bytes)) = some (some (.string ⟨#[]⟩), 1, 16) by kernel_rfl)
  obtain ⟨v', w2, r2, o2, b2, _⟩ := run_append_own (P := Tryd.prog) (w.alloc (.cells #[sv s] 9)) base 41 ty 9 i0 _ 1 16 Tryd.underlying41 hi hz0 hz1 hz2 rfl (by decide) v _ _ h1 ⟨w.heap.size, 0, none⟩ 1 1 [sv s] rfl (fun j u hj => by
    have : j = 0 := by have := (List.getElem?_eq_some_iff.1 hj).1; simp at this; omega
    subst this
    rw [add_plain, cell_of_row _ _ 0 _ 9 (0, 0) (heap_alloc_new w _)]
    simpa using hj) (fun u hu => by simp at hu; subst hu; rfl) (by unfold maxLen; omega) (by omega) (Nat.le_trans hbase l1.size)
  refine ⟨_, _, v', w2, bsl41_1 s w, r2, ?_, (l1.mono hbase).trans ((grown_fx b2).below (fun k hk e => ?_) (Nat.le_trans hbase l1.size))⟩
  · unfold OwnS
    rw [List.length_append, List.map_append]
    exact o2
  · obtain ⟨_, ⟨rfl, _⟩ | ⟨g, cap, cur, rfl, hg, _⟩⟩ := h1
    · cases e
    · simp only [Value.ownBlock, Option.some.injEq] at e; omega
/-- The thirty digits of a name and an identity. -/
def strS (name K : List UInt8) : Nat → List UInt8
  | 0 => sumOf ([1, UInt8.ofNat name.length] ++ (name ++ K))
  | k + 1 => sumOf (strS name K k ++ K)
theorem strS_sq (name K : List UInt8) : Sq name K (strS name K) := ⟨rfl, fun _ => rfl⟩
@[irreducible] def half (name K : List UInt8) : List UInt8 := hP (strS name K 15) 6
theorem half_len (name K : List UInt8) : (half name K).length = 30 := by unfold half; exact hP_len _ 6
def haD (name K : List UInt8) : List UInt8 := if nmE name = 0 then half name K else []
theorem haD_len (name K : List UInt8) : (haD name K).length ≤ 30 := by unfold haD; split <;> simp [half_len]
/-- The document's table and the program's. -/
structure Lst (w : World) : Prop where
  k : Kst w
  p : Pst w
theorem Lst.on {w w' : World} (h : Lst w) (hb : Below w.heap.size w w') : Lst w' := ⟨h.k.on hb, h.p.on hb⟩
theorem errno_ne (a : Int) (W : World) (x y : Operand) : (do eqGuard .neq 28 x y (.int .i64 a) (.int .i64 0); binOp .neq 28 (.int .i64 a) (.int .i64 0) : Sem Value).run Tryd.prog W = .ok (.bool (decide (¬ a = 0))) W := int_ne_d a 0 W x y
set_option maxRecDepth 100000 in
set_option maxHeartbeats 1000000 in
theorem half_any (name K : List UInt8) (hK : K.length = 32) (w : World) (hL : Lst w) : Calls Tryd.prog 10 #[sv name, kv K] w fun e w' => e = .returned (.tuple #[sv (haD name K), .int .i64 (nmE name)]) ∧ Below w.heap.size w w' := by
  obtain ⟨w1, q, r1, b1, l1, hq⟩ := box23 K w
  obtain ⟨S, hSq, hH⟩ : ∃ S, Sq name K S ∧ half name K = hP (S 15) 6 := ⟨strS name K, strS_sq name K, by unfold half; rfl⟩
  refine calls_of_args [sv name, kv K] Tryd.func10 rfl 16 Tryd.ntmps10 (by show 2 ≤ 16; decide) ?_
  refine EW.seq ?_
  refine EW.region ?_
  refine WL.box rfl rfl rfl r1 ?_
  first | refine WL.assign rfl rfl rfl ?_
  first | refine WL.assign rfl rfl rfl ?_
  refine WL.done ?_
  refine EW.on ?_
  refine EW.seq ?_
  refine EW.seq ?_
  refine EW.region ?_
  first | refine WL.move rfl rfl rfl ?_
  refine WL.call [sv name] enter21 rfl rfl rfl (check_any name w1) ?_
  rintro _ wz ⟨rfl, hz⟩
  rw [hz]
  clear hz wz
  refine ⟨_, rfl, ?_⟩
  first | refine WL.assign rfl rfl rfl ?_
  refine WL.done ?_
  refine EW.on ?_
  refine EW.seq ?_
  refine EW.region ?_
  first | refine WL.move rfl rfl rfl ?_
  refine WL.bin rfl rfl rfl rfl (int_ne_d _ _ _ _ _) ?_
  refine WL.done ?_
  refine EW.on ?_
  refine EW.cond_d rfl (fun h10 => ?_) (fun h10 => ?_)
  · refine EW.seq ?_
    refine EW.region ?_
    first | refine WL.move rfl rfl rfl ?_
    first | refine WL.assign rfl rfl rfl ?_
    first | refine WL.assign rfl rfl rfl ?_
    refine WL.done ?_
    refine EW.on ?_
    refine EW.ret ?_
    refine pr_then ?_
    exact EW.returns2 Tryd.results10 rfl rfl ⟨by unfold haD; rw [if_neg h10]; rfl, l1⟩
  · refine EW.skip ?_
    refine EW.on ?_
    refine EW.seq ?_
    refine EW.region ?_
    first | refine WL.move rfl rfl rfl ?_
    refine WL.load rfl rfl rfl (ld23 b1 hK) ?_
    refine WL.call [sv name, kv K] enter23 rfl rfl rfl (stretched_any name K S hSq (nmE_ok.1 (by simpa using h10)).2 hK w1 (hL.on l1).k) ?_
    rintro _ w2 ⟨rfl, l2⟩
    refine ⟨_, rfl, ?_⟩
    refine WL.call [kv (S 15)] enter22 rfl rfl rfl (half_digits (S 15) (hSq.len 15) w2 ((hL.on l1).on l2).p) ?_
    rintro _ w3 ⟨rfl, l3⟩
    refine ⟨_, rfl, ?_⟩
    first | refine WL.assign rfl rfl rfl ?_
    first | refine WL.assign rfl rfl rfl ?_
    refine WL.done ?_
    refine EW.on ?_
    refine EW.ret ?_
    exact EW.returns2 Tryd.results10 rfl rfl ⟨by unfold haD; rw [if_pos (by simpa using h10), hH, show nmE name = 0 by simpa using h10], bt (bt l1 l2) l3⟩
def bhE (a b : List UInt8) : Int := if nmE a = 0 then nmE b else nmE a
/-- Two halves, the smaller one first. -/
def srt (x y : List UInt8) : List UInt8 := if Op.bytesLess y x then y ++ x else x ++ y
theorem srt_len (x y : List UInt8) : (srt x y).length = x.length + y.length := by unfold srt; split <;> simp <;> omega
def bhD (a ka b kb : List UInt8) : List UInt8 := if bhE a b = 0 then srt (half a ka) (half b kb) else []
theorem bhD_len {a b : List UInt8} (ka kb : List UInt8) (h : bhE a b = 0) : (bhD a ka b kb).length = 60 := by unfold bhD; rw [if_pos h, srt_len, half_len, half_len]
set_option maxRecDepth 100000 in
set_option maxHeartbeats 1000000 in
theorem both_any (a ka b kb : List UInt8) (hKa : ka.length = 32) (hKb : kb.length = 32) (w : World) (hL : Lst w) : Calls Tryd.prog 24 #[sv a, kv ka, sv b, kv kb] w fun e w' => e = .returned (.tuple #[sv (bhD a ka b kb), .int .i64 (bhE a b)]) ∧ Below w.heap.size w w' := by
  obtain ⟨w1, q1, r1, b1, l1, hq1⟩ := box23 ka w
  obtain ⟨w2, q2, r2, b2, l2, hq2⟩ := box23 kb w1
  refine calls_of_args [sv a, kv ka, sv b, kv kb] Tryd.func24 rfl 39 Tryd.ntmps24 (by show 4 ≤ 39; decide) ?_
  refine EW.seq ?_
  refine EW.region ?_
  refine WL.box rfl rfl rfl r1 ?_
  refine WL.box rfl rfl rfl r2 ?_
  first | refine WL.assign rfl rfl rfl ?_
  first | refine WL.assign rfl rfl rfl ?_
  refine WL.done ?_
  refine EW.on ?_
  refine EW.seq ?_
  refine EW.region ?_
  first | refine WL.move rfl rfl rfl ?_
  refine WL.load rfl rfl rfl (ld23 (b1.on l2) hKa) ?_
  refine WL.call [sv a, kv ka] enter10 rfl rfl rfl (half_any a ka hKa w2 ((hL.on l1).on l2)) ?_
  rintro _ w3 ⟨rfl, l3⟩
  refine ⟨_, rfl, ?_⟩
  first | refine WL.move rfl rfl rfl ?_
  first | refine WL.extract rfl rfl rfl (ext_2 _ _ _).1 ?_
  first | refine WL.extract rfl rfl rfl (ext_2 _ _ _).2 ?_
  first | refine WL.assign rfl rfl rfl ?_
  first | refine WL.assign rfl rfl rfl ?_
  refine WL.done ?_
  refine EW.on ?_
  refine EW.seq ?_
  refine EW.seq ?_
  refine EW.region ?_
  first | refine WL.move rfl rfl rfl ?_
  refine WL.bin rfl rfl rfl rfl (int_ne_d _ _ _ _ _) ?_
  refine WL.done ?_
  refine EW.on ?_
  refine EW.cond_d rfl (fun h20 => ?_) (fun h20 => ?_)
  · refine EW.seq ?_
    refine EW.region ?_
    first | refine WL.move rfl rfl rfl ?_
    first | refine WL.assign rfl rfl rfl ?_
    first | refine WL.assign rfl rfl rfl ?_
    refine WL.done ?_
    refine EW.on ?_
    refine EW.ret ?_
    refine pr_then ?_
    exact EW.returns2 Tryd.results24 rfl rfl ⟨by unfold bhD bhE; rw [if_neg h20, if_neg h20]; rfl, bt (bt l1 l2) l3⟩
  · refine EW.skip ?_
    refine EW.on ?_
    refine EW.seq ?_
    replace h20 : nmE a = 0 := by simpa using h20
    have ea : haD a ka = half a ka := by unfold haD; rw [if_pos h20]
    rw [ea]
    refine EW.region ?_
    first | refine WL.move rfl rfl rfl ?_
    refine WL.load rfl rfl rfl (ld23 (b2.on l3) hKb) ?_
    refine WL.call [sv b, kv kb] enter10 rfl rfl rfl (half_any b kb hKb w3 (((hL.on l1).on l2).on l3)) ?_
    rintro _ w4 ⟨rfl, l4⟩
    refine ⟨_, rfl, ?_⟩
    first | refine WL.move rfl rfl rfl ?_
    first | refine WL.extract rfl rfl rfl (ext_2 _ _ _).1 ?_
    first | refine WL.extract rfl rfl rfl (ext_2 _ _ _).2 ?_
    first | refine WL.assign rfl rfl rfl ?_
    first | refine WL.assign rfl rfl rfl ?_
    refine WL.done ?_
    refine EW.on ?_
    refine EW.seq ?_
    refine EW.seq ?_
    refine EW.region ?_
    first | refine WL.move rfl rfl rfl ?_
    refine WL.bin rfl rfl rfl rfl (int_ne_d _ _ _ _ _) ?_
    refine WL.done ?_
    refine EW.on ?_
    refine EW.cond_d rfl (fun h29 => ?_) (fun h29 => ?_)
    · refine EW.seq ?_
      refine EW.region ?_
      first | refine WL.move rfl rfl rfl ?_
      first | refine WL.assign rfl rfl rfl ?_
      first | refine WL.assign rfl rfl rfl ?_
      refine WL.done ?_
      refine EW.on ?_
      refine EW.ret ?_
      refine pr_then ?_
      exact EW.returns2 Tryd.results24 rfl rfl ⟨by unfold bhD bhE; rw [if_pos h20, if_neg h29]; rfl, bt (bt (bt l1 l2) l3) l4⟩
    · refine EW.skip ?_
      refine EW.on ?_
      refine EW.seq ?_
      refine EW.seq ?_
      replace h29 : nmE b = 0 := by simpa using h29
      have eb : haD b kb = half b kb := by unfold haD; rw [if_pos h29]
      rw [eb]
      refine EW.region ?_
      first | refine WL.move rfl rfl rfl ?_
      first | refine WL.move rfl rfl rfl ?_
      refine WL.bin rfl rfl rfl rfl (str_lt_d _ _ _ _ _) ?_
      refine WL.done ?_
      refine EW.on ?_
      refine EW.cond_b rfl (fun h33 => ?_) (fun h33 => ?_)
      · refine EW.region ?_
        first | refine WL.move rfl rfl rfl ?_
        first | refine WL.move rfl rfl rfl ?_
        first | refine WL.assign rfl rfl rfl ?_
        first | refine WL.assign rfl rfl rfl ?_
        refine WL.done ?_
        refine EW.on ?_
        refine EW.seq ?_
        refine EW.region ?_
        first | refine WL.move rfl rfl rfl ?_
        first | refine WL.move rfl rfl rfl ?_
        refine WL.bin rfl rfl rfl rfl (str_cat _ _ (by rw [half_len, half_len]; decide) _ _ _) ?_
        first | refine WL.assign rfl rfl rfl ?_
        first | refine WL.assign rfl rfl rfl ?_
        refine WL.done ?_
        refine EW.on ?_
        refine EW.ret ?_
        exact EW.returns2 Tryd.results24 rfl rfl ⟨by unfold bhD bhE srt; rw [if_pos h20, if_pos h29, if_pos h33, h29], bt (bt (bt l1 l2) l3) l4⟩
      · refine EW.skip ?_
        refine EW.on ?_
        refine EW.seq ?_
        refine EW.region ?_
        first | refine WL.move rfl rfl rfl ?_
        first | refine WL.move rfl rfl rfl ?_
        refine WL.bin rfl rfl rfl rfl (str_cat _ _ (by rw [half_len, half_len]; decide) _ _ _) ?_
        first | refine WL.assign rfl rfl rfl ?_
        first | refine WL.assign rfl rfl rfl ?_
        refine WL.done ?_
        refine EW.on ?_
        refine EW.ret ?_
        exact EW.returns2 Tryd.results24 rfl rfl ⟨by unfold bhD bhE srt; rw [if_pos h20, if_pos h29, if_neg (by simpa using h33), h29], bt (bt (bt l1 l2) l3) l4⟩
def grp (l : List UInt8) (k : Nat) : List UInt8 := (l.drop (5 * k)).take 5
/-- Groups of five with blanks between them. -/
def nG (l : List UInt8) : Nat → List UInt8
  | 0 => []
  | n + 1 => nG l n ++ ((if 0 < n then [32] else []) ++ grp l n)
theorem join_nG (l : List UInt8) : Lib.join ((List.range 12).map (grp l)) [32] = nG l 12 := by
  have e : List.range 12 = [0, 1, 2, 3, 4, 5, 6, 7, 8, 9, 10, 11] := by decide
  rw [e]
  simp [Lib.join, List.intercalate, nG]
theorem grp_len {l : List UInt8} (hl : l.length = 60) {k : Nat} (hk : k < 12) : (grp l k).length = 5 := by unfold grp; rw [List.length_take, List.length_drop]; omega
theorem nG_len {l : List UInt8} (hl : l.length = 60) : ∀ n, n ≤ 12 → (nG l n).length = 6 * n - 1
  | 0, _ => rfl
  | n + 1, h => by
    rw [nG, List.length_append, List.length_append, nG_len hl n (by omega), grp_len hl (by omega)]
    split <;> simp <;> omega
def iE (l : List UInt8) (x : Nat × Value) : List (Nat × Value) := [(0, sv l), (3, x.2), (4, .int .i64 ((5 * x.1 : Nat) : Int))]
theorem OwnS.row {w : World} {base : Nat} {v : Value} {ss : List (List UInt8)} (h : OwnS w base v ss) (hn : ss ≠ []) : ∃ g cap, v = .slice (some ⟨g, 0, none⟩) ss.length cap ∧ g < w.heap.size ∧ (ss.map sv).length ≤ cap ∧ ∀ j x, (ss.map sv)[j]? = some x → w.cell? ⟨g, j, none⟩ = some x := by
  obtain ⟨h1, ⟨_, h0⟩ | ⟨g, cap, cur, hv, hg, hh, hn', hc, hs, ht⟩⟩ := h
  · exact absurd (List.eq_nil_of_length_eq_zero h0) hn
  · refine ⟨g, cap, hv, (Array.getElem?_eq_some_iff.1 hh).1, by rw [List.length_map]; exact hn', fun j x hj => ?_⟩
    have hj' : j < ss.length := by have := (List.getElem?_eq_some_iff.1 hj).1; simpa using this
    rw [← ht, Nat.mul_one, List.getElem?_take_of_lt hj', Array.getElem?_toList] at hj
    simp [World.cell?, hh, hj]
theorem join_at (l : List UInt8) (hl : l.length = 60) (g cap : Nat) (W : World) (hg : g < W.heap.size) (hcap : 12 ≤ cap) (hcell : ∀ j x, (((List.range 12).map (grp l)).map sv)[j]? = some x → W.cell? ⟨g, j, none⟩ = some x) : Calls Tryd.prog 36 #[.slice (some ⟨g, 0, none⟩) 12 cap, .string ⟨#[32]⟩] W fun e w' => e = .returned (sv (nG l 12)) ∧ Below W.heap.size W w' := by
  have hx : ((((List.range 12).map (grp l)).map fun s => (⟨s.toArray⟩ : ByteArray)).map (·.data.toList)) = (List.range 12).map (grp l) := by
    rw [List.map_map]
    conv => rhs; rw [← List.map_id ((List.range 12).map (grp l))]
    apply List.map_congr_left
    intro s _
    simp
  have hj := join_any g 0 cap (((List.range 12).map (grp l)).map fun s => (⟨s.toArray⟩ : ByteArray)) ⟨#[32]⟩ W (fun j x hx => by
    rw [Nat.zero_add]
    refine hcell j (.string x) ?_
    rw [List.getElem?_map, Option.map_eq_some_iff] at hx ⊢
    obtain ⟨s, h1, h2⟩ := hx
    exact ⟨s, h1, by rw [← h2]; rfl⟩) hg (by simp) (by simpa using hcap) (by
      rw [hx]
      show (Lib.join _ [32]).length ≤ _
      rw [join_nG, nG_len hl 12 (Nat.le_refl _)]; decide)
  rw [hx] at hj
  have e12 : (((List.range 12).map (grp l)).map fun s => (⟨s.toArray⟩ : ByteArray)).length = 12 := by simp
  rw [e12] at hj
  refine hj.mono fun e w' h => ⟨?_, h.2⟩
  rw [h.1]
  show Ending.returned (.string ⟨(Lib.join _ [32]).toArray⟩) = _
  rw [join_nG]; rfl
set_option maxRecDepth 100000 in
set_option maxHeartbeats 1000000 in
theorem groups_any (l : List UInt8) (hl : l.length = 60) (w : World) : Calls Tryd.prog 25 #[sv l] w fun e w' => e = .returned (sv (nG l 12)) ∧ Below w.heap.size w w' := by
  have hJ := join_at l hl
  refine calls_of_args [sv l] Tryd.func25 rfl 21 Tryd.ntmps25 (by show 1 ≤ 21; decide) ?_
  refine EW.seq ?_
  refine EW.region ?_
  first | refine WL.assign rfl rfl rfl ?_
  refine WL.done ?_
  refine EW.on ?_
  refine EW.seq ?_
  refine EW.region ?_
  first | refine WL.assign rfl rfl rfl ?_
  refine WL.done ?_
  refine EW.on ?_
  refine EW.seq ?_
  refine EW.seq ?_
  refine EW.region ?_
  first | refine WL.assign rfl rfl rfl ?_
  refine WL.done ?_
  refine EW.on ?_
  refine EW.block ?_
  refine EW.loop (iE l) (fun x W => x.1 ≤ 12 ∧ OwnS W w.heap.size x.2 ((List.range x.1).map (grp l)) ∧ Below w.heap.size w W) (fun x => 12 - x.1) (0, .slice none 0 0) [0, 3, 4] rfl ⟨by omega, OwnS.nil _ _, Below.refl _ _⟩ ?_
  rintro x W ⟨hx, hO, hb⟩
  refine EW.seq ?_
  refine EW.seq ?_
  refine EW.region ?_
  first | refine WL.move rfl rfl rfl ?_
  first | refine WL.move rfl rfl rfl ?_
  refine WL.len rfl rfl rfl (len_s _ _ _) ?_
  refine WL.bin rfl rfl rfl rfl (int_lt_d _ _ _ _ _) ?_
  refine WL.done ?_
  refine EW.on ?_
  refine EW.cond_d rfl (fun h8 => ?_) (fun h8 => ?_)
  · refine EW.skip ?_
    refine EW.on ?_
    refine EW.seq ?_
    refine EW.block ?_
    refine EW.region ?_
    first | refine WL.move rfl rfl rfl ?_
    first | refine WL.move rfl rfl rfl ?_
    first | refine WL.move rfl rfl rfl ?_
    first | refine WL.move rfl rfl rfl ?_
    refine WL.bin rfl rfl rfl rfl (int_add (c := ((5 * x.1 + 5 : Nat) : Int)) (by rw [IntKind.wrap_i64]; omega) _ _ _) ?_
    refine WL.slice2 rfl rfl rfl rfl rfl (cut_s l (5 * x.1) (5 * x.1 + 5) (by omega) (by omega) _) ?_
    rw [show (l.drop (5 * x.1)).take (5 * x.1 + 5 - 5 * x.1) = grp l x.1 by unfold grp; congr 1; omega]
    obtain ⟨t1, W1, v2, W2, p1, p2, o2, lb2⟩ := hO.push (grp l x.1) (by rw [List.length_map, List.length_range]; omega) hb.size 41
    refine WL.bslN [(0, sv (grp l x.1))] rfl rfl rfl p1 ?_
    refine WL.app rfl rfl rfl rfl p2 ?_
    first | refine WL.assign rfl rfl rfl ?_
    refine WL.done ?_
    refine pn_block ?_
    refine EW.on ?_
    refine EW.region ?_
    first | refine WL.move rfl rfl rfl ?_
    refine WL.bin rfl rfl rfl rfl (int_add (c := ((5 * (x.1 + 1) : Nat) : Int)) (by rw [IntKind.wrap_i64]; omega) _ _ _) ?_
    first | refine WL.assign rfl rfl rfl ?_
    refine WL.done ?_
    exact EW.again (E := iE l) (R := fun x W => x.1 ≤ 12 ∧ OwnS W w.heap.size x.2 ((List.range x.1).map (grp l)) ∧ Below w.heap.size w W) (m := fun x => 12 - x.1) (x := x) (x.1 + 1, v2) [0, 3, 4] rfl ⟨by show x.1 + 1 ≤ 12; omega, by show OwnS W2 _ v2 ((List.range (x.1 + 1)).map (grp l)); rw [List.range_succ, List.map_append]; exact o2, hb.trans lb2⟩ (by show 12 - (x.1 + 1) < 12 - x.1; omega)
  · refine EW.exit ?_
    refine px_then ?_
    refine px_then ?_
    refine px_block ?_
    refine EW.on ?_
    refine EW.seq ?_
    have h12 : x.1 = 12 := by omega
    rw [h12] at hO
    refine EW.region ?_
    first | refine WL.move rfl rfl rfl ?_
    obtain ⟨g, cap, hvx, hg, hcap, hcell⟩ := hO.row (by simp)
    rw [List.length_map, List.length_map, List.length_range] at hcap
    rw [List.length_map, List.length_range] at hvx
    rw [hvx]
    refine WL.call [.slice (some ⟨g, 0, none⟩) 12 cap, .string ⟨#[32]⟩] enter36 rfl rfl rfl (hJ g cap W hg hcap hcell) ?_
    rintro _ W2 ⟨rfl, l2⟩
    refine ⟨_, rfl, ?_⟩
    first | refine WL.assign rfl rfl rfl ?_
    refine WL.done ?_
    refine EW.on ?_
    refine EW.ret ?_
    exact EW.returns Tryd.results25 rfl ⟨rfl, bt hb l2⟩
end Go.Proofs.YtnfikgnploockaaDoor
