import Derived.Test.YtggehhlobjjmpaaRf
set_option linter.unusedVariables false
set_option linter.unusedSimpArgs false
namespace Go.Proofs.Ytggehhlobjjmpaa
open Go.RowKit

set_option maxRecDepth 100000 in
set_option maxHeartbeats 1000000 in
theorem step_else {w0 w : World} {dk p r q : Nat} {v : Value} {most : Nat} {E : List Me} {c : Nat} {L : List Sk} (D : Ds w0 dk p r q v most E c L w) (kd : Int) (h1 : ¬ kd = 1) (h2 : ¬ kd = 2) (h3 : ¬ kd = 3) (h4 : ¬ kd = 4) (h5 : ¬ kd = 5) (t n : Nat) (kw : Value) : Calls Try.prog 17 #[.pointer (some ⟨dk, 0, none⟩), opV kd t n kw] w fun e w' => e = .returned (.bool true) ∧ ∃ p' r' v' E' c' L', Ds w0 dk p' r' q v' most E' c' L' w' := by
  obtain ⟨w1, q3, r3, b3, l1, hq3⟩ := box55 kd t n kw w
  have D1 := D.on l1
  have hNE := D.ne
  obtain ⟨hLE, hL256⟩ := D.Ll
  have hdk := D.bl.lt
  have hpw := D.tb.bl.lt
  have hrw := D.tb.mp.ltb
  have hqw := D.rt.bl.lt
  refine calls_of_args [.pointer (some ⟨dk, 0, none⟩), opV kd t n kw] Try.func17 rfl 226 Try.ntmps17 (by show 2 ≤ 226; decide) ?_
  refine EW.seq ?_
  refine EW.region ?_
  refine WL.box rfl rfl rfl r3 ?_
  first | refine WL.assign rfl rfl rfl ?_
  refine WL.done ?_
  refine EW.on ?_
  refine EW.seq ?_
  refine EW.seq ?_
  refine EW.region ?_
  refine WL.field rfl rfl rfl (f55_0 q3 _) ?_
  refine WL.load rfl rfl rfl (ldI b3 rfl) ?_
  refine WL.done ?_
  refine EW.on ?_
  refine EW.block ?_
  refine EW.seq ?_
  refine EW.region ?_
  first | refine WL.bin rfl rfl rfl rfl (int_eq_t rfl _ _ _) ?_ | refine WL.bin rfl rfl rfl rfl (int_eq_t ‹_› _ _ _) ?_ | refine WL.bin rfl rfl rfl rfl (int_eq_f ‹_› _ _ _) ?_ | refine WL.bin rfl rfl rfl rfl (int_eq_d _ _ _ _ _) ?_
  first | refine WL.assign rfl rfl rfl ?_
  refine WL.done ?_
  refine EW.on ?_
  refine EW.cond_f rfl ?_
  refine EW.seq ?_
  refine EW.region ?_
  first | refine WL.bin rfl rfl rfl rfl (int_eq_t rfl _ _ _) ?_ | refine WL.bin rfl rfl rfl rfl (int_eq_t ‹_› _ _ _) ?_ | refine WL.bin rfl rfl rfl rfl (int_eq_f ‹_› _ _ _) ?_ | refine WL.bin rfl rfl rfl rfl (int_eq_d _ _ _ _ _) ?_
  first | refine WL.assign rfl rfl rfl ?_
  refine WL.done ?_
  refine EW.on ?_
  refine EW.cond_f rfl ?_
  refine EW.seq ?_
  refine EW.region ?_
  first | refine WL.bin rfl rfl rfl rfl (int_eq_t rfl _ _ _) ?_ | refine WL.bin rfl rfl rfl rfl (int_eq_t ‹_› _ _ _) ?_ | refine WL.bin rfl rfl rfl rfl (int_eq_f ‹_› _ _ _) ?_ | refine WL.bin rfl rfl rfl rfl (int_eq_d _ _ _ _ _) ?_
  first | refine WL.assign rfl rfl rfl ?_
  refine WL.done ?_
  refine EW.on ?_
  refine EW.cond_f rfl ?_
  refine EW.seq ?_
  refine EW.region ?_
  first | refine WL.bin rfl rfl rfl rfl (int_eq_t rfl _ _ _) ?_ | refine WL.bin rfl rfl rfl rfl (int_eq_t ‹_› _ _ _) ?_ | refine WL.bin rfl rfl rfl rfl (int_eq_f ‹_› _ _ _) ?_ | refine WL.bin rfl rfl rfl rfl (int_eq_d _ _ _ _ _) ?_
  first | refine WL.assign rfl rfl rfl ?_
  refine WL.done ?_
  refine EW.on ?_
  refine EW.cond_f rfl ?_
  refine EW.seq ?_
  refine EW.region ?_
  first | refine WL.bin rfl rfl rfl rfl (int_eq_t rfl _ _ _) ?_ | refine WL.bin rfl rfl rfl rfl (int_eq_t ‹_› _ _ _) ?_ | refine WL.bin rfl rfl rfl rfl (int_eq_f ‹_› _ _ _) ?_ | refine WL.bin rfl rfl rfl rfl (int_eq_d _ _ _ _ _) ?_
  first | refine WL.assign rfl rfl rfl ?_
  refine WL.done ?_
  refine EW.on ?_
  refine EW.cond_f rfl ?_
  refine EW.skip ?_
  refine pn_block ?_
  refine EW.on ?_
  refine EW.seq ?_
  refine EW.region ?_
  first | refine WL.assign rfl rfl rfl ?_
  refine WL.done ?_
  refine EW.on ?_
  refine EW.ret ?_
  exact EW.returns Try.results17 rfl ⟨rfl, p, r, v, E, c, L, D1⟩
set_option maxRecDepth 100000 in
set_option maxHeartbeats 4000000 in
theorem step_list {w0 w : World} {dk p r q : Nat} {v : Value} {most : Nat} {E : List Me} {c : Nat} {L : List Sk} (D : Ds w0 dk p r q v most E c L w) (t n : Nat) (kw : Value) : Calls Try.prog 17 #[.pointer (some ⟨dk, 0, none⟩), opV 4 t n kw] w fun e w' => e = .returned (.bool true) ∧ ∃ p' r' v' E' c' L', Ds w0 dk p' r' q v' most E' c' L' w' := by
  obtain ⟨w1, q3, r3, b3, l1, hq3⟩ := box55 4 t n kw w
  have D1 := D.on l1
  have hNE := D.ne
  obtain ⟨hLE, hL256⟩ := D.Ll
  have hdk := D.bl.lt
  have hpw := D.tb.bl.lt
  have hrw := D.tb.mp.ltb
  have hqw := D.rt.bl.lt
  have n41 : ¬ (4 : Int) = 1 := by decide
  have n42 : ¬ (4 : Int) = 2 := by decide
  have n43 : ¬ (4 : Int) = 3 := by decide
  have n45 : ¬ (4 : Int) = 5 := by decide
  refine calls_of_args [.pointer (some ⟨dk, 0, none⟩), opV 4 t n kw] Try.func17 rfl 226 Try.ntmps17 (by show 2 ≤ 226; decide) ?_
  refine EW.seq ?_
  refine EW.region ?_
  refine WL.box rfl rfl rfl r3 ?_
  first | refine WL.assign rfl rfl rfl ?_
  refine WL.done ?_
  refine EW.on ?_
  refine EW.seq ?_
  refine EW.seq ?_
  refine EW.region ?_
  refine WL.field rfl rfl rfl (f55_0 q3 _) ?_
  refine WL.load rfl rfl rfl (ldI b3 rfl) ?_
  refine WL.done ?_
  refine EW.on ?_
  refine EW.block ?_
  refine EW.seq ?_
  refine EW.region ?_
  first | refine WL.bin rfl rfl rfl rfl (int_eq_t rfl _ _ _) ?_ | refine WL.bin rfl rfl rfl rfl (int_eq_t ‹_› _ _ _) ?_ | refine WL.bin rfl rfl rfl rfl (int_eq_f ‹_› _ _ _) ?_ | refine WL.bin rfl rfl rfl rfl (int_eq_d _ _ _ _ _) ?_
  first | refine WL.assign rfl rfl rfl ?_
  refine WL.done ?_
  refine EW.on ?_
  refine EW.cond_f rfl ?_
  refine EW.seq ?_
  refine EW.region ?_
  first | refine WL.bin rfl rfl rfl rfl (int_eq_t rfl _ _ _) ?_ | refine WL.bin rfl rfl rfl rfl (int_eq_t ‹_› _ _ _) ?_ | refine WL.bin rfl rfl rfl rfl (int_eq_f ‹_› _ _ _) ?_ | refine WL.bin rfl rfl rfl rfl (int_eq_d _ _ _ _ _) ?_
  first | refine WL.assign rfl rfl rfl ?_
  refine WL.done ?_
  refine EW.on ?_
  refine EW.cond_f rfl ?_
  refine EW.seq ?_
  refine EW.region ?_
  first | refine WL.bin rfl rfl rfl rfl (int_eq_t rfl _ _ _) ?_ | refine WL.bin rfl rfl rfl rfl (int_eq_t ‹_› _ _ _) ?_ | refine WL.bin rfl rfl rfl rfl (int_eq_f ‹_› _ _ _) ?_ | refine WL.bin rfl rfl rfl rfl (int_eq_d _ _ _ _ _) ?_
  first | refine WL.assign rfl rfl rfl ?_
  refine WL.done ?_
  refine EW.on ?_
  refine EW.cond_f rfl ?_
  refine EW.seq ?_
  refine EW.region ?_
  first | refine WL.bin rfl rfl rfl rfl (int_eq_t rfl _ _ _) ?_ | refine WL.bin rfl rfl rfl rfl (int_eq_t ‹_› _ _ _) ?_ | refine WL.bin rfl rfl rfl rfl (int_eq_f ‹_› _ _ _) ?_ | refine WL.bin rfl rfl rfl rfl (int_eq_d _ _ _ _ _) ?_
  first | refine WL.assign rfl rfl rfl ?_
  refine WL.done ?_
  refine EW.on ?_
  refine EW.cond_t rfl ?_
  refine EW.seq ?_
  refine EW.ordB [(0, 0, 0), (1, 0, 0), (2, 0, 0), (3, 0, 1), (5, 0, 0), (6, 0, 0), (7, 0, 0), (8, 0, 1), (9, 0, 0), (10, 0, 0), (11, 0, 1), (12, 0, 0), (4, 1, 1), (13, 0, 0), (14, 0, 0), (15, 0, 0), (16, 0, 0), (17, 0, 0), (18, 0, 1), (20, 0, 0), (21, 0, 0), (22, 0, 0), (23, 0, 1), (24, 0, 0), (25, 0, 0), (26, 0, 1), (19, 1, 1), (27, 1, 1), (28, 0, 0), (29, 0, 0)] (by kernel_rfl) rfl (by kernel_rfl) ?_
  simp only [opsZ, List.getD_cons_zero, List.getD_cons_succ]
  first | refine ZE.move rfl rfl rfl rfl sz0 ?_
  first | refine ZE.nilc rfl rfl rfl rfl sz0 ?_
  refine ZE.field rfl rfl rfl rfl sz0 (fun W => g52_0 dk W) ?_
  refine ZE.load rfl rfl rfl rfl sz1 (fun W hW => ldP24 (D1.bl.on (sb_of hW)) rfl) ?_
  first | refine ZE.move rfl rfl rfl rfl sz0 ?_
  first | refine ZE.nilc rfl rfl rfl rfl sz0 ?_
  refine ZE.field rfl rfl rfl rfl sz0 (fun W => g52_1 dk W) ?_
  refine ZE.load rfl rfl rfl rfl sz1 (fun W hW => ldP45 (D1.bl.on (sb_of hW)) rfl) ?_
  first | refine ZE.nilc rfl rfl rfl rfl sz0 ?_
  refine ZE.field rfl rfl rfl rfl sz0 (fun W => g68_0 q W) ?_
  refine ZE.load rfl rfl rfl rfl sz1 (fun W hW => ldL (D1.rt.on (sb_of hW))) ?_
  refine ZE.len rfl rfl rfl rfl sz0 (fun W => D1.rt.so.sl.len W _) ?_
  refine ZE.callV [.pointer (some ⟨p, 0, none⟩)] (.int .i64 (E.length : Int)) (fun W => Below w1.heap.size w1 W) enter8 rfl rfl rfl (fun _ h => .inr h) (fun W hW => (len_any (D1.on hW).tb).mono fun e w' ⟨h1, h2⟩ => ⟨h1, by rw [h2]; exact hW⟩) ?_
  refine ZE.bin rfl rfl rfl rfl rfl sz0 (fun W => int_eq_t (by omega) W _ _) ?_
  first | refine ZE.move rfl rfl rfl rfl sz0 ?_
  first | refine ZE.move rfl rfl rfl rfl sz0 ?_ | refine ZE.skip rfl rfl rfl sz0 ?_
  first | refine ZE.nilc rfl rfl rfl rfl sz0 ?_ | refine ZE.skip rfl rfl rfl sz0 ?_
  refine ZE.field rfl rfl rfl rfl sz0 (fun W => g52_0 dk W) ?_
  refine ZE.load rfl rfl rfl rfl sz1 (fun W hW => ldP24 (D1.bl.on (sb_of hW)) rfl) ?_
  first | refine ZE.move rfl rfl rfl rfl sz0 ?_ | refine ZE.skip rfl rfl rfl sz0 ?_
  first | refine ZE.nilc rfl rfl rfl rfl sz0 ?_ | refine ZE.skip rfl rfl rfl sz0 ?_
  refine ZE.field rfl rfl rfl rfl sz0 (fun W => g52_1 dk W) ?_
  refine ZE.load rfl rfl rfl rfl sz1 (fun W hW => ldP45 (D1.bl.on (sb_of hW)) rfl) ?_
  first | refine ZE.nilc rfl rfl rfl rfl sz0 ?_ | refine ZE.skip rfl rfl rfl sz0 ?_
  refine ZE.field rfl rfl rfl rfl sz0 (fun W => g68_0 q W) ?_
  refine ZE.load rfl rfl rfl rfl sz1 (fun W hW => ldL (D1.rt.on (sb_of hW))) ?_
  refine ZE.callR [.pointer (some ⟨p, 0, none⟩)] (fun u W => So W u L ∧ Below w1.heap.size w1 W) enter11 rfl rfl rfl (fun _ _ h => .inr h.2) (fun W hW => (list_any (D1.on hW).tb (by omega)).mono fun e w' ⟨u, l, h1, h2, h3, h4, h5, h6⟩ => ⟨u, h1, by rw [← asc_uniq (h2.trans D.pm) h3 D.lt]; exact h4, bt hW h6⟩) ?_
  rintro u ⟨W0, hu0, _⟩
  refine ZE.sub (fun W => So W u L ∧ Below w1.heap.size w1 W) (fun W h => h) ?_
  refine ZE.callV [u, v] (.bool true) (fun W => Below w1.heap.size w1 W) enter13 rfl rfl rfl (fun _ h => .inr h) (fun W hW => (sameL_any hW.1.sl (D1.on hW.2).rt.so.sl (by omega)).mono fun e w' ⟨h1, h2⟩ => ⟨h1, bt hW.2 h2⟩) ?_
  first | refine ZE.pick rfl rfl rfl rfl rfl sz0 ?_
  first | refine ZE.assign rfl rfl rfl rfl sz0 ?_
  rintro W hW
  refine EW.on ?_
  refine EW.ret ?_
  refine pr_block ?_
  refine pr_then ?_
  exact EW.returns Try.results17 rfl ⟨rfl, p, r, v, E, c, L, D1.on hW⟩
theorem eql29_same {K K' : List UInt8} (h : K.length = 32) (e : K = K') (W : World) (x y : Operand) : (do eqGuard .eql 29 x y (kv K) (kv K'); binOp .eql 29 (kv K) (kv K') : Sem Value).run Try.prog W = .ok (.bool true) W := by
  subst e
  have := eql29 K K h h W x y
  simpa using this
theorem lkL_ok {w : World} {v : Value} {L : List Sk} (h : So w v L) (t n : Nat) : ((lkL L t n).getD z32).length = 32 := by
  unfold lkL
  cases hf : L.find? (isP t n) with
  | none => rfl
  | some s => exact (h.ok s (List.mem_of_find?_eq_some hf)).k
theorem fx_new {g q : Nat} {a b c : World} (h : Fx (fun k => k = g) a b) (k : Fx (fun k => k = q) b c) (hq : a.heap.size ≤ q) : Fx (fun k => k = g) a c := h.trans k (fun i hi e => by omega)
set_option maxRecDepth 100000 in
set_option maxHeartbeats 8000000 in
theorem step_find {w0 w : World} {dk p r q : Nat} {v : Value} {most : Nat} {E : List Me} {c : Nat} {L : List Sk} (D : Ds w0 dk p r q v most E c L w) (t n : Nat) (kw : Value) : Calls Try.prog 17 #[.pointer (some ⟨dk, 0, none⟩), opV 2 t n kw] w fun e w' => e = .returned (.bool true) ∧ ∃ p' r' v' E' c' L', Ds w0 dk p' r' q v' most E' c' L' w' := by
  obtain ⟨w1, q3, r3, b3, l1, hq3⟩ := box55 2 t n kw w
  have D1 := D.on l1
  have hNE := D.ne
  obtain ⟨hLE, hL256⟩ := D.Ll
  have hdk := D.bl.lt
  have hpw := D.tb.bl.lt
  have hrw := D.tb.mp.ltb
  have hqw := D.rt.bl.lt
  have n21 : ¬ (2 : Int) = 1 := by decide
  have n23 : ¬ (2 : Int) = 3 := by decide
  have n24 : ¬ (2 : Int) = 4 := by decide
  have n25 : ¬ (2 : Int) = 5 := by decide
  refine calls_of_args [.pointer (some ⟨dk, 0, none⟩), opV 2 t n kw] Try.func17 rfl 226 Try.ntmps17 (by show 2 ≤ 226; decide) ?_
  refine EW.seq ?_
  refine EW.region ?_
  refine WL.box rfl rfl rfl r3 ?_
  first | refine WL.assign rfl rfl rfl ?_
  refine WL.done ?_
  refine EW.on ?_
  refine EW.seq ?_
  refine EW.seq ?_
  refine EW.region ?_
  refine WL.field rfl rfl rfl (f55_0 q3 _) ?_
  refine WL.load rfl rfl rfl (ldI b3 rfl) ?_
  refine WL.done ?_
  refine EW.on ?_
  refine EW.block ?_
  refine EW.seq ?_
  refine EW.region ?_
  first | refine WL.bin rfl rfl rfl rfl (int_eq_t rfl _ _ _) ?_ | refine WL.bin rfl rfl rfl rfl (int_eq_t ‹_› _ _ _) ?_ | refine WL.bin rfl rfl rfl rfl (int_eq_f ‹_› _ _ _) ?_ | refine WL.bin rfl rfl rfl rfl (int_eq_d _ _ _ _ _) ?_
  first | refine WL.assign rfl rfl rfl ?_
  refine WL.done ?_
  refine EW.on ?_
  refine EW.cond_f rfl ?_
  refine EW.seq ?_
  refine EW.region ?_
  first | refine WL.bin rfl rfl rfl rfl (int_eq_t rfl _ _ _) ?_ | refine WL.bin rfl rfl rfl rfl (int_eq_t ‹_› _ _ _) ?_ | refine WL.bin rfl rfl rfl rfl (int_eq_f ‹_› _ _ _) ?_ | refine WL.bin rfl rfl rfl rfl (int_eq_d _ _ _ _ _) ?_
  first | refine WL.assign rfl rfl rfl ?_
  refine WL.done ?_
  refine EW.on ?_
  refine EW.cond_t rfl ?_
  refine EW.seq ?_
  have hg1 : ¬ dk = r := hNE.1
  have ho1 : ¬ q3 = r := by omega
  have C1 : Cl w1 r 9 [.pointer (some ⟨p, 0, none⟩), u32v t, u32v n] (.tuple #[kv ((lkE E t n).getD z32), .int .i64 (fdN (lkE E t n))]) (fun W => Below w1.heap.size w1 W) := ⟨fun W h => Fx.of_below h, fun W W' h k => bt h k, fun W W' q9 _ hq _ h k => bfx h k hq, fun W hW => (find_any (D1.tb.on hW) t n).mono fun e w' ⟨h1, h2⟩ => ⟨h1, bt hW h2, Fx.of_below h2⟩, by have := l1.size; omega⟩
  obtain ⟨X1, hX1⟩ : ∃ X : World → Prop, X = (fun W => Below w1.heap.size w1 W) := ⟨_, rfl⟩
  obtain ⟨K1, hK1e⟩ : ∃ K, K = (lkE E t n).getD z32 := ⟨_, rfl⟩
  obtain ⟨F1, hF1e⟩ : ∃ F, F = fdN (lkE E t n) := ⟨_, rfl⟩
  rw [← hX1, ← hK1e, ← hF1e] at C1
  have hK1 : K1.length = 32 := by rw [hK1e]; exact lk_ok D.tb.mp t n
  refine EW.az (SQ (fun W => Fx (fun k => k = r) w1 W)) (levZ [(8, 1, 1), (12, 1, 1), (13, 1, 1)]) (fun W => Below w1.heap.size w1 W) 15 (by kernel_rfl) rfl (below_drawn w1) ?_
  refine AZ.seg [(0, 0, 0), (1, 0, 0), (2, 0, 0), (3, 0, 1), (4, 0, 0), (5, 0, 1), (6, 0, 0), (7, 0, 1)] 7 rfl (by kernel_rfl) (sq_anti _) (by kernel_rfl) ?_
  simp only [opsZ, List.getD_cons_zero, List.getD_cons_succ]
  first | refine ZE.move rfl rfl rfl rfl sq0 ?_
  first | refine ZE.nilc rfl rfl rfl rfl sq0 ?_
  refine ZE.field rfl rfl rfl rfl sq0 (fun W => g52_0 dk W) ?_
  refine ZE.load rfl rfl rfl rfl (fun W h => .inr (Fx.of_below h)) (fun W hW => ldP24 (D1.bl.fx (sq_of hW) hg1) rfl) ?_
  refine ZE.field rfl rfl rfl rfl sq0 (fun W => f55_1 q3 W) ?_
  first | refine ZE.load rfl rfl rfl rfl (fun W h => .inr (Fx.of_below h)) (fun W hW => (b3.fx (sq_of hW) ho1).ldU (a := [.int .i64 2]) (b := [u32v n, kw]) (n := t) (o := 1) rfl rfl) ?_ | refine ZE.load rfl rfl rfl rfl (fun W h => .inr (Fx.of_below h)) (fun W hW => (b3.fx (sq_of hW) ho1).ldU (a := [.int .i64 2, u32v t]) (b := [kw]) (n := n) (o := 2) rfl rfl) ?_
  refine ZE.field rfl rfl rfl rfl sq0 (fun W => f55_2 q3 W) ?_
  first | refine ZE.load rfl rfl rfl rfl (fun W h => .inr (Fx.of_below h)) (fun W hW => (b3.fx (sq_of hW) ho1).ldU (a := [.int .i64 2]) (b := [u32v n, kw]) (n := t) (o := 1) rfl rfl) ?_ | refine ZE.load rfl rfl rfl rfl (fun W h => .inr (Fx.of_below h)) (fun W hW => (b3.fx (sq_of hW) ho1).ldU (a := [.int .i64 2, u32v t]) (b := [kw]) (n := n) (o := 2) rfl rfl) ?_
  refine AZ.two 6 8 1 12 1 rfl (by kernel_rfl) ?_ ?_
  · simp only [List.getD_cons_zero, List.getD_cons_succ]
    refine ZE.callR [.pointer (some ⟨p, 0, none⟩), u32v t, u32v n] (fun u W => u = (.tuple #[kv K1, .int .i64 F1]) ∧ X1 W) enter9 rfl rfl rfl (fun _ W h => .inr (C1.fx W h.2)) (fun W hW => (C1.cl W hW).mono fun e w' ⟨h1, h2, _⟩ => ⟨_, h1, rfl, h2⟩) ?_
    rintro u1 ⟨_, rfl, _⟩
    refine AZ.seg [(9, 0, 0), (10, 0, 0), (11, 0, 0), (12, 1, 1), (13, 1, 1), (14, 0, 0)] 0 rfl (by kernel_rfl) (sq_anti _) (by kernel_rfl) ?_
    simp only [opsZ, List.getD_cons_zero, List.getD_cons_succ]
    first | refine ZE.move rfl rfl rfl rfl sq0 ?_
    refine ZE.extract rfl rfl rfl rfl sq0 (fun W => (ext_2 _ _ W).1) ?_
    refine ZE.extract rfl rfl rfl rfl sq0 (fun W => (ext_2 _ _ W).2) ?_
    refine ZE.newW (fun u W => ∃ q9, u = .pointer (some ⟨q9, 0, none⟩) ∧ w1.heap.size ≤ q9 ∧ Blk W q9 (z32.map byt) 29 ∧ X1 W) rfl rfl (fun _ W ⟨_, _, _, _, h⟩ => .inr (C1.fx W h)) (fun W hW => ?_) ?_
    · obtain ⟨w9, q9, n1, n2, n3, n4⟩ := new29 W
      exact ⟨_, w9, n1, q9, rfl, by have := (C1.fx W hW.2).size; omega, n2, C1.on W w9 hW.2 n3⟩
    rintro vq ⟨_, q1, rfl, hq1, _, _⟩
    refine ZE.store (fun W => Blk W q1 (K1.map byt) 29 ∧ X1 W) rfl rfl rfl (fun W h => .inr (C1.fx W h.2)) (fun W ⟨q9, e9, _, hB9, hX9⟩ => ?_) ?_
    · cases e9
      obtain ⟨w9, n1, n2, n3⟩ := st29 hB9 z32l hK1
      exact ⟨w9, n1, n2, C1.st W w9 q1 _ hq1 hB9 hX9 n3⟩
    first | refine ZE.assign rfl rfl rfl rfl sq0 ?_
    refine AZ.done (by kernel_rfl) ?_
    rintro w4 ⟨bA, hx⟩
    refine EW.on ?_
    refine EW.seq ?_
    rw [hX1] at hx
    have D4 := D1.on hx
    have bl4 := D4.bl
    have rt4 := D4.rt
    have b34 := b3.on hx
    have hg2 : ¬ dk = q := hNE.2.1
    have ho2 : ¬ q3 = q := by omega
    have C2 : Cl w4 q 26 [.pointer (some ⟨q, 0, none⟩), u32v t, u32v n] (.tuple #[kv ((lkL L t n).getD z32), .int .i64 (fdN (lkL L t n))]) (fun W => Below w4.heap.size w4 W) := ⟨fun W h => Fx.of_below h, fun W W' h k => bt h k, fun W W' q9 _ hq _ h k => bfx h k hq, fun W hW => (rfind_any (rt4.on hW) (by omega) t n).mono fun e w' ⟨h1, h2⟩ => ⟨h1, bt hW h2, Fx.of_below h2⟩, by have := rt4.bl.lt; omega⟩
    obtain ⟨X2, hX2⟩ : ∃ X : World → Prop, X = (fun W => Below w4.heap.size w4 W) := ⟨_, rfl⟩
    obtain ⟨K2, hK2e⟩ : ∃ K, K = (lkL L t n).getD z32 := ⟨_, rfl⟩
    obtain ⟨F2, hF2e⟩ : ∃ F, F = fdN (lkL L t n) := ⟨_, rfl⟩
    rw [← hX2, ← hK2e, ← hF2e] at C2
    have hK2 : K2.length = 32 := by rw [hK2e]; exact lkL_ok D.rt.so t n
    have hKe : K1 = K2 := by rw [hK1e, hK2e, lk_eq D.pm D.tb.mp.nd]
    have hFe : F1 = F2 := by rw [hF1e, hF2e, lk_eq D.pm D.tb.mp.nd]
    have hq1w := bA.lt
    refine EW.az (SQ (fun W => Fx (fun k => k = q) w4 W)) (levZ [(8, 1, 1), (12, 1, 1), (13, 1, 1)]) (fun W => Below w4.heap.size w4 W) 15 (by kernel_rfl) rfl (below_drawn w4) ?_
    refine AZ.seg [(0, 0, 0), (1, 0, 0), (2, 0, 0), (3, 0, 1), (4, 0, 0), (5, 0, 1), (6, 0, 0), (7, 0, 1)] 7 rfl (by kernel_rfl) (sq_anti _) (by kernel_rfl) ?_
    simp only [opsZ, List.getD_cons_zero, List.getD_cons_succ]
    first | refine ZE.move rfl rfl rfl rfl sq0 ?_
    first | refine ZE.nilc rfl rfl rfl rfl sq0 ?_
    refine ZE.field rfl rfl rfl rfl sq0 (fun W => g52_1 dk W) ?_
    refine ZE.load rfl rfl rfl rfl (fun W h => .inr (Fx.of_below h)) (fun W hW => ldP45 (bl4.fx (sq_of hW) hg2) rfl) ?_
    refine ZE.field rfl rfl rfl rfl sq0 (fun W => f55_1 q3 W) ?_
    first | refine ZE.load rfl rfl rfl rfl (fun W h => .inr (Fx.of_below h)) (fun W hW => (b34.fx (sq_of hW) ho2).ldU (a := [.int .i64 2]) (b := [u32v n, kw]) (n := t) (o := 1) rfl rfl) ?_ | refine ZE.load rfl rfl rfl rfl (fun W h => .inr (Fx.of_below h)) (fun W hW => (b34.fx (sq_of hW) ho2).ldU (a := [.int .i64 2, u32v t]) (b := [kw]) (n := n) (o := 2) rfl rfl) ?_
    refine ZE.field rfl rfl rfl rfl sq0 (fun W => f55_2 q3 W) ?_
    first | refine ZE.load rfl rfl rfl rfl (fun W h => .inr (Fx.of_below h)) (fun W hW => (b34.fx (sq_of hW) ho2).ldU (a := [.int .i64 2]) (b := [u32v n, kw]) (n := t) (o := 1) rfl rfl) ?_ | refine ZE.load rfl rfl rfl rfl (fun W h => .inr (Fx.of_below h)) (fun W hW => (b34.fx (sq_of hW) ho2).ldU (a := [.int .i64 2, u32v t]) (b := [kw]) (n := n) (o := 2) rfl rfl) ?_
    refine AZ.two 6 8 1 12 1 rfl (by kernel_rfl) ?_ ?_
    · simp only [List.getD_cons_zero, List.getD_cons_succ]
      refine ZE.callR [.pointer (some ⟨q, 0, none⟩), u32v t, u32v n] (fun u W => u = (.tuple #[kv K2, .int .i64 F2]) ∧ X2 W) enter26 rfl rfl rfl (fun _ W h => .inr (C2.fx W h.2)) (fun W hW => (C2.cl W hW).mono fun e w' ⟨h1, h2, _⟩ => ⟨_, h1, rfl, h2⟩) ?_
      rintro u2 ⟨_, rfl, _⟩
      refine AZ.seg [(9, 0, 0), (10, 0, 0), (11, 0, 0), (12, 1, 1), (13, 1, 1), (14, 0, 0)] 0 rfl (by kernel_rfl) (sq_anti _) (by kernel_rfl) ?_
      simp only [opsZ, List.getD_cons_zero, List.getD_cons_succ]
      first | refine ZE.move rfl rfl rfl rfl sq0 ?_
      refine ZE.extract rfl rfl rfl rfl sq0 (fun W => (ext_2 _ _ W).1) ?_
      refine ZE.extract rfl rfl rfl rfl sq0 (fun W => (ext_2 _ _ W).2) ?_
      refine ZE.newW (fun u W => ∃ q9, u = .pointer (some ⟨q9, 0, none⟩) ∧ w4.heap.size ≤ q9 ∧ Blk W q9 (z32.map byt) 29 ∧ X2 W) rfl rfl (fun _ W ⟨_, _, _, _, h⟩ => .inr (C2.fx W h)) (fun W hW => ?_) ?_
      · obtain ⟨w9, q9, n1, n2, n3, n4⟩ := new29 W
        exact ⟨_, w9, n1, q9, rfl, by have := (C2.fx W hW.2).size; omega, n2, C2.on W w9 hW.2 n3⟩
      rintro vq ⟨_, q2, rfl, hq2, _, _⟩
      refine ZE.store (fun W => Blk W q2 (K2.map byt) 29 ∧ X2 W) rfl rfl rfl (fun W h => .inr (C2.fx W h.2)) (fun W ⟨q9, e9, _, hB9, hX9⟩ => ?_) ?_
      · cases e9
        obtain ⟨w9, n1, n2, n3⟩ := st29 hB9 z32l hK2
        exact ⟨w9, n1, n2, C2.st W w9 q2 _ hq2 hB9 hX9 n3⟩
      first | refine ZE.assign rfl rfl rfl rfl sq0 ?_
      refine AZ.done (by kernel_rfl) ?_
      rintro w5 ⟨bB, hy⟩
      refine EW.on ?_
      refine EW.seq ?_
      have bA5 := bA.fx (C2.fx _ hy) (by have := l1.size; omega)
      rw [hX2] at hy
      have D5 := D4.on hy
      refine EW.region ?_
      refine WL.load rfl rfl rfl (ld29 bA5 hK1) ?_
      refine WL.load rfl rfl rfl (ld29 bB hK2) ?_
      refine WL.bin rfl rfl rfl rfl (eql29_same hK1 hKe _ _ _) ?_
      first | refine WL.move rfl rfl rfl ?_
      first | refine WL.move rfl rfl rfl ?_ | refine WL.skip _ rfl rfl rfl ?_
      first | refine WL.move rfl rfl rfl ?_ | refine WL.skip _ rfl rfl rfl ?_
      refine WL.bin rfl rfl rfl rfl (int_eq_t hFe _ _ _) ?_
      first | refine WL.pick rfl rfl rfl rfl ?_
      first | refine WL.assign rfl rfl rfl ?_
      refine WL.done ?_
      refine EW.on ?_
      refine EW.ret ?_
      refine pr_block ?_
      refine pr_then ?_
      exact EW.returns Try.results17 rfl ⟨rfl, p, r, v, E, c, L, D5⟩
    · simp only [List.getD_cons_zero, List.getD_cons_succ]
      refine ZE.newW (fun u W => ∃ q9, u = .pointer (some ⟨q9, 0, none⟩) ∧ w4.heap.size ≤ q9 ∧ Blk W q9 (z32.map byt) 29 ∧ Below w4.heap.size w4 W) rfl rfl (fun _ W ⟨_, _, _, _, h⟩ => .inr (Fx.of_below h)) (fun W hW => ?_) ?_
      · obtain ⟨w9, q9, n1, n2, n3, n4⟩ := new29 W
        exact ⟨_, w9, n1, q9, rfl, by have := hW.size; omega, n2, bt hW n3⟩
      rintro vq ⟨_, q2, rfl, hq2, _, _⟩
      refine AZ.seg [(8, 1, 1), (9, 0, 0), (10, 0, 0), (11, 0, 0), (13, 1, 1), (14, 0, 0)] 0 rfl (by kernel_rfl) (sq_anti _) (by kernel_rfl) ?_
      simp only [opsZ, List.getD_cons_zero, List.getD_cons_succ]
      refine ZE.callR [.pointer (some ⟨q, 0, none⟩), u32v t, u32v n] (fun u W => u = (.tuple #[kv K2, .int .i64 F2]) ∧ Blk W q2 (z32.map byt) 29 ∧ X2 W) enter26 rfl rfl rfl (fun _ W h => .inr (C2.fx W h.2.2)) (fun W ⟨q9, e9, _, hB9, hW9⟩ => by cases e9; exact (C2.cl W hW9).mono fun e w' ⟨h1, h2, h3⟩ => ⟨_, h1, rfl, hB9.fx h3 (by have := C2.gl; omega), h2⟩) ?_
      rintro u2 ⟨_, rfl, _⟩
      first | refine ZE.move rfl rfl rfl rfl sq0 ?_
      refine ZE.extract rfl rfl rfl rfl sq0 (fun W => (ext_2 _ _ W).1) ?_
      refine ZE.extract rfl rfl rfl rfl sq0 (fun W => (ext_2 _ _ W).2) ?_
      refine ZE.store (fun W => Blk W q2 (K2.map byt) 29 ∧ X2 W) rfl rfl rfl (fun W h => .inr (C2.fx W h.2)) (fun W hW => ?_) ?_
      · obtain ⟨w9, n1, n2, n3⟩ := st29 hW.2.1 z32l hK2
        exact ⟨w9, n1, n2, C2.st W w9 q2 _ hq2 hW.2.1 hW.2.2 n3⟩
      first | refine ZE.assign rfl rfl rfl rfl sq0 ?_
      refine AZ.done (by kernel_rfl) ?_
      rintro w5 ⟨bB, hy⟩
      refine EW.on ?_
      refine EW.seq ?_
      have bA5 := bA.fx (C2.fx _ hy) (by have := l1.size; omega)
      rw [hX2] at hy
      have D5 := D4.on hy
      refine EW.region ?_
      refine WL.load rfl rfl rfl (ld29 bA5 hK1) ?_
      refine WL.load rfl rfl rfl (ld29 bB hK2) ?_
      refine WL.bin rfl rfl rfl rfl (eql29_same hK1 hKe _ _ _) ?_
      first | refine WL.move rfl rfl rfl ?_
      first | refine WL.move rfl rfl rfl ?_ | refine WL.skip _ rfl rfl rfl ?_
      first | refine WL.move rfl rfl rfl ?_ | refine WL.skip _ rfl rfl rfl ?_
      refine WL.bin rfl rfl rfl rfl (int_eq_t hFe _ _ _) ?_
      first | refine WL.pick rfl rfl rfl rfl ?_
      first | refine WL.assign rfl rfl rfl ?_
      refine WL.done ?_
      refine EW.on ?_
      refine EW.ret ?_
      refine pr_block ?_
      refine pr_then ?_
      exact EW.returns Try.results17 rfl ⟨rfl, p, r, v, E, c, L, D5⟩
  · simp only [List.getD_cons_zero, List.getD_cons_succ]
    refine ZE.newW (fun u W => ∃ q9, u = .pointer (some ⟨q9, 0, none⟩) ∧ w1.heap.size ≤ q9 ∧ Blk W q9 (z32.map byt) 29 ∧ Below w1.heap.size w1 W) rfl rfl (fun _ W ⟨_, _, _, _, h⟩ => .inr (Fx.of_below h)) (fun W hW => ?_) ?_
    · obtain ⟨w9, q9, n1, n2, n3, n4⟩ := new29 W
      exact ⟨_, w9, n1, q9, rfl, by have := hW.size; omega, n2, bt hW n3⟩
    rintro vq ⟨_, q1, rfl, hq1, _, _⟩
    refine AZ.seg [(8, 1, 1), (9, 0, 0), (10, 0, 0), (11, 0, 0), (13, 1, 1), (14, 0, 0)] 0 rfl (by kernel_rfl) (sq_anti _) (by kernel_rfl) ?_
    simp only [opsZ, List.getD_cons_zero, List.getD_cons_succ]
    refine ZE.callR [.pointer (some ⟨p, 0, none⟩), u32v t, u32v n] (fun u W => u = (.tuple #[kv K1, .int .i64 F1]) ∧ Blk W q1 (z32.map byt) 29 ∧ X1 W) enter9 rfl rfl rfl (fun _ W h => .inr (C1.fx W h.2.2)) (fun W ⟨q9, e9, _, hB9, hW9⟩ => by cases e9; exact (C1.cl W hW9).mono fun e w' ⟨h1, h2, h3⟩ => ⟨_, h1, rfl, hB9.fx h3 (by have := C1.gl; omega), h2⟩) ?_
    rintro u1 ⟨_, rfl, _⟩
    first | refine ZE.move rfl rfl rfl rfl sq0 ?_
    refine ZE.extract rfl rfl rfl rfl sq0 (fun W => (ext_2 _ _ W).1) ?_
    refine ZE.extract rfl rfl rfl rfl sq0 (fun W => (ext_2 _ _ W).2) ?_
    refine ZE.store (fun W => Blk W q1 (K1.map byt) 29 ∧ X1 W) rfl rfl rfl (fun W h => .inr (C1.fx W h.2)) (fun W hW => ?_) ?_
    · obtain ⟨w9, n1, n2, n3⟩ := st29 hW.2.1 z32l hK1
      exact ⟨w9, n1, n2, C1.st W w9 q1 _ hq1 hW.2.1 hW.2.2 n3⟩
    first | refine ZE.assign rfl rfl rfl rfl sq0 ?_
    refine AZ.done (by kernel_rfl) ?_
    rintro w4 ⟨bA, hx⟩
    refine EW.on ?_
    refine EW.seq ?_
    rw [hX1] at hx
    have D4 := D1.on hx
    have bl4 := D4.bl
    have rt4 := D4.rt
    have b34 := b3.on hx
    have hg2 : ¬ dk = q := hNE.2.1
    have ho2 : ¬ q3 = q := by omega
    have C2 : Cl w4 q 26 [.pointer (some ⟨q, 0, none⟩), u32v t, u32v n] (.tuple #[kv ((lkL L t n).getD z32), .int .i64 (fdN (lkL L t n))]) (fun W => Below w4.heap.size w4 W) := ⟨fun W h => Fx.of_below h, fun W W' h k => bt h k, fun W W' q9 _ hq _ h k => bfx h k hq, fun W hW => (rfind_any (rt4.on hW) (by omega) t n).mono fun e w' ⟨h1, h2⟩ => ⟨h1, bt hW h2, Fx.of_below h2⟩, by have := rt4.bl.lt; omega⟩
    obtain ⟨X2, hX2⟩ : ∃ X : World → Prop, X = (fun W => Below w4.heap.size w4 W) := ⟨_, rfl⟩
    obtain ⟨K2, hK2e⟩ : ∃ K, K = (lkL L t n).getD z32 := ⟨_, rfl⟩
    obtain ⟨F2, hF2e⟩ : ∃ F, F = fdN (lkL L t n) := ⟨_, rfl⟩
    rw [← hX2, ← hK2e, ← hF2e] at C2
    have hK2 : K2.length = 32 := by rw [hK2e]; exact lkL_ok D.rt.so t n
    have hKe : K1 = K2 := by rw [hK1e, hK2e, lk_eq D.pm D.tb.mp.nd]
    have hFe : F1 = F2 := by rw [hF1e, hF2e, lk_eq D.pm D.tb.mp.nd]
    have hq1w := bA.lt
    refine EW.az (SQ (fun W => Fx (fun k => k = q) w4 W)) (levZ [(8, 1, 1), (12, 1, 1), (13, 1, 1)]) (fun W => Below w4.heap.size w4 W) 15 (by kernel_rfl) rfl (below_drawn w4) ?_
    refine AZ.seg [(0, 0, 0), (1, 0, 0), (2, 0, 0), (3, 0, 1), (4, 0, 0), (5, 0, 1), (6, 0, 0), (7, 0, 1)] 7 rfl (by kernel_rfl) (sq_anti _) (by kernel_rfl) ?_
    simp only [opsZ, List.getD_cons_zero, List.getD_cons_succ]
    first | refine ZE.move rfl rfl rfl rfl sq0 ?_
    first | refine ZE.nilc rfl rfl rfl rfl sq0 ?_
    refine ZE.field rfl rfl rfl rfl sq0 (fun W => g52_1 dk W) ?_
    refine ZE.load rfl rfl rfl rfl (fun W h => .inr (Fx.of_below h)) (fun W hW => ldP45 (bl4.fx (sq_of hW) hg2) rfl) ?_
    refine ZE.field rfl rfl rfl rfl sq0 (fun W => f55_1 q3 W) ?_
    first | refine ZE.load rfl rfl rfl rfl (fun W h => .inr (Fx.of_below h)) (fun W hW => (b34.fx (sq_of hW) ho2).ldU (a := [.int .i64 2]) (b := [u32v n, kw]) (n := t) (o := 1) rfl rfl) ?_ | refine ZE.load rfl rfl rfl rfl (fun W h => .inr (Fx.of_below h)) (fun W hW => (b34.fx (sq_of hW) ho2).ldU (a := [.int .i64 2, u32v t]) (b := [kw]) (n := n) (o := 2) rfl rfl) ?_
    refine ZE.field rfl rfl rfl rfl sq0 (fun W => f55_2 q3 W) ?_
    first | refine ZE.load rfl rfl rfl rfl (fun W h => .inr (Fx.of_below h)) (fun W hW => (b34.fx (sq_of hW) ho2).ldU (a := [.int .i64 2]) (b := [u32v n, kw]) (n := t) (o := 1) rfl rfl) ?_ | refine ZE.load rfl rfl rfl rfl (fun W h => .inr (Fx.of_below h)) (fun W hW => (b34.fx (sq_of hW) ho2).ldU (a := [.int .i64 2, u32v t]) (b := [kw]) (n := n) (o := 2) rfl rfl) ?_
    refine AZ.two 6 8 1 12 1 rfl (by kernel_rfl) ?_ ?_
    · simp only [List.getD_cons_zero, List.getD_cons_succ]
      refine ZE.callR [.pointer (some ⟨q, 0, none⟩), u32v t, u32v n] (fun u W => u = (.tuple #[kv K2, .int .i64 F2]) ∧ X2 W) enter26 rfl rfl rfl (fun _ W h => .inr (C2.fx W h.2)) (fun W hW => (C2.cl W hW).mono fun e w' ⟨h1, h2, _⟩ => ⟨_, h1, rfl, h2⟩) ?_
      rintro u2 ⟨_, rfl, _⟩
      refine AZ.seg [(9, 0, 0), (10, 0, 0), (11, 0, 0), (12, 1, 1), (13, 1, 1), (14, 0, 0)] 0 rfl (by kernel_rfl) (sq_anti _) (by kernel_rfl) ?_
      simp only [opsZ, List.getD_cons_zero, List.getD_cons_succ]
      first | refine ZE.move rfl rfl rfl rfl sq0 ?_
      refine ZE.extract rfl rfl rfl rfl sq0 (fun W => (ext_2 _ _ W).1) ?_
      refine ZE.extract rfl rfl rfl rfl sq0 (fun W => (ext_2 _ _ W).2) ?_
      refine ZE.newW (fun u W => ∃ q9, u = .pointer (some ⟨q9, 0, none⟩) ∧ w4.heap.size ≤ q9 ∧ Blk W q9 (z32.map byt) 29 ∧ X2 W) rfl rfl (fun _ W ⟨_, _, _, _, h⟩ => .inr (C2.fx W h)) (fun W hW => ?_) ?_
      · obtain ⟨w9, q9, n1, n2, n3, n4⟩ := new29 W
        exact ⟨_, w9, n1, q9, rfl, by have := (C2.fx W hW.2).size; omega, n2, C2.on W w9 hW.2 n3⟩
      rintro vq ⟨_, q2, rfl, hq2, _, _⟩
      refine ZE.store (fun W => Blk W q2 (K2.map byt) 29 ∧ X2 W) rfl rfl rfl (fun W h => .inr (C2.fx W h.2)) (fun W ⟨q9, e9, _, hB9, hX9⟩ => ?_) ?_
      · cases e9
        obtain ⟨w9, n1, n2, n3⟩ := st29 hB9 z32l hK2
        exact ⟨w9, n1, n2, C2.st W w9 q2 _ hq2 hB9 hX9 n3⟩
      first | refine ZE.assign rfl rfl rfl rfl sq0 ?_
      refine AZ.done (by kernel_rfl) ?_
      rintro w5 ⟨bB, hy⟩
      refine EW.on ?_
      refine EW.seq ?_
      have bA5 := bA.fx (C2.fx _ hy) (by have := l1.size; omega)
      rw [hX2] at hy
      have D5 := D4.on hy
      refine EW.region ?_
      refine WL.load rfl rfl rfl (ld29 bA5 hK1) ?_
      refine WL.load rfl rfl rfl (ld29 bB hK2) ?_
      refine WL.bin rfl rfl rfl rfl (eql29_same hK1 hKe _ _ _) ?_
      first | refine WL.move rfl rfl rfl ?_
      first | refine WL.move rfl rfl rfl ?_ | refine WL.skip _ rfl rfl rfl ?_
      first | refine WL.move rfl rfl rfl ?_ | refine WL.skip _ rfl rfl rfl ?_
      refine WL.bin rfl rfl rfl rfl (int_eq_t hFe _ _ _) ?_
      first | refine WL.pick rfl rfl rfl rfl ?_
      first | refine WL.assign rfl rfl rfl ?_
      refine WL.done ?_
      refine EW.on ?_
      refine EW.ret ?_
      refine pr_block ?_
      refine pr_then ?_
      exact EW.returns Try.results17 rfl ⟨rfl, p, r, v, E, c, L, D5⟩
    · simp only [List.getD_cons_zero, List.getD_cons_succ]
      refine ZE.newW (fun u W => ∃ q9, u = .pointer (some ⟨q9, 0, none⟩) ∧ w4.heap.size ≤ q9 ∧ Blk W q9 (z32.map byt) 29 ∧ Below w4.heap.size w4 W) rfl rfl (fun _ W ⟨_, _, _, _, h⟩ => .inr (Fx.of_below h)) (fun W hW => ?_) ?_
      · obtain ⟨w9, q9, n1, n2, n3, n4⟩ := new29 W
        exact ⟨_, w9, n1, q9, rfl, by have := hW.size; omega, n2, bt hW n3⟩
      rintro vq ⟨_, q2, rfl, hq2, _, _⟩
      refine AZ.seg [(8, 1, 1), (9, 0, 0), (10, 0, 0), (11, 0, 0), (13, 1, 1), (14, 0, 0)] 0 rfl (by kernel_rfl) (sq_anti _) (by kernel_rfl) ?_
      simp only [opsZ, List.getD_cons_zero, List.getD_cons_succ]
      refine ZE.callR [.pointer (some ⟨q, 0, none⟩), u32v t, u32v n] (fun u W => u = (.tuple #[kv K2, .int .i64 F2]) ∧ Blk W q2 (z32.map byt) 29 ∧ X2 W) enter26 rfl rfl rfl (fun _ W h => .inr (C2.fx W h.2.2)) (fun W ⟨q9, e9, _, hB9, hW9⟩ => by cases e9; exact (C2.cl W hW9).mono fun e w' ⟨h1, h2, h3⟩ => ⟨_, h1, rfl, hB9.fx h3 (by have := C2.gl; omega), h2⟩) ?_
      rintro u2 ⟨_, rfl, _⟩
      first | refine ZE.move rfl rfl rfl rfl sq0 ?_
      refine ZE.extract rfl rfl rfl rfl sq0 (fun W => (ext_2 _ _ W).1) ?_
      refine ZE.extract rfl rfl rfl rfl sq0 (fun W => (ext_2 _ _ W).2) ?_
      refine ZE.store (fun W => Blk W q2 (K2.map byt) 29 ∧ X2 W) rfl rfl rfl (fun W h => .inr (C2.fx W h.2)) (fun W hW => ?_) ?_
      · obtain ⟨w9, n1, n2, n3⟩ := st29 hW.2.1 z32l hK2
        exact ⟨w9, n1, n2, C2.st W w9 q2 _ hq2 hW.2.1 hW.2.2 n3⟩
      first | refine ZE.assign rfl rfl rfl rfl sq0 ?_
      refine AZ.done (by kernel_rfl) ?_
      rintro w5 ⟨bB, hy⟩
      refine EW.on ?_
      refine EW.seq ?_
      have bA5 := bA.fx (C2.fx _ hy) (by have := l1.size; omega)
      rw [hX2] at hy
      have D5 := D4.on hy
      refine EW.region ?_
      refine WL.load rfl rfl rfl (ld29 bA5 hK1) ?_
      refine WL.load rfl rfl rfl (ld29 bB hK2) ?_
      refine WL.bin rfl rfl rfl rfl (eql29_same hK1 hKe _ _ _) ?_
      first | refine WL.move rfl rfl rfl ?_
      first | refine WL.move rfl rfl rfl ?_ | refine WL.skip _ rfl rfl rfl ?_
      first | refine WL.move rfl rfl rfl ?_ | refine WL.skip _ rfl rfl rfl ?_
      refine WL.bin rfl rfl rfl rfl (int_eq_t hFe _ _ _) ?_
      first | refine WL.pick rfl rfl rfl rfl ?_
      first | refine WL.assign rfl rfl rfl ?_
      refine WL.done ?_
      refine EW.on ?_
      refine EW.ret ?_
      refine pr_block ?_
      refine pr_then ?_
      exact EW.returns Try.results17 rfl ⟨rfl, p, r, v, E, c, L, D5⟩
set_option maxRecDepth 100000 in
set_option maxHeartbeats 8000000 in
theorem step_take {w0 w : World} {dk p r q : Nat} {v : Value} {most : Nat} {E : List Me} {c : Nat} {L : List Sk} (D : Ds w0 dk p r q v most E c L w) (t n : Nat) (kw : Value) : Calls Try.prog 17 #[.pointer (some ⟨dk, 0, none⟩), opV 3 t n kw] w fun e w' => e = .returned (.bool true) ∧ ∃ p' r' v' E' c' L', Ds w0 dk p' r' q v' most E' c' L' w' := by
  obtain ⟨w1, q3, r3, b3, l1, hq3⟩ := box55 3 t n kw w
  have D1 := D.on l1
  have hNE := D.ne
  obtain ⟨hLE, hL256⟩ := D.Ll
  have hdk := D.bl.lt
  have hpw := D.tb.bl.lt
  have hrw := D.tb.mp.ltb
  have hqw := D.rt.bl.lt
  have n31 : ¬ (3 : Int) = 1 := by decide
  have n32 : ¬ (3 : Int) = 2 := by decide
  have n34 : ¬ (3 : Int) = 4 := by decide
  have n35 : ¬ (3 : Int) = 5 := by decide
  refine calls_of_args [.pointer (some ⟨dk, 0, none⟩), opV 3 t n kw] Try.func17 rfl 226 Try.ntmps17 (by show 2 ≤ 226; decide) ?_
  refine EW.seq ?_
  refine EW.region ?_
  refine WL.box rfl rfl rfl r3 ?_
  first | refine WL.assign rfl rfl rfl ?_
  refine WL.done ?_
  refine EW.on ?_
  refine EW.seq ?_
  refine EW.seq ?_
  refine EW.region ?_
  refine WL.field rfl rfl rfl (f55_0 q3 _) ?_
  refine WL.load rfl rfl rfl (ldI b3 rfl) ?_
  refine WL.done ?_
  refine EW.on ?_
  refine EW.block ?_
  refine EW.seq ?_
  refine EW.region ?_
  first | refine WL.bin rfl rfl rfl rfl (int_eq_t rfl _ _ _) ?_ | refine WL.bin rfl rfl rfl rfl (int_eq_t ‹_› _ _ _) ?_ | refine WL.bin rfl rfl rfl rfl (int_eq_f ‹_› _ _ _) ?_ | refine WL.bin rfl rfl rfl rfl (int_eq_d _ _ _ _ _) ?_
  first | refine WL.assign rfl rfl rfl ?_
  refine WL.done ?_
  refine EW.on ?_
  refine EW.cond_f rfl ?_
  refine EW.seq ?_
  refine EW.region ?_
  first | refine WL.bin rfl rfl rfl rfl (int_eq_t rfl _ _ _) ?_ | refine WL.bin rfl rfl rfl rfl (int_eq_t ‹_› _ _ _) ?_ | refine WL.bin rfl rfl rfl rfl (int_eq_f ‹_› _ _ _) ?_ | refine WL.bin rfl rfl rfl rfl (int_eq_d _ _ _ _ _) ?_
  first | refine WL.assign rfl rfl rfl ?_
  refine WL.done ?_
  refine EW.on ?_
  refine EW.cond_f rfl ?_
  refine EW.seq ?_
  refine EW.region ?_
  first | refine WL.bin rfl rfl rfl rfl (int_eq_t rfl _ _ _) ?_ | refine WL.bin rfl rfl rfl rfl (int_eq_t ‹_› _ _ _) ?_ | refine WL.bin rfl rfl rfl rfl (int_eq_f ‹_› _ _ _) ?_ | refine WL.bin rfl rfl rfl rfl (int_eq_d _ _ _ _ _) ?_
  first | refine WL.assign rfl rfl rfl ?_
  refine WL.done ?_
  refine EW.on ?_
  refine EW.cond_t rfl ?_
  refine EW.seq ?_
  have hg1 : ¬ dk = r := hNE.1
  have ho1 : ¬ q3 = r := by omega
  have C1 : Cl w1 r 10 [.pointer (some ⟨p, 0, none⟩), u32v t, u32v n] (.tuple #[kv ((lkE E t n).getD z32), .int .i64 (fdN (lkE E t n))]) (fun W => Fx (fun k => k = r) w1 W ∧ Tb W p r most (delE E t n) c) := ⟨fun W h => h.1, fun W W' h k => ⟨h.1.then_below k, h.2.on k⟩, fun W W' q9 _ hq _ h k => ⟨fx_new h.1 k hq, h.2.fx k (by have := l1.size; omega) (by have := l1.size; omega)⟩, fun W hW => (ttake_any (D1.tb.on hW) t n).mono fun e w' ⟨h1, h2, h3⟩ => ⟨h1, ⟨(Fx.of_below hW).and h3, h2⟩, h3⟩, by have := l1.size; omega⟩
  obtain ⟨X1, hX1⟩ : ∃ X : World → Prop, X = (fun W => Fx (fun k => k = r) w1 W ∧ Tb W p r most (delE E t n) c) := ⟨_, rfl⟩
  obtain ⟨K1, hK1e⟩ : ∃ K, K = (lkE E t n).getD z32 := ⟨_, rfl⟩
  obtain ⟨F1, hF1e⟩ : ∃ F, F = fdN (lkE E t n) := ⟨_, rfl⟩
  rw [← hX1, ← hK1e, ← hF1e] at C1
  have hK1 : K1.length = 32 := by rw [hK1e]; exact lk_ok D.tb.mp t n
  refine EW.az (SQ (fun W => Fx (fun k => k = r) w1 W)) (levZ [(8, 1, 1), (12, 1, 1), (13, 1, 1)]) (fun W => Below w1.heap.size w1 W) 15 (by kernel_rfl) rfl (below_drawn w1) ?_
  refine AZ.seg [(0, 0, 0), (1, 0, 0), (2, 0, 0), (3, 0, 1), (4, 0, 0), (5, 0, 1), (6, 0, 0), (7, 0, 1)] 7 rfl (by kernel_rfl) (sq_anti _) (by kernel_rfl) ?_
  simp only [opsZ, List.getD_cons_zero, List.getD_cons_succ]
  first | refine ZE.move rfl rfl rfl rfl sq0 ?_
  first | refine ZE.nilc rfl rfl rfl rfl sq0 ?_
  refine ZE.field rfl rfl rfl rfl sq0 (fun W => g52_0 dk W) ?_
  refine ZE.load rfl rfl rfl rfl (fun W h => .inr (Fx.of_below h)) (fun W hW => ldP24 (D1.bl.fx (sq_of hW) hg1) rfl) ?_
  refine ZE.field rfl rfl rfl rfl sq0 (fun W => f55_1 q3 W) ?_
  first | refine ZE.load rfl rfl rfl rfl (fun W h => .inr (Fx.of_below h)) (fun W hW => (b3.fx (sq_of hW) ho1).ldU (a := [.int .i64 3]) (b := [u32v n, kw]) (n := t) (o := 1) rfl rfl) ?_ | refine ZE.load rfl rfl rfl rfl (fun W h => .inr (Fx.of_below h)) (fun W hW => (b3.fx (sq_of hW) ho1).ldU (a := [.int .i64 3, u32v t]) (b := [kw]) (n := n) (o := 2) rfl rfl) ?_
  refine ZE.field rfl rfl rfl rfl sq0 (fun W => f55_2 q3 W) ?_
  first | refine ZE.load rfl rfl rfl rfl (fun W h => .inr (Fx.of_below h)) (fun W hW => (b3.fx (sq_of hW) ho1).ldU (a := [.int .i64 3]) (b := [u32v n, kw]) (n := t) (o := 1) rfl rfl) ?_ | refine ZE.load rfl rfl rfl rfl (fun W h => .inr (Fx.of_below h)) (fun W hW => (b3.fx (sq_of hW) ho1).ldU (a := [.int .i64 3, u32v t]) (b := [kw]) (n := n) (o := 2) rfl rfl) ?_
  refine AZ.two 6 8 1 12 1 rfl (by kernel_rfl) ?_ ?_
  · simp only [List.getD_cons_zero, List.getD_cons_succ]
    refine ZE.callR [.pointer (some ⟨p, 0, none⟩), u32v t, u32v n] (fun u W => u = (.tuple #[kv K1, .int .i64 F1]) ∧ X1 W) enter10 rfl rfl rfl (fun _ W h => .inr (C1.fx W h.2)) (fun W hW => (C1.cl W hW).mono fun e w' ⟨h1, h2, _⟩ => ⟨_, h1, rfl, h2⟩) ?_
    rintro u1 ⟨_, rfl, _⟩
    refine AZ.seg [(9, 0, 0), (10, 0, 0), (11, 0, 0), (12, 1, 1), (13, 1, 1), (14, 0, 0)] 0 rfl (by kernel_rfl) (sq_anti _) (by kernel_rfl) ?_
    simp only [opsZ, List.getD_cons_zero, List.getD_cons_succ]
    first | refine ZE.move rfl rfl rfl rfl sq0 ?_
    refine ZE.extract rfl rfl rfl rfl sq0 (fun W => (ext_2 _ _ W).1) ?_
    refine ZE.extract rfl rfl rfl rfl sq0 (fun W => (ext_2 _ _ W).2) ?_
    refine ZE.newW (fun u W => ∃ q9, u = .pointer (some ⟨q9, 0, none⟩) ∧ w1.heap.size ≤ q9 ∧ Blk W q9 (z32.map byt) 29 ∧ X1 W) rfl rfl (fun _ W ⟨_, _, _, _, h⟩ => .inr (C1.fx W h)) (fun W hW => ?_) ?_
    · obtain ⟨w9, q9, n1, n2, n3, n4⟩ := new29 W
      exact ⟨_, w9, n1, q9, rfl, by have := (C1.fx W hW.2).size; omega, n2, C1.on W w9 hW.2 n3⟩
    rintro vq ⟨_, q1, rfl, hq1, _, _⟩
    refine ZE.store (fun W => Blk W q1 (K1.map byt) 29 ∧ X1 W) rfl rfl rfl (fun W h => .inr (C1.fx W h.2)) (fun W ⟨q9, e9, _, hB9, hX9⟩ => ?_) ?_
    · cases e9
      obtain ⟨w9, n1, n2, n3⟩ := st29 hB9 z32l hK1
      exact ⟨w9, n1, n2, C1.st W w9 q1 _ hq1 hB9 hX9 n3⟩
    first | refine ZE.assign rfl rfl rfl rfl sq0 ?_
    refine AZ.done (by kernel_rfl) ?_
    rintro w4 ⟨bA, hx⟩
    refine EW.on ?_
    refine EW.seq ?_
    rw [hX1] at hx
    have bl4 := D1.bl.fx hx.1 hg1
    have rt4 := D1.rt.fx hx.1 (fun e => hNE.2.2.2.2.1 e.symm) (fun b hb => (hNE.2.2.2.2.2.2 b hb).2.2.1)
    have b34 := b3.fx hx.1 ho1
    have be4 := bfx D1.be hx.1 D.lo.2.2.1
    have hg2 : ¬ dk = q := hNE.2.1
    have ho2 : ¬ q3 = q := by omega
    have C2 : Cl w4 q 27 [.pointer (some ⟨q, 0, none⟩), u32v t, u32v n] (.tuple #[kv ((lkL L t n).getD z32), .int .i64 (fdN (lkL L t n))]) (fun W => Fx (fun k => k = q) w4 W ∧ ∃ v', Rt W q v' most (delL L t n) ∧ ∀ b, v'.ownBlock = some b → v.ownBlock = some b ∨ w4.heap.size ≤ b) := ⟨fun W h => h.1, fun W W' h k => ⟨h.1.then_below k, (by obtain ⟨v', h2, h3⟩ := h.2; exact ⟨v', h2.on k, h3⟩)⟩, fun W W' q9 cs hq hB h k => ⟨fx_new h.1 k hq, (by obtain ⟨v', h2, h3⟩ := h.2; exact ⟨v', h2.fx k (h2.bl.neT hB (by decide)) (fun b hb e => h2.so.ow.neB hB (by decide) b hb e), h3⟩)⟩, fun W hW => (rtake_any (rt4.on hW) (by omega) D.lt (fun b hb => (hNE.2.2.2.2.2.2 b hb).2.2.2) t n).mono fun e w' ⟨h1, v', h2, h3, h4⟩ => ⟨h1, ⟨(Fx.of_below hW).and h3, v', h2, fun b hb => (h4 b hb).imp id (fun e => by have := hW.size; omega)⟩, h3⟩, by have := rt4.bl.lt; omega⟩
    obtain ⟨X2, hX2⟩ : ∃ X : World → Prop, X = (fun W => Fx (fun k => k = q) w4 W ∧ ∃ v', Rt W q v' most (delL L t n) ∧ ∀ b, v'.ownBlock = some b → v.ownBlock = some b ∨ w4.heap.size ≤ b) := ⟨_, rfl⟩
    obtain ⟨K2, hK2e⟩ : ∃ K, K = (lkL L t n).getD z32 := ⟨_, rfl⟩
    obtain ⟨F2, hF2e⟩ : ∃ F, F = fdN (lkL L t n) := ⟨_, rfl⟩
    rw [← hX2, ← hK2e, ← hF2e] at C2
    have hK2 : K2.length = 32 := by rw [hK2e]; exact lkL_ok D.rt.so t n
    have hKe : K1 = K2 := by rw [hK1e, hK2e, lk_eq D.pm D.tb.mp.nd]
    have hFe : F1 = F2 := by rw [hF1e, hF2e, lk_eq D.pm D.tb.mp.nd]
    have hq1w := bA.lt
    refine EW.az (SQ (fun W => Fx (fun k => k = q) w4 W)) (levZ [(8, 1, 1), (12, 1, 1), (13, 1, 1)]) (fun W => Below w4.heap.size w4 W) 15 (by kernel_rfl) rfl (below_drawn w4) ?_
    refine AZ.seg [(0, 0, 0), (1, 0, 0), (2, 0, 0), (3, 0, 1), (4, 0, 0), (5, 0, 1), (6, 0, 0), (7, 0, 1)] 7 rfl (by kernel_rfl) (sq_anti _) (by kernel_rfl) ?_
    simp only [opsZ, List.getD_cons_zero, List.getD_cons_succ]
    first | refine ZE.move rfl rfl rfl rfl sq0 ?_
    first | refine ZE.nilc rfl rfl rfl rfl sq0 ?_
    refine ZE.field rfl rfl rfl rfl sq0 (fun W => g52_1 dk W) ?_
    refine ZE.load rfl rfl rfl rfl (fun W h => .inr (Fx.of_below h)) (fun W hW => ldP45 (bl4.fx (sq_of hW) hg2) rfl) ?_
    refine ZE.field rfl rfl rfl rfl sq0 (fun W => f55_1 q3 W) ?_
    first | refine ZE.load rfl rfl rfl rfl (fun W h => .inr (Fx.of_below h)) (fun W hW => (b34.fx (sq_of hW) ho2).ldU (a := [.int .i64 3]) (b := [u32v n, kw]) (n := t) (o := 1) rfl rfl) ?_ | refine ZE.load rfl rfl rfl rfl (fun W h => .inr (Fx.of_below h)) (fun W hW => (b34.fx (sq_of hW) ho2).ldU (a := [.int .i64 3, u32v t]) (b := [kw]) (n := n) (o := 2) rfl rfl) ?_
    refine ZE.field rfl rfl rfl rfl sq0 (fun W => f55_2 q3 W) ?_
    first | refine ZE.load rfl rfl rfl rfl (fun W h => .inr (Fx.of_below h)) (fun W hW => (b34.fx (sq_of hW) ho2).ldU (a := [.int .i64 3]) (b := [u32v n, kw]) (n := t) (o := 1) rfl rfl) ?_ | refine ZE.load rfl rfl rfl rfl (fun W h => .inr (Fx.of_below h)) (fun W hW => (b34.fx (sq_of hW) ho2).ldU (a := [.int .i64 3, u32v t]) (b := [kw]) (n := n) (o := 2) rfl rfl) ?_
    refine AZ.two 6 8 1 12 1 rfl (by kernel_rfl) ?_ ?_
    · simp only [List.getD_cons_zero, List.getD_cons_succ]
      refine ZE.callR [.pointer (some ⟨q, 0, none⟩), u32v t, u32v n] (fun u W => u = (.tuple #[kv K2, .int .i64 F2]) ∧ X2 W) enter27 rfl rfl rfl (fun _ W h => .inr (C2.fx W h.2)) (fun W hW => (C2.cl W hW).mono fun e w' ⟨h1, h2, _⟩ => ⟨_, h1, rfl, h2⟩) ?_
      rintro u2 ⟨_, rfl, _⟩
      refine AZ.seg [(9, 0, 0), (10, 0, 0), (11, 0, 0), (12, 1, 1), (13, 1, 1), (14, 0, 0)] 0 rfl (by kernel_rfl) (sq_anti _) (by kernel_rfl) ?_
      simp only [opsZ, List.getD_cons_zero, List.getD_cons_succ]
      first | refine ZE.move rfl rfl rfl rfl sq0 ?_
      refine ZE.extract rfl rfl rfl rfl sq0 (fun W => (ext_2 _ _ W).1) ?_
      refine ZE.extract rfl rfl rfl rfl sq0 (fun W => (ext_2 _ _ W).2) ?_
      refine ZE.newW (fun u W => ∃ q9, u = .pointer (some ⟨q9, 0, none⟩) ∧ w4.heap.size ≤ q9 ∧ Blk W q9 (z32.map byt) 29 ∧ X2 W) rfl rfl (fun _ W ⟨_, _, _, _, h⟩ => .inr (C2.fx W h)) (fun W hW => ?_) ?_
      · obtain ⟨w9, q9, n1, n2, n3, n4⟩ := new29 W
        exact ⟨_, w9, n1, q9, rfl, by have := (C2.fx W hW.2).size; omega, n2, C2.on W w9 hW.2 n3⟩
      rintro vq ⟨_, q2, rfl, hq2, _, _⟩
      refine ZE.store (fun W => Blk W q2 (K2.map byt) 29 ∧ X2 W) rfl rfl rfl (fun W h => .inr (C2.fx W h.2)) (fun W ⟨q9, e9, _, hB9, hX9⟩ => ?_) ?_
      · cases e9
        obtain ⟨w9, n1, n2, n3⟩ := st29 hB9 z32l hK2
        exact ⟨w9, n1, n2, C2.st W w9 q2 _ hq2 hB9 hX9 n3⟩
      first | refine ZE.assign rfl rfl rfl rfl sq0 ?_
      refine AZ.done (by kernel_rfl) ?_
      rintro w5 ⟨bB, hy⟩
      refine EW.on ?_
      refine EW.seq ?_
      have bA5 := bA.fx (C2.fx _ hy) (by have := l1.size; omega)
      rw [hX2] at hy
      obtain ⟨hy1, v', hy2, hy3⟩ := hy
      have D5 : Ds w0 dk p r q v' most (delE E t n) c (delL L t n) w5 := ⟨bl4.fx hy1 hg2, hx.2.fx hy1 hNE.2.2.2.1 hNE.2.2.2.2.1, hy2, del_perm D.pm t n, D.lt.filter _, Nat.le_trans (List.length_filter_le _ _) D.le, D.mo, D.lo, fun b hb => (by rcases hy3 b hb with e | e; exact D.lv b e; have := be4.size; omega), bfx be4 hy1 D.lo.2.2.2⟩
      refine EW.region ?_
      refine WL.load rfl rfl rfl (ld29 bA5 hK1) ?_
      refine WL.load rfl rfl rfl (ld29 bB hK2) ?_
      refine WL.bin rfl rfl rfl rfl (eql29_same hK1 hKe _ _ _) ?_
      first | refine WL.move rfl rfl rfl ?_
      first | refine WL.move rfl rfl rfl ?_ | refine WL.skip _ rfl rfl rfl ?_
      first | refine WL.move rfl rfl rfl ?_ | refine WL.skip _ rfl rfl rfl ?_
      refine WL.bin rfl rfl rfl rfl (int_eq_t hFe _ _ _) ?_
      first | refine WL.pick rfl rfl rfl rfl ?_
      first | refine WL.assign rfl rfl rfl ?_
      refine WL.done ?_
      refine EW.on ?_
      refine EW.ret ?_
      refine pr_block ?_
      refine pr_then ?_
      exact EW.returns Try.results17 rfl ⟨rfl, p, r, v', delE E t n, c, delL L t n, D5⟩
    · simp only [List.getD_cons_zero, List.getD_cons_succ]
      refine ZE.newW (fun u W => ∃ q9, u = .pointer (some ⟨q9, 0, none⟩) ∧ w4.heap.size ≤ q9 ∧ Blk W q9 (z32.map byt) 29 ∧ Below w4.heap.size w4 W) rfl rfl (fun _ W ⟨_, _, _, _, h⟩ => .inr (Fx.of_below h)) (fun W hW => ?_) ?_
      · obtain ⟨w9, q9, n1, n2, n3, n4⟩ := new29 W
        exact ⟨_, w9, n1, q9, rfl, by have := hW.size; omega, n2, bt hW n3⟩
      rintro vq ⟨_, q2, rfl, hq2, _, _⟩
      refine AZ.seg [(8, 1, 1), (9, 0, 0), (10, 0, 0), (11, 0, 0), (13, 1, 1), (14, 0, 0)] 0 rfl (by kernel_rfl) (sq_anti _) (by kernel_rfl) ?_
      simp only [opsZ, List.getD_cons_zero, List.getD_cons_succ]
      refine ZE.callR [.pointer (some ⟨q, 0, none⟩), u32v t, u32v n] (fun u W => u = (.tuple #[kv K2, .int .i64 F2]) ∧ Blk W q2 (z32.map byt) 29 ∧ X2 W) enter27 rfl rfl rfl (fun _ W h => .inr (C2.fx W h.2.2)) (fun W ⟨q9, e9, _, hB9, hW9⟩ => by cases e9; exact (C2.cl W hW9).mono fun e w' ⟨h1, h2, h3⟩ => ⟨_, h1, rfl, hB9.fx h3 (by have := C2.gl; omega), h2⟩) ?_
      rintro u2 ⟨_, rfl, _⟩
      first | refine ZE.move rfl rfl rfl rfl sq0 ?_
      refine ZE.extract rfl rfl rfl rfl sq0 (fun W => (ext_2 _ _ W).1) ?_
      refine ZE.extract rfl rfl rfl rfl sq0 (fun W => (ext_2 _ _ W).2) ?_
      refine ZE.store (fun W => Blk W q2 (K2.map byt) 29 ∧ X2 W) rfl rfl rfl (fun W h => .inr (C2.fx W h.2)) (fun W hW => ?_) ?_
      · obtain ⟨w9, n1, n2, n3⟩ := st29 hW.2.1 z32l hK2
        exact ⟨w9, n1, n2, C2.st W w9 q2 _ hq2 hW.2.1 hW.2.2 n3⟩
      first | refine ZE.assign rfl rfl rfl rfl sq0 ?_
      refine AZ.done (by kernel_rfl) ?_
      rintro w5 ⟨bB, hy⟩
      refine EW.on ?_
      refine EW.seq ?_
      have bA5 := bA.fx (C2.fx _ hy) (by have := l1.size; omega)
      rw [hX2] at hy
      obtain ⟨hy1, v', hy2, hy3⟩ := hy
      have D5 : Ds w0 dk p r q v' most (delE E t n) c (delL L t n) w5 := ⟨bl4.fx hy1 hg2, hx.2.fx hy1 hNE.2.2.2.1 hNE.2.2.2.2.1, hy2, del_perm D.pm t n, D.lt.filter _, Nat.le_trans (List.length_filter_le _ _) D.le, D.mo, D.lo, fun b hb => (by rcases hy3 b hb with e | e; exact D.lv b e; have := be4.size; omega), bfx be4 hy1 D.lo.2.2.2⟩
      refine EW.region ?_
      refine WL.load rfl rfl rfl (ld29 bA5 hK1) ?_
      refine WL.load rfl rfl rfl (ld29 bB hK2) ?_
      refine WL.bin rfl rfl rfl rfl (eql29_same hK1 hKe _ _ _) ?_
      first | refine WL.move rfl rfl rfl ?_
      first | refine WL.move rfl rfl rfl ?_ | refine WL.skip _ rfl rfl rfl ?_
      first | refine WL.move rfl rfl rfl ?_ | refine WL.skip _ rfl rfl rfl ?_
      refine WL.bin rfl rfl rfl rfl (int_eq_t hFe _ _ _) ?_
      first | refine WL.pick rfl rfl rfl rfl ?_
      first | refine WL.assign rfl rfl rfl ?_
      refine WL.done ?_
      refine EW.on ?_
      refine EW.ret ?_
      refine pr_block ?_
      refine pr_then ?_
      exact EW.returns Try.results17 rfl ⟨rfl, p, r, v', delE E t n, c, delL L t n, D5⟩
  · simp only [List.getD_cons_zero, List.getD_cons_succ]
    refine ZE.newW (fun u W => ∃ q9, u = .pointer (some ⟨q9, 0, none⟩) ∧ w1.heap.size ≤ q9 ∧ Blk W q9 (z32.map byt) 29 ∧ Below w1.heap.size w1 W) rfl rfl (fun _ W ⟨_, _, _, _, h⟩ => .inr (Fx.of_below h)) (fun W hW => ?_) ?_
    · obtain ⟨w9, q9, n1, n2, n3, n4⟩ := new29 W
      exact ⟨_, w9, n1, q9, rfl, by have := hW.size; omega, n2, bt hW n3⟩
    rintro vq ⟨_, q1, rfl, hq1, _, _⟩
    refine AZ.seg [(8, 1, 1), (9, 0, 0), (10, 0, 0), (11, 0, 0), (13, 1, 1), (14, 0, 0)] 0 rfl (by kernel_rfl) (sq_anti _) (by kernel_rfl) ?_
    simp only [opsZ, List.getD_cons_zero, List.getD_cons_succ]
    refine ZE.callR [.pointer (some ⟨p, 0, none⟩), u32v t, u32v n] (fun u W => u = (.tuple #[kv K1, .int .i64 F1]) ∧ Blk W q1 (z32.map byt) 29 ∧ X1 W) enter10 rfl rfl rfl (fun _ W h => .inr (C1.fx W h.2.2)) (fun W ⟨q9, e9, _, hB9, hW9⟩ => by cases e9; exact (C1.cl W hW9).mono fun e w' ⟨h1, h2, h3⟩ => ⟨_, h1, rfl, hB9.fx h3 (by have := C1.gl; omega), h2⟩) ?_
    rintro u1 ⟨_, rfl, _⟩
    first | refine ZE.move rfl rfl rfl rfl sq0 ?_
    refine ZE.extract rfl rfl rfl rfl sq0 (fun W => (ext_2 _ _ W).1) ?_
    refine ZE.extract rfl rfl rfl rfl sq0 (fun W => (ext_2 _ _ W).2) ?_
    refine ZE.store (fun W => Blk W q1 (K1.map byt) 29 ∧ X1 W) rfl rfl rfl (fun W h => .inr (C1.fx W h.2)) (fun W hW => ?_) ?_
    · obtain ⟨w9, n1, n2, n3⟩ := st29 hW.2.1 z32l hK1
      exact ⟨w9, n1, n2, C1.st W w9 q1 _ hq1 hW.2.1 hW.2.2 n3⟩
    first | refine ZE.assign rfl rfl rfl rfl sq0 ?_
    refine AZ.done (by kernel_rfl) ?_
    rintro w4 ⟨bA, hx⟩
    refine EW.on ?_
    refine EW.seq ?_
    rw [hX1] at hx
    have bl4 := D1.bl.fx hx.1 hg1
    have rt4 := D1.rt.fx hx.1 (fun e => hNE.2.2.2.2.1 e.symm) (fun b hb => (hNE.2.2.2.2.2.2 b hb).2.2.1)
    have b34 := b3.fx hx.1 ho1
    have be4 := bfx D1.be hx.1 D.lo.2.2.1
    have hg2 : ¬ dk = q := hNE.2.1
    have ho2 : ¬ q3 = q := by omega
    have C2 : Cl w4 q 27 [.pointer (some ⟨q, 0, none⟩), u32v t, u32v n] (.tuple #[kv ((lkL L t n).getD z32), .int .i64 (fdN (lkL L t n))]) (fun W => Fx (fun k => k = q) w4 W ∧ ∃ v', Rt W q v' most (delL L t n) ∧ ∀ b, v'.ownBlock = some b → v.ownBlock = some b ∨ w4.heap.size ≤ b) := ⟨fun W h => h.1, fun W W' h k => ⟨h.1.then_below k, (by obtain ⟨v', h2, h3⟩ := h.2; exact ⟨v', h2.on k, h3⟩)⟩, fun W W' q9 cs hq hB h k => ⟨fx_new h.1 k hq, (by obtain ⟨v', h2, h3⟩ := h.2; exact ⟨v', h2.fx k (h2.bl.neT hB (by decide)) (fun b hb e => h2.so.ow.neB hB (by decide) b hb e), h3⟩)⟩, fun W hW => (rtake_any (rt4.on hW) (by omega) D.lt (fun b hb => (hNE.2.2.2.2.2.2 b hb).2.2.2) t n).mono fun e w' ⟨h1, v', h2, h3, h4⟩ => ⟨h1, ⟨(Fx.of_below hW).and h3, v', h2, fun b hb => (h4 b hb).imp id (fun e => by have := hW.size; omega)⟩, h3⟩, by have := rt4.bl.lt; omega⟩
    obtain ⟨X2, hX2⟩ : ∃ X : World → Prop, X = (fun W => Fx (fun k => k = q) w4 W ∧ ∃ v', Rt W q v' most (delL L t n) ∧ ∀ b, v'.ownBlock = some b → v.ownBlock = some b ∨ w4.heap.size ≤ b) := ⟨_, rfl⟩
    obtain ⟨K2, hK2e⟩ : ∃ K, K = (lkL L t n).getD z32 := ⟨_, rfl⟩
    obtain ⟨F2, hF2e⟩ : ∃ F, F = fdN (lkL L t n) := ⟨_, rfl⟩
    rw [← hX2, ← hK2e, ← hF2e] at C2
    have hK2 : K2.length = 32 := by rw [hK2e]; exact lkL_ok D.rt.so t n
    have hKe : K1 = K2 := by rw [hK1e, hK2e, lk_eq D.pm D.tb.mp.nd]
    have hFe : F1 = F2 := by rw [hF1e, hF2e, lk_eq D.pm D.tb.mp.nd]
    have hq1w := bA.lt
    refine EW.az (SQ (fun W => Fx (fun k => k = q) w4 W)) (levZ [(8, 1, 1), (12, 1, 1), (13, 1, 1)]) (fun W => Below w4.heap.size w4 W) 15 (by kernel_rfl) rfl (below_drawn w4) ?_
    refine AZ.seg [(0, 0, 0), (1, 0, 0), (2, 0, 0), (3, 0, 1), (4, 0, 0), (5, 0, 1), (6, 0, 0), (7, 0, 1)] 7 rfl (by kernel_rfl) (sq_anti _) (by kernel_rfl) ?_
    simp only [opsZ, List.getD_cons_zero, List.getD_cons_succ]
    first | refine ZE.move rfl rfl rfl rfl sq0 ?_
    first | refine ZE.nilc rfl rfl rfl rfl sq0 ?_
    refine ZE.field rfl rfl rfl rfl sq0 (fun W => g52_1 dk W) ?_
    refine ZE.load rfl rfl rfl rfl (fun W h => .inr (Fx.of_below h)) (fun W hW => ldP45 (bl4.fx (sq_of hW) hg2) rfl) ?_
    refine ZE.field rfl rfl rfl rfl sq0 (fun W => f55_1 q3 W) ?_
    first | refine ZE.load rfl rfl rfl rfl (fun W h => .inr (Fx.of_below h)) (fun W hW => (b34.fx (sq_of hW) ho2).ldU (a := [.int .i64 3]) (b := [u32v n, kw]) (n := t) (o := 1) rfl rfl) ?_ | refine ZE.load rfl rfl rfl rfl (fun W h => .inr (Fx.of_below h)) (fun W hW => (b34.fx (sq_of hW) ho2).ldU (a := [.int .i64 3, u32v t]) (b := [kw]) (n := n) (o := 2) rfl rfl) ?_
    refine ZE.field rfl rfl rfl rfl sq0 (fun W => f55_2 q3 W) ?_
    first | refine ZE.load rfl rfl rfl rfl (fun W h => .inr (Fx.of_below h)) (fun W hW => (b34.fx (sq_of hW) ho2).ldU (a := [.int .i64 3]) (b := [u32v n, kw]) (n := t) (o := 1) rfl rfl) ?_ | refine ZE.load rfl rfl rfl rfl (fun W h => .inr (Fx.of_below h)) (fun W hW => (b34.fx (sq_of hW) ho2).ldU (a := [.int .i64 3, u32v t]) (b := [kw]) (n := n) (o := 2) rfl rfl) ?_
    refine AZ.two 6 8 1 12 1 rfl (by kernel_rfl) ?_ ?_
    · simp only [List.getD_cons_zero, List.getD_cons_succ]
      refine ZE.callR [.pointer (some ⟨q, 0, none⟩), u32v t, u32v n] (fun u W => u = (.tuple #[kv K2, .int .i64 F2]) ∧ X2 W) enter27 rfl rfl rfl (fun _ W h => .inr (C2.fx W h.2)) (fun W hW => (C2.cl W hW).mono fun e w' ⟨h1, h2, _⟩ => ⟨_, h1, rfl, h2⟩) ?_
      rintro u2 ⟨_, rfl, _⟩
      refine AZ.seg [(9, 0, 0), (10, 0, 0), (11, 0, 0), (12, 1, 1), (13, 1, 1), (14, 0, 0)] 0 rfl (by kernel_rfl) (sq_anti _) (by kernel_rfl) ?_
      simp only [opsZ, List.getD_cons_zero, List.getD_cons_succ]
      first | refine ZE.move rfl rfl rfl rfl sq0 ?_
      refine ZE.extract rfl rfl rfl rfl sq0 (fun W => (ext_2 _ _ W).1) ?_
      refine ZE.extract rfl rfl rfl rfl sq0 (fun W => (ext_2 _ _ W).2) ?_
      refine ZE.newW (fun u W => ∃ q9, u = .pointer (some ⟨q9, 0, none⟩) ∧ w4.heap.size ≤ q9 ∧ Blk W q9 (z32.map byt) 29 ∧ X2 W) rfl rfl (fun _ W ⟨_, _, _, _, h⟩ => .inr (C2.fx W h)) (fun W hW => ?_) ?_
      · obtain ⟨w9, q9, n1, n2, n3, n4⟩ := new29 W
        exact ⟨_, w9, n1, q9, rfl, by have := (C2.fx W hW.2).size; omega, n2, C2.on W w9 hW.2 n3⟩
      rintro vq ⟨_, q2, rfl, hq2, _, _⟩
      refine ZE.store (fun W => Blk W q2 (K2.map byt) 29 ∧ X2 W) rfl rfl rfl (fun W h => .inr (C2.fx W h.2)) (fun W ⟨q9, e9, _, hB9, hX9⟩ => ?_) ?_
      · cases e9
        obtain ⟨w9, n1, n2, n3⟩ := st29 hB9 z32l hK2
        exact ⟨w9, n1, n2, C2.st W w9 q2 _ hq2 hB9 hX9 n3⟩
      first | refine ZE.assign rfl rfl rfl rfl sq0 ?_
      refine AZ.done (by kernel_rfl) ?_
      rintro w5 ⟨bB, hy⟩
      refine EW.on ?_
      refine EW.seq ?_
      have bA5 := bA.fx (C2.fx _ hy) (by have := l1.size; omega)
      rw [hX2] at hy
      obtain ⟨hy1, v', hy2, hy3⟩ := hy
      have D5 : Ds w0 dk p r q v' most (delE E t n) c (delL L t n) w5 := ⟨bl4.fx hy1 hg2, hx.2.fx hy1 hNE.2.2.2.1 hNE.2.2.2.2.1, hy2, del_perm D.pm t n, D.lt.filter _, Nat.le_trans (List.length_filter_le _ _) D.le, D.mo, D.lo, fun b hb => (by rcases hy3 b hb with e | e; exact D.lv b e; have := be4.size; omega), bfx be4 hy1 D.lo.2.2.2⟩
      refine EW.region ?_
      refine WL.load rfl rfl rfl (ld29 bA5 hK1) ?_
      refine WL.load rfl rfl rfl (ld29 bB hK2) ?_
      refine WL.bin rfl rfl rfl rfl (eql29_same hK1 hKe _ _ _) ?_
      first | refine WL.move rfl rfl rfl ?_
      first | refine WL.move rfl rfl rfl ?_ | refine WL.skip _ rfl rfl rfl ?_
      first | refine WL.move rfl rfl rfl ?_ | refine WL.skip _ rfl rfl rfl ?_
      refine WL.bin rfl rfl rfl rfl (int_eq_t hFe _ _ _) ?_
      first | refine WL.pick rfl rfl rfl rfl ?_
      first | refine WL.assign rfl rfl rfl ?_
      refine WL.done ?_
      refine EW.on ?_
      refine EW.ret ?_
      refine pr_block ?_
      refine pr_then ?_
      exact EW.returns Try.results17 rfl ⟨rfl, p, r, v', delE E t n, c, delL L t n, D5⟩
    · simp only [List.getD_cons_zero, List.getD_cons_succ]
      refine ZE.newW (fun u W => ∃ q9, u = .pointer (some ⟨q9, 0, none⟩) ∧ w4.heap.size ≤ q9 ∧ Blk W q9 (z32.map byt) 29 ∧ Below w4.heap.size w4 W) rfl rfl (fun _ W ⟨_, _, _, _, h⟩ => .inr (Fx.of_below h)) (fun W hW => ?_) ?_
      · obtain ⟨w9, q9, n1, n2, n3, n4⟩ := new29 W
        exact ⟨_, w9, n1, q9, rfl, by have := hW.size; omega, n2, bt hW n3⟩
      rintro vq ⟨_, q2, rfl, hq2, _, _⟩
      refine AZ.seg [(8, 1, 1), (9, 0, 0), (10, 0, 0), (11, 0, 0), (13, 1, 1), (14, 0, 0)] 0 rfl (by kernel_rfl) (sq_anti _) (by kernel_rfl) ?_
      simp only [opsZ, List.getD_cons_zero, List.getD_cons_succ]
      refine ZE.callR [.pointer (some ⟨q, 0, none⟩), u32v t, u32v n] (fun u W => u = (.tuple #[kv K2, .int .i64 F2]) ∧ Blk W q2 (z32.map byt) 29 ∧ X2 W) enter27 rfl rfl rfl (fun _ W h => .inr (C2.fx W h.2.2)) (fun W ⟨q9, e9, _, hB9, hW9⟩ => by cases e9; exact (C2.cl W hW9).mono fun e w' ⟨h1, h2, h3⟩ => ⟨_, h1, rfl, hB9.fx h3 (by have := C2.gl; omega), h2⟩) ?_
      rintro u2 ⟨_, rfl, _⟩
      first | refine ZE.move rfl rfl rfl rfl sq0 ?_
      refine ZE.extract rfl rfl rfl rfl sq0 (fun W => (ext_2 _ _ W).1) ?_
      refine ZE.extract rfl rfl rfl rfl sq0 (fun W => (ext_2 _ _ W).2) ?_
      refine ZE.store (fun W => Blk W q2 (K2.map byt) 29 ∧ X2 W) rfl rfl rfl (fun W h => .inr (C2.fx W h.2)) (fun W hW => ?_) ?_
      · obtain ⟨w9, n1, n2, n3⟩ := st29 hW.2.1 z32l hK2
        exact ⟨w9, n1, n2, C2.st W w9 q2 _ hq2 hW.2.1 hW.2.2 n3⟩
      first | refine ZE.assign rfl rfl rfl rfl sq0 ?_
      refine AZ.done (by kernel_rfl) ?_
      rintro w5 ⟨bB, hy⟩
      refine EW.on ?_
      refine EW.seq ?_
      have bA5 := bA.fx (C2.fx _ hy) (by have := l1.size; omega)
      rw [hX2] at hy
      obtain ⟨hy1, v', hy2, hy3⟩ := hy
      have D5 : Ds w0 dk p r q v' most (delE E t n) c (delL L t n) w5 := ⟨bl4.fx hy1 hg2, hx.2.fx hy1 hNE.2.2.2.1 hNE.2.2.2.2.1, hy2, del_perm D.pm t n, D.lt.filter _, Nat.le_trans (List.length_filter_le _ _) D.le, D.mo, D.lo, fun b hb => (by rcases hy3 b hb with e | e; exact D.lv b e; have := be4.size; omega), bfx be4 hy1 D.lo.2.2.2⟩
      refine EW.region ?_
      refine WL.load rfl rfl rfl (ld29 bA5 hK1) ?_
      refine WL.load rfl rfl rfl (ld29 bB hK2) ?_
      refine WL.bin rfl rfl rfl rfl (eql29_same hK1 hKe _ _ _) ?_
      first | refine WL.move rfl rfl rfl ?_
      first | refine WL.move rfl rfl rfl ?_ | refine WL.skip _ rfl rfl rfl ?_
      first | refine WL.move rfl rfl rfl ?_ | refine WL.skip _ rfl rfl rfl ?_
      refine WL.bin rfl rfl rfl rfl (int_eq_t hFe _ _ _) ?_
      first | refine WL.pick rfl rfl rfl rfl ?_
      first | refine WL.assign rfl rfl rfl ?_
      refine WL.done ?_
      refine EW.on ?_
      refine EW.ret ?_
      refine pr_block ?_
      refine pr_then ?_
      exact EW.returns Try.results17 rfl ⟨rfl, p, r, v', delE E t n, c, delL L t n, D5⟩
end Go.Proofs.Ytggehhlobjjmpaa
