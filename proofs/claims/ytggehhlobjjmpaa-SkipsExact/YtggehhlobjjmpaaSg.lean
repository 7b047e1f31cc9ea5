import Derived.Test.YtggehhlobjjmpaaSf
import Derived.Test.YtggehhlobjjmpaaSo
set_option linter.unusedVariables false
set_option linter.unusedSimpArgs false
namespace Go.Proofs.Ytggehhlobjjmpaa
open Go.RowKit

def cmpN (x y : Nat) : Int := if x < y then -1 else if y < x then 1 else 0
def cmpS (a b : Sk) : Int := if cmpN a.t b.t = 0 then cmpN a.n b.n else cmpN a.t b.t
set_option maxRecDepth 100000 in
set_option maxHeartbeats 1000000 in
theorem nan_any (x : Nat) (w : World) : Calls Try.prog 45 #[u32v x] w fun e w' => e = .returned (.bool false) ∧ w' = w := by
  refine calls_of_args [u32v x] Try.func45 rfl 6 Try.ntmps45 (by show 1 ≤ 6; decide) ?_
  refine EW.seq ?_
  refine EW.region ?_
  first | refine WL.assign rfl rfl rfl ?_
  refine WL.done ?_
  refine EW.on ?_
  refine EW.seq ?_
  refine EW.region ?_
  first | refine WL.move rfl rfl rfl ?_
  first | refine WL.move rfl rfl rfl ?_
  refine WL.bin rfl rfl rfl rfl (neqU _ _ _ _ _) ?_
  first | refine WL.assign rfl rfl rfl ?_
  refine WL.done ?_
  refine EW.on ?_
  refine EW.ret ?_
  exact EW.returns Try.results45 rfl ⟨by simp, rfl⟩
set_option maxRecDepth 100000 in
set_option maxHeartbeats 1000000 in
theorem cmp_any (x y : Nat) (w : World) : Calls Try.prog 31 #[u32v x, u32v y] w fun e w' => e = .returned (.int .i64 (cmpN x y)) ∧ w' = w := by
  refine calls_of_args [u32v x, u32v y] Try.func31 rfl 20 Try.ntmps31 (by show 2 ≤ 20; decide) ?_
  refine EW.seq ?_
  refine EW.region ?_
  first | refine WL.assign rfl rfl rfl ?_
  refine WL.done ?_
  refine EW.on ?_
  refine EW.seq ?_
  refine EW.region ?_
  first | refine WL.move rfl rfl rfl ?_
  refine WL.call [u32v x] enter45 rfl rfl rfl (nan_any _ _) ?_
  rintro x1 w1 ⟨rfl, hw1⟩
  refine ⟨_, rfl, ?_⟩
  rw [hw1]
  first | refine WL.assign rfl rfl rfl ?_
  refine WL.done ?_
  refine EW.on ?_
  refine EW.seq ?_
  refine EW.region ?_
  first | refine WL.move rfl rfl rfl ?_
  refine WL.call [u32v y] enter45 rfl rfl rfl (nan_any _ _) ?_
  rintro x2 w2 ⟨rfl, hw2⟩
  refine ⟨_, rfl, ?_⟩
  rw [hw2]
  first | refine WL.assign rfl rfl rfl ?_
  refine WL.done ?_
  refine EW.on ?_
  refine EW.seq ?_
  refine EW.seq ?_
  refine EW.region ?_
  first | refine WL.move rfl rfl rfl ?_
  refine WL.done ?_
  refine EW.on ?_
  refine EW.cond_f rfl ?_
  refine EW.skip ?_
  refine EW.on ?_
  refine EW.seq ?_
  refine EW.seq ?_
  refine EW.region ?_
  first | refine WL.move rfl rfl rfl ?_
  refine WL.done ?_
  refine EW.on ?_
  refine EW.cond_f rfl ?_
  refine EW.skip ?_
  refine EW.on ?_
  refine EW.seq ?_
  refine EW.seq ?_
  refine EW.region ?_
  first | refine WL.move rfl rfl rfl ?_
  first | refine WL.move rfl rfl rfl ?_
  refine WL.bin rfl rfl rfl rfl (lssU _ _ _ _ _) ?_
  refine WL.done ?_
  refine EW.on ?_
  refine EW.cond_d rfl (fun h16 => ?_) (fun h16 => ?_)
  · refine EW.seq ?_
    refine EW.region ?_
    first | refine WL.assign rfl rfl rfl ?_
    refine WL.done ?_
    refine EW.on ?_
    refine EW.ret ?_
    refine pr_then ?_
    exact EW.returns Try.results31 rfl ⟨by unfold cmpN; rw [if_pos h16], rfl⟩
  · refine EW.skip ?_
    refine EW.on ?_
    refine EW.seq ?_
    refine EW.seq ?_
    refine EW.region ?_
    first | refine WL.move rfl rfl rfl ?_
    first | refine WL.move rfl rfl rfl ?_
    refine WL.bin rfl rfl rfl rfl (gtrU _ _ _ _ _) ?_
    refine WL.done ?_
    refine EW.on ?_
    refine EW.cond_d rfl (fun h19 => ?_) (fun h19 => ?_)
    · refine EW.seq ?_
      refine EW.region ?_
      first | refine WL.assign rfl rfl rfl ?_
      refine WL.done ?_
      refine EW.on ?_
      refine EW.ret ?_
      refine pr_then ?_
      exact EW.returns Try.results31 rfl ⟨by unfold cmpN; rw [if_neg h16, if_pos h19], rfl⟩
    · refine EW.skip ?_
      refine EW.on ?_
      refine EW.seq ?_
      refine EW.region ?_
      first | refine WL.assign rfl rfl rfl ?_
      refine WL.done ?_
      refine EW.on ?_
      refine EW.ret ?_
      exact EW.returns Try.results31 rfl ⟨by unfold cmpN; rw [if_neg h16, if_neg h19], rfl⟩
theorem len23 (ao : Option Addr) (n c : Nat) (W : World) (ty : TypeId) : (Builtin.len_ #[23] ty #[.slice ao n c]).run Try.prog W = .ok (.int .i64 (n : Int)) W := by go_simp
theorem idx23 (q : Nat) (n cap m : Nat) (h : m < n) (W : World) : (Instr.indexAt 23 (.slice (some ⟨q, 0, none⟩) n cap) (.int .i64 (m : Int))).run Try.prog W = .ok (.pointer (some ⟨q, m, none⟩)) W := by
  have hm : (m : Int) < (n : Int) := by omega
  go_simp
def orE (q : Nat) (x : Nat) : List (Nat × Value) := [(3, .int .i64 0), (6, .slice (some ⟨q, 0, none⟩) 2 2), (7, .int .i64 2), (8, .int .i64 (x : Int))]
def OrR (a b : Int) (w : World) (x : Nat) (W : World) : Prop := x ≤ 2 ∧ (1 ≤ x → a = 0) ∧ (2 ≤ x → b = 0) ∧ W = w
set_option maxRecDepth 100000 in
set_option maxHeartbeats 1000000 in
theorem or_any (a b : Int) (q : Nat) (w : World) (hq : Blk w q [.int .i64 a, .int .i64 b] 3) : Calls Try.prog 30 #[.slice (some ⟨q, 0, none⟩) 2 2] w fun e w' => e = .returned (.int .i64 (if a = 0 then b else a)) ∧ w' = w := by
  refine calls_of_args [.slice (some ⟨q, 0, none⟩) 2 2] Try.func30 rfl 18 Try.ntmps30 (by show 1 ≤ 18; decide) ?_
  refine EW.seq ?_
  refine EW.region ?_
  first | refine WL.assign rfl rfl rfl ?_
  refine WL.done ?_
  refine EW.on ?_
  refine EW.seq ?_
  refine EW.region ?_
  first | refine WL.assign rfl rfl rfl ?_
  refine WL.done ?_
  refine EW.on ?_
  refine EW.seq ?_
  refine EW.seq ?_
  refine EW.region ?_
  first | refine WL.move rfl rfl rfl ?_
  refine WL.len rfl rfl rfl (len23 _ _ _ _ _) ?_
  first | refine WL.move rfl rfl rfl ?_
  refine WL.done ?_
  refine EW.on ?_
  refine EW.block ?_
  refine EW.loop (orE q) (OrR a b w) (fun x => 2 - x) 0 [3, 6, 7, 8] rfl ⟨Nat.zero_le _, fun h => absurd h (by decide), fun h => absurd h (by decide), rfl⟩ ?_
  rintro x wi ⟨hx2, ha, hb, hwi⟩
  rw [hwi]
  show EW _ _ _ _ [(3, .int .i64 0), (6, .slice (some ⟨q, 0, none⟩) 2 2), (7, .int .i64 2), (8, .int .i64 (x : Int))] _
  refine EW.seq ?_
  refine EW.region ?_
  refine WL.bin rfl rfl rfl rfl (int_lt_d _ _ _ _ _) ?_
  refine WL.done ?_
  refine EW.on ?_
  refine EW.seq ?_
  refine EW.cond_d rfl (fun h9 => ?_) (fun h9 => ?_)
  · refine EW.skip ?_
    refine EW.on ?_
    refine EW.seq ?_
    refine EW.block ?_
    refine EW.seq ?_
    obtain ⟨z, hcx, hor, hor1⟩ : ∃ z, [Value.int .i64 a, .int .i64 b][x]? = some (.int .i64 z) ∧ (x = 0 → z = a) ∧ (x = 1 → z = b) := by
      rcases (show x = 0 ∨ x = 1 by omega) with rfl | rfl
      · exact ⟨a, rfl, fun _ => rfl, fun h => absurd h (by decide)⟩
      · exact ⟨b, rfl, fun h => absurd h (by decide), fun _ => rfl⟩
    refine EW.region ?_
    refine WL.index rfl rfl rfl rfl (idx23 q 2 2 x (by omega) _) ?_
    refine WL.load rfl rfl rfl (ldI hq hcx) ?_
    first | refine WL.assign rfl rfl rfl ?_
    refine WL.done ?_
    refine EW.on ?_
    refine EW.seq ?_
    refine EW.region ?_
    first | refine WL.move rfl rfl rfl ?_
    first | refine WL.move rfl rfl rfl ?_
    refine WL.bin rfl rfl rfl rfl (int_ne_d _ _ _ _ _) ?_
    refine WL.done ?_
    refine EW.on ?_
    refine EW.cond_d rfl (fun h14 => ?_) (fun h14 => ?_)
    · refine EW.seq ?_
      refine EW.region ?_
      first | refine WL.move rfl rfl rfl ?_
      first | refine WL.assign rfl rfl rfl ?_
      refine WL.done ?_
      refine EW.on ?_
      refine EW.ret ?_
      refine pr_block ?_
      refine pr_then ?_
      refine pr_then ?_
      refine pr_block ?_
      refine pr_then ?_
      exact EW.returns Try.results30 rfl ⟨by rcases (show x = 0 ∨ x = 1 by omega) with e | e; rw [if_neg (by rw [← hor e]; exact h14), hor e]; rw [if_pos (ha (by omega)), hor1 e], rfl⟩
    · refine EW.skip ?_
      refine pn_block ?_
      refine EW.on ?_
      have h14' : z = 0 := Classical.not_not.1 h14
      refine EW.region ?_
      refine WL.bin rfl rfl rfl rfl (int_add (c := ((x + 1 : Nat) : Int)) (by rw [IntKind.wrap_i64]; omega) _ _ _) ?_
      first | refine WL.move rfl rfl rfl ?_
      refine WL.done ?_
      exact EW.again (E := orE q) (R := OrR a b w) (m := fun x => 2 - x) (x := x) (x + 1) [3, 6, 7, 8] rfl ⟨by omega, fun h => (by rcases Nat.eq_zero_or_pos x with e | e; exact (hor e).symm.trans h14'; exact ha e), fun h => (hor1 (by omega)).symm.trans h14', rfl⟩ (by show 2 - (x + 1) < 2 - x; omega)
  · refine EW.exit ?_
    refine px_then ?_
    refine px_then ?_
    refine px_block ?_
    refine EW.on ?_
    refine EW.seq ?_
    refine EW.region ?_
    first | refine WL.move rfl rfl rfl ?_
    first | refine WL.assign rfl rfl rfl ?_
    refine WL.done ?_
    refine EW.on ?_
    refine EW.ret ?_
    exact EW.returns Try.results30 rfl ⟨by rw [if_pos (ha (by omega)), hb (by omega)], rfl⟩
/-- A world that has come of w by draws and new blocks alone. -/
def Gw (w W : World) : Prop := ∃ q os, W = Go.Sort.grow (w.drewN q) os
theorem Gw.refl (w : World) : Gw w w := ⟨0, #[], by rw [Go.Sort.grow_empty]; rfl⟩
theorem Gw.drew {w W : World} (h : Gw w W) : Gw w { W with drawn := W.drawn + 1 } := by
  obtain ⟨q, os, rfl⟩ := h
  exact ⟨q + 1, os, rfl⟩
theorem Gw.alloc {w W : World} (h : Gw w W) (o : Obj) : Gw w (W.alloc o) := by
  obtain ⟨q, os, rfl⟩ := h
  exact ⟨q, os ++ #[o], by rw [Go.Sort.alloc_eq_grow, Go.Sort.grow_grow]⟩
theorem Gw.below {w W : World} (h : Gw w W) : Below w.heap.size w W := by
  obtain ⟨q, os, rfl⟩ := h
  refine ⟨rfl, rfl, rfl, by rw [Go.Sort.size_grow]; exact Nat.le_add_right _ _, fun k hk => ?_⟩
  show (w.heap ++ os)[k]? = _
  rw [Array.getElem?_append_left hk]
/-- The worlds of a level. -/
def SG (w : World) (l : Nat) (W : World) : Prop := l = 0 ∨ Gw w W
theorem sg_anti (w : World) (m n : Nat) (W : World) (h : m ≤ n) (k : SG w n W) : SG w m W := by
  rcases k with k | k
  · exact .inl (by omega)
  · exact .inr k
theorem sg_of {w W : World} {l : Nat} {C : World → Prop} (h : SZ (SG w) 0 (l + 1) C W) : Gw w W := by
  rcases h with h | h
  · cases h
  · exact h
theorem sg0 {w : World} {C : World → Prop} : ∀ W, C W → SZ (SG w) 0 0 C W := fun _ _ => .inl rfl
theorem sg1 {w : World} {l : Nat} {C' : World → Prop} : ∀ W, Gw w W → SZ (SG w) 0 l C' W := fun _ h => .inr h
theorem bsl23 (a b : Int) (w : World) : (Instr.buildSlice 23 2 [(0, .int .i64 a), (1, .int .i64 b)].toArray).run Try.prog w = .ok (.slice (some ⟨w.heap.size, 0, none⟩) 2 2) (w.alloc (.cells [.int .i64 a, .int .i64 b].toArray 3)) := by
  go_simp
theorem g39_0 (q : Nat) (W : World) : (Instr.fieldAt 39 (.pointer (some ⟨q, 0, none⟩)) 0).run Try.prog W = .ok (.pointer (some ⟨q, 0, none⟩)) W := by go_simp
theorem g39_1 (q : Nat) (W : World) : (Instr.fieldAt 39 (.pointer (some ⟨q, 0, none⟩)) 1).run Try.prog W = .ok (.pointer (some ⟨q, 1, none⟩)) W := by go_simp
theorem g39_2 (q : Nat) (W : World) : (Instr.fieldAt 39 (.pointer (some ⟨q, 0, none⟩)) 2).run Try.prog W = .ok (.pointer (some ⟨q, 2, none⟩)) W := by go_simp
set_option maxRecDepth 100000 in
set_option maxHeartbeats 4000000 in
theorem compare_any (a b : Sk) (w : World) : Calls Try.prog 20 #[a.v, b.v] w fun e w' => e = .returned (.int .i64 (cmpS a b)) ∧ Gw w w' := by
  obtain ⟨w2, q2, r2, b2, g2, hq2⟩ : ∃ w1 q, (Instr.box 39 a.v).run Try.prog w = .ok (.pointer (some ⟨q, 0, none⟩)) w1 ∧ Blk w1 q a.cs 39 ∧ Gw w w1 ∧ q = w.heap.size := ⟨_, _, run_boxR 39 _ w _ rfl, Blk.new _ _ _, (Gw.refl w).alloc _, rfl⟩
  obtain ⟨w3, q3, r3, b3, g3, hq3⟩ : ∃ w1 q, (Instr.box 39 b.v).run Try.prog w2 = .ok (.pointer (some ⟨q, 0, none⟩)) w1 ∧ Blk w1 q b.cs 39 ∧ (Gw w w1 ∧ Below w2.heap.size w2 w1) ∧ q = w2.heap.size := ⟨_, _, run_boxR 39 _ w2 _ rfl, Blk.new _ _ _, ⟨g2.alloc _, below_new _ _⟩, rfl⟩
  replace b2 := b2.on g3.2
  have gt : ∀ W, Gw w3 W → Gw w W := fun W h => by
    obtain ⟨q, os, rfl⟩ := h
    obtain ⟨q', os', h2⟩ := g3.1
    rw [h2]
    exact ⟨q' + q, os' ++ os, by rw [← Go.Sort.grow_grow]; simp [Go.Sort.grow, World.drewN, Nat.add_assoc]⟩
  refine calls_of_args [a.v, b.v] Try.func20 rfl 17 Try.ntmps20 (by show 2 ≤ 17; decide) ?_
  refine EW.seq ?_
  refine EW.region ?_
  refine WL.box rfl rfl rfl r2 ?_
  refine WL.box rfl rfl rfl r3 ?_
  first | refine WL.assign rfl rfl rfl ?_
  refine WL.done ?_
  refine EW.on ?_
  refine EW.seq ?_
  refine EW.ordZ [(0, 0, 0), (1, 0, 1), (2, 0, 0), (3, 0, 1), (5, 0, 0), (6, 0, 1), (7, 0, 0), (8, 0, 1), (4, 1, 1), (9, 1, 1), (10, 1, 1), (11, 1, 1), (12, 0, 0)] (SG w3) (fun W => Gw w3 W) (by kernel_rfl) rfl (by kernel_rfl) (sg_anti w3) (Gw.refl w3).drew ?_
  simp only [opsZ, List.getD_cons_zero, List.getD_cons_succ]
  refine ZE.field rfl rfl rfl rfl sg0 (fun W => g39_0 q2 W) ?_
  refine ZE.load rfl rfl rfl rfl sg1 (fun W hW => (b2.on (sg_of hW).below).ldU (a := []) rfl rfl) ?_
  refine ZE.field rfl rfl rfl rfl sg0 (fun W => g39_0 q3 W) ?_
  refine ZE.load rfl rfl rfl rfl sg1 (fun W hW => (b3.on (sg_of hW).below).ldU (a := []) rfl rfl) ?_
  refine ZE.field rfl rfl rfl rfl sg0 (fun W => g39_1 q2 W) ?_
  refine ZE.load rfl rfl rfl rfl sg1 (fun W hW => (b2.on (sg_of hW).below).ldU (a := [u32v a.t]) rfl rfl) ?_
  refine ZE.field rfl rfl rfl rfl sg0 (fun W => g39_1 q3 W) ?_
  refine ZE.load rfl rfl rfl rfl sg1 (fun W hW => (b3.on (sg_of hW).below).ldU (a := [u32v b.t]) rfl rfl) ?_
  refine ZE.callV [u32v a.t, u32v b.t] (.int .i64 (cmpN a.t b.t)) (fun W => Gw w3 W) enter31 rfl rfl rfl (fun _ h => .inr h) (fun W hW => (cmp_any _ _ W).mono fun e w' ⟨h1, h2⟩ => ⟨h1, by rw [h2]; exact hW⟩) ?_
  refine ZE.callV [u32v a.n, u32v b.n] (.int .i64 (cmpN a.n b.n)) (fun W => Gw w3 W) enter31 rfl rfl rfl (fun _ h => .inr h) (fun W hW => (cmp_any _ _ W).mono fun e w' ⟨h1, h2⟩ => ⟨h1, by rw [h2]; exact hW⟩) ?_
  refine ZE.bsl [(0, .int .i64 (cmpN a.t b.t)), (1, .int .i64 (cmpN a.n b.n))] (fun v W => ∃ q, v = .slice (some ⟨q, 0, none⟩) 2 2 ∧ Blk W q [.int .i64 (cmpN a.t b.t), .int .i64 (cmpN a.n b.n)] 3 ∧ Gw w3 W) rfl rfl rfl (fun _ _ ⟨_, _, _, h⟩ => .inr h) (fun W hW => ⟨_, _, bsl23 _ _ W, _, rfl, Blk.new _ _ _, hW.alloc _⟩) ?_
  rintro vs ⟨W0, q5, rfl, _, _⟩
  refine ZE.callV [.slice (some ⟨q5, 0, none⟩) 2 2] (.int .i64 (cmpS a b)) (fun W => Gw w3 W) enter30 rfl rfl rfl (fun _ h => .inr h) (fun W ⟨q, hq, hb, hg⟩ => by cases hq; exact (or_any _ _ _ W hb).mono fun e w' ⟨h1, h2⟩ => ⟨by rw [h1]; rfl, by rw [h2]; exact hg⟩) ?_
  refine ZE.assign rfl rfl rfl rfl sg0 ?_
  rintro W hW
  refine EW.on ?_
  refine EW.ret ?_
  exact EW.returns Try.results20 rfl ⟨rfl, gt W hW⟩
end Go.Proofs.Ytggehhlobjjmpaa
