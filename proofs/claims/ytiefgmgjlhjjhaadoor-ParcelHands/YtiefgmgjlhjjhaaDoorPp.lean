import Derived.Test.YtiefgmgjlhjjhaaDoorPo
set_option linter.unusedVariables false
set_option linter.unusedSimpArgs false
namespace Go.Proofs.YtiefgmgjlhjjhaaDoor
open Go.RowKit

theorem neg_i (a : Int) {c : Int} (h : IntKind.i64.wrap (-a) = c) (W : World) : (Op.unary .neg (.int .i64 a)).run Tryd.prog W = .ok (.int .i64 c) W := by
  subst h
  go_simp
theorem rem_i (a b : Int) (h : b ≠ 0) {c : Int} (hc : Int.tmod a b = c) (W : World) (x y : Operand) : (do eqGuard .rem 3 x y (.int .i64 a) (.int .i64 b); binOp .rem 3 (.int .i64 a) (.int .i64 b) : Sem Value).run Tryd.prog W = .ok (.int .i64 c) W := by
  subst hc
  go_simp

/-- Numbers in a slice. -/
def Hi (w : World) (v : Value) (zs : List Int) : Prop := Li 1 w v (ir zs)
theorem Oi.hi {w : World} {b : Nat} {v : Value} {l : List Int} (h : Oi w b v l) : Hi w v l := h.ow.li
theorem Hi.slice {w : World} {v : Value} {zs : List Int} (h : Hi w v zs) : ∃ ao c, v = .slice ao zs.length c := by
  rcases h.sl with ⟨h1, h2⟩ | ⟨ad, cap, h1, _⟩
  · have : zs = [] := by cases zs with | nil => rfl | cons a r => simp [ir] at h2
    subst this; exact ⟨_, _, h1⟩
  · rw [ir_len] at h1; exact ⟨_, _, h1⟩
theorem Hi.len {w : World} {v : Value} {zs : List Int} (h : Hi w v zs) (ty : TypeId) (W : World) : (Builtin.len_ #[23] ty #[v]).run Tryd.prog W = .ok (.int .i64 (zs.length : Int)) W := by
  obtain ⟨ao, c, rfl⟩ := h.slice
  exact len23 _ _ _ _ _
theorem x23 (ad : Addr) (n cap m : Nat) (h : m < n) (W : World) : (Instr.indexAt 23 (.slice (some ad) n cap) (.int .i64 (m : Int))).run Tryd.prog W = .ok (.pointer (some (ad.add m))) W := by
  have hm : (m : Int) < (n : Int) := by omega
  go_simp
theorem ldZ {W : World} {ad : Addr} {v : Int} (hc : W.cell? ad = some (.int .i64 v)) : (Instr.loadAt 3 (.pointer (some ad))).run Tryd.prog W = .ok (.int .i64 v) W := by go_simp
theorem Ob.neM {w : World} {b : Nat} {v : Value} {bs : List UInt8} (h : Ob w b v bs) {r : Nat} {es : Array MapEntry} {c : Nat} (hr : w.heap[r]? = some (.map es c)) : v.ownBlock ≠ some r := fun e => by
  obtain ⟨_, cur, hc⟩ := h.lt e
  rw [hr] at hc; cases hc
/-- A byte of a number. -/
def byZ (z : Int) : UInt8 := UInt8.ofNat (z % 256).toNat
theorem conv_z (z : Int) (W : World) : (Go.convert 3 5 (.int .i64 z)).run Tryd.prog W = .ok (byt (byZ z)) W := by
  have e : IntKind.u8.wrap z = ((byZ z).toNat : Int) := by rw [IntKind.wrap_u8]; unfold byZ; rw [UInt8.toNat_ofNat']; omega
  unfold byt
  go_simp
def lgB (seed : Int) (i : Nat) : UInt8 := byZ (IntKind.i64.wrap (((i * 7 + i / 251 : Nat) : Int) + seed))
def lgL (n : Nat) (seed : Int) : List UInt8 := (List.range n).map (lgB seed)
theorem lgL_len (n : Nat) (seed : Int) : (lgL n seed).length = n := by simp [lgL]
theorem lgL_succ (n : Nat) (seed : Int) : lgL (n + 1) seed = lgL n seed ++ [lgB seed n] := by simp [lgL, List.range_succ]
def lE (n : Nat) (seed : Int) (x : Nat × Value) : List (Nat × Value) := [(0, .int .i64 (n : Int)), (1, .int .i64 seed), (5, x.2), (6, .int .i64 (x.1 : Int))]
structure LR (n : Nat) (seed : Int) (w : World) (x : Nat × Value) (W : World) : Prop where
  le : x.1 ≤ n
  ow : Own W w.heap.size x.2 (lgL x.1 seed)
  be : Below w.heap.size w W
set_option maxRecDepth 100000 in
set_option maxHeartbeats 4000000 in
theorem long_any (n : Nat) (seed : Int) (hn : n ≤ 1000000) (w : World) : Calls Tryd.prog 7 #[.int .i64 (n : Int), .int .i64 seed] w fun e w' => ∃ v, e = .returned v ∧ Ob w' w.heap.size v (lgL n seed) ∧ Below w.heap.size w w' := by
  refine calls_of_args [.int .i64 (n : Int), .int .i64 seed] Tryd.func7 rfl 24 Tryd.ntmps7 (by show 2 ≤ 24; decide) ?_
  refine EW.seq ?_
  refine EW.region ?_
  first | refine WL.assign rfl rfl rfl ?_
  refine WL.done ?_
  refine EW.on ?_
  refine EW.seq ?_
  refine EW.region ?_
  first | refine WL.assign rfl rfl rfl ?_
  refine WL.done ?_
  refine EW.on ?_
  refine EW.seq ?_
  refine EW.seq ?_
  refine EW.region ?_
  first | refine WL.assign rfl rfl rfl ?_
  refine WL.done ?_
  refine EW.on ?_
  refine EW.block ?_
  refine EW.loop (lE n seed) (LR n seed w) (fun x => n - x.1) (0, .slice none 0 0) [0, 1, 5, 6] rfl ⟨Nat.zero_le _, Own.nil' _ _, Below.refl _ _⟩ ?_
  rintro x W hR
  show EW _ _ _ _ [(0, .int .i64 (n : Int)), (1, .int .i64 seed), (5, x.2), (6, .int .i64 (x.1 : Int))] _
  have hle := hR.le
  have s1 : IntKind.i64.wrap ((x.1 : Int) + 1) = ((x.1 + 1 : Nat) : Int) := by rw [IntKind.wrap_i64]; omega
  have sA : IntKind.i64.wrap (((x.1 * 7 : Nat) : Int) + ((x.1 / 251 : Nat) : Int)) = ((x.1 * 7 + x.1 / 251 : Nat) : Int) := by rw [IntKind.wrap_i64]; omega
  refine EW.seq ?_
  refine EW.seq ?_
  refine EW.region ?_
  first | refine WL.move rfl rfl rfl ?_
  first | refine WL.move rfl rfl rfl ?_
  refine WL.bin rfl rfl rfl rfl (int_lt_d _ _ _ _ _) ?_
  refine WL.done ?_
  refine EW.on ?_
  refine EW.cond_d rfl (fun h9 => ?_) (fun h9 => ?_)
  · refine EW.skip ?_
    refine EW.on ?_
    refine EW.seq ?_
    refine EW.block ?_
    refine EW.region ?_
    first | refine WL.move rfl rfl rfl ?_
    first | refine WL.move rfl rfl rfl ?_
    refine WL.bin rfl rfl rfl rfl (mul_n x.1 7 (by omega) _ _ _) ?_
    first | refine WL.move rfl rfl rfl ?_
    refine WL.bin rfl rfl rfl rfl (quo_n x.1 251 (by decide) (by omega) _ _ _) ?_
    refine WL.bin rfl rfl rfl rfl (int_add sA _ _ _) ?_
    first | refine WL.move rfl rfl rfl ?_
    refine WL.bin rfl rfl rfl rfl (int_add rfl _ _ _) ?_
    refine WL.conv rfl rfl rfl (conv_z _ _) ?_
    obtain ⟨s, W1, v2, W2, ra, rb, o2, be2, _⟩ := hR.ow.push (lgB seed x.1) (by rw [lgL_len]; omega) hR.be.size 24
    refine WL.bslN [(0, byt (lgB seed x.1))] rfl rfl rfl ra ?_
    refine WL.app rfl rfl rfl rfl rb ?_
    first | refine WL.assign rfl rfl rfl ?_
    refine WL.done ?_
    refine pn_block ?_
    refine EW.on ?_
    refine EW.region ?_
    first | refine WL.move rfl rfl rfl ?_
    refine WL.bin rfl rfl rfl rfl (int_add s1 _ _ _) ?_
    first | refine WL.assign rfl rfl rfl ?_
    refine WL.done ?_
    refine EW.again (x.1 + 1, v2) [0, 1, 5, 6] rfl ⟨by show x.1 + 1 ≤ n; omega, by show Own W2 _ v2 (lgL (x.1 + 1) seed); rw [lgL_succ]; exact o2, hR.be.trans be2⟩ (by show n - (x.1 + 1) < n - x.1; omega)
  · refine EW.exit ?_
    refine px_then ?_
    refine px_then ?_
    refine px_block ?_
    refine EW.on ?_
    refine EW.seq ?_
    refine EW.region ?_
    first | refine WL.move rfl rfl rfl ?_
    first | refine WL.assign rfl rfl rfl ?_
    refine WL.done ?_
    refine EW.on ?_
    refine EW.ret ?_
    exact EW.returns Tryd.results7 rfl ⟨x.2, rfl, (show x.1 = n by omega) ▸ hR.ow.ob, hR.be⟩
theorem abs_i (n : Int) (h1 : -9223372036854775808 ≤ n) (h2 : n ≤ 9223372036854775807) : ∃ r : Nat, max n (IntKind.i64.wrap (-(IntKind.i64.wrap (n + 1)))) = (r : Int) := by
  refine ⟨(max n (IntKind.i64.wrap (-(IntKind.i64.wrap (n + 1))))).toNat, ?_⟩
  rw [Int.toNat_of_nonneg]
  rw [IntKind.wrap_i64, IntKind.wrap_i64]
  omega
theorem mod_n (r m : Nat) : Int.tmod (r : Int) (m : Int) = ((r % m : Nat) : Int) := by rw [Int.ofNat_tmod]
set_option maxRecDepth 100000 in
theorem ptr_nn (q : Nat) (W : World) (x y : Operand) : (do eqGuard .eql 30 x y (.pointer (some ⟨q, 0, none⟩)) (.pointer none); binOp .eql 30 (.pointer (some ⟨q, 0, none⟩)) (.pointer none) : Sem Value).run Tryd.prog W = .ok (.bool false) W := by rfl
/-- The parts that have come, by those that are left. -/
def lfF (m : Nat) (L : List Nat) (i : Nat) : Bool := decide (i < m) && !decide (i ∈ L)
end Go.Proofs.YtiefgmgjlhjjhaaDoor
