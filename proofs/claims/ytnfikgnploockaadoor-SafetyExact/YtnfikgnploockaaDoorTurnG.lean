import Derived.Test.YtnfikgnploockaaDoorSk
import Derived.Test.YtnfikgnploockaaDoorOy
import Derived.Test.YtnfikgnploockaaDoorSched
set_option linter.unusedVariables false
set_option linter.unusedSimpArgs false
namespace Go.Proofs.YtnfikgnploockaaDoor
open Go.RowKit

def SQ (q : World → Prop) (l : Nat) (W : World) : Prop := l = 0 ∨ q W
theorem sq_anti (q : World → Prop) (m n : Nat) (W : World) (h : m ≤ n) (k : SQ q n W) : SQ q m W := by
  rcases k with k | k
  · exact .inl (by omega)
  · exact .inr k
theorem sq_of {q : World → Prop} {W : World} {l : Nat} {C : World → Prop} (h : SZ (SQ q) 0 (l + 1) C W) : q W := by
  rcases h with h | h
  · cases h
  · exact h
theorem sq0 {q : World → Prop} {C : World → Prop} : ∀ W, C W → SZ (SQ q) 0 0 C W := fun _ _ => .inl rfl
/-- Numbers that came in. -/
def HasI (w : World) (v : Value) (zs : List Int) : Prop :=
  (v = .slice none 0 0 ∧ zs = []) ∨ ∃ ad cap, v = .slice (some ad) zs.length cap ∧ ∀ i z, zs[i]? = some z → w.cell? (ad.add i) = some (.int .i64 z)
theorem HasI.on {w w' : World} {v : Value} {zs : List Int} (h : HasI w v zs) (hb : Below w.heap.size w w') : HasI w' v zs := by
  rcases h with h | ⟨ad, cap, h1, h3⟩
  · exact .inl h
  · exact .inr ⟨ad, cap, h1, fun i z hz => (hb.cell (cell_lt (h3 i z hz))).trans (h3 i z hz)⟩
theorem HasI.len {w : World} {v : Value} {zs : List Int} (h : HasI w v zs) (ty : TypeId) (W : World) : (Builtin.len_ #[39] ty #[v]).run Tryd.prog W = .ok (.int .i64 (zs.length : Int)) W := by
  rcases h with ⟨rfl, rfl⟩ | ⟨ad, cap, rfl, h3⟩ <;> go_simp
theorem HasI.get {w : World} {v : Value} {zs : List Int} (h : HasI w v zs) {i : Nat} {z : Int} (hz : zs[i]? = some z) : ∃ ad, (∀ W, (Instr.indexAt 39 v (.int .i64 (i : Int))).run Tryd.prog W = .ok (.pointer (some ad)) W) ∧ ∀ W, Below w.heap.size w W → (Instr.loadAt 3 (.pointer (some ad))).run Tryd.prog W = .ok (.int .i64 z) W := by
  have hi : i < zs.length := (List.getElem?_eq_some_iff.1 hz).1
  rcases h with ⟨rfl, rfl⟩ | ⟨ad, cap, rfl, h3⟩
  · simp at hi
  · refine ⟨ad.add i, fun W => ?_, fun W hW => ?_⟩
    · have hm : (i : Int) < (zs.length : Int) := by omega
      go_simp
    · have hc := (hW.cell (cell_lt (h3 i z hz))).trans (h3 i z hz)
      go_simp
/-- The four signs. -/
def sgn : List UInt8 := [32, 9, 10, 45]
theorem sgn_cut (m : Nat) (hm : m < 4) (W : World) : ∃ u, (Instr.sliceAt 9 (sv sgn) (some (.int .i64 (m : Int))) (some (.int .i64 ((m + 1 : Nat) : Int))) none).run Tryd.prog W = .ok (sv [u]) W ∧ isP u = true := by
  have := cut_s sgn m (m + 1) (by omega) (show m + 1 ≤ 4 by omega) W
  have hm' : m = 0 ∨ m = 1 ∨ m = 2 ∨ m = 3 := by omega
  rcases hm' with rfl | rfl | rfl | rfl
  · exact ⟨32, this, by decide⟩
  · exact ⟨9, this, by decide⟩
  · exact ⟨10, this, by decide⟩
  · exact ⟨45, this, by decide⟩
/-- The sign at a place. -/
def sgu (m : Nat) : UInt8 := sgn.getD m 0
theorem sgu_P (m : Nat) (hm : m < 4) : isP (sgu m) = true := by
  have hm' : m = 0 ∨ m = 1 ∨ m = 2 ∨ m = 3 := by omega
  rcases hm' with rfl | rfl | rfl | rfl <;> decide
theorem sgu_cut (m : Nat) (hm : m < 4) (W : World) : (Instr.sliceAt 9 (sv sgn) (some (.int .i64 (m : Int))) (some (.int .i64 ((m + 1 : Nat) : Int))) none).run Tryd.prog W = .ok (sv [sgu m]) W := by
  have := cut_s sgn m (m + 1) (by omega) (show m + 1 ≤ 4 by omega) W
  have hm' : m = 0 ∨ m = 1 ∨ m = 2 ∨ m = 3 := by omega
  rcases hm' with rfl | rfl | rfl | rfl <;> exact this
theorem snoc_P {A : List UInt8} {u : UInt8} (h : isP u = true) : dgt (A ++ [u]) = dgt A ∧ (okT A = true → okT (A ++ [u]) = true) := by
  rw [dgt_snoc, if_neg (by rw [isP_D h]; simp), List.append_nil, okT_snoc, h]
  exact ⟨rfl, fun k => by rw [k]; rfl⟩
theorem snoc_D {A : List UInt8} {u : UInt8} (h : isD u = true) : dgt (A ++ [u]) = dgt A ++ [u] ∧ (okT A = true → okT (A ++ [u]) = true) := by
  rw [dgt_snoc, if_pos h, okT_snoc, h, Bool.or_true]
  exact ⟨rfl, fun k => by rw [k]; rfl⟩
/-- The foreign signs. -/
def frn : List (List UInt8) := [[196, 176], [196, 185], [239, 188, 144], [217, 160], [176], [255], [0], [226, 128, 176]]
theorem frn_bad : ∀ f ∈ frn, okT f = false ∧ f.length ≤ 3 := by decide
theorem rdE_bad {a f b : List UInt8} (h : okT f = false) : rdE (a ++ f ++ b) = 250 := (rd_no (fun k => by
  have := k.1
  rw [okT_app, okT_app, h, Bool.and_false, Bool.false_and] at this
  cases this)).2
theorem rdE_len {l : List UInt8} (h : ¬ (dgt l).length = 60) : rdE l = 250 := (rd_no (fun k => h k.2)).2
theorem sub5 (u : UInt8) (h : 48 ≤ u.toNat) (W : World) (x y : Operand) : (do eqGuard .sub 5 x y (byt u) (.int .u8 48); binOp .sub 5 (byt u) (.int .u8 48) : Sem Value).run Tryd.prog W = .ok (byt (UInt8.ofNat (u.toNat - 48))) W := by
  have h2 := u.toNat_lt
  unfold byt
  go_simp
  simp [IntKind.wrap, IntKind.bits, IntKind.signed]
  omega
def tE0 (a b d : List UInt8) (vg : Value) (at' by' : Int) (q1 q2 : Nat) (x : Nat × List UInt8) : List (Nat × Value) := [(0, sv a), (2, sv b), (4, vg), (5, .int .i64 at'), (6, .int .i64 by'), (8, .pointer (some ⟨q1, 0, none⟩)), (10, .pointer (some ⟨q2, 0, none⟩)), (17, sv d), (18, sv x.2), (19, .int .i64 (x.1 : Int))]
def tE2 (a b d : List UInt8) (vg : Value) (at' by' : Int) (q1 q2 i : Nat) (x : Nat × List UInt8) : List (Nat × Value) := [(0, sv a), (2, sv b), (4, vg), (5, .int .i64 at'), (6, .int .i64 by'), (8, .pointer (some ⟨q1, 0, none⟩)), (10, .pointer (some ⟨q2, 0, none⟩)), (17, sv d), (18, sv x.2), (19, .int .i64 (i : Int)), (20, .int .i64 (x.1 : Int))]
theorem bsl41_8 (w : World) : (Instr.buildSlice 41 8 [(0, sv [196, 176]), (1, sv [196, 185]), (2, sv [239, 188, 144]), (3, sv [217, 160]), (4, sv [176]), (5, sv [255]), (6, sv [0]), (7, sv [226, 128, 176])].toArray).run Tryd.prog w = .ok (.slice (some ⟨w.heap.size, 0, none⟩) 8 8) (w.alloc (.cells (frn.map sv).toArray 9)) := by
  unfold sv
  go_simp
  try simp
  try rfl
theorem len41 (a : Option Addr) (n c : Nat) (ty : TypeId) (W : World) : (Builtin.len_ #[41] ty #[.slice a n c]).run Tryd.prog W = .ok (.int .i64 (n : Int)) W := by go_simp
theorem idx41 (g m : Nat) (h : m < 8) (W : World) : (Instr.indexAt 41 (.slice (some ⟨g, 0, none⟩) 8 8) (.int .i64 (m : Int))).run Tryd.prog W = .ok (.pointer (some ⟨g, m, none⟩)) W := by
  have hm : (m : Int) < 8 := by omega
  go_simp
  try simp [add_plain]
theorem ld9 {w : World} {ad : Addr} {f : List UInt8} (h : w.cell? ad = some (sv f)) : (Instr.loadAt 9 (.pointer (some ad))).run Tryd.prog w = .ok (sv f) w := by
  unfold sv at *
  go_simp
theorem conv3_5n (n : Nat) (W : World) : (Go.convert 3 5 (.int .i64 (n : Int))).run Tryd.prog W = .ok (byt (UInt8.ofNat n)) W := conv3_5 n W
/-- One digit turned. -/
def trn (u : UInt8) (r : Nat) : UInt8 := UInt8.ofNat (48 + (u.toNat - 48 + 1 + r) % 10)
theorem trn_D (u : UInt8) (r : Nat) : isD (trn u r) = true := by
  unfold isD trn
  have : (u.toNat - 48 + 1 + r) % 10 < 10 := Nat.mod_lt _ (by decide)
  rw [UInt8.toNat_ofNat', Nat.mod_eq_of_lt (by omega)]
  exact decide_eq_true (by omega)
theorem trn_ne {u : UInt8} {r : Nat} (h1 : 48 ≤ u.toNat) (h2 : u.toNat ≤ 57) (hr : r < 9) : ¬ trn u r = u := fun e => by
  have e' := congrArg UInt8.toNat e
  unfold trn at e'
  have : (u.toNat - 48 + 1 + r) % 10 < 10 := Nat.mod_lt _ (by decide)
  rw [UInt8.toNat_ofNat', Nat.mod_eq_of_lt (by omega)] at e'
  omega
theorem cut_set {d : List UInt8} {k : Nat} (c : UInt8) (hk : k < d.length) : d.take k ++ [c] ++ d.drop (k + 1) = d.set k c := by
  rw [List.set_eq_take_append_cons_drop, if_pos hk, List.append_assoc]; rfl
theorem set_allD {d : List UInt8} (h : allD d) {k : Nat} {c : UInt8} (hc : isD c = true) : allD (d.set k c) := fun u hu => by
  rcases List.mem_or_eq_of_mem_set hu with h1 | rfl
  · exact h u h1
  · exact hc
theorem rd_all {d : List UInt8} (h : allD d) (hl : d.length = 60) : rd d = d ∧ rdE d = 0 := by
  have ho : rdOk d := ⟨okT_all h, by rw [dgt_all h]; exact hl⟩
  rw [(rd_yes ho).1, (rd_yes ho).2, dgt_all h]; exact ⟨rfl, rfl⟩
theorem set_ne {d : List UInt8} {k : Nat} {u c : UInt8} (hk : d[k]? = some u) (hc : ¬ c = u) : ¬ d.set k c = d := fun e => by
  have h1 : (d.set k c)[k]? = some c := List.getElem?_set_self (List.getElem?_eq_some_iff.1 hk).1
  rw [e, hk] at h1
  exact hc (Option.some.inj h1).symm
end Go.Proofs.YtnfikgnploockaaDoor
namespace Go.Proofs.YtnfikgnploockaaDoor
open Go.RowKit

/-! The document's turn and move: a word is a number below 2^32, halved n times. -/
theorem rot_get (n : Nat) (hn : n < 32) (x : BitVec 32) (i : Nat) (hi : i < 32) : (rot n x).getLsbD i = if i + n < 32 then x.getLsbD (i + n) else x.getLsbD (i + n - 32) := by
  unfold rot
  rw [BitVec.getLsbD_or, BitVec.getLsbD_shiftLeft, BitVec.getLsbD_ushiftRight]
  by_cases h : i + n < 32
  · have h1 : i < 32 - n := by omega
    rw [if_pos h, Nat.add_comm n i]
    simp [h1]
  · have h1 : ¬ i < 32 - n := by omega
    have h2 : i - (32 - n) = i + n - 32 := by omega
    have h3 : x.getLsbD (n + i) = false := BitVec.getLsbD_of_ge x (n + i) (by omega)
    rw [if_neg h, h3, h2]
    simp [h1, hi]
theorem rot_zero (x : BitVec 32) : rot 0 x = x := by
  apply BitVec.eq_of_getLsbD_eq
  intro i hi
  rw [rot_get 0 (by omega) x i hi, if_pos (by omega)]
  rfl
theorem rot_succ (n : Nat) (hn : n + 1 < 32) (x : BitVec 32) : rot (n + 1) x = rot 1 (rot n x) := by
  apply BitVec.eq_of_getLsbD_eq
  intro i hi
  rw [rot_get (n + 1) hn x i hi, rot_get 1 (by omega) _ i hi]
  by_cases h : i + 1 < 32
  · rw [if_pos h, rot_get n (by omega) x (i + 1) h, show i + 1 + n = i + (n + 1) by omega]
  · rw [if_neg h, rot_get n (by omega) x _ (by omega), if_neg (by omega), if_pos (by omega), show i + (n + 1) - 32 = i + 1 - 32 + n by omega]
theorem rot_one (x : BitVec 32) : wn (rot 1 x) = wn x / 2 + wn x % 2 * 2147483648 := by
  have hx := x.isLt
  unfold wn
  have : (rot 1 x).toNat = x.toNat / 2 + x.toNat % 2 * 2147483648 := by
    show ((x <<< (32 - 1)) ||| (x >>> 1)).toNat = _
    rw [BitVec.toNat_or, BitVec.toNat_shiftLeft, BitVec.toNat_ushiftRight, Nat.shiftLeft_eq, Nat.shiftRight_eq_div_pow]
    rw [nat_join 31 _ _ (by show x.toNat * 2 ^ 31 % 4294967296 % 2 ^ 31 = 0; omega) (by show x.toNat / 2 ^ 1 < 2 ^ 31; omega)]
    show x.toNat * 2 ^ 31 % 4294967296 + x.toNat / 2 ^ 1 = _
    omega
  rw [this]
  omega
theorem rot_next (n : Nat) (hn : n + 1 < 32) (x : BitVec 32) : wn (rot n x) / 2 + wn (rot n x) % 2 * 2147483648 = wn (rot (n + 1) x) := by
  rw [rot_succ n hn, rot_one]
theorem shr_next (n : Nat) (x : BitVec 32) : wn (x >>> n) / 2 = wn (x >>> (n + 1)) := by
  rw [← wshr, ← wshr, Int.pow_succ, Int.ediv_ediv_of_nonneg (by exact_mod_cast Nat.zero_le (2 ^ n))]

set_option maxRecDepth 100000 in
theorem turn_any (x : BitVec 32) (n : Nat) (hn : n < 32) (w : World) :
    Calls Tryd.prog 56 #[.int .i64 (n : Int), .int .u64 (wn x)] w fun e w' => e = .returned (.int .u64 (wn (rot n x))) ∧ w' = w := by
  go_enter Tryd.func56, Tryd.ntmps56
  go_wp2
  go_loopw [1, 5] (fun a i wr => ∃ k : Nat, k ≤ n ∧ i = .int .i64 k ∧ a = .int .u64 (wn (rot k x)) ∧ wr = w) (fun _ i _ => n - (intOf i).toNat)
  case atStart => exact ⟨0, by omega, rfl, by rw [rot_zero], rfl⟩
  case round =>
    obtain ⟨k, hk, rfl, rfl, rfl⟩ := hrel
    by_cases hlt : k < n
    · have hz : (k : Int) < (n : Int) := by omega
      have e := rot_next k (by omega) x
      have h0 := wn_nonneg (rot k x)
      have h1 := wn_lt (rot k x)
      obtain ⟨y, hy⟩ : ∃ y, y = wn (rot k x) := ⟨_, rfl⟩
      rw [← hy] at e h0 h1
      rw [← hy]
      have HE := hide e
      clear hy e
      go_wp2
      go_roundw
      case rel => exact ⟨k + 1, by omega, by go_num, by rw [← HE.out], trivial⟩
      case measure => simp [intOf]; omega
    · obtain rfl : k = n := by omega
      go_wp2
      go_ret
      exact ⟨rfl, rfl⟩

set_option maxRecDepth 100000 in
theorem move_any (x : BitVec 32) (n : Nat) (hn : n < 32) (w : World) :
    Calls Tryd.prog 63 #[.int .i64 (n : Int), .int .u64 (wn x)] w fun e w' => e = .returned (.int .u64 (wn (x >>> n))) ∧ w' = w := by
  go_enter Tryd.func63, Tryd.ntmps63
  go_wp2
  go_loopw [1, 5] (fun a i wr => ∃ k : Nat, k ≤ n ∧ i = .int .i64 k ∧ a = .int .u64 (wn (x >>> k)) ∧ wr = w) (fun _ i _ => n - (intOf i).toNat)
  case atStart => exact ⟨0, by omega, rfl, by simp, rfl⟩
  case round =>
    obtain ⟨k, hk, rfl, rfl, rfl⟩ := hrel
    by_cases hlt : k < n
    · have hz : (k : Int) < (n : Int) := by omega
      have e := shr_next k x
      have h0 := wn_nonneg (x >>> k)
      have h1 := wn_lt (x >>> k)
      obtain ⟨y, hy⟩ : ∃ y, y = wn (x >>> k) := ⟨_, rfl⟩
      rw [← hy] at e h0 h1
      rw [← hy]
      have HE := hide e
      clear hy e
      go_wp2
      go_roundw
      case rel => exact ⟨k + 1, by omega, by go_num, by rw [← HE.out], trivial⟩
      case measure => simp [intOf]; omega
    · obtain rfl : k = n := by omega
      go_wp2
      go_ret
      exact ⟨rfl, rfl⟩
end Go.Proofs.YtnfikgnploockaaDoor
