import Derived.Test.YtbghjabojgedaaaDoorRun
namespace Go.Proofs.YtbghjabojgedaaaDoor
open Go.RowKit

/-- The blocks of HKDF. -/
def tk (prk info : List UInt8) : Nat → List UInt8
  | 0 => []
  | k + 1 => macOf prk (tk prk info k ++ info ++ [UInt8.ofNat (k + 1)])
/-- The first k of them, one behind the other. -/
def ex (prk info : List UInt8) : Nat → List UInt8
  | 0 => []
  | k + 1 => ex prk info k ++ tk prk info (k + 1)
/-- The first n bytes. -/
def exOut (prk info : List UInt8) (n : Nat) : List UInt8 := (ex prk info ((n + 31) / 32)).take n
theorem tk_length (prk info : List UInt8) (k : Nat) : (tk prk info (k + 1)).length = 32 := macOf_length _ _
theorem ex_length (prk info : List UInt8) : ∀ k, (ex prk info k).length = 32 * k
  | 0 => rfl
  | k + 1 => by rw [ex, List.length_append, ex_length prk info k, tk_length]; omega
theorem exOut_length (prk info : List UInt8) (n : Nat) : (exOut prk info n).length = n := by
  unfold exOut
  rw [List.length_take, ex_length]; omega
/-- What lies in the list behind k blocks. -/
def exk (prk info : List UInt8) (n k : Nat) : List UInt8 := (ex prk info k).take n ++ List.replicate (n - 32 * k) 0
theorem exk_length (prk info : List UInt8) (n k : Nat) : (exk prk info n k).length = n := by
  unfold exk
  rw [List.length_append, List.length_take, ex_length, List.length_replicate]; omega
theorem exk_zero (prk info : List UInt8) (n : Nat) : exk prk info n 0 = List.replicate n 0 := by simp [exk, ex]
theorem exk_succ (prk info : List UInt8) (n k : Nat) (h : 32 * k < n) : (exk prk info n k).take (32 * k) ++ (tk prk info (k + 1)).take (n - 32 * k) ++ (exk prk info n k).drop (32 * k + ((tk prk info (k + 1)).take (n - 32 * k)).length) = exk prk info n (k + 1) := by
  have hl := ex_length prk info k
  have ht := tk_length prk info k
  have h1 : (ex prk info k).take n = ex prk info k := List.take_of_length_le (by omega)
  have h2 : (ex prk info (k + 1)).take n = ex prk info k ++ (tk prk info (k + 1)).take (n - 32 * k) := by
    rw [ex, List.take_append, h1, hl]
  unfold exk
  rw [h1, h2]
  generalize tk prk info (k + 1) = t at ht ⊢
  generalize ex prk info k = e at hl ⊢
  rw [List.take_append_of_le_length (by omega), List.take_of_length_le (by omega), List.drop_append, List.drop_eq_nil_of_le (by omega), List.nil_append, List.drop_replicate, List.length_take]
  congr 2
  omega
theorem exk_all (prk info : List UInt8) (n : Nat) : exk prk info n ((n + 31) / 32) = exOut prk info n := by
  unfold exk exOut
  rw [show n - 32 * ((n + 31) / 32) = 0 by omega, List.replicate_zero, List.append_nil]

section
variable {ops : Array Oper} {Q : Exit → Act → World → Prop}
/-- 'copy(x[o:], b)' where an order is drawn. -/
theorem op_cpb {i : Nat} {o : Oper} (hi : ops[i]? = some o) (hg : o.guard = none) {K : Act → World → Prop} {a : Act} {w : World} (d x : Operand) (ho : o.op = .call { callee := .builtin .copy, args := #[d, x], argTypes := #[34, 34] }) (dd : Nat) (hdd : o.dst = some dd)
    (p off n c : Nat) (hd : a.eval d = .slice (some ⟨p, off, none⟩) n c)
    (v : Value) (bs : List UInt8) (hx : a.eval x = v) (hv : Has w v bs) (L : List UInt8) (t : TypeId) (hB : Blk w p (L.map byt) t) (hon : off + n ≤ L.length)
    (h : ∀ (q : Int) w', Blk w' p ((L.take off ++ bs.take n ++ L.drop (off + (bs.take n).length)).map byt) t → Fx (One p) w w' → K (a.put (some dd) (.int .i64 q)) w') : wpOp Tryd.prog ops Q i K a w := by
  rw [← hdd] at h
  have hl : (bs.take n).length = min n bs.length := List.length_take
  rcases hv with ⟨rfl, rfl⟩ | ⟨ad, cap, rfl, h2, h3⟩
  · have hrun := run_copy_none (P := Tryd.prog) w 34 34 o.type 5 (some ⟨p, off, none⟩) none n c 0 0 Tryd.underlying34 info5s (by simp)
    refine op_wp hi hg ?_
    unfold Oper.wp
    simp [execOp, ho, resolve, invoke, builtin, hd, hx, hrun, Result.andThen]
    exact h 0 w (by simpa using hB) (Fx.refl _ _)
  · have hrun := run_copy_cells (P := Tryd.prog) w 34 34 o.type 5 p off n c ad bs.length cap ((bs.take n).map byt) Tryd.underlying34 info5s (by rw [List.length_map, hl]; exact Nat.min_comm _ _)
      (fun j v hj => by
        rw [List.getElem?_map, Option.map_eq_some_iff] at hj
        obtain ⟨u, hu, rfl⟩ := hj
        have hjq : j < (bs.take n).length := (List.getElem?_eq_some_iff.1 hu).1
        rw [List.getElem?_take_of_lt (by omega)] at hu
        exact h3 j u hu)
      (fun j hj => by
        rw [List.length_map] at hj
        rw [hB.cell, List.getElem?_eq_getElem (by rw [List.length_map]; omega)]; rfl) (fun j _ => hB.frozen _) (byt_one _)
    refine op_wp hi hg ?_
    unfold Oper.wp
    rw [List.length_map] at hrun
    have hb := Blk.setCells ((bs.take n).map byt) off w (L.map byt) hB (by rw [List.length_map, List.length_map]; omega)
    have hfin := h ((bs.take n).length : Int) (w.setCells p off ((bs.take n).map byt)) (by
      rw [List.length_map] at hb
      rw [List.map_append, List.map_append, List.map_drop, show (L.take off).map byt = (L.map byt).take off from List.map_take]
      exact hb) (Fx.setCells (S := One p) p rfl _ _ _)
    generalize w.setCells p off ((bs.take n).map byt) = w' at hrun hfin
    generalize (bs.take n).length = q at hrun hfin
    simp [execOp, ho, resolve, invoke, builtin, hd, hx, hrun, Result.andThen]
    exact hfin
end

/-- 'bounded'. -/
theorem bounded_ok (n m : Int) (w : World) (h0 : 0 ≤ n) (h1 : n ≤ m) : Calls Tryd.prog 30 #[.int .i64 n, .int .i64 m] w fun e w' => e = .returned (.int .i64 0) ∧ w' = w := by
  have a0 : ¬ n < 0 := by omega
  have a1 : ¬ m < n := by omega
  go_enter Tryd.func30, Tryd.ntmps30
  go_wp2
  go_ret
  exact ⟨rfl, rfl⟩
theorem bounded_low (n m : Int) (w : World) (h0 : n < 0) : Calls Tryd.prog 30 #[.int .i64 n, .int .i64 m] w fun e w' => e = .returned (.int .i64 4) ∧ w' = w := by
  go_enter Tryd.func30, Tryd.ntmps30
  go_wp2
  go_ret
  exact ⟨rfl, rfl⟩
theorem bounded_high (n m : Int) (w : World) (h0 : 0 ≤ n) (h1 : m < n) : Calls Tryd.prog 30 #[.int .i64 n, .int .i64 m] w fun e w' => e = .returned (.int .i64 30) ∧ w' = w := by
  have a0 : ¬ n < 0 := by omega
  go_enter Tryd.func30, Tryd.ntmps30
  go_wp2
  go_ret
  exact ⟨rfl, rfl⟩

theorem expand_low (vk vi : Value) (n : Int) (w : World) (h0 : n < 0) : Calls Tryd.prog 21 #[vk, vi, .int .i64 n] w fun e w' => e = .returned (.tuple #[.slice none 0 0, .int .i64 4]) ∧ w' = w := by
  go_enter Tryd.func21, Tryd.ntmps21
  go_wp2_with (go_at_call 30; refine (bounded_low n 8160 _ h0).mono ?_; rintro e w' ⟨rfl, rfl⟩)
  go_ret2
  exact ⟨rfl, rfl⟩
theorem expand_high (vk vi : Value) (n : Int) (w : World) (h0 : 8160 < n) : Calls Tryd.prog 21 #[vk, vi, .int .i64 n] w fun e w' => e = .returned (.tuple #[.slice none 0 0, .int .i64 30]) ∧ w' = w := by
  go_enter Tryd.func21, Tryd.ntmps21
  go_wp2_with (go_at_call 30; refine (bounded_high n 8160 _ (by omega) h0).mono ?_; rintro e w' ⟨rfl, rfl⟩)
  go_ret2
  exact ⟨rfl, rfl⟩
end Go.Proofs.YtbghjabojgedaaaDoor
