import Derived.Test.YtacimelcmkhhlaaJf
set_option linter.unusedVariables false
set_option linter.unusedSimpArgs false
namespace Go.Proofs.Ytacimelcmkhhlaa
open Go.RowKit

theorem rem_i (a b : Int) (h : b ≠ 0) {c : Int} (hc : Int.tmod a b = c) (W : World) (x y : Operand) : (do eqGuard .rem 3 x y (.int .i64 a) (.int .i64 b); binOp .rem 3 (.int .i64 a) (.int .i64 b) : Sem Value).run Try.prog W = .ok (.int .i64 c) W := by
  subst hc
  go_simp
theorem ix25 (q o m : Nat) (h : m < 32) (W : World) : (Instr.indexAt 25 (.pointer (some ⟨q, o, none⟩)) (.int .i64 (m : Int))).run Try.prog W = .ok (.pointer (some ⟨q, o + m, none⟩)) W := by
  have hm : (m : Int) < 32 := by omega
  go_simp
  try simp
  try rw [Addr.add_mid]
theorem ix31 (q o m : Nat) (h : m < 64) (W : World) : (Instr.indexAt 31 (.pointer (some ⟨q, o, none⟩)) (.int .i64 (m : Int))).run Try.prog W = .ok (.pointer (some ⟨q, o + m, none⟩)) W := by
  have hm : (m : Int) < 64 := by omega
  go_simp
  try simp
  try rw [Addr.add_mid]
theorem Blk.ldI {w : World} {q o : Nat} {cs a b : List Value} {t : TypeId} {K : List UInt8} (hb : Blk w q cs t) (hc : cs = a ++ (K.map byt ++ b)) (ho : a.length = o) {i : Nat} (hi : i < K.length) : (Instr.loadAt 5 (.pointer (some ⟨q, o + i, none⟩))).run Try.prog w = .ok (byt (K.getD i 0)) w := by
  have h : w.cell? ⟨q, o + i, none⟩ = some (byt (K.getD i 0)) := by
    have := hb.range hc ho i (byt (K.getD i 0)) (by rw [List.getElem?_map, List.getD_eq_getElem?_getD, List.getElem?_eq_getElem hi]; rfl)
    exact this
  unfold byt at *
  go_simp
theorem Blk.stI {w : World} {q o : Nat} {cs a b : List Value} {t : TypeId} {K : List UInt8} (hb : Blk w q cs t) (hc : cs = a ++ (K.map byt ++ b)) (ho : a.length = o) {i : Nat} (hi : i < K.length) (x : UInt8) : ∃ w', (Instr.storeAt 5 (.pointer (some ⟨q, o + i, none⟩)) (byt x)).run Try.prog w = .ok () w' ∧ Blk w' q (a ++ ((K.set i x).map byt ++ b)) t ∧ Fx (fun k => k = q) w w' := by
  have h : w.cell? ⟨q, o + i, none⟩ = some (byt (K.getD i 0)) := by
    have := hb.range hc ho i (byt (K.getD i 0)) (by rw [List.getElem?_map, List.getD_eq_getElem?_getD, List.getElem?_eq_getElem hi]; rfl)
    exact this
  have hf := hb.frozen (o + i)
  refine ⟨w.setCell ⟨q, o + i, none⟩ (byt x), ?_, ?_, Fx.setCell (S := fun k => k = q) _ _ _ _ rfl⟩
  · unfold byt at *
    go_simp
  · have := hb.set (o + i) (byt x)
    rw [hc, List.set_append_right _ _ (by omega), ho, Nat.add_sub_cancel_left, List.set_append_left _ _ (by rw [List.length_map]; exact hi), ← List.map_set] at this
    exact this
section
variable {w : World} {q : Nat} {s : Sg} {t : TypeId} {i : Nat}
theorem Sg.ldI_bind (hb : Blk w q s.cs t) (k : s.ok) (hi : i < 64) : (Instr.loadAt 5 (.pointer (some ⟨q, 279 + i, none⟩))).run Try.prog w = .ok (byt (s.bind.getD i 0)) w := hb.ldI Sg.c_bind (Sg.l_bind k) (by rw [k.bind]; exact hi)
theorem Sg.stI_bind (hb : Blk w q s.cs t) (k : s.ok) (hi : i < 64) (x : UInt8) : ∃ w', (Instr.storeAt 5 (.pointer (some ⟨q, 279 + i, none⟩)) (byt x)).run Try.prog w = .ok () w' ∧ Blk w' q (Sg.cs { s with bind := s.bind.set i x }) t ∧ Fx (fun k => k = q) w w' := by
  obtain ⟨w', h1, h2, h3⟩ := hb.stI Sg.c_bind (Sg.l_bind k) (by rw [k.bind]; exact hi) x
  exact ⟨w', h1, by rw [Sg.c_bind]; exact h2, h3⟩
theorem Sg.ldI_hid (hb : Blk w q s.cs t) (k : s.ok) (hi : i < 32) : (Instr.loadAt 5 (.pointer (some ⟨q, 214 + 0 + i, none⟩))).run Try.prog w = .ok (byt (s.hl.id.getD i 0)) w := hb.ldI Sg.c_hid (Sg.l_hl k) (by rw [k.hl.i]; exact hi)
theorem Sg.stI_hid (hb : Blk w q s.cs t) (k : s.ok) (hi : i < 32) (x : UInt8) : ∃ w', (Instr.storeAt 5 (.pointer (some ⟨q, 214 + 0 + i, none⟩)) (byt x)).run Try.prog w = .ok () w' ∧ Blk w' q (Sg.cs { s with hl := { s.hl with id := s.hl.id.set i x } }) t ∧ Fx (fun k => k = q) w w' := by
  obtain ⟨w', h1, h2, h3⟩ := hb.stI Sg.c_hid (Sg.l_hl k) (by rw [k.hl.i]; exact hi) x
  exact ⟨w', h1, by rw [Sg.c_hid]; exact h2, h3⟩
end
def mayO (s : Sg) : Nat := s.own % 4
def mayT (s : Sg) : Nat := min (max (s.turns % 4) (max (s.own % 4) 1 - 1)) (s.own % 4 + 1)
def mayG (s : Sg) (h : Bool) : Prop := h = true ∧ mayT s = 0 ∧ ¬ mayO s = 0
instance (s : Sg) (h : Bool) : Decidable (mayG s h) := by unfold mayG; infer_instance
end Go.Proofs.Ytacimelcmkhhlaa
