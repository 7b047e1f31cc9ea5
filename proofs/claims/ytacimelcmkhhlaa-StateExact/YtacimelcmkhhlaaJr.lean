import Derived.Test.YtacimelcmkhhlaaJm
import Derived.Test.YtacimelcmkhhlaaJq
set_option linter.unusedVariables false
set_option linter.unusedSimpArgs false
namespace Go.Proofs.Ytacimelcmkhhlaa
open Go.RowKit

theorem putS {s : Sg} (k : s.ok) (w : World) : ∃ q w1 w2, (Instr.alloc 33 true (.tuple #[])).run Try.prog w = .ok (.pointer (some ⟨q, 0, none⟩)) w1 ∧ (Instr.storeAt 33 (.pointer (some ⟨q, 0, none⟩)) s.v).run Try.prog w1 = .ok () w2 ∧ Blk w2 q s.cs 33 ∧ Below w.heap.size w w2 ∧ q = w.heap.size := by
  obtain ⟨w1, q, r1, b1, e1, hq⟩ := new_any (t := 33) (cs := Sg.z.cs) zv33 w
  obtain ⟨w2, s2, b2, f2⟩ := Sg.st (s := s) b1 Sg.z_ok k
  exact ⟨q, w1, w2, r1, s2, b2, bfx e1 (by omega) f2, hq⟩
theorem st5 {w : World} {ad : Addr} {v0 : Value} (u : UInt8) (hc : w.cell? ad = some v0) (hf : w.frozen? ad = false) : (Instr.storeAt 5 (.pointer (some ad)) (byt u)).run Try.prog w = .ok () (w.setCell ad (byt u)) := by
  unfold byt
  go_simp
/-- 'append' of any bytes to none. -/
theorem app_nil {w : World} {v : Value} {bs : List UInt8} (h : Has w v bs) (hl : bs.length ≤ 140737488355328) (ty : TypeId) : ∃ v' w', (Builtin.append_ #[38, 38] ty #[.slice none 0 0, v]).run Try.prog w = .ok v' w' ∧ Ob w' w.heap.size v' bs ∧ Below w.heap.size w w' := by
  have h0 : Own w w.heap.size (.slice none 0 0) [] := ⟨rfl, .inl ⟨rfl, rfl⟩⟩
  rcases h with ⟨rfl, rfl⟩ | ⟨ad, cap, rfl, h2, h3⟩
  · obtain ⟨i, hi, hz0, hz1, hz2⟩ := info_parts Try.info5
    exact ⟨_, w, run_append_owned_none (P := Try.prog) w 0 38 ty 5 i 1 Try.underlying38 hi _ 0 [] ⟨rfl, .inl ⟨rfl, rfl⟩⟩, Ob.nil _ _, Below.refl _ _⟩
  · obtain ⟨v', w', r1, r2, r3⟩ := run_app w w.heap.size _ [] h0 ad cap bs h3 (by simp; omega) (Nat.le_refl _) ty
    exact ⟨v', w', r1, by simpa using r2.ob, (grown_fx r3).below (fun k hk e => by cases e) (Nat.le_refl _)⟩
theorem Ob.setAtF {w : World} {b : Nat} {v : Value} {bs : List UInt8} (h : Ob w b v bs) (i : Nat) (hi : i < bs.length) (u : UInt8) : ∃ ad w', (∀ W, (Instr.indexAt 38 v (.int .i64 (i : Int))).run Try.prog W = .ok (.pointer (some ad)) W) ∧ (Instr.storeAt 5 (.pointer (some ad)) (byt u)).run Try.prog w = .ok () w' ∧ Ob w' b v (bs.set i u) ∧ Fx (fun k => v.ownBlock = some k) w w' := by
  obtain ⟨hx, ⟨rfl, h0⟩ | ⟨g, cp, cur, rfl, hg, hh2, hnc, hc, hs, htk⟩⟩ := h.row
  · simp only [h0] at hi; omega
  · have hcur : i < cur.size := by simp at hs; omega
    have hcell : w.cell? ⟨g, i, none⟩ = some cur[i] := by
      have := (show Blk w g cur.toList 5 from by unfold Blk; simpa using hh2).cell i
      rw [this, Array.getElem?_toList, Array.getElem?_eq_getElem hcur]
    have hbl : Blk w g cur.toList 5 := by unfold Blk; simpa using hh2
    refine ⟨⟨g, i, none⟩, w.setCell ⟨g, i, none⟩ (byt u), fun W => ?_, st5 u hcell (hbl.frozen i), ?_, (Fx.setCell (S := fun k => k = g) _ _ _ _ rfl).mono (fun k _ e => by rw [show k = g from e]; rfl)⟩
    · have := idx38 ⟨g, 0, none⟩ bs.length cp i hi W
      rwa [add_plain] at this
    · refine ⟨⟨by simp, .inr ⟨g, cp, (cur.toList.set i (byt u)).toArray, by simp, hg, ?_, by simpa using hnc, hc, by simpa using hs, ?_⟩⟩, fun k hk => h.base k (by simpa [Value.ownBlock] using hk)⟩
      · have := hbl.set i (byt u)
        exact this
      · have e1 : (bs.set i u).map byt = (bs.map byt).set i (byt u) := by rw [List.map_set]
        rw [e1, List.length_set, ← htk]
        simp [List.take_set]
section
variable {P : Program} {n : Fm} {ops : Array Oper} {Q : Exit → Act → World → Prop} {i : Nat} {ty : TypeId} {ps : String} {af : Array Edge} {gd : Option (Nat × Bool)} {r : List Oper} {e : List (Nat × Value)} {w : World}
end
end Go.Proofs.Ytacimelcmkhhlaa
namespace Go.Proofs.Ytacimelcmkhhlaa
open Go.RowKit

theorem putL {s : Lm} (k : s.ok) (w : World) : ∃ q w1 w2, (Instr.alloc 43 true (.tuple #[])).run Try.prog w = .ok (.pointer (some ⟨q, 0, none⟩)) w1 ∧ (Instr.storeAt 43 (.pointer (some ⟨q, 0, none⟩)) s.v).run Try.prog w1 = .ok () w2 ∧ Blk w2 q s.cs 43 ∧ Below w.heap.size w w2 ∧ q = w.heap.size := by
  obtain ⟨w1, q, r1, b1, e1, hq⟩ := new_any (t := 43) (cs := Lm.z.cs) zv43 w
  obtain ⟨w2, s2, b2, f2⟩ := Lm.st (s := s) b1 Lm.z_ok k
  exact ⟨q, w1, w2, r1, s2, b2, bfx e1 (by omega) f2, hq⟩
end Go.Proofs.Ytacimelcmkhhlaa
