import Derived.Test.YtacimelcmkhhlaaJq
import Derived.Test.YtacimelcmkhhlaaJoG
set_option linter.unusedVariables false
set_option linter.unusedSimpArgs false
namespace Go.Proofs.Ytacimelcmkhhlaa
open Go.RowKit

theorem putL {s : Lm} (k : s.ok) (w : World) : ∃ q w1 w2, (Instr.alloc 43 true (.tuple #[])).run Try.prog w = .ok (.pointer (some ⟨q, 0, none⟩)) w1 ∧ (Instr.storeAt 43 (.pointer (some ⟨q, 0, none⟩)) s.v).run Try.prog w1 = .ok () w2 ∧ Blk w2 q s.cs 43 ∧ Below w.heap.size w w2 ∧ q = w.heap.size := by
  obtain ⟨w1, q, r1, b1, e1, hq⟩ := new_any (t := 43) (cs := Lm.z.cs) zv43 w
  obtain ⟨w2, s2, b2, f2⟩ := Lm.st (s := s) b1 Lm.z_ok k
  exact ⟨q, w1, w2, r1, s2, b2, bfx e1 (by omega) f2, hq⟩
end Go.Proofs.Ytacimelcmkhhlaa
