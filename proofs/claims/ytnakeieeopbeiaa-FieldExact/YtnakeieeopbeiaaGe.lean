import Derived.Test.YtnakeieeopbeiaaGd
set_option linter.unusedVariables false
set_option linter.unusedSimpArgs false
namespace Go.Proofs.Ytnakeieeopbeiaa
open Go.RowKit

def PP : Nat := 2 ^ 255 - 19
theorem carD_small {ds : List Nat} (h : ∀ j, ds.getD j 0 < 65536) : ∀ t, carD ds t = false
  | 0 => rfl
  | t + 1 => by rw [carD, carD_small h t, decide_eq_false (by have := h t; omega)]; rfl
def muD (d : List Nat) : Nat := nV d * 2002 + d.length * 2 + (if carsD d = true then 1 else 0)
theorem fo0_lt (d : List Nat) (h : 16 ≤ d.length) (hd : ∀ j, d.getD j 0 < 65536) : nV (fo0 d) < 65536 ^ 16 := by
  unfold nV
  rw [fo0_length d h]
  refine dpre_lt (fun j => ?_) 16
  rw [fo0_getD d h j]
  have := hd j
  split
  · exact this
  · split
    · omega
    · decide
theorem red_fold {d : List Nat} {L : Nat} (h16 : 16 ≤ d.length) (hl : d.length ≤ 36) (hL : d.length ≤ L) (hL4 : L ≤ d.length + 4) (hc : crC d L = 0) (hm : L = d.length ∨ 0 < crC d (L - 1)) (hf : 16 < L ∨ 32768 ≤ (crO d L).getD 15 0) : muD (foD (crO d L)) < muD d ∧ nV (foD (crO d L)) % PP = nV d % PP := by
  have e1 := cr_same d L hL hc
  have hcl := crO_length d L
  have e2 := fo_val (crO d L) (by omega)
  have e3 := foT_val (crO d L) (by omega) (L - 16)
  have e4 := fo0_lt (crO d L) (by omega) (cr_dig d L)
  rw [hcl, e1] at e2
  have hlen : (foD (crO d L)).length = max 16 (L - 16) := by unfold foD; rw [hcl]; exact foT_length _ (by omega) _
  have e5 : nV (foD (crO d L)) = nV (fo0 (crO d L)) + 19 * foH (crO d L) (L - 16) := by unfold foD; rw [hcl]; exact e3
  refine ⟨?_, by rw [e2]; exact (Nat.add_mul_mod_self_left _ _ _).symm⟩
  unfold muD
  have i1 : (if carsD (foD (crO d L)) = true then 1 else 0) ≤ 1 := by split <;> omega
  generalize (if carsD (foD (crO d L)) = true then 1 else 0) = x1 at i1 ⊢
  generalize (if carsD d = true then 1 else 0) = x2
  rcases Nat.eq_zero_or_pos (foH (crO d L) (L - 16)) with h0 | h0
  · rw [h0] at e2 e5
    rw [Nat.mul_zero, Nat.add_zero] at e2 e5
    have hLd : L = d.length := by
      rcases hm with e | e
      · exact e
      · rcases Nat.lt_or_ge (L - 1) d.length with e6 | e6
        · omega
        · have := cr_big d (L - 1) (by omega) e6 e
          omega
    have hgt : 16 < L := by
      rcases hf with e | e
      · exact e
      · rcases Nat.lt_or_ge 16 L with e6 | e6
        · exact e6
        · have e7 : L - 16 = 0 := by omega
          rw [e7, foH] at h0
          omega
    rw [← e2, hlen]
    omega
  · have h1 : 0 < (2 ^ 255 - 19) * foH (crO d L) (L - 16) := Nat.mul_pos (by decide) h0
    generalize (2 ^ 255 - 19) * foH (crO d L) (L - 16) = K at h1 e2
    rw [hlen]
    omega
theorem red_stay {d : List Nat} {L : Nat} (h16 : 16 ≤ d.length) (hL : d.length ≤ L) (hc : crC d L = 0) (h1 : ¬ 16 < L) (h2 : ¬ 32768 ≤ (crO d L).getD 15 0) (hcs : carsD d = true) : muD (crO d L) < muD d := by
  have e1 := cr_same d L hL hc
  have hcl := crO_length d L
  have e2 : carsD (crO d L) = false := by
    unfold carsD
    rw [carD_small (cr_dig d L), decide_eq_false h2]; simp
  unfold muD
  rw [e1, e2, hcs, hcl, if_pos rfl, if_neg (by decide)]
  omega
theorem primeD_dig (j : Nat) : primeD.getD j 0 < 65536 := by
  rcases Nat.lt_or_ge j 16 with h | h
  · have : ∀ j : Fin 16, primeD.getD j.1 0 < 65536 := by decide
    exact this ⟨j, h⟩
  · rw [getD_past (by rw [primeD_length]; exact h)]; decide
theorem primeD_val : dpre primeD 16 = PP := by decide +kernel
theorem new49 (w : World) : (Instr.alloc 49 true (.tuple #[])).run Try.prog w = .ok (.pointer (some ⟨w.heap.size, 0, none⟩)) (w.alloc (.cells (dv z16).toArray 49)) := run_newR 49 (dv z16) zero49 w w.heap.size rfl
theorem idx49 (g m : Nat) (h : m < 16) (W : World) : (Instr.indexAt 49 (.pointer (some ⟨g, 0, none⟩)) (.int .i64 (m : Int))).run Try.prog W = .ok (.pointer (some ⟨g, m, none⟩)) W := by
  have hm : (m : Int) < 16 := by omega
  go_simp
  try simp
  try rw [add_plain]
theorem ld49 {w : World} {g : Nat} {l : List Nat} {t : TypeId} (h : l.length = 16) (hb : Blk w g (dv l) t) : (Instr.loadAt 49 (.pointer (some ⟨g, 0, none⟩))).run Try.prog w = .ok (.agg (dv l).toArray) w := run_loadR hb Try.underlying49 rfl (info49 h)
theorem st49 {w : World} {g : Nat} {o l : List Nat} {t : TypeId} (ho : o.length = 16) (h : l.length = 16) (hb : Blk w g (dv o) t) : (Instr.storeAt 49 (.pointer (some ⟨g, 0, none⟩)) (.agg (dv l).toArray)).run Try.prog w = .ok () (w.setRow g (dv l).toArray) := run_storeR hb (info49 h) (by rw [dv_length, dv_length, ho, h]) (dv_one l)
theorem Fx.setRow {S : Nat → Prop} {w : World} {g : Nat} {cs : List Value} {t : TypeId} (hb : Blk w g cs t) (ds : Array Value) (hS : S g) : Fx S w (w.setRow g ds) := by
  have h0 := Fx.refl S w
  refine ⟨?_, ?_, ?_, ?_, fun i hi hn => ?_⟩
  · exact (setRow_os w g ds)
  · exact (setRow_tape w g ds)
  · exact (setRow_output w g ds)
  · exact Nat.le_of_eq (setRow_size w g ds).symm
  · exact setRow_other w g i ds (fun e => hn (e ▸ hS))
end Go.Proofs.Ytnakeieeopbeiaa
