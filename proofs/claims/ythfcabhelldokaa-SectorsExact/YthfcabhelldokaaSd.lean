import Derived.Test.YthfcabhelldokaaScG
set_option linter.unusedVariables false
set_option linter.unusedSimpArgs false
namespace Go.Proofs.Ythfcabhelldokaa
open Go.RowKit Go.WideShapes

theorem stp_small {H : Type} {enc : TypeId × Value → H} {W : World} {base : Nat} {spare : Nat → Bool} {held : Bool} {fuel : Nat} {cs : List Value} {x : DataW H × List MemPlace} (h : DataW.trod enc Try.prog W base spare held fuel 53 cs = some x) (hl : cs.length = 8) (hb : Rows.uptoBulk x.1 ≤ 1048576) :
    ∃ o : Stp, cs = stC o ∧ o.ok W ∧ o.ks.length ≤ 1048576 ∧ o.b.length ≤ 1048576 := by
  obtain ⟨y0, y1, y2, y3, y4, y5, n, hagg, t0, t1, t2, t3, t4, t5⟩ := trod_struct6b Try.underlying53 h
  obtain ⟨c0, c1, c2, c3, c4, c5, c6, c7, rfl⟩ := eight_of cs hl
  dsimp only at t0 t1 t2 t3 t4 t5
  rw [cells3x] at t0 t1 t2
  rw [Row.cells5] at t3
  rw [cells34x] at t4
  rw [cells38] at t5
  obtain ⟨z0, e0, _, _⟩ := DataW.trod_int Try.underlying3 t0
  obtain ⟨z1, e1, _, _⟩ := DataW.trod_int Try.underlying3 t1
  obtain ⟨z2, e2, _, w2⟩ := DataW.trod_int Try.underlying3 t2
  obtain ⟨z3, e3, _, w3⟩ := DataW.trod_int Try.underlying5 t3
  obtain ⟨vb, b, e4, hh4, hb4⟩ := bytes_bulk t4
  obtain ⟨vk, ks, t, o, e5, hh5, hb5⟩ := loss_of_trod t5 rfl
  rw [hagg] at hb
  simp only [Rows.uptoBulk, Rows.uptoBulkAll] at hb
  have w3' := Row.wf_byte w3
  have w2' := bounds_i64 w2
  simp only [List.drop_zero, List.take_succ_cons, List.take_zero, List.drop_succ_cons, List.cons.injEq, and_true, lossC] at e0 e1 e2 e3 e4 e5
  obtain ⟨e5, e6, e7⟩ := e5
  refine ⟨⟨z0, z1, z2, UInt8.ofNat z3.toNat, vb, b, vk, ks, t, o⟩, ?_, ⟨hh4, by show b.length < _; omega, hh5, by show ks.length + 2 ≤ _; omega, by show _ ≤ z2 ∧ z2 ≤ _; omega⟩, by show ks.length ≤ _; omega, by show b.length ≤ _; omega⟩
  rw [e0, e1, e2, e3, e4, e5, e6, e7]
  unfold stC
  rw [UInt8.toNat_ofNat', Nat.mod_eq_of_lt (by omega), show ((z3.toNat : Nat) : Int) = z3 by omega]
set_option maxRecDepth 100000 in
theorem script_small {H : Type} {enc : TypeId × Value → H} {W : World} {base : Nat} {spare : Nat → Bool} {held : Bool} {fuel : Nat} {cs : List Value} {x : DataW H × List MemPlace} (h : DataW.trod enc Try.prog W base spare held fuel 47 cs = some x) (hb : Rows.uptoBulk x.1 ≤ 1048576) :
    ∃ v os, cs = [v] ∧ Script W v os ∧ ∀ s ∈ os, s.ks.length ≤ 1048576 ∧ s.b.length ≤ 1048576 := by
  rcases Deep.open_slice Try.underlying47 h with ⟨rfl, _⟩ | ⟨a, len, cap, m, n, D, Pl, rfl, _, hl, hm, hmm, hxx, hx⟩
  · exact ⟨_, [], rfl, ⟨fun W ty => by go_simp, fun k o hk => by simp at hk⟩, fun s hs => by simp at hs⟩
  · have hlm : len ≤ m := by rw [hmm]; split <;> omega
    have hbulk : ∀ i, i < len → Rows.uptoBulk (D i) ≤ 1048576 := fun i hi => by
      rw [hxx] at hb
      simp only [Rows.uptoBulk] at hb
      have := Bulk.mem_le (H := H) (d := D i) (l := (List.range len).map D) (List.mem_map.2 ⟨i, List.mem_range.2 hi, rfl⟩)
      omega
    obtain ⟨F, hF⟩ := Deep.choose_lt (α := Stp) (n := len) (p := fun i o => At W (a.add (i * 8)) (stC o) ∧ o.ok W ∧ o.ks.length ≤ 1048576 ∧ o.b.length ≤ 1048576) (fun i hi => by
      obtain ⟨cs', h1, h2⟩ := hx i (by omega)
      rw [cells53] at h1
      obtain ⟨_, hlen, hc⟩ := World.cells?_some h1
      obtain ⟨o, rfl, hok, hsm⟩ := stp_small h2 hlen (hbulk i hi)
      refine ⟨o, fun j v hj => ?_, hok, hsm⟩
      have hjl : j < 8 := by rw [← hlen]; exact (List.getElem?_eq_some_iff.1 hj).1
      exact (hc j hjl).trans hj)
    have hlen : ((List.range len).map F).length = len := by simp
    refine ⟨_, (List.range len).map F, rfl, ⟨fun W ty => ?_, fun i o hi => ?_⟩, fun s hs => ?_⟩
    · rw [hlen]; go_simp
    · have hi' : i < len := by
        have := (List.getElem?_eq_some_iff.1 hi).1
        rw [hlen] at this; exact this
      have ho : F i = o := by simpa [hi'] using hi
      subst ho
      exact ⟨a.add (i * 8), fun W => idx47 a len cap i hi' W, (hF i hi').1, (hF i hi').2.1⟩
    · obtain ⟨i, hi, rfl⟩ := List.mem_map.1 hs
      exact (hF i (List.mem_range.1 hi)).2.2
end Go.Proofs.Ythfcabhelldokaa
