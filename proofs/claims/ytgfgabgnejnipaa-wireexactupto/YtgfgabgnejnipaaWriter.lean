import Derived.Test.YtgfgabgnejnipaaKit
namespace Go.Proofs.Ytgfgabgnejnipaa
open Go.RowKit

/-- A writer: its struct lies in block p; the bytes written lie in a block of its own, behind p. -/
def Wr (w : World) (p : Nat) (v : Value) (most : Nat) (bs : List UInt8) (f : Int) : Prop :=
  w.heap[p]? = some (.cells #[.int .i64 most, v, .int .i64 f] 79) ∧ Own w (p + 1) v bs

theorem Wr.cells {w : World} {p : Nat} {v : Value} {most : Nat} {bs : List UInt8} {f : Int} (h : Wr w p v most bs f) :
    w.cell? ⟨p, 0, none⟩ = some (.int .i64 most) ∧ w.cell? ⟨p, 1, none⟩ = some v ∧ w.cell? ⟨p, 2, none⟩ = some (.int .i64 f) ∧ ∀ o, w.frozen? ⟨p, o, none⟩ = false := by
  refine ⟨?_, ?_, ?_, fun o => ?_⟩ <;> simp [World.cell?, World.frozen?, h.1]

theorem block_lt {w : World} {p : Nat} {o : Obj} (h : w.heap[p]? = some o) : p < w.heap.size := by
  rcases Nat.lt_or_ge p w.heap.size with hl | hl
  · exact hl
  · rw [Array.getElem?_eq_none hl] at h; cases h

theorem Wr.lt {w : World} {p : Nat} {v : Value} {most : Nat} {bs : List UInt8} {f : Int} (h : Wr w p v most bs f) : p < w.heap.size := block_lt h.1

/-- Out of a world in which no block is changed. -/
theorem Wr.below {w w' : World} {p : Nat} {v : Value} {most : Nat} {bs : List UInt8} {f : Int} (h : Wr w p v most bs f) (hb : Below w.heap.size w w') : Wr w' p v most bs f :=
  ⟨(hb.block p h.lt).trans h.1, h.2.below hb⟩

/-- The fault is noted. -/
theorem Wr.fault {w : World} {p : Nat} {v : Value} {most : Nat} {bs : List UInt8} {f : Int} (h : Wr w p v most bs f) (k : Int) : Wr (w.setCell ⟨p, 2, none⟩ (.int .i64 k)) p v most bs k := by
  refine ⟨?_, ?_⟩
  · rw [setCell_block w p 2 _ h.1]; rfl
  · exact ownsRow_setCell_below h.2 (by simp) _

/-- The bytes are laid anew. -/
theorem Wr.store {w : World} {p : Nat} {v v' : Value} {most : Nat} {bs : List UInt8} {f : Int} (hp : w.heap[p]? = some (.cells #[.int .i64 most, v, .int .i64 f] 79)) (ho : Own w (p + 1) v' bs) : Wr (w.setCell ⟨p, 1, none⟩ v') p v' most bs f := by
  refine ⟨?_, ?_⟩
  · rw [setCell_block w p 1 _ hp]; rfl
  · exact ownsRow_setCell_below ho (by simp) _

theorem setCell_below (w : World) (p o : Nat) (v : Value) : Below p w (w.setCell ⟨p, o, none⟩ v) := (setCell_only w p o v).below (by intro k hk; cases hk; exact Nat.le_refl _)

set_option maxHeartbeats 400000 in
theorem note_keep (p : Nat) (v : Value) (most : Nat) (bs : List UInt8) (f k : Int) (w : World) (h : Wr w p v most bs f) (hf : (f == 0) = false) :
    Calls Try.prog 42 #[.pointer (some ⟨p, 0, none⟩), .int .i64 k] w fun e w' => e = .returned (.tuple #[]) ∧ w = w' := by
  obtain ⟨_, _, h2, _⟩ := h.cells
  clear h
  go_enter Try.func42, Try.ntmps42
  go_wp2
  go_end0
  exact ⟨rfl, rfl⟩

set_option maxHeartbeats 400000 in
theorem note_set (p : Nat) (v : Value) (most : Nat) (bs : List UInt8) (k : Int) (w : World) (h : Wr w p v most bs 0) :
    Calls Try.prog 42 #[.pointer (some ⟨p, 0, none⟩), .int .i64 k] w fun e w' => e = .returned (.tuple #[]) ∧ Wr w' p v most bs k ∧ Below p w w' := by
  obtain ⟨_, _, h2, h3⟩ := h.cells
  have h3' := h3 2
  have HF := hide (h.fault k)
  have HB := hide (setCell_below w p 2 (.int .i64 k))
  clear h h3
  go_enter Try.func42, Try.ntmps42
  go_wp2
  go_end0
  exact ⟨rfl, HF.out, HB.out⟩

set_option maxHeartbeats 400000 in
theorem newWriter_ok (most : Nat) (w : World) (hm : most ≤ 1048576) :
    Calls Try.prog 17 #[.int .i64 most] w fun e w' => e = .returned (.tuple #[.pointer (some ⟨w.heap.size, 0, none⟩), .int .i64 0]) ∧ Wr w' w.heap.size (.slice none 0 0) most [] 0 ∧ Below w.heap.size w w' := by
  have hm' : (most : Int) ≤ 1048576 := by omega
  go_enter Try.func17, Try.ntmps17
  go_wp2
  go_ret2
  exact ⟨rfl, ⟨at_new w _ _ ⟨rfl, rfl, rfl, rfl⟩, Own.nil _ _⟩, below_new _ _⟩

/-- Bytes that stay whatever is written behind block p. -/
def HasP (w : World) (p : Nat) (v : Value) (bs : List UInt8) : Prop := ∀ w', Below p w w' → Has w' v bs

theorem HasP.has {w : World} {p : Nat} {v : Value} {bs : List UInt8} (h : HasP w p v bs) : Has w v bs := h w (Below.refl _ _)
theorem HasP.below {w w' : World} {p : Nat} {v : Value} {bs : List UInt8} (h : HasP w p v bs) (hb : Below p w w') : HasP w' p v bs := fun w2 h2 => h w2 (hb.trans h2)
/-- Bytes that lay there ahead of the writer. -/
theorem Has.early {w0 w : World} {p : Nat} {v : Value} {bs : List UInt8} (h : Has w0 v bs) (hb : Below w0.heap.size w0 w) (hp : w0.heap.size ≤ p) : HasP w p v bs :=
  fun _ h2 => h.below (hb.trans (h2.mono hp))

/-- The sum of the first parts' lengths. -/
def flen (ps : List (Value × List UInt8)) : Nat := (ps.flatMap (·.2)).length

theorem flen_take (ps : List (Value × List UInt8)) (k : Nat) (h : k < ps.length) : flen (ps.take (k + 1)) = flen (ps.take k) + ps[k].2.length := by
  unfold flen; rw [flat_take ps k h, List.length_append]
theorem flen_le (ps : List (Value × List UInt8)) (k : Nat) : flen (ps.take k) ≤ flen ps := flat_len ps k

theorem row_ne {w : World} {base : Nat} {v : Value} {bs : List UInt8} {g : Nat} {c : Array Value} (h : Own w base v bs) (hg : w.heap[g]? = some (.cells c 22)) : v.ownBlock ≠ some g := by
  intro e
  obtain ⟨_, ⟨rfl, _⟩ | ⟨g', cap, cur, rfl, _, hh, _⟩⟩ := h
  · cases e
  · simp [Value.ownBlock] at e; subst e
    rw [hg] at hh; simp at hh

set_option maxRecDepth 100000 in
set_option maxHeartbeats 400000 in
theorem fixed_fault (p : Nat) (v pv : Value) (most : Nat) (bs : List UInt8) (f : Int) (w : World) (h : Wr w p v most bs f) (hf : (f == 0) = false) :
    Calls Try.prog 40 #[.pointer (some ⟨p, 0, none⟩), pv] w fun e w' => e = .returned (.tuple #[]) ∧ w = w' := by
  obtain ⟨_, _, h2, _⟩ := h.cells
  clear h
  go_enter Try.func40, Try.ntmps40
  go_wp2
  exact bodyPost_ret (v := .tuple #[]) (by simp [results, Try.results40, go_sem]) rfl ⟨rfl, rfl⟩

set_option maxRecDepth 100000 in
set_option maxHeartbeats 2000000 in
theorem fixed_ok (p : Nat) (ao : Option Addr) (cap most : Nat) (bs : List UInt8) (g : Nat) (ps : List (Value × List UInt8)) (w : World) (h : Wr w p (.slice ao bs.length cap) most bs 0) (hm : most ≤ 1048576)
    (hg : w.heap[g]? = some (.cells (ps.map (·.1)).toArray 22)) (hp : ∀ q ∈ ps, Has w q.1 q.2) (htl : ∀ j q, 1 ≤ j → ps[j]? = some q → HasP w p q.1 q.2) (hn : ps.length ≤ 100) (hfit : bs.length + flen ps ≤ most) :
    Calls Try.prog 40 #[.pointer (some ⟨p, 0, none⟩), .slice (some ⟨g, 0, none⟩) ps.length ps.length] w fun e w' => e = .returned (.tuple #[]) ∧ ∃ v', Wr w' p v' most (bs ++ ps.flatMap (·.2)) 0 ∧ Below p w w' := by
  obtain ⟨h0, h1, h2, h3⟩ := h.cells
  have HW := hide h
  have hgc : ∀ k (hk : k < ps.length), w.cell? ⟨g, k, none⟩ = some ps[k].1 := by
    intro k hk
    simp [World.cell?, hg, hk]
  have HG := hide hg
  clear h hg
  go_enter Try.func40, Try.ntmps40
  go_wp2
  go_quiet (fail)
  go_wp2
  go_loop [4, 26] (fun t i => ∃ k : Nat, k ≤ ps.length ∧ i = .int .i64 k ∧ t = .int .i64 ((most : Int) - bs.length - flen (ps.take k))) (fun _ i => ps.length - (intOf i).toNat)
  case atStart => exact ⟨0, Nat.zero_le _, rfl, by simp [flen]⟩
  case round =>
    obtain ⟨k, hk, rfl, rfl⟩ := hrel
    by_cases hlt : k < ps.length
    · have hcell := hgc k hlt
      have hlen := (hp ps[k] (List.getElem_mem hlt)).len
      have f1 := flen_take ps k hlt
      have f2 := flen_le ps (k + 1)
      have F1 := hide f1
      have hroom : (ps[k].2.length : Int) ≤ (most : Int) - bs.length - flen (ps.take k) := by omega
      have hbig : flen (ps.take k) ≤ most := by omega
      have hbl : bs.length ≤ most := by omega
      clear f1 f2 hgc hp htl
      generalize ps[k].1 = pv at *
      go_wp2
      go_round
      case rel => exact ⟨k + 1, by omega, by go_num, by rw [F1.out]; go_num⟩
      case measure => simp [intOf]; omega
    · go_wp2
      have HP : Hid (∀ j q, 0 ≤ j → ps[j]? = some q → Has (w.drewN nq) q.1 q.2) := fun j q _ hq => (hp q (List.mem_of_getElem? hq)).drewN nq
      have HT : Hid (∀ j q, 1 ≤ j → ps[j]? = some q → HasP w p q.1 q.2) := htl
      have HW' : Hid (Wr (w.drewN nq) p (.slice ao bs.length cap) most bs 0) := HW.out
      have HG' : Hid ((w.drewN nq).heap[g]? = some (.cells (ps.map (·.1)).toArray 22)) := HG.out
      clear hp htl hgc h0 h1 h2 h3 HW HG
      go_loopw [43] (fun i wr => ∃ (k : Nat) (bo : Option Addr) (cp : Nat), k ≤ ps.length ∧ i = .int .i64 k ∧ Hid (Wr wr p (.slice bo (bs ++ (ps.take k).flatMap (·.2)).length cp) most (bs ++ (ps.take k).flatMap (·.2)) 0) ∧ Hid (wr.heap[g]? = some (.cells (ps.map (·.1)).toArray 22)) ∧ Hid (∀ j q, k ≤ j → ps[j]? = some q → Has wr q.1 q.2) ∧ Hid (Below p w wr)) (fun i _ => ps.length - (intOf i).toNat)
      case atStart => exact ⟨0, ao, cap, Nat.zero_le _, rfl, by simpa using HW', HG', HP, bel_drewN (Below.refl _ _) _⟩
      case round =>
        obtain ⟨k, bo, cp, hk, rfl, hw, hg, hps, hb⟩ := hrel
        clear HP HW' HG'
        by_cases hlt : k < ps.length
        · have hcell : wr.cell? ⟨g, k, none⟩ = some ps[k].1 := by simp [World.cell?, hg.out, hlt]
          have hhas := hide (hps.out k ps[k] (Nat.le_refl _) (List.getElem?_eq_getElem hlt))
          have c1 := hw.out.cells.2.1
          have FL : Hid ((bs ++ (ps.take k).flatMap (·.2)).length + ps[k].2.length ≤ 1048576 ∧ bs ++ (ps.take (k + 1)).flatMap (·.2) = (bs ++ (ps.take k).flatMap (·.2)) ++ ps[k].2) := by
            refine ⟨?_, by rw [flat_take ps k hlt, List.append_assoc]⟩
            have f1 := flen_take ps k hlt
            have f2 := flen_le ps (k + 1)
            unfold flen at f1 f2 hfit
            rw [List.length_append]; omega
          generalize hbk : bs ++ (ps.take k).flatMap (·.2) = bk at *
          generalize hpy : ps[k].2 = py at *
          generalize hpv : ps[k].1 = pv at *
          clear hbk hpv hpy
          go_wp2_with (at_builtin; refine wpList_app rfl _ _ rfl (p + 1) _ bk rfl hw.out.2 _ py rfl hhas.out (by have := FL.out.1; omega) hw.out.lt ?_)
          intro v' w1 hown1 hg1
          obtain ⟨co, cq, rfl⟩ := hown1.slice
          have hp1 : w1.heap[p]? = some (.cells #[.int .i64 most, .slice bo bk.length cp, .int .i64 0] 79) := (hg1.block p hw.out.lt (fun e => by have := hw.out.2.ownBlock p e.symm; omega)).trans hw.out.1
          have hgb1 : w1.heap[g]? = some (.cells (ps.map (·.1)).toArray 22) := (hg1.block g (block_lt hg.out) (fun e => row_ne hw.out.2 hg.out e.symm)).trans hg.out
          have hgp : g ≠ p := by intro e; subst e; rw [hgb1] at hp1; simp at hp1
          have c2 : w1.cell? ⟨p, 1, none⟩ = some (.slice bo bk.length cp) := by simp [World.cell?, hp1]
          have c3 : w1.frozen? ⟨p, 1, none⟩ = false := by simp [World.frozen?, hp1]
          have HW2 := hide (Wr.store hp1 hown1)
          have HG2 := hide ((Below.heap_setCell w1 ⟨p, 1, none⟩ (.slice co (bk ++ py).length cq) g hgp).trans hgb1)
          have HB2 := hide ((hb.out.grown hg1 (Nat.le_of_lt hw.out.lt) (fun j e => by have := hw.out.2.ownBlock j e; omega)).trans (setCell_below w1 p 1 (.slice co (bk ++ py).length cq)))
          have HPS2 : Hid (∀ j q, k + 1 ≤ j → ps[j]? = some q → Has (w1.setCell ⟨p, 1, none⟩ (.slice co (bk ++ py).length cq)) q.1 q.2) := fun j q hj hq => HT.out j q (by omega) hq _ HB2.out
          clear hp1 hgb1 hgp hown1 hg1 c1 hps hg hw hb
          generalize hnL : (bk ++ py).length = nL at *
          have HNL := hide hnL
          clear hnL
          go_wp2
          go_roundw
          case rel => exact ⟨k + 1, co, cq, by omega, by go_num, by rw [FL.out.2, HNL.out]; exact HW2, HG2, HPS2, HB2⟩
          case measure => simp [intOf]; omega
        · go_wp2
          go_end0
          have hw' := hw.out
          rw [List.take_of_length_le (by omega)] at hw'
          exact ⟨rfl, ⟨_, hw'⟩, hb.out⟩

set_option maxRecDepth 100000 in
set_option maxHeartbeats 2000000 in
theorem fixed_long (p : Nat) (ao : Option Addr) (cap most : Nat) (bs : List UInt8) (g : Nat) (ps : List (Value × List UInt8)) (w : World) (h : Wr w p (.slice ao bs.length cap) most bs 0) (hm : most ≤ 1048576) (hbl : bs.length ≤ most)
    (hg : w.heap[g]? = some (.cells (ps.map (·.1)).toArray 22)) (hp : ∀ q ∈ ps, Has w q.1 q.2 ∧ q.2.length ≤ 150000000000000) (hn : ps.length ≤ 100) (hfit : most < bs.length + flen ps) :
    Calls Try.prog 40 #[.pointer (some ⟨p, 0, none⟩), .slice (some ⟨g, 0, none⟩) ps.length ps.length] w fun e w' => e = .returned (.tuple #[]) ∧ Wr w' p (.slice ao bs.length cap) most bs 5 ∧ Below p w w' := by
  obtain ⟨h0, h1, h2, h3⟩ := h.cells
  have HW := hide h
  have hgc : ∀ k (hk : k < ps.length), w.cell? ⟨g, k, none⟩ = some ps[k].1 := by
    intro k hk
    simp [World.cell?, hg, hk]
  clear h hg
  go_enter Try.func40, Try.ntmps40
  go_wp2
  go_quiet (fail)
  go_wp2
  go_loop [4, 26] (fun t i => ∃ k : Nat, k ≤ ps.length ∧ i = .int .i64 k ∧ t = .int .i64 ((most : Int) - bs.length - flen (ps.take k)) ∧ bs.length + flen (ps.take k) ≤ most) (fun _ i => ps.length - (intOf i).toNat)
  case atStart => exact ⟨0, Nat.zero_le _, rfl, by simp [flen], by simpa [flen] using hbl⟩
  case round =>
    obtain ⟨k, hk, rfl, rfl, hle⟩ := hrel
    by_cases hlt : k < ps.length
    · have hcell := hgc k hlt
      have hlen := (hp ps[k] (List.getElem_mem hlt)).1.len
      have hlen2 := (hp ps[k] (List.getElem_mem hlt)).2
      have f1 := flen_take ps k hlt
      have F1 := hide f1
      by_cases hroom : (ps[k].2.length : Int) ≤ (most : Int) - bs.length - flen (ps.take k)
      · have hl2 : Hid (bs.length + flen (ps.take (k + 1)) ≤ most) := by show _ ≤ _; omega
        clear f1 hgc hp
        generalize ps[k].1 = pv at *
        go_wp2
        go_round
        case rel => exact ⟨k + 1, by omega, by go_num, by rw [F1.out]; go_num, hl2.out⟩
        case measure => simp [intOf]; omega
      · have hroom' : (most : Int) - bs.length - flen (ps.take k) < (ps[k].2.length : Int) := by omega
        clear f1 hgc hp
        generalize ps[k].1 = pv at *
        go_wp2_with fail
        refine (note_set p _ most bs 5 _ (HW.out.below (bel_drewN (Below.refl _ _) _))).mono ?_
        rintro e w2 ⟨rfl, hw2, hb2⟩
        have HW2 := hide hw2
        have HB2 := hide ((bel_drewN (Below.refl p w) nq).trans hb2)
        clear hw2 hb2
        go_wp2
        exact bodyPost_ret (v := .tuple #[]) (by simp [results, Try.results40, go_sem]) rfl ⟨rfl, HW2.out, HB2.out⟩
    · rw [List.take_of_length_le (by omega)] at hle
      exact absurd hfit (by omega)

theorem Wr.slice {w : World} {p : Nat} {v : Value} {most : Nat} {bs : List UInt8} {f : Int} (h : Wr w p v most bs f) : ∃ ao cap, v = .slice ao bs.length cap := h.2.slice

/-- What a field does to a writer: the bytes and the fault behind it. -/
def put1 (most : Nat) (bs : List UInt8) (f : Int) (ys : List UInt8) : List UInt8 × Int :=
  if f ≠ 0 then (bs, f) else if bs.length + ys.length ≤ most then (bs ++ ys, 0) else (bs, 5)

theorem fixed_any (p : Nat) (v : Value) (most : Nat) (bs : List UInt8) (f : Int) (g n : Nat) (ps : List (Value × List UInt8)) (w : World) (h : Wr w p v most bs f) (hm : most ≤ 1048576) (hbl : bs.length ≤ most)
    (hg : w.heap[g]? = some (.cells (ps.map (·.1)).toArray 22)) (hp : ∀ q ∈ ps, Has w q.1 q.2 ∧ q.2.length ≤ 150000000000000) (htl : ∀ j q, 1 ≤ j → ps[j]? = some q → HasP w p q.1 q.2) (hn : ps.length ≤ 100) (hnn : n = ps.length) :
    Calls Try.prog 40 #[.pointer (some ⟨p, 0, none⟩), .slice (some ⟨g, 0, none⟩) n n] w fun e w' => e = .returned (.tuple #[]) ∧ ∃ v', Wr w' p v' most (put1 most bs f (ps.flatMap (·.2))).1 (put1 most bs f (ps.flatMap (·.2))).2 ∧ Below p w w' := by
  subst hnn
  unfold put1
  by_cases hf : f = 0
  · subst hf
    rw [if_neg (by simp)]
    obtain ⟨ao, cap, rfl⟩ := h.slice
    by_cases hfit : bs.length + flen ps ≤ most
    · rw [if_pos (show bs.length + (ps.flatMap (·.2)).length ≤ most from hfit)]
      exact fixed_ok p ao cap most bs g ps w h hm hg (fun q hq => (hp q hq).1) htl hn hfit
    · rw [if_neg (show ¬ bs.length + (ps.flatMap (·.2)).length ≤ most from hfit)]
      exact (fixed_long p ao cap most bs g ps w h hm hbl hg hp hn (by omega)).mono fun e w' ⟨h1, h2, h3⟩ => ⟨h1, _, h2, h3⟩
  · rw [if_pos hf]
    exact (fixed_fault p v _ most bs f w h (beq_eq_false_iff_ne.2 hf)).mono fun e w' ⟨h1, h2⟩ => ⟨h1, v, by subst h2; exact h, by subst h2; exact Below.refl _ _⟩

end Go.Proofs.Ytgfgabgnejnipaa
