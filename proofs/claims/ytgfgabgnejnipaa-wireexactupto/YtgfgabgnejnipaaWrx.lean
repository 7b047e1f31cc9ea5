import Derived.Test.YtgfgabgnejnipaaFoot
import Derived.Test.YtgfgabgnejnipaaRefc
namespace Go.Proofs.Ytgfgabgnejnipaa
open Go.RowKit

/-- What a writer's call leaves. -/
def Wx (w w' : World) (p : Nat) (v : Value) (most : Nat) (bs : List UInt8) (f : Int) : Prop :=
  ∃ v', Wr w' p v' most bs f ∧ Fx (Foot p v) w w' ∧ Nw w v v'

theorem Wx.same {w w' : World} {p : Nat} {v : Value} {most : Nat} {bs : List UInt8} {f : Int} (h : Wr w' p v most bs f) (hf : Fx (Foot p v) w w') : Wx w w' p v most bs f :=
  ⟨v, h, hf, Nw.refl _ _⟩

/-- Behind blocks that came. -/
theorem Wx.early {w w1 w' : World} {p : Nat} {v : Value} {most : Nat} {bs : List UInt8} {f : Int} (h : Wx w1 w' p v most bs f) (hb : Below w.heap.size w w1) : Wx w w' p v most bs f := by
  obtain ⟨v', h1, h2, h3⟩ := h
  refine ⟨v', h1, (Fx.of_below hb).trans h2 (fun _ _ s => s), fun k hk => ?_⟩
  rcases h3 k hk with h | h
  · exact .inl h
  · exact .inr (Nat.le_trans hb.size h)

set_option maxHeartbeats 400000 in
theorem notex_set (p : Nat) (v : Value) (most : Nat) (bs : List UInt8) (k : Int) (w : World) (h : Wr w p v most bs 0) :
    Calls Try.prog 42 #[.pointer (some ⟨p, 0, none⟩), .int .i64 k] w fun e w' => e = .returned (.tuple #[]) ∧ Wr w' p v most bs k ∧ Fx (Foot p v) w w' := by
  obtain ⟨_, _, h2, h3⟩ := h.cells
  have h3' := h3 2
  have HF := hide (h.fault k)
  have HB := hide (Fx.setCell (S := Foot p v) w p 2 (.int .i64 k) (.inl rfl))
  clear h h3
  go_enter Try.func42, Try.ntmps42
  go_wp2
  go_end0
  exact ⟨rfl, HF.out, HB.out⟩

theorem notex_any (p : Nat) (v : Value) (most : Nat) (bs : List UInt8) (f k : Int) (w : World) (h : Wr w p v most bs f) :
    Calls Try.prog 42 #[.pointer (some ⟨p, 0, none⟩), .int .i64 k] w fun e w' => e = .returned (.tuple #[]) ∧ Wx w w' p v most bs (flt f k) := by
  unfold flt
  by_cases hf : f = 0
  · subst hf; rw [if_neg (by simp)]
    exact (notex_set p v most bs k w h).mono fun e w' ⟨h1, h2, h3⟩ => ⟨h1, Wx.same h2 h3⟩
  · rw [if_pos hf]
    exact (note_keep p v most bs f k w h (beq_eq_false_iff_ne.2 hf)).mono fun e w' ⟨h1, h2⟩ => ⟨h1, by subst h2; exact Wx.same h (Fx.refl _ _)⟩

set_option maxRecDepth 100000 in
set_option maxHeartbeats 2000000 in
theorem fixedx_ok (p : Nat) (ao : Option Addr) (cap most : Nat) (bs : List UInt8) (g : Nat) (ps : List (Value × List UInt8)) (w : World) (h : Wr w p (.slice ao bs.length cap) most bs 0) (hm : most ≤ 1048576)
    (hg : w.heap[g]? = some (.cells (ps.map (·.1)).toArray 22)) (hp : ∀ q ∈ ps, Has w q.1 q.2 ∧ ∀ k, k < w.heap.size → q.1.ownBlock = some k → ¬ Foot p (.slice ao bs.length cap) k) (hn : ps.length ≤ 100) (hfit : bs.length + flen ps ≤ most) :
    Calls Try.prog 40 #[.pointer (some ⟨p, 0, none⟩), .slice (some ⟨g, 0, none⟩) ps.length ps.length] w fun e w' => e = .returned (.tuple #[]) ∧ Wx w w' p (.slice ao bs.length cap) most (bs ++ ps.flatMap (·.2)) 0 := by
  obtain ⟨h0, h1, h2, h3⟩ := h.cells
  have hgp : ¬ Foot p (.slice ao bs.length cap) g := by
    rintro (e | e)
    · subst e
      have hp := h.1
      rw [hg] at hp; simp at hp
    · exact row_ne h.2 hg e
  have HGP := hide hgp
  have HW := hide h
  have hgc : ∀ k (hk : k < ps.length), w.cell? ⟨g, k, none⟩ = some ps[k].1 := by
    intro k hk
    simp [World.cell?, hg, hk]
  have HG := hide hg
  clear h hg hgp
  generalize hv0 : Value.slice ao bs.length cap = v0 at *
  have HV0 := hide hv0
  subst hv0
  go_enter Try.func40, Try.ntmps40
  go_wp2
  go_quiet (fail)
  go_wp2
  go_loop [4, 26] (fun t i => ∃ k : Nat, k ≤ ps.length ∧ i = .int .i64 k ∧ t = .int .i64 ((most : Int) - bs.length - flen (ps.take k))) (fun _ i => ps.length - (intOf i).toNat)
  case atStart => exact ⟨0, Nat.zero_le _, rfl, by simp [flen]⟩
  case round =>
    obtain ⟨k, hk, rfl, rfl⟩ := hrel
    by_cases hlt : k < ps.length
    · have hcell := hgc k hlt
      have hlen := (hp ps[k] (List.getElem_mem hlt)).1.len
      have f1 := flen_take ps k hlt
      have f2 := flen_le ps (k + 1)
      have F1 := hide f1
      have hroom : (ps[k].2.length : Int) ≤ (most : Int) - bs.length - flen (ps.take k) := by omega
      have hbig : flen (ps.take k) ≤ most := by omega
      have hbl : bs.length ≤ most := by omega
      clear f1 f2 hgc hp
      generalize ps[k].1 = pv at *
      go_wp2
      go_round
      case rel => exact ⟨k + 1, by omega, by go_num, by rw [F1.out]; go_num⟩
      case measure => simp [intOf]; omega
    · go_wp2
      have HP : Hid (∀ q ∈ ps, Has w q.1 q.2 ∧ ∀ k, k < w.heap.size → q.1.ownBlock = some k → ¬ Foot p (.slice ao bs.length cap) k) := hp
      have HW' : Hid (Wr (w.drewN nq) p (.slice ao bs.length cap) most bs 0) := HW.out
      have HF' : Hid (Fx (Foot p (.slice ao bs.length cap)) w (w.drewN nq)) := Fx.of_below (bel_drewN (Below.refl _ _) _)
      clear hp hgc h0 h1 h2 h3
      go_loopw [43] (fun i wr => ∃ (k : Nat) (bo : Option Addr) (cp : Nat), k ≤ ps.length ∧ i = .int .i64 k ∧ Hid (Wr wr p (.slice bo (bs ++ (ps.take k).flatMap (·.2)).length cp) most (bs ++ (ps.take k).flatMap (·.2)) 0) ∧ Hid (Fx (Foot p (.slice ao bs.length cap)) w wr ∧ Nw w (.slice ao bs.length cap) (.slice bo (bs ++ (ps.take k).flatMap (·.2)).length cp))) (fun i _ => ps.length - (intOf i).toNat)
      case atStart => exact ⟨0, ao, cap, Nat.zero_le _, rfl, by simpa using HW', HF'.out, fun k hk => .inl (by simpa using hk)⟩
      case round =>
        obtain ⟨k, bo, cp, hk, rfl, hw, hfn⟩ := hrel
        clear HW' HF'
        by_cases hlt : k < ps.length
        · have hgb : wr.heap[g]? = some (.cells (ps.map (·.1)).toArray 22) := (hfn.out.1.block g (block_lt HG.out) HGP.out).trans HG.out
          have hcell : wr.cell? ⟨g, k, none⟩ = some ps[k].1 := by simp [World.cell?, hgb, hlt]
          have hpk := HP.out ps[k] (List.getElem_mem hlt)
          have hhas := hide (hpk.1.fx hfn.out.1 hpk.2)
          have c1 := hw.out.cells.2.1
          have FL : Hid ((bs ++ (ps.take k).flatMap (·.2)).length + ps[k].2.length ≤ 1048576 ∧ bs ++ (ps.take (k + 1)).flatMap (·.2) = (bs ++ (ps.take k).flatMap (·.2)) ++ ps[k].2) := by
            refine ⟨?_, by rw [flat_take ps k hlt, List.append_assoc]⟩
            have f1 := flen_take ps k hlt
            have f2 := flen_le ps (k + 1)
            unfold flen at f1 f2 hfit
            rw [List.length_append]; omega
          clear hgb hpk
          generalize hbk : bs ++ (ps.take k).flatMap (·.2) = bk at *
          generalize hpy : ps[k].2 = py at *
          generalize hpv : ps[k].1 = pv at *
          clear hbk hpv hpy
          go_wp2_with (at_builtin; refine wpList_appx rfl _ _ rfl (p + 1) _ bk rfl hw.out.2 _ py rfl hhas.out (by have := FL.out.1; omega) hw.out.lt ?_)
          intro v' w1 hown1 hg1 hnw1
          obtain ⟨co, cq, rfl⟩ := hown1.slice
          have hp1 : w1.heap[p]? = some (.cells #[.int .i64 most, .slice bo bk.length cp, .int .i64 0] 79) := (hg1.block p hw.out.lt (fun e => by have := hw.out.2.ownBlock p e.symm; omega)).trans hw.out.1
          have c2 : w1.cell? ⟨p, 1, none⟩ = some (.slice bo bk.length cp) := by simp [World.cell?, hp1]
          have c3 : w1.frozen? ⟨p, 1, none⟩ = false := by simp [World.frozen?, hp1]
          have HW2 := hide (Wr.store hp1 hown1)
          have HF2 : Hid (Fx (Foot p (.slice ao bs.length cap)) w (w1.setCell ⟨p, 1, none⟩ (.slice co (bk ++ py).length cq)) ∧ Nw w (.slice ao bs.length cap) (.slice co (bk ++ py).length cq)) := by
            have hfe := hfn.out.1
            have hne := hfn.out.2
            refine ⟨(hfe.trans (Fx.grown (S := fun k => (Value.slice bo bk.length cp).ownBlock = some k) hg1 (fun k e => e)) (fun i hi hb => ?_)).trans (Fx.setCell (S := fun k => k = p) w1 p 1 _ rfl) (fun i _ e => .inl e), fun k hk => ?_⟩
            · rcases hne i hb with h | h
              · exact .inr h
              · omega
            · rcases hnw1 k hk with h | h
              · exact hne k h
              · exact .inr (Nat.le_trans hfe.size h)
          clear hp1 hown1 hg1 hnw1 c1 hfn hw
          generalize hnL : (bk ++ py).length = nL at *
          have HNL := hide hnL
          clear hnL
          go_wp2
          go_roundw
          case rel => exact ⟨k + 1, co, cq, by omega, by go_num, by rw [FL.out.2, HNL.out]; exact HW2, by rw [FL.out.2, HNL.out]; exact HF2⟩
          case measure => simp [intOf]; omega
        · go_wp2
          go_end0
          have hw' := hw.out
          have hf' := hfn.out
          rw [List.take_of_length_le (by omega)] at hw' hf'
          exact ⟨rfl, _, hw', hf'⟩

set_option maxRecDepth 100000 in
set_option maxHeartbeats 2000000 in
theorem fixedx_long (p : Nat) (ao : Option Addr) (cap most : Nat) (bs : List UInt8) (g : Nat) (ps : List (Value × List UInt8)) (w : World) (h : Wr w p (.slice ao bs.length cap) most bs 0) (hm : most ≤ 1048576) (hbl : bs.length ≤ most)
    (hg : w.heap[g]? = some (.cells (ps.map (·.1)).toArray 22)) (hp : ∀ q ∈ ps, Has w q.1 q.2 ∧ q.2.length ≤ 150000000000000) (hn : ps.length ≤ 100) (hfit : most < bs.length + flen ps) :
    Calls Try.prog 40 #[.pointer (some ⟨p, 0, none⟩), .slice (some ⟨g, 0, none⟩) ps.length ps.length] w fun e w' => e = .returned (.tuple #[]) ∧ Wr w' p (.slice ao bs.length cap) most bs 5 ∧ Fx (Foot p (.slice ao bs.length cap)) w w' := by
  obtain ⟨h0, h1, h2, h3⟩ := h.cells
  have HW := hide h
  have hgc : ∀ k (hk : k < ps.length), w.cell? ⟨g, k, none⟩ = some ps[k].1 := by
    intro k hk
    simp [World.cell?, hg, hk]
  clear h hg
  go_enter Try.func40, Try.ntmps40
  go_wp2
  go_quiet (fail)
  go_wp2
  go_loop [4, 26] (fun t i => ∃ k : Nat, k ≤ ps.length ∧ i = .int .i64 k ∧ t = .int .i64 ((most : Int) - bs.length - flen (ps.take k)) ∧ bs.length + flen (ps.take k) ≤ most) (fun _ i => ps.length - (intOf i).toNat)
  case atStart => exact ⟨0, Nat.zero_le _, rfl, by simp [flen], by simpa [flen] using hbl⟩
  case round =>
    obtain ⟨k, hk, rfl, rfl, hle⟩ := hrel
    by_cases hlt : k < ps.length
    · have hcell := hgc k hlt
      have hlen := (hp ps[k] (List.getElem_mem hlt)).1.len
      have hlen2 := (hp ps[k] (List.getElem_mem hlt)).2
      have f1 := flen_take ps k hlt
      have F1 := hide f1
      by_cases hroom : (ps[k].2.length : Int) ≤ (most : Int) - bs.length - flen (ps.take k)
      · have hl2 : Hid (bs.length + flen (ps.take (k + 1)) ≤ most) := by show _ ≤ _; omega
        clear f1 hgc hp
        generalize ps[k].1 = pv at *
        go_wp2
        go_round
        case rel => exact ⟨k + 1, by omega, by go_num, by rw [F1.out]; go_num, hl2.out⟩
        case measure => simp [intOf]; omega
      · have hroom' : (most : Int) - bs.length - flen (ps.take k) < (ps[k].2.length : Int) := by omega
        clear f1 hgc hp
        generalize ps[k].1 = pv at *
        go_wp2_with fail
        refine (notex_set p _ most bs 5 _ (HW.out.below (bel_drewN (Below.refl _ _) _))).mono ?_
        rintro e w2 ⟨rfl, hw2, hb2⟩
        have HW2 := hide hw2
        have HB2 := hide ((Fx.of_below (S := Foot p (.slice ao bs.length cap)) (bel_drewN (Below.refl _ w) nq)).trans hb2 (fun _ _ s => s))
        clear hw2 hb2
        go_wp2
        exact bodyPost_ret (v := .tuple #[]) (by simp [results, Try.results40, go_sem]) rfl ⟨rfl, HW2.out, HB2.out⟩
    · rw [List.take_of_length_le (by omega)] at hle
      exact absurd hfit (by omega)

theorem fixedx_any (p : Nat) (v : Value) (most : Nat) (bs : List UInt8) (f : Int) (g n : Nat) (ps : List (Value × List UInt8)) (w : World) (h : Wr w p v most bs f) (hm : most ≤ 1048576) (hbl : bs.length ≤ most)
    (hg : w.heap[g]? = some (.cells (ps.map (·.1)).toArray 22)) (hp : ∀ q ∈ ps, (Has w q.1 q.2 ∧ q.2.length ≤ 150000000000000) ∧ ∀ k, k < w.heap.size → q.1.ownBlock = some k → ¬ Foot p v k) (hn : ps.length ≤ 100) (hnn : n = ps.length) :
    Calls Try.prog 40 #[.pointer (some ⟨p, 0, none⟩), .slice (some ⟨g, 0, none⟩) n n] w fun e w' => e = .returned (.tuple #[]) ∧ Wx w w' p v most (put1 most bs f (ps.flatMap (·.2))).1 (put1 most bs f (ps.flatMap (·.2))).2 := by
  subst hnn
  unfold put1
  by_cases hf : f = 0
  · subst hf
    rw [if_neg (by simp)]
    obtain ⟨ao, cap, rfl⟩ := h.slice
    by_cases hfit : bs.length + flen ps ≤ most
    · rw [if_pos (show bs.length + (ps.flatMap (·.2)).length ≤ most from hfit)]
      exact fixedx_ok p ao cap most bs g ps w h hm hg (fun q hq => ⟨(hp q hq).1.1, (hp q hq).2⟩) hn hfit
    · rw [if_neg (show ¬ bs.length + (ps.flatMap (·.2)).length ≤ most from hfit)]
      exact (fixedx_long p ao cap most bs g ps w h hm hbl hg (fun q hq => (hp q hq).1) hn (by omega)).mono fun e w' ⟨h1, h2, h3⟩ => ⟨h1, Wx.same h2 h3⟩
  · rw [if_pos hf]
    exact (fixed_fault p v _ most bs f w h (beq_eq_false_iff_ne.2 hf)).mono fun e w' ⟨h1, h2⟩ => ⟨h1, by subst h2; exact Wx.same h (Fx.refl _ _)⟩

theorem Wr.foot {w : World} {p : Nat} {v : Value} {most : Nat} {bs : List UInt8} {f : Int} (h : Wr w p v most bs f) {k : Nat} (hk : Foot p v k) : k < w.heap.size := by
  rcases hk with rfl | hk
  · exact h.lt
  · exact h.2.lt k hk

theorem field_newx (p : Nat) (v : Value) (most : Nat) (bs : List UInt8) (f : Int) (w : World) (h : Wr w p v most bs f) (hm : most ≤ 1048576) (hbl : bs.length ≤ most)
    (c : Array Value) (ys : List UInt8) (hc : c = (ys.map byt).toArray) (hy : ys.length ≤ 100) (rest : List (Value × List UInt8)) (hrest : ∀ q ∈ rest, (Has w q.1 q.2 ∧ q.2.length ≤ 150000000000000) ∧ ∀ k, k < w.heap.size → q.1.ownBlock = some k → ¬ Foot p v k) (hr : rest.length ≤ 10) (n m : Nat) (hn : n = ys.length) (hmm : m = rest.length + 1) :
    Calls Try.prog 40 #[.pointer (some ⟨p, 0, none⟩), .slice (some ⟨w.heap.size + 1, 0, none⟩) m m] ((w.alloc (.cells c 5)).alloc (.cells ((.slice (some ⟨w.heap.size, 0, none⟩) n n :: rest.map (·.1))).toArray 22)) fun e w' =>
      e = .returned (.tuple #[]) ∧ Wx w w' p v most (put1 most bs f (ys ++ rest.flatMap (·.2))).1 (put1 most bs f (ys ++ rest.flatMap (·.2))).2 := by
  obtain ⟨a1, a2⟩ := two_blocks w _ c ys hc rest n hn ⟨rfl, rfl, rfl, rfl⟩
  have hb := bel_two w ((w.alloc (.cells c 5)).alloc (.cells ((.slice (some ⟨w.heap.size, 0, none⟩) n n :: rest.map (·.1))).toArray 22)) _ _ ⟨rfl, rfl, rfl, rfl⟩
  refine (fixedx_any p v most bs f (w.heap.size + 1) m ((.slice (some ⟨w.heap.size, 0, none⟩) n n, ys) :: rest) _ (h.below hb) hm hbl a2 ?_ (by simp; omega) (by simp; omega)).mono ?_
  · intro q hq
    rcases List.mem_cons.1 hq with rfl | hq
    · refine ⟨⟨a1, by dsimp only; omega⟩, fun k _ hk hF => ?_⟩
      simp [Value.ownBlock] at hk
      have := h.foot hF
      omega
    · refine ⟨⟨(hrest q hq).1.1.below hb, (hrest q hq).1.2⟩, fun k _ hk hF => ?_⟩
      exact (hrest q hq).2 k (h.foot hF) hk hF
  · rintro e w' ⟨h1, h2⟩
    exact ⟨h1, (by simpa using h2 : Wx _ _ _ _ _ _ _).early hb⟩

theorem no_restx {w : World} {p : Nat} {v : Value} : ∀ q ∈ ([] : List (Value × List UInt8)), (Has w q.1 q.2 ∧ q.2.length ≤ 150000000000000) ∧ ∀ k, k < w.heap.size → q.1.ownBlock = some k → ¬ Foot p v k := by simp

/-- A number's field: of so many bytes; below 0 or too great: ErrPlace. -/
def putn (most : Nat) (bs : List UInt8) (f n : Int) (s : Nat) : List UInt8 × Int :=
  if n < 0 ∨ 256 ^ s ≤ n then (bs, flt f 4) else put1 most bs f (ben s n.toNat)

set_option maxRecDepth 100000 in
set_option maxHeartbeats 400000 in
theorem u8x_bad (p : Nat) (v : Value) (most : Nat) (bs : List UInt8) (f n : Int) (w : World) (h : Wr w p v most bs f) (hn : n < 0 ∨ 255 < n) :
    Calls Try.prog 19 #[.pointer (some ⟨p, 0, none⟩), .int .i64 n] w fun e w' => e = .returned (.tuple #[]) ∧ Wx w w' p v most bs (flt f 4) := by
  rcases hn with hn | hn
  all_goals
    go_enter Try.func19, Try.ntmps19
    go_wp2_with fail
    refine (notex_any p v most bs f 4 _ h).mono ?_
    rintro e w' ⟨rfl, h1⟩
    go_wp2
    exact bodyPost_ret (v := .tuple #[]) (by simp [results, Try.results19, go_sem]) rfl ⟨rfl, h1⟩

set_option maxRecDepth 100000 in
set_option maxHeartbeats 400000 in
theorem u8x_ok (p : Nat) (v : Value) (most : Nat) (bs : List UInt8) (f : Int) (b : UInt8) (w : World) (h : Wr w p v most bs f) (hm : most ≤ 1048576) (hbl : bs.length ≤ most) :
    Calls Try.prog 19 #[.pointer (some ⟨p, 0, none⟩), .int .i64 (b.toNat : Int)] w fun e w' => e = .returned (.tuple #[]) ∧ Wx w w' p v most (put1 most bs f [b]).1 (put1 most bs f [b]).2 := by
  have hb : (b.toNat : Int) ≤ 255 := by have := b.toNat_lt; omega
  go_enter Try.func19, Try.ntmps19
  go_wp2_with fail
  refine (field_newx p v most bs f w h hm hbl _ [b] rfl (by simp) [] no_restx (by simp) 1 1 rfl rfl).mono ?_
  rintro e w1 ⟨rfl, h1⟩
  have H1 := hide h1
  clear h1 h
  go_wp2
  go_end0
  exact ⟨rfl, H1.out⟩

set_option maxRecDepth 100000 in
set_option maxHeartbeats 400000 in
theorem u16x_bad (p : Nat) (v : Value) (most : Nat) (bs : List UInt8) (f n : Int) (w : World) (h : Wr w p v most bs f) (hn : n < 0 ∨ 65535 < n) :
    Calls Try.prog 20 #[.pointer (some ⟨p, 0, none⟩), .int .i64 n] w fun e w' => e = .returned (.tuple #[]) ∧ Wx w w' p v most bs (flt f 4) := by
  rcases hn with hn | hn
  all_goals
    go_enter Try.func20, Try.ntmps20
    go_wp2_with fail
    refine (notex_any p v most bs f 4 _ h).mono ?_
    rintro e w' ⟨rfl, h1⟩
    go_wp2
    exact bodyPost_ret (v := .tuple #[]) (by simp [results, Try.results20, go_sem]) rfl ⟨rfl, h1⟩

set_option maxRecDepth 100000 in
set_option maxHeartbeats 400000 in
theorem u16x_ok (p : Nat) (v : Value) (most : Nat) (bs : List UInt8) (f : Int) (n : Nat) (w : World) (h : Wr w p v most bs f) (hm : most ≤ 1048576) (hbl : bs.length ≤ most) (hn : n < 65536) :
    Calls Try.prog 20 #[.pointer (some ⟨p, 0, none⟩), .int .i64 (n : Int)] w fun e w' => e = .returned (.tuple #[]) ∧ Wx w w' p v most (put1 most bs f (be16 n)).1 (put1 most bs f (be16 n)).2 := by
  have hb : (n : Int) ≤ 65535 := by omega
  go_enter Try.func20, Try.ntmps20
  go_wp2_with fail
  refine (field_newx p v most bs f w h hm hbl _ (be16 n) (be16_cells n hn) (by simp [be16]) [] no_restx (by simp) 2 1 rfl rfl).mono ?_
  rw [List.flatMap_nil, List.append_nil]
  rintro e w1 ⟨rfl, h1⟩
  have H1 := hide h1
  clear h1 h
  go_wp2
  go_end0
  exact ⟨rfl, H1.out⟩

set_option maxRecDepth 100000 in
set_option maxHeartbeats 400000 in
theorem u32x_ok (p : Nat) (v : Value) (most : Nat) (bs : List UInt8) (f : Int) (n : Nat) (w : World) (h : Wr w p v most bs f) (hm : most ≤ 1048576) (hbl : bs.length ≤ most) (hn : n < 4294967296) :
    Calls Try.prog 22 #[.pointer (some ⟨p, 0, none⟩), .int .u32 (n : Int)] w fun e w' => e = .returned (.tuple #[]) ∧ Wx w w' p v most (put1 most bs f (be32 n)).1 (put1 most bs f (be32 n)).2 := by
  have hb : (n : Int) ≤ 4294967295 := by omega
  go_enter Try.func22, Try.ntmps22
  go_wp2_with fail
  refine (field_newx p v most bs f w h hm hbl _ (be32 n) (be32_cells n hn) (by simp [be32]) [] no_restx (by simp) 4 1 rfl rfl).mono ?_
  rw [List.flatMap_nil, List.append_nil]
  rintro e w1 ⟨rfl, h1⟩
  have H1 := hide h1
  clear h1 h
  go_wp2
  go_end0
  exact ⟨rfl, H1.out⟩

set_option maxRecDepth 100000 in
set_option maxHeartbeats 400000 in
theorem runx_bad (p : Nat) (v pv : Value) (most : Nat) (bs ys : List UInt8) (f : Int) (w : World) (h : Wr w p v most bs f) (hy : Has w pv ys) (hn : 65535 < ys.length) (hn2 : ys.length ≤ 150000000000000) :
    Calls Try.prog 21 #[.pointer (some ⟨p, 0, none⟩), pv] w fun e w' => e = .returned (.tuple #[]) ∧ Wx w w' p v most bs (flt f 12) := by
  have hlen := hy.len
  have hb : (65535 : Int) < (ys.length : Int) := by omega
  go_enter Try.func21, Try.ntmps21
  go_wp2_with fail
  refine (notex_any p v most bs f 12 _ h).mono ?_
  rintro e w' ⟨rfl, h1⟩
  go_wp2
  exact bodyPost_ret (v := .tuple #[]) (by simp [results, Try.results21, go_sem]) rfl ⟨rfl, h1⟩

set_option maxRecDepth 100000 in
set_option maxHeartbeats 400000 in
theorem runx_ok (p : Nat) (v pv : Value) (most : Nat) (bs ys : List UInt8) (f : Int) (w : World) (h : Wr w p v most bs f) (hm : most ≤ 1048576) (hbl : bs.length ≤ most) (hy : Has w pv ys) (hd : ∀ k, k < w.heap.size → pv.ownBlock = some k → ¬ Foot p v k) (hn : ys.length ≤ 65535) :
    Calls Try.prog 21 #[.pointer (some ⟨p, 0, none⟩), pv] w fun e w' => e = .returned (.tuple #[]) ∧ Wx w w' p v most (put1 most bs f (be16 ys.length ++ ys)).1 (put1 most bs f (be16 ys.length ++ ys)).2 := by
  obtain ⟨bo, cp, rfl⟩ := hy.slice
  have hb : (ys.length : Int) ≤ 65535 := by omega
  have hr : Hid (∀ q ∈ [(Value.slice bo ys.length cp, ys)], (Has w q.1 q.2 ∧ q.2.length ≤ 150000000000000) ∧ ∀ k, k < w.heap.size → q.1.ownBlock = some k → ¬ Foot p v k) := by
    intro q hq
    simp only [List.mem_cons, List.not_mem_nil, or_false] at hq
    subst hq; exact ⟨⟨hy, by dsimp only; omega⟩, hd⟩
  have e1 : Hid (put1 most bs f (be16 ys.length ++ [(Value.slice bo ys.length cp, ys)].flatMap (·.2)) = put1 most bs f (be16 ys.length ++ ys)) := by simp [Hid]
  clear hy hd
  go_enter Try.func21, Try.ntmps21
  go_wp2_with fail
  refine (field_newx p v most bs f w h hm hbl _ (be16 ys.length) (be16_cells _ (by omega)) (by simp [be16]) [(.slice bo ys.length cp, ys)] hr.out (by simp) 2 2 rfl rfl).mono ?_
  rw [e1.out]
  rintro e w1 ⟨rfl, h1⟩
  have H1 := hide h1
  clear h1 h
  go_wp2
  go_end0
  exact ⟨rfl, H1.out⟩

end Go.Proofs.Ytgfgabgnejnipaa
