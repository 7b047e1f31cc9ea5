import Derived.Test.YtgfgabgnejnipaaWritten
import Derived.WalkMore
import Derived.ScopeJumps
namespace Go.Proofs.Ytgfgabgnejnipaa
open Go.RowKit

/-- Block q alone may have turned; blocks may have come. -/
structure Frm (q : Nat) (w w' : World) : Prop where
  os : w'.os = w.os
  tape : w'.tape = w.tape
  output : w'.output = w.output
  size : w.heap.size ≤ w'.heap.size
  block : ∀ k, k < w.heap.size → k ≠ q → w'.heap[k]? = w.heap[k]?

theorem Frm.trans {q : Nat} {a b c : World} (h : Frm q a b) (k : Frm q b c) : Frm q a c :=
  ⟨k.os.trans h.os, k.tape.trans h.tape, k.output.trans h.output, Nat.le_trans h.size k.size, fun i hi hq => (k.block i (Nat.lt_of_lt_of_le hi h.size) hq).trans (h.block i hi hq)⟩
theorem Frm.of_below {q : Nat} {a b : World} (h : Below a.heap.size a b) : Frm q a b := ⟨h.os, h.tape, h.output, h.size, fun i hi _ => h.block i hi⟩
theorem Frm.refl (q : Nat) (w : World) : Frm q w w := Frm.of_below (Below.refl _ _)
theorem Frm.setCell (w : World) (q o : Nat) (v : Value) : Frm q w (w.setCell ⟨q, o, none⟩ v) :=
  ⟨rfl, rfl, rfl, by simp [World.setCell], fun k _ hk => Below.heap_setCell _ _ _ _ hk⟩
theorem Frm.below {q : Nat} {a b : World} (h : Frm q a b) {B : Nat} (hB : B ≤ q) (hs : B ≤ a.heap.size) : Below B a b :=
  ⟨h.os, h.tape, h.output, h.size, fun k hk => h.block k (by omega) (by omega)⟩

/-- A reader: its struct lies in block p. -/
def Rd (w : World) (p : Nat) (v : Value) (all : List UInt8) (at_ : Nat) (f : Int) : Prop :=
  w.heap[p]? = some (.cells #[v, .int .i64 at_, .int .i64 f] 84) ∧ Has w v all ∧ at_ ≤ all.length

/-- Bytes don't lie in a reader's struct. -/
theorem Has.frm {w w' : World} {v : Value} {bs : List UInt8} {q : Nat} {c : Array Value} (h : Has w v bs) (hq : w.heap[q]? = some (.cells c 84)) (hc : ∀ (i : Nat) u, c[i]? = some u → ∀ b, u ≠ byt b) (hf : Frm q w w') : Has w' v bs := by
  rcases h with h | ⟨ad, cap, h1, h2, h3⟩
  · exact .inl h
  · refine .inr ⟨ad, cap, h1, h2, fun i u hu => ?_⟩
    have hcell := h3 i u hu
    have hne : (ad.add i).block ≠ q := by
      intro e
      unfold World.cell? at hcell
      rw [e, hq] at hcell
      dsimp only at hcell
      split at hcell
      · cases hcell
      · exact hc _ _ hcell u rfl
    have hlt := cell_lt hcell
    rw [← hcell]
    unfold World.cell?
    rw [hf.block _ hlt hne]

theorem rd_cells (v : Value) (hv : ∃ ao n c, v = .slice ao n c) (a : Nat) (f : Int) : ∀ (i : Nat) u, (#[v, .int .i64 (a : Int), .int .i64 f] : Array Value)[i]? = some u → ∀ b, u ≠ byt b := by
  obtain ⟨ao, n, c, rfl⟩ := hv
  intro i u hu b e
  subst e
  match i, hu with
  | 0, hu => simp [byt] at hu
  | 1, hu => simp [byt] at hu
  | 2, hu => simp [byt] at hu

theorem Rd.shape {w : World} {p : Nat} {v : Value} {all : List UInt8} {a : Nat} {f : Int} (h : Rd w p v all a f) : ∃ ao n c, v = .slice ao n c := by
  obtain ⟨ao, c, e⟩ := h.2.1.slice
  exact ⟨ao, _, c, e⟩

theorem Rd.cells {w : World} {p : Nat} {v : Value} {all : List UInt8} {a : Nat} {f : Int} (h : Rd w p v all a f) :
    w.cell? ⟨p, 0, none⟩ = some v ∧ w.cell? ⟨p, 1, none⟩ = some (.int .i64 a) ∧ w.cell? ⟨p, 2, none⟩ = some (.int .i64 f) ∧ ∀ o, w.frozen? ⟨p, o, none⟩ = false := by
  refine ⟨?_, ?_, ?_, fun o => ?_⟩ <;> simp [World.cell?, World.frozen?, h.1]

theorem Rd.lt {w : World} {p : Nat} {v : Value} {all : List UInt8} {a : Nat} {f : Int} (h : Rd w p v all a f) : p < w.heap.size := block_lt h.1

theorem Rd.below {w w' : World} {p : Nat} {v : Value} {all : List UInt8} {a : Nat} {f : Int} (h : Rd w p v all a f) (hb : Below w.heap.size w w') : Rd w' p v all a f :=
  ⟨(hb.block p h.lt).trans h.1, h.2.1.below hb, h.2.2⟩

/-- Bytes and other readers behind what a reader does. -/
theorem Rd.keeps {w w' : World} {p : Nat} {v : Value} {all : List UInt8} {a : Nat} {f : Int} (h : Rd w p v all a f) (hf : Frm p w w') {u : Value} {bs : List UInt8} (hu : Has w u bs) : Has w' u bs :=
  Has.frm hu h.1 (rd_cells v h.shape a f) hf

theorem Rd.other {w w' : World} {p q : Nat} {v u : Value} {all bll : List UInt8} {a b : Nat} {f g : Int} (h : Rd w p v all a f) (hf : Frm p w w') (k : Rd w q u bll b g) (hne : q ≠ p) : Rd w' q u bll b g :=
  ⟨(hf.block q k.lt hne).trans k.1, h.keeps hf k.2.1, k.2.2⟩

theorem Rd.fault {w : World} {p : Nat} {v : Value} {all : List UInt8} {a : Nat} {f : Int} (h : Rd w p v all a f) (k : Int) : Rd (w.setCell ⟨p, 2, none⟩ (.int .i64 k)) p v all a k :=
  ⟨by rw [setCell_block w p 2 _ h.1]; rfl, h.keeps (Frm.setCell w p 2 _) h.2.1, h.2.2⟩

theorem Rd.move {w : World} {p : Nat} {v : Value} {all : List UInt8} {a : Nat} {f : Int} (h : Rd w p v all a f) (b : Nat) (hb : b ≤ all.length) : Rd (w.setCell ⟨p, 1, none⟩ (.int .i64 b)) p v all b f :=
  ⟨by rw [setCell_block w p 1 _ h.1]; rfl, h.keeps (Frm.setCell w p 1 _) h.2.1, hb⟩

set_option maxRecDepth 100000 in
set_option maxHeartbeats 400000 in
theorem newReader_any (v : Value) (bs : List UInt8) (w : World) (h : Has w v bs) (hn : bs.length ≤ 150000000000000) :
    Calls Try.prog 24 #[v] w fun e w' => ∃ p rv, e = .returned (.pointer (some ⟨p, 0, none⟩)) ∧ Rd w' p rv bs 0 0 ∧ w.heap.size ≤ p ∧ Below w.heap.size w w' := by
  have HH := hide h
  clear h
  go_enter Try.func24, Try.ntmps24
  go_wp2_with fail
  refine (clone_any v bs _ HH.out hn).mono ?_
  rintro e w1 ⟨ao, cap, rfl, h1, h2⟩
  have hnew := below_new w1 (.cells #[.slice ao bs.length cap, .int .i64 0, .int .i64 0] 84)
  have HR : Hid (Rd (w1.alloc (.cells #[.slice ao bs.length cap, .int .i64 0, .int .i64 0] 84)) w1.heap.size (.slice ao bs.length cap) bs 0 0) := ⟨at_new w1 _ _ ⟨rfl, rfl, rfl, rfl⟩, h1.has.below hnew, Nat.zero_le _⟩
  have HB := hide (bel_chain h2 hnew)
  have HS := hide h2.size
  clear h1 h2 hnew
  go_wp2
  go_ret
  exact ⟨_, _, rfl, HR.out, HS.out, HB.out⟩

set_option maxRecDepth 100000 in
set_option maxHeartbeats 400000 in
theorem left_any (p : Nat) (v : Value) (all : List UInt8) (a : Nat) (f : Int) (w : World) (h : Rd w p v all a f) (hn : all.length ≤ 150000000000000) :
    Calls Try.prog 32 #[.pointer (some ⟨p, 0, none⟩)] w fun e w' => e = .returned (.int .i64 ((all.length : Int) - a)) ∧ ∃ q, w' = w.drewN q := by
  obtain ⟨h0, h1, _, _⟩ := h.cells
  have hle := h.2.2
  obtain ⟨ao, c, rfl⟩ := h.2.1.slice
  clear h
  go_enter Try.func32, Try.ntmps32
  go_wp2
  go_quiet (fail)
  go_wp2
  go_ret
  exact ⟨rfl, _, rfl⟩

set_option maxRecDepth 100000 in
set_option maxHeartbeats 400000 in
theorem rfixed_fault (p : Nat) (v : Value) (all : List UInt8) (a : Nat) (f n : Int) (w : World) (h : Rd w p v all a f) (hf : (f == 0) = false) :
    Calls Try.prog 25 #[.pointer (some ⟨p, 0, none⟩), .int .i64 n] w fun e w' => e = .returned (.slice none 0 0) ∧ w = w' := by
  obtain ⟨_, _, h2, _⟩ := h.cells
  clear h
  go_enter Try.func25, Try.ntmps25
  go_wp2
  go_step3
  go_wp2
  rw [Exit.noGoto_ret]
  go_ret
  exact ⟨rfl, rfl⟩

theorem jump_ret (l : Nat) (J : Act → World → Prop) (Q : Exit → Act → World → Prop) (a : Act) (w : World) : Exit.jump l J Q .ret a w = Q .ret a w := rfl

set_option maxRecDepth 100000 in
set_option maxHeartbeats 400000 in
theorem rfixed_neg (p : Nat) (v : Value) (all : List UInt8) (a : Nat) (n : Int) (w : World) (h : Rd w p v all a 0) (hn : n < 0) :
    Calls Try.prog 25 #[.pointer (some ⟨p, 0, none⟩), .int .i64 n] w fun e w' => e = .returned (.slice none 0 0) ∧ Rd w' p v all a 4 ∧ Frm p w w' := by
  obtain ⟨_, _, h2, h3⟩ := h.cells
  have h3' := h3 2
  have HF : Hid (∀ q, Rd ((w.drewN q).setCell ⟨p, 2, none⟩ (.int .i64 4)) p v all a 4) := fun q => (h.below (bel_drewN (Below.refl _ _) q)).fault 4
  have HM : Hid (∀ q, Frm p w ((w.drewN q).setCell ⟨p, 2, none⟩ (.int .i64 4))) := fun q => (Frm.of_below (bel_drewN (Below.refl _ _) q)).trans (Frm.setCell _ _ _ _)
  clear h h3
  go_enter Try.func25, Try.ntmps25
  go_wp2
  refine wp_scope_jumps 0 (fun a' w' => (∃ q, w' = w.drewN q) ∧ ∃ (u6 u7 u8 u9 u10 u11 u12 u13 u14 u15 u16 : Value), a' = { tmps := #[.pointer (some ⟨p, 0, none⟩), .int .i64 n, undef, undef, .slice none 0 0, .int .i64 4, u6, u7, u8, u9, u10, u11, u12, u13, u14, u15, u16, undef, undef, undef, undef, undef, undef, undef, undef, undef, undef, undef, undef, undef, undef, undef, undef, undef, undef, undef, undef, undef, undef, undef, undef, undef, undef, undef, undef], defers := [] }) (fun _ _ => 0) rfl ?_ ?_
  · go_wp2
    go_step3
    exact ⟨rfl, ⟨0, rfl⟩, _, _, _, _, _, _, _, _, _, _, _, rfl⟩
  · rintro a' w' ⟨⟨q, rfl⟩, u6, u7, u8, u9, u10, u11, u12, u13, u14, u15, u16, rfl⟩
    go_wp2
    rw [jump_ret]
    go_ret
    exact ⟨rfl, HF.out q, HM.out q⟩

set_option maxRecDepth 100000 in
set_option maxHeartbeats 400000 in
theorem rfixed_short (p : Nat) (v : Value) (all : List UInt8) (a : Nat) (n : Int) (w : World) (h : Rd w p v all a 0) (hn : 0 ≤ n) (hs : (all.length : Int) - a < n) (hl : all.length ≤ 150000000000000) :
    Calls Try.prog 25 #[.pointer (some ⟨p, 0, none⟩), .int .i64 n] w fun e w' => e = .returned (.slice none 0 0) ∧ Rd w' p v all a 10 ∧ Frm p w w' := by
  obtain ⟨_, _, h2, h3⟩ := h.cells
  have h3' := h3 2
  have HR := hide h
  have HF : Hid (∀ q, Rd ((w.drewN q).setCell ⟨p, 2, none⟩ (.int .i64 10)) p v all a 10) := fun q => (h.below (bel_drewN (Below.refl _ _) q)).fault 10
  have HM : Hid (∀ q, Frm p w ((w.drewN q).setCell ⟨p, 2, none⟩ (.int .i64 10))) := fun q => (Frm.of_below (bel_drewN (Below.refl _ _) q)).trans (Frm.setCell _ _ _ _)
  clear h h3
  go_enter Try.func25, Try.ntmps25
  go_wp2
  refine wp_scope_jumps 0 (fun a' w' => (∃ q, w' = w.drewN q) ∧ ∃ (u6 u7 u8 u9 u10 u11 u12 u13 u14 u15 u16 : Value), a' = { tmps := #[.pointer (some ⟨p, 0, none⟩), .int .i64 n, undef, undef, .slice none 0 0, .int .i64 10, u6, u7, u8, u9, u10, u11, u12, u13, u14, u15, u16, undef, undef, undef, undef, undef, undef, undef, undef, undef, undef, undef, undef, undef, undef, undef, undef, undef, undef, undef, undef, undef, undef, undef, undef, undef, undef, undef, undef], defers := [] }) (fun _ _ => 0) rfl ?_ ?_
  · go_wp2_with fail
    refine (left_any p v all a 0 _ HR.out hl).mono ?_
    rintro e w1 ⟨rfl, q, rfl⟩
    go_wp2
    go_step3
    exact ⟨rfl, ⟨q, rfl⟩, _, _, _, _, _, _, _, _, _, _, _, rfl⟩
  · rintro a' w' ⟨⟨q, rfl⟩, u6, u7, u8, u9, u10, u11, u12, u13, u14, u15, u16, rfl⟩
    go_wp2
    rw [jump_ret]
    go_ret
    exact ⟨rfl, HF.out q, HM.out q⟩

set_option maxRecDepth 100000 in
set_option maxHeartbeats 1000000 in
theorem rfixed_ok (p : Nat) (v : Value) (all : List UInt8) (a n : Nat) (w : World) (h : Rd w p v all a 0) (hs : a + n ≤ all.length) (hl : all.length ≤ 150000000000000) :
    Calls Try.prog 25 #[.pointer (some ⟨p, 0, none⟩), .int .i64 (n : Int)] w fun e w' => ∃ ao cap, e = .returned (.slice ao ((all.drop a).take n).length cap) ∧ Own w' w.heap.size (.slice ao ((all.drop a).take n).length cap) ((all.drop a).take n) ∧ Rd w' p v all (a + n) 0 ∧ Frm p w w' := by
  obtain ⟨h0, h1, h2, h3⟩ := h.cells
  have h3' := h3 1
  have HR := hide h
  have hs' : (n : Int) ≤ (all.length : Int) - a := by omega
  have hcut := h.2.1.cutLH a (a + n) (by omega) hs
  obtain ⟨ao, cp, hcs⟩ := cut_shape h.2.1 a (a + n)
  rw [hcs] at hcut
  rw [Nat.add_sub_cancel_left] at hcut hcs
  obtain ⟨ts, ht⟩ : ∃ ts, (all.drop a).take n = ts := ⟨_, rfl⟩
  have htl : ts.length = n := by rw [← ht]; simp; omega
  have HC : Hid (∀ W, Has W v all → Has W (.slice ao n cp) ts) := fun W hW => by
    have := hW.cut a (a + n) (by omega) hs
    rw [hcs, Nat.add_sub_cancel_left, ht] at this
    exact this
  simp only [Int.natCast_add] at hcut
  have HM : Hid (∀ q, Rd ((w.drewN q).setCell ⟨p, 1, none⟩ (.int .i64 ((a : Int) + n))) p v all (a + n) 0) := fun q => by
    have := (h.below (bel_drewN (Below.refl _ _) q)).move (a + n) hs
    simpa using this
  have HF : Hid (∀ q, Frm p w ((w.drewN q).setCell ⟨p, 1, none⟩ (.int .i64 ((a : Int) + n)))) := fun q => (Frm.of_below (bel_drewN (Below.refl _ _) q)).trans (Frm.setCell _ _ _ _)
  rw [ht]
  clear h h3 hcs ht
  go_enter Try.func25, Try.ntmps25
  go_wp2
  go_step3
  go_wp2_with fail
  refine (left_any p v all a 0 _ HR.out hl).mono ?_
  rintro e w1 ⟨rfl, q, rfl⟩
  go_wp2_with fail
  have hrd := HM.out q
  have HFq := hide (HF.out q)
  have HSZ := hide (HF.out q).size
  generalize (w.drewN q).setCell ⟨p, 1, none⟩ (.int .i64 ((a : Int) + n)) = W at *
  obtain ⟨g0, g1, _, _⟩ := hrd.cells
  simp only [Int.natCast_add] at g1
  have HRD := hide hrd
  have hcut2 : ∀ W, (Instr.slice 22 v (some (.int .i64 (IntKind.i64.wrap (a : Int)))) (some (.int .i64 ((a : Int) + n))) none).run Try.prog W = .ok (.slice ao n cp) W := by
    rw [show IntKind.i64.wrap (a : Int) = (a : Int) by rw [IntKind.wrap_i64]; omega]
    exact hcut
  clear hrd HM HF h0 h1 h2 h3' HR
  have HTL := hide htl
  clear htl
  go_region_held3 (fun w' => w'.cell? ⟨p, 0, none⟩ = some v ∧ w'.cell? ⟨p, 1, none⟩ = some (.int .i64 ((a : Int) + n))) (first | go_keep | exact ⟨at_below hb2 g0, at_below hb2 g1⟩) ((go_at_call 43; refine (clone_any _ ts _ ?_ ?_).mono ?_; exact HC.out _ (Lik.has ⟨rfl, rfl, rfl, rfl⟩ HRD.out.2.1); (have := HTL.out; omega); rintro e w2 ⟨bo, bc, rfl, ho2, hb2'⟩; have hb2 : Below W.heap.size W w2 := ((Below.refl W.heap.size W).drew).trans hb2'))
  have HO := hide (ho2.weaken HSZ.out)
  have HR2 := hide (HRD.out.below hb2)
  have HF2 := hide (HFq.out.trans (Frm.of_below hb2))
  clear ho2 hb2' hb2 g0 g1 HRD HFq HSZ hcut hcut2 HC
  go_wp2
  rw [Exit.noGoto_ret]
  go_ret
  exact ⟨bo, bc, rfl, HO.out, HR2.out, HF2.out⟩

/-- What Fixed(n) reads: the bytes, where the reader stands then, the fault. -/
def rfix (all : List UInt8) (a : Nat) (f n : Int) : List UInt8 × Nat × Int :=
  if f ≠ 0 then ([], a, f) else if n < 0 then ([], a, 4) else if (all.length : Int) - a < n then ([], a, 10) else ((all.drop a).take n.toNat, a + n.toNat, 0)

theorem rfixed_any (p : Nat) (v : Value) (all : List UInt8) (a : Nat) (f n : Int) (w : World) (h : Rd w p v all a f) (hl : all.length ≤ 150000000000000) :
    Calls Try.prog 25 #[.pointer (some ⟨p, 0, none⟩), .int .i64 n] w fun e w' => ∃ ao cap, e = .returned (.slice ao (rfix all a f n).1.length cap) ∧ Own w' w.heap.size (.slice ao (rfix all a f n).1.length cap) (rfix all a f n).1 ∧ Rd w' p v all (rfix all a f n).2.1 (rfix all a f n).2.2 ∧ Frm p w w' := by
  unfold rfix
  by_cases hf : f = 0
  · subst hf
    rw [if_neg (by simp)]
    by_cases hn : n < 0
    · rw [if_pos hn]
      exact (rfixed_neg p v all a n w h hn).mono fun e w' ⟨h1, h2, h3⟩ => ⟨none, 0, h1, Own.nil _ _, h2, h3⟩
    · rw [if_neg hn]
      by_cases hs : (all.length : Int) - a < n
      · rw [if_pos hs]
        exact (rfixed_short p v all a n w h (by omega) hs hl).mono fun e w' ⟨h1, h2, h3⟩ => ⟨none, 0, h1, Own.nil _ _, h2, h3⟩
      · rw [if_neg hs]
        obtain ⟨m, rfl⟩ := Int.eq_ofNat_of_zero_le (show 0 ≤ n by omega)
        have hle := h.2.2
        exact rfixed_ok p v all a m w h (by omega) hl
  · rw [if_pos hf]
    exact (rfixed_fault p v all a f n w h (beq_eq_false_iff_ne.2 hf)).mono fun e w' ⟨h1, h2⟩ => ⟨none, 0, h1, Own.nil _ _, by subst h2; exact h, by subst h2; exact Frm.refl _ _⟩

/-- The number that bytes are, the highest first. -/
def beval (bs : List UInt8) : Nat := bs.foldl (fun n b => n * 256 + b.toNat) 0

theorem beval_snoc (bs : List UInt8) (b : UInt8) : beval (bs ++ [b]) = beval bs * 256 + b.toNat := by simp [beval]

theorem beval_lt : ∀ (n : Nat) (bs : List UInt8), bs.length = n → beval bs < 256 ^ n
  | 0, bs, h => by obtain rfl := List.eq_nil_of_length_eq_zero h; simp [beval]
  | n + 1, bs, h => by
    rcases List.eq_nil_or_concat bs with rfl | ⟨r, b, rfl⟩
    · simp at h
    · rw [List.concat_eq_append, beval_snoc]
      have ih := beval_lt n r (by simpa using h)
      have hb := b.toNat_lt
      rw [Nat.pow_succ]
      omega

theorem or_u32 (n : Nat) (b : UInt8) (h : n < 16777216) : bits .or .u32 ((n : Int) * 256) (b.toNat : Int) = ((n * 256 + b.toNat : Nat) : Int) := by
  have hb := b.toNat_lt
  rw [bits_join .u32 32 (by decide) (fun m a b => by rw [IntKind.wrap_u32]; omega) 8 _ _ (by omega) (by omega) (by omega) (by omega) (by omega) (by omega)]
  omega

set_option maxRecDepth 100000 in
set_option maxHeartbeats 400000 in
theorem number_some (ad : Addr) (cap : Nat) (bs : List UInt8) (w : World) (hl : bs.length ≤ 4) (hc : ∀ i u, bs[i]? = some u → w.cell? (ad.add i) = some (byt u)) :
    Calls Try.prog 44 #[.slice (some ad) bs.length cap] w fun e w' => e = .returned (.int .u32 (beval bs : Int)) ∧ w = w' := by
  go_enter Try.func44, Try.ntmps44
  go_wp2
  go_loop [3, 8] (fun t i => ∃ k : Nat, k ≤ bs.length ∧ i = .int .i64 k ∧ t = .int .u32 (beval (bs.take k) : Int)) (fun _ i => bs.length - (intOf i).toNat)
  case atStart => exact ⟨0, Nat.zero_le _, rfl, rfl⟩
  case round =>
    obtain ⟨k, hk, rfl, rfl⟩ := hrel
    by_cases hlt : k < bs.length
    · have hcell := hc k bs[k] (List.getElem?_eq_getElem hlt)
      unfold byt at hcell
      have hE : Hid (beval (bs.take (k + 1)) = beval (bs.take k) * 256 + bs[k].toNat) := by
        rw [List.take_succ_eq_append_getElem hlt, beval_snoc]; rfl
      have hB : beval (bs.take k) < 16777216 := by
        have h1 := beval_lt k (bs.take k) (by simp; omega)
        have : 256 ^ k ≤ 256 ^ 3 := Nat.pow_le_pow_right (by decide) (by omega)
        omega
      have hbk := bs[k].toNat_lt
      have hor := or_u32 (beval (bs.take k)) bs[k] hB
      clear hc
      generalize beval (bs.take k) = m at *
      generalize bs[k] = c at *
      go_wp2
      go_round
      case rel => exact ⟨k + 1, by omega, by go_num, by rw [hE.out]; go_num⟩
      case measure => simp [intOf]; omega
    · go_wp2
      go_ret
      rw [List.take_of_length_le (by omega)]
      exact ⟨rfl, rfl⟩

set_option maxHeartbeats 400000 in
theorem number_nil (w : World) : Calls Try.prog 44 #[.slice none 0 0] w fun e w' => e = .returned (.int .u32 0) ∧ w = w' := by
  go_enter Try.func44, Try.ntmps44
  go_wp2
  refine wp_loop_rounds 1 ?_
  rw [rounds_succ]
  go_wp2
  go_ret
  exact ⟨rfl, rfl⟩

theorem number_any (v : Value) (bs : List UInt8) (w : World) (h : Has w v bs) (hl : bs.length ≤ 4) :
    Calls Try.prog 44 #[v] w fun e w' => e = .returned (.int .u32 (beval bs : Int)) ∧ w = w' := by
  rcases h with ⟨rfl, rfl⟩ | ⟨ad, cap, rfl, _, h3⟩
  · exact number_nil w
  · exact number_some ad cap bs w hl h3

set_option maxRecDepth 100000 in
set_option maxHeartbeats 400000 in
theorem rrun_fault (p : Nat) (v : Value) (all : List UInt8) (a : Nat) (f n : Int) (w : World) (h : Rd w p v all a f) (hf : (f == 0) = false) :
    Calls Try.prog 26 #[.pointer (some ⟨p, 0, none⟩), .int .i64 n] w fun e w' => e = .returned (.slice none 0 0) ∧ w = w' := by
  obtain ⟨_, _, h2, _⟩ := h.cells
  clear h
  go_enter Try.func26, Try.ntmps26
  go_wp2
  go_step3
  go_wp2
  rw [Exit.noGoto_ret]
  go_ret
  exact ⟨rfl, rfl⟩

theorem Lik.frozen {w w' : World} (h : Lik w w') (x : Addr) : w'.frozen? x = w.frozen? x := by unfold World.frozen?; rw [h.heap]

set_option maxRecDepth 100000 in
set_option maxHeartbeats 1000000 in
theorem rrun_none (p : Nat) (v : Value) (all : List UInt8) (a : Nat) (most : Int) (w : World) (h : Rd w p v all a 0) (hs : (all.length : Int) - a < 2) (hl : all.length ≤ 150000000000000) :
    Calls Try.prog 26 #[.pointer (some ⟨p, 0, none⟩), .int .i64 most] w fun e w' => e = .returned (.slice none 0 0) ∧ Rd w' p v all a 10 ∧ Frm p w w' := by
  obtain ⟨h0, h1, h2, h3⟩ := h.cells
  have h3' := h3 2
  have HR := hide h
  have HF : Hid (∀ W, Lik w W → Rd (W.setCell ⟨p, 2, none⟩ (.int .i64 10)) p v all a 10) := fun W hW => (h.below (hW.below _)).fault 10
  have HM : Hid (∀ W, Lik w W → Frm p w (W.setCell ⟨p, 2, none⟩ (.int .i64 10))) := fun W hW => (Frm.of_below (hW.below _)).trans (Frm.setCell _ _ _ _)
  clear h h3
  go_enter Try.func26, Try.ntmps26
  go_wp2
  refine wp_scope_jumps 0 (fun a' w' => Lik w w' ∧ ∃ (u6 u7 u8 u9 u10 u11 u12 u13 u14 u15 u16 u17 u18 u19 u20 u21 u22 u23 u24 u25 u26 u27 u28 u29 u30 u31 u32 u33 u34 u35 u36 u37 u38 : Value), a' = { tmps := #[.pointer (some ⟨p, 0, none⟩), .int .i64 most, undef, undef, .slice none 0 0, .int .i64 10, u6, u7, u8, u9, u10, u11, u12, u13, u14, u15, u16, u17, u18, u19, u20, u21, u22, u23, u24, u25, u26, u27, u28, u29, u30, u31, u32, u33, u34, u35, u36, u37, u38, undef, undef, undef, undef, undef, undef, undef, undef, undef, undef, undef, undef, undef, undef, undef, undef, undef, undef, undef, undef, undef, undef, undef, undef, undef, undef, undef, undef, undef], defers := [] }) (fun _ _ => 0) rfl ?_ ?_
  · go_wp2_with fail
    refine (left_any p v all a 0 _ HR.out hl).mono ?_
    rintro e w1 ⟨rfl, q, rfl⟩
    go_wp2
    go_step3
    exact ⟨rfl, ⟨rfl, rfl, rfl, rfl⟩, _, _, _, _, _, _, _, _, _, _, _, _, _, _, _, _, _, _, _, _, _, _, _, _, _, _, _, _, _, _, _, _, _, rfl⟩
  · rintro a' w' ⟨hlik, u6, u7, u8, u9, u10, u11, u12, u13, u14, u15, u16, u17, u18, u19, u20, u21, u22, u23, u24, u25, u26, u27, u28, u29, u30, u31, u32, u33, u34, u35, u36, u37, u38, rfl⟩
    have HL := hide hlik
    have k2 : w'.cell? ⟨p, 2, none⟩ = some (.int .i64 0) := by rw [hlik.cell]; exact h2
    have k3 : w'.frozen? ⟨p, 2, none⟩ = false := by rw [hlik.frozen]; exact h3'
    clear h0 h1 h2 h3' hlik
    go_wp2
    rw [jump_ret]
    go_ret
    exact ⟨rfl, HF.out w' HL.out, HM.out w' HL.out⟩

set_option maxRecDepth 100000 in
set_option maxHeartbeats 1000000 in
theorem rrun_big (p : Nat) (v : Value) (all : List UInt8) (a : Nat) (most : Int) (w : World) (h : Rd w p v all a 0) (hs : a + 2 ≤ all.length) (hb : most < (beval ((all.drop a).take 2) : Int)) (hl : all.length ≤ 150000000000000) :
    Calls Try.prog 26 #[.pointer (some ⟨p, 0, none⟩), .int .i64 most] w fun e w' => e = .returned (.slice none 0 0) ∧ Rd w' p v all a 12 ∧ Frm p w w' := by
  obtain ⟨h0, h1, h2, h3⟩ := h.cells
  have h3' := h3 2
  have HR := hide h
  have HF : Hid (∀ W, Lik w W → Rd (W.setCell ⟨p, 2, none⟩ (.int .i64 12)) p v all a 12) := fun W hW => (h.below (hW.below _)).fault 12
  have HM : Hid (∀ W, Lik w W → Frm p w (W.setCell ⟨p, 2, none⟩ (.int .i64 12))) := fun W hW => (Frm.of_below (hW.below _)).trans (Frm.setCell _ _ _ _)
  have hcut := h.2.1.cutLH a (a + 2) (by omega) (by omega)
  obtain ⟨ao, cp, hcs⟩ := cut_shape h.2.1 a (a + 2)
  rw [hcs] at hcut
  rw [Nat.add_sub_cancel_left] at hcut hcs
  have HC : Hid (∀ W, Has W v all → Has W (.slice ao 2 cp) ((all.drop a).take 2)) := fun W hW => by
    have := hW.cut a (a + 2) (by omega) (by omega)
    rw [hcs, Nat.add_sub_cancel_left] at this
    exact this
  simp only [Int.natCast_add] at hcut
  have hcut' : ∀ W, (Instr.slice 22 v (some (.int .i64 (a : Int))) (some (.int .i64 ((a : Int) + 2))) none).run Try.prog W = .ok (.slice ao 2 cp) W := hcut
  have hs0 : (2 : Int) ≤ (all.length : Int) - a := by omega
  obtain ⟨m, hm⟩ : ∃ m, beval ((all.drop a).take 2) = m := ⟨_, rfl⟩
  have hm2 : m < 65536 := by rw [← hm]; exact beval_lt 2 _ (by simp; omega)
  have HM2 := hide hm
  have hmm : (m : Int) ≤ 70000 := by omega
  have HMM := hide hmm
  clear hm2 hmm
  rw [hm] at hb
  clear hm hcs hcut
  clear h h3
  go_enter Try.func26, Try.ntmps26
  go_wp2
  refine wp_scope_jumps 0 (fun a' w' => Lik w w' ∧ ∃ (u6 u7 u8 u9 u10 u11 u12 u13 u14 u15 u16 u17 u18 u19 u20 u21 u22 u23 u24 u25 u26 u27 u28 u29 u30 u31 u32 u33 u34 u35 u36 u37 u38 : Value), a' = { tmps := #[.pointer (some ⟨p, 0, none⟩), .int .i64 most, undef, undef, .slice none 0 0, .int .i64 12, u6, u7, u8, u9, u10, u11, u12, u13, u14, u15, u16, u17, u18, u19, u20, u21, u22, u23, u24, u25, u26, u27, u28, u29, u30, u31, u32, u33, u34, u35, u36, u37, u38, undef, undef, undef, undef, undef, undef, undef, undef, undef, undef, undef, undef, undef, undef, undef, undef, undef, undef, undef, undef, undef, undef, undef, undef, undef, undef, undef, undef, undef], defers := [] }) (fun _ _ => 0) rfl ?_ ?_
  · go_wp2_with fail
    refine (left_any p v all a 0 _ HR.out hl).mono ?_
    rintro e w1 ⟨rfl, q, rfl⟩
    go_wp2_with fail
    have hmm := HMM.out
    have hcut2 : ∀ W, (Instr.slice 22 v (some (.int .i64 (a : Int))) (some (.int .i64 (IntKind.i64.wrap ((a : Int) + 2)))) none).run Try.prog W = .ok (.slice ao 2 cp) W := by
      rw [show IntKind.i64.wrap ((a : Int) + 2) = (a : Int) + 2 by rw [IntKind.wrap_i64]; omega]
      exact hcut'
    go_region_held3 (fun w' => w'.cell? ⟨p, 0, none⟩ = some v ∧ w'.cell? ⟨p, 1, none⟩ = some (.int .i64 (a : Int))) (first | go_keep | (simp; exact ⟨h0, h1⟩)) ((go_at_call 44; refine (number_any _ ((all.drop a).take 2) _ ?_ ?_).mono ?_; exact HC.out _ (Lik.has ⟨rfl, rfl, rfl, rfl⟩ HR.out.2.1); (simp; omega); (rw [HM2.out]); rintro e w2 ⟨rfl, rfl⟩))
    go_wp2
    go_step3
    exact ⟨rfl, ⟨rfl, rfl, rfl, rfl⟩, _, _, _, _, _, _, _, _, _, _, _, _, _, _, _, _, _, _, _, _, _, _, _, _, _, _, _, _, _, _, _, _, _, rfl⟩
  · rintro a' w' ⟨hlik, u6, u7, u8, u9, u10, u11, u12, u13, u14, u15, u16, u17, u18, u19, u20, u21, u22, u23, u24, u25, u26, u27, u28, u29, u30, u31, u32, u33, u34, u35, u36, u37, u38, rfl⟩
    have HL := hide hlik
    have k2 : w'.cell? ⟨p, 2, none⟩ = some (.int .i64 0) := by rw [hlik.cell]; exact h2
    have k3 : w'.frozen? ⟨p, 2, none⟩ = false := by rw [hlik.frozen]; exact h3'
    clear h0 h1 h2 h3' hlik
    go_wp2
    rw [jump_ret]
    go_ret
    exact ⟨rfl, HF.out w' HL.out, HM.out w' HL.out⟩

set_option maxRecDepth 100000 in
set_option maxHeartbeats 1000000 in
theorem rrun_short (p : Nat) (v : Value) (all : List UInt8) (a : Nat) (most : Int) (w : World) (h : Rd w p v all a 0) (hs : a + 2 ≤ all.length) (hb : (beval ((all.drop a).take 2) : Int) ≤ most) (hb2 : (all.length : Int) - a - 2 < beval ((all.drop a).take 2)) (hl : all.length ≤ 150000000000000) :
    Calls Try.prog 26 #[.pointer (some ⟨p, 0, none⟩), .int .i64 most] w fun e w' => e = .returned (.slice none 0 0) ∧ Rd w' p v all a 10 ∧ Frm p w w' := by
  obtain ⟨h0, h1, h2, h3⟩ := h.cells
  have h3' := h3 2
  have HR := hide h
  have HF : Hid (∀ W, Lik w W → Rd (W.setCell ⟨p, 2, none⟩ (.int .i64 10)) p v all a 10) := fun W hW => (h.below (hW.below _)).fault 10
  have HM : Hid (∀ W, Lik w W → Frm p w (W.setCell ⟨p, 2, none⟩ (.int .i64 10))) := fun W hW => (Frm.of_below (hW.below _)).trans (Frm.setCell _ _ _ _)
  have hcut := h.2.1.cutLH a (a + 2) (by omega) (by omega)
  obtain ⟨ao, cp, hcs⟩ := cut_shape h.2.1 a (a + 2)
  rw [hcs] at hcut
  rw [Nat.add_sub_cancel_left] at hcut hcs
  have HC : Hid (∀ W, Has W v all → Has W (.slice ao 2 cp) ((all.drop a).take 2)) := fun W hW => by
    have := hW.cut a (a + 2) (by omega) (by omega)
    rw [hcs, Nat.add_sub_cancel_left] at this
    exact this
  simp only [Int.natCast_add] at hcut
  have hcut' : ∀ W, (Instr.slice 22 v (some (.int .i64 (a : Int))) (some (.int .i64 ((a : Int) + 2))) none).run Try.prog W = .ok (.slice ao 2 cp) W := hcut
  have hs0 : (2 : Int) ≤ (all.length : Int) - a := by omega
  obtain ⟨m, hm⟩ : ∃ m, beval ((all.drop a).take 2) = m := ⟨_, rfl⟩
  have hm2 : m < 65536 := by rw [← hm]; exact beval_lt 2 _ (by simp; omega)
  have HM2 := hide hm
  have hmm : (m : Int) ≤ 70000 := by omega
  have HMM := hide hmm
  clear hm2 hmm
  rw [hm] at hb hb2
  clear hm hcs hcut
  clear h h3
  go_enter Try.func26, Try.ntmps26
  go_wp2
  refine wp_scope_jumps 0 (fun a' w' => Lik w w' ∧ ∃ (u6 u7 u8 u9 u10 u11 u12 u13 u14 u15 u16 u17 u18 u19 u20 u21 u22 u23 u24 u25 u26 u27 u28 u29 u30 u31 u32 u33 u34 u35 u36 u37 u38 : Value), a' = { tmps := #[.pointer (some ⟨p, 0, none⟩), .int .i64 most, undef, undef, .slice none 0 0, .int .i64 10, u6, u7, u8, u9, u10, u11, u12, u13, u14, u15, u16, u17, u18, u19, u20, u21, u22, u23, u24, u25, u26, u27, u28, u29, u30, u31, u32, u33, u34, u35, u36, u37, u38, undef, undef, undef, undef, undef, undef, undef, undef, undef, undef, undef, undef, undef, undef, undef, undef, undef, undef, undef, undef, undef, undef, undef, undef, undef, undef, undef, undef, undef], defers := [] }) (fun _ _ => 0) rfl ?_ ?_
  · go_wp2_with fail
    refine (left_any p v all a 0 _ HR.out hl).mono ?_
    rintro e w1 ⟨rfl, q, rfl⟩
    go_wp2_with fail
    have hmm := HMM.out
    have hcut2 : ∀ W, (Instr.slice 22 v (some (.int .i64 (a : Int))) (some (.int .i64 (IntKind.i64.wrap ((a : Int) + 2)))) none).run Try.prog W = .ok (.slice ao 2 cp) W := by
      rw [show IntKind.i64.wrap ((a : Int) + 2) = (a : Int) + 2 by rw [IntKind.wrap_i64]; omega]
      exact hcut'
    go_region_held3 (fun w' => w'.cell? ⟨p, 0, none⟩ = some v ∧ w'.cell? ⟨p, 1, none⟩ = some (.int .i64 (a : Int))) (first | go_keep | (simp; exact ⟨h0, h1⟩)) ((go_at_call 44; refine (number_any _ ((all.drop a).take 2) _ ?_ ?_).mono ?_; exact HC.out _ (Lik.has ⟨rfl, rfl, rfl, rfl⟩ HR.out.2.1); (simp; omega); (rw [HM2.out]); rintro e w2 ⟨rfl, rfl⟩))
    go_wp2_with fail
    refine (left_any p v all a 0 _ (by exact HR.out.below (bel_drewN (Below.refl _ _) _)) hl).mono ?_
    rintro e w3 ⟨rfl, q3, rfl⟩
    go_wp2
    go_step3
    exact ⟨rfl, ⟨rfl, rfl, rfl, rfl⟩, _, _, _, _, _, _, _, _, _, _, _, _, _, _, _, _, _, _, _, _, _, _, _, _, _, _, _, _, _, _, _, _, _, rfl⟩
  · rintro a' w' ⟨hlik, u6, u7, u8, u9, u10, u11, u12, u13, u14, u15, u16, u17, u18, u19, u20, u21, u22, u23, u24, u25, u26, u27, u28, u29, u30, u31, u32, u33, u34, u35, u36, u37, u38, rfl⟩
    have HL := hide hlik
    have k2 : w'.cell? ⟨p, 2, none⟩ = some (.int .i64 0) := by rw [hlik.cell]; exact h2
    have k3 : w'.frozen? ⟨p, 2, none⟩ = false := by rw [hlik.frozen]; exact h3'
    clear h0 h1 h2 h3' hlik
    go_wp2
    rw [jump_ret]
    go_ret
    exact ⟨rfl, HF.out w' HL.out, HM.out w' HL.out⟩

end Go.Proofs.Ytgfgabgnejnipaa
