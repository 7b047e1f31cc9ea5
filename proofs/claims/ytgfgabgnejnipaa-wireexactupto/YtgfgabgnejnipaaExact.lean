import Derived.Test.YtgfgabgnejnipaaPlays
namespace Go.Proofs.Ytgfgabgnejnipaa
open Go.RowKit

/-- One call of a script. -/
structure Opd where
  K : Int
  which : Int
  N : Int
  B : Value
  C : Value
  S : ByteArray
  bB : List UInt8
  bC : List UInt8

def Opd.ok (w : World) (o : Opd) : Prop := Has w o.B o.bB ∧ Has w o.C o.bC ∧ o.bB.length ≤ 1048576 ∧ o.bC.length ≤ 1048576 ∧ o.S.size ≤ 1048576

theorem Tab.at9 {w w' : World} {T : Nat} {X X' : Nat → Thing} {n : Nat} {fw fr : Nat → Prop} (h : Tab w T X n fw fr) (f : Fam w' X') (o : ∀ j, j ≠ 9 → j ≠ 10 → X' j = X j) : Tab w' T X' n fw fr := by
  obtain ⟨cs, L, V, ls, vs, a, b, c, d⟩ := h.bk
  refine ⟨f, ⟨cs, L, V, ls, vs, (o 8 (by decide) (by decide)).trans a, b, fun k hk hf => ?_, fun k hk hf => ?_⟩, fun i hi => (o i (by omega) (by omega)).trans (h.tmp i hi)⟩
  · obtain ⟨p, v, q, u, m, bs, f, a1, a2, a3, a4, a5⟩ := c k hk hf
    exact ⟨p, v, q, u, m, bs, f, a1, a2, (o _ (by omega) (by omega)).trans a3, (o _ (by omega) (by omega)).trans a4, a5⟩
  · obtain ⟨p, v, q, u, m, bs, f, a1, a2, a3, a4, a5⟩ := d k hk hf
    exact ⟨p, v, q, u, m, bs, f, a1, a2, (o _ (by omega) (by omega)).trans a3, (o _ (by omega) (by omega)).trans a4, a5⟩

/-- The new table. -/
theorem tab_new (w : World) (z : Array Value) (hz : z = #[.pointer none, .pointer none, .pointer none, .pointer none, .pointer none, .pointer none, .pointer none, .pointer none, .slice none 0 0, .slice none 0 0]) :
    ∃ X, Tab (w.alloc (.cells z 70)) w.heap.size X 0 (fun j => j < 0) (fun j => j < 0) ∧ X 9 = nilT ∧ X 10 = inT w := by
  have f0 : Fam w (fun i => if i = 10 then inT w else nilT) := by
    refine ⟨fun i => ?_, fun i j hij k => ?_⟩
    · by_cases h : i = 10
      · simp only [h, if_true]; exact Below.refl _ _
      · simp only [h, if_false]; trivial
    · by_cases h : i = 10
      · have h2 : ¬ j = 10 := fun e => hij (h.trans e.symm)
        simp only [h, h2, if_true, if_false]; exact fun _ h => h
      · simp only [h, if_false]; exact fun h => h.elim
  obtain ⟨X, f, e, o⟩ := f0.new 8 (bookT w.heap.size z (.slice none 0 0) (.slice none 0 0) [] []) (below_new w (.cells z 70)) (by
    refine ⟨⟨at_new w _ _ ⟨rfl, rfl, rfl, rfl⟩, by rw [hz]; rfl, by rw [hz]; rfl, by rw [hz]; rfl, OwnL.nil _, OwnL.nil _, fun k hk => by cases hk⟩, rfl, fun i l v h _ => by simp at h⟩) (fun k hk => by
    rcases hk with rfl | hk | hk | ⟨u, hu, _⟩
    · exact Nat.le_refl _
    · cases hk
    · cases hk
    · simp at hu)
  refine ⟨X, ⟨f, ⟨z, _, _, [], [], e, by simp, fun k _ hf => absurd hf (by omega), fun k _ hf => absurd hf (by omega)⟩, fun i hi => ?_⟩, ?_, ?_⟩
  · rw [o i (by omega)]; simp [show i ≠ 10 by omega]
  · rw [o 9 (by decide)]; rfl
  · rw [o 10 (by decide)]; rfl

theorem and_small (k : Nat) (hk : k < 2) : bits .and .i64 (k : Int) 1 = (k : Int) := by
  rw [mask1]; omega

theorem own123 (w : World) : Own (w.alloc (.cells #[.int .u8 1, .int .u8 2, .int .u8 3] 5)) w.heap.size (.slice (some ⟨w.heap.size, 0, none⟩) 3 3) [1, 2, 3] := by
  refine ⟨rfl, .inr ⟨w.heap.size, 3, _, rfl, Nat.le_refl _, at_new w _ _ ⟨rfl, rfl, rfl, rfl⟩, by decide, by decide, rfl, rfl⟩⟩

/-- A call lies in six cells. -/
def OpAt (w : World) (ad : Addr) (o : Opd) : Prop := w.cell? ad = some (.int .i64 o.K) ∧ w.cell? ⟨ad.block, ad.off + 1, none⟩ = some (.int .i64 o.which) ∧ w.cell? ⟨ad.block, ad.off + 2, none⟩ = some (.int .i64 o.N) ∧ w.cell? ⟨ad.block, ad.off + 3, none⟩ = some o.B ∧ w.cell? ⟨ad.block, ad.off + 4, none⟩ = some o.C ∧ w.cell? ⟨ad.block, ad.off + 5, none⟩ = some (.string o.S)

theorem OpAt.below {w w' : World} {ad : Addr} {o : Opd} (h : OpAt w ad o) (hb : Below w.heap.size w w') : OpAt w' ad o :=
  ⟨at_below hb h.1, at_below hb h.2.1, at_below hb h.2.2.1, at_below hb h.2.2.2.1, at_below hb h.2.2.2.2.1, at_below hb h.2.2.2.2.2⟩

def Script (w : World) (sv : Value) (os : List Opd) : Prop := (∀ W ty, (Builtin.len_ #[58] ty #[sv]).run Try.prog W = .ok (.int .i64 os.length) W) ∧
  ∀ k (hk : k < os.length), ∃ ad : Addr, (∀ W, (Instr.indexAt 58 sv (.int .i64 (k : Int))).run Try.prog W = .ok (.pointer (some ad)) W) ∧ OpAt w ad os[k] ∧ os[k].ok w

theorem args_nil (A : Thing) : Args A (.slice none 0 0) (.slice none 0 0) [] [] := ⟨fun _ _ => ⟨Has.nil _, Has.nil _⟩, by simp, by simp⟩

theorem hex160 : (⟨(hexOf [160]).toArray⟩ : ByteArray) = ⟨#[97, 48]⟩ := by decide

set_option maxRecDepth 100000 in
set_option maxHeartbeats 4000000 in
theorem exact_any (sv : Value) (os : List Opd) (w : World) (hsc : Script w sv os) (_hol : os.length ≤ 1048576) :
    Calls Try.prog 7 #[sv] w fun e w' => e = .returned (.bool true) ∧ Below w.heap.size w w' := by
  obtain ⟨X0, h0, e9, e10⟩ := tab_new w _ rfl
  have H0 : Hid (∃ X, Tab (w.alloc (.cells #[.pointer none, .pointer none, .pointer none, .pointer none, .pointer none, .pointer none, .pointer none, .pointer none, .slice none 0 0, .slice none 0 0] 70)) w.heap.size X 0 (fun j => j < 0) (fun j => j < 0) ∧ X 9 = nilT ∧ X 10 = inT w) := ⟨X0, h0, e9, e10⟩
  clear h0 e9 e10
  have HSC := hide hsc
  have hlen := hsc.1
  clear hsc
  obtain ⟨T, hT⟩ : ∃ T, T = w.heap.size := ⟨_, rfl⟩
  go_enter Try.func7, Try.ntmps7
  go_wp2_with fail
  rw [← hT] at H0 ⊢
  have HT := hide hT
  clear hT
  go_loopw [4] (fun i wr => ∃ k : Nat, k ≤ 2 ∧ i = .int .i64 k ∧ Hid (∃ X, Tab wr T X 0 (fun j => j < k) (fun j => j < k) ∧ X 9 = nilT ∧ X 10 = inT w)) (fun i _ => 2 - (intOf i).toNat)
  case atStart => exact ⟨0, by omega, rfl, H0⟩
  case round =>
    obtain ⟨k, hk, rfl, hX⟩ := hrel
    clear H0
    by_cases hlt : k < 2
    · have hk2 : (k : Int) < 2 := by omega
      obtain ⟨X, h1, e9, e10⟩ := hX.out
      have H1 := hide h1
      have E9 := hide e9
      have E10 := hide e10
      clear h1 e9 e10 hX
      go_wp2_with fail
      refine (writes5_ok T 0 X (k : Int) k hlt (and_small k hlt) 40 _ _ _ [] [] _ _ _ H1.out (args_nil _) (by omega)).mono ?_
      rintro e w2 ⟨rfl, X2, h2, o2⟩
      obtain ⟨X3, f3, e3, o3⟩ := h2.fam.new 9 (rowT (.slice (some ⟨w2.heap.size, 0, none⟩) 3 3) [1, 2, 3]) (below_new w2 (.cells #[.int .u8 1, .int .u8 2, .int .u8 3] 5)) ((own123 w2).weaken (Nat.zero_le _)) (own123 w2).ownBlock
      have H3 := hide (h2.at9 f3 (fun j h _ => o3 j h))
      have HA3 : Hid (Args (X3 9) (.slice (some ⟨w2.heap.size, 0, none⟩) 3 3) (.slice none 0 0) [1, 2, 3] []) := by
        refine ⟨fun W hW => ?_, by simp, by simp⟩
        rw [e3] at hW
        exact ⟨Own.has hW, Has.nil _⟩
      have E3 : Hid (X3 10 = inT w) := ((o3 10 (by decide)).trans (o2 10 (by decide))).trans E10.out
      clear h2 o2 f3 o3 H1 E9 E10 e3
      go_wp2_with fail
      refine (reads12 T 0 X3 (k : Int) k hlt (and_small k hlt) 0 _ _ _ [1, 2, 3] [] _ _ _ H3.out HA3.out).mono ?_
      rintro e w4 ⟨rfl, X4, h4, o4⟩
      obtain ⟨X5, f5, e5, o5⟩ := h4.fam.drop 9
      have h5 := h4.at9 f5 (fun j h _ => o5 j h)
      have E5 : Hid (X5 10 = inT w) := ((o5 10 (by decide)).trans (o4 10 (by decide))).trans E3.out
      have E9 := hide e5
      obtain ⟨cs, L, V, ls, vs, b1, b2, b3, b4⟩ := h5.bk
      obtain ⟨p, v, q, u, m, bs, f, a1, _⟩ := b3 k hlt (.inr rfl)
      obtain ⟨p', v', q', u', m', bs', f', a1', _⟩ := b4 k hlt (.inr rfl)
      have hbk := (h5.fam.at b1).1.blk
      have i60 := idx60 T 0 k hlt
      have i63 := idx63 T 4 k hlt
      rw [Nat.zero_add] at i60
      obtain ⟨o4', ho4⟩ : ∃ o4', o4' = 4 + k := ⟨_, rfl⟩
      rw [← ho4] at i63 a1'
      have t0 : w4.cell? ⟨T, k, none⟩ = some (.pointer (some ⟨p, 0, none⟩)) := by simp [World.cell?, hbk, a1]
      have t4 : w4.cell? ⟨T, o4', none⟩ = some (.pointer (some ⟨p', 0, none⟩)) := by simp [World.cell?, hbk, a1']
      have H5 := hide h5
      clear h5 h4 o4 f5 o5 e5 H3 HA3 E3 b1 b2 b3 b4 a1 a1' hbk ho4
      go_wp2_with fail
      go_roundw
      case rel =>
        refine ⟨k + 1, by omega, by go_num, X5, H5.out.mono (Nat.le_refl _) (fun j _ hj => ?_) (fun j _ hj => ?_), E9.out, E5.out⟩
        · omega
        · omega
      case measure => simp [intOf]; omega
    · have hk2 : ¬ (k : Int) < 2 := by omega
      obtain ⟨X, h1, e9, e10⟩ := hX.out
      obtain ⟨X1, f1, g9, g10, o1⟩ := h1.fam.move 9 10 (by decide) (inT w) e10
      have H1 : Hid (∃ X, Tab wr T X (2 * 0) full full ∧ X 9 = inT w) := ⟨X1, (h1.at9 f1 (fun j h h' => o1 j h h')).mono (Nat.le_refl _) (fun j hj _ => by omega) (fun j hj _ => by omega), g9⟩
      clear h1 e9 e10 f1 g9 g10 o1 hX
      go_wp2_with fail
      go_loopw [6] (fun i wr => ∃ k : Nat, k ≤ os.length ∧ k ≤ 100 ∧ i = .int .i64 k ∧ Hid (∃ X, Tab wr T X (2 * k) full full ∧ X 9 = inT w)) (fun i _ => os.length - (intOf i).toNat)
      case atStart => exact ⟨0, Nat.zero_le _, Nat.zero_le _, rfl, H1⟩
      case round =>
        obtain ⟨j, hj, hj100, rfl, hX⟩ := hrel
        clear H1
        obtain ⟨X, h1, e9⟩ := hX.out
        have hbel : Below w.heap.size w wr := by have := h1.fam.P 9; rw [e9] at this; exact this
        by_cases hlt : j < os.length ∧ j < 100
        · obtain ⟨hl1, hl2⟩ := hlt
          have hl1' : (j : Int) < (os.length : Int) := by omega
          have hl2' : (j : Int) < 100 := by omega
          obtain ⟨ad, i1, hop, hok⟩ := HSC.out.2 j hl1
          obtain ⟨c0, c1, c2, c3, c4, c5⟩ := hop.below hbel
          generalize os[j] = o at *
          have HA : Hid (Args (X 9) o.B o.C o.bB o.bC) := by
            refine ⟨fun W hW => ?_, hok.2.2.1, hok.2.2.2.1⟩
            rw [e9] at hW
            exact ⟨hok.1.below hW, hok.2.1.below hW⟩
          have HSZ := hide hok.2.2.2.2
          have H1 := hide h1
          have E9 := hide e9
          clear h1 e9 hX hop hok hbel
          go_wp2_with fail
          refine (plays_any T (2 * j) X o.K o.which o.N o.B o.C o.S o.bB o.bC _ H1.out HA.out HSZ.out (by omega)).mono ?_
          rintro e w2 ⟨rfl, X2, h2, o2⟩
          have E2 : Hid (X2 9 = inT w) := (o2 9 (by decide)).trans E9.out
          have H2 := hide h2
          obtain ⟨cs, L, V, ls, vs, b1, b2, _⟩ := h2.bk
          have HBK := hide (h2.fam.at b1)
          clear h2 o2 H1 E9 HA HSZ c0 c1 c2 c3 c4 c5 i1 b1
          go_wp2_with fail
          refine (holds_any T cs L V ls vs _ HBK.out.1 HBK.out.2 (by omega)).mono ?_
          rintro e w3 ⟨rfl, q3, hq3⟩
          have H3 : Hid (∃ X, Tab w3 T X (2 * (j + 1)) full full ∧ X 9 = inT w) := ⟨X2, H2.out.below (by rw [hq3]; exact bel_drewN (Below.refl _ _) q3), E2.out⟩
          clear H2 E2 HBK hq3 b2
          go_wp2_with fail
          go_roundw
          case rel => exact ⟨j + 1, by omega, by omega, by go_num, H3⟩
          case measure => simp [intOf]; omega
        · have H1 := hide h1
          have E9 := hide e9
          have hn9 : 2 * j ≤ 900 := by omega
          clear h1 e9 hX hbel
          by_cases hl1 : j < os.length
          · have hl1' : (j : Int) < (os.length : Int) := by omega
            have hl2' : ¬ (j : Int) < 100 := by omega
            go_wp2_with fail
            refine (reads19 T (2 * j) X 0 0 _ _ _ _ _ _ H1.out (fun _ _ => trivial)).mono ?_
            rintro e w2 ⟨rfl, X2, h2, o2⟩
            have H2 := hide h2
            have E2 : Hid (X2 9 = inT w) := (o2 9 (by decide)).trans E9.out
            clear h2 o2 H1 E9
            go_wp2_with fail
            refine (reads19 T (2 * j) X2 1 0 _ _ _ _ _ _ H2.out (fun _ _ => trivial)).mono ?_
            rintro e w3 ⟨rfl, X3, h3, o3⟩
            have E3 : X3 9 = inT w := (o3 9 (by decide)).trans E2.out
            have hb3 : Below w.heap.size w w3 := by have := h3.fam.P 9; rw [E3] at this; exact this
            have HB3 := hide hb3
            clear h3 o3 E3 hb3 H2 E2
            go_wp2_with fail
            refine (hex_any _ [160] _ (has_new1 w3 160) (by simp)).mono ?_
            rw [hex160]
            rintro e w4 ⟨rfl, hb4⟩
            have HB4 := hide (bel_chain (bel_chain HB3.out (below_new w3 (.cells #[byt 160] 5))) hb4)
            clear hb4 HB3
            go_wp2_with fail
            go_ret
            exact ⟨rfl, HB4.out⟩
          · have hl1' : ¬ (j : Int) < (os.length : Int) := by omega
            go_wp2_with fail
            refine (reads19 T (2 * j) X 0 0 _ _ _ _ _ _ H1.out (fun _ _ => trivial)).mono ?_
            rintro e w2 ⟨rfl, X2, h2, o2⟩
            have H2 := hide h2
            have E2 : Hid (X2 9 = inT w) := (o2 9 (by decide)).trans E9.out
            clear h2 o2 H1 E9
            go_wp2_with fail
            refine (reads19 T (2 * j) X2 1 0 _ _ _ _ _ _ H2.out (fun _ _ => trivial)).mono ?_
            rintro e w3 ⟨rfl, X3, h3, o3⟩
            have E3 : X3 9 = inT w := (o3 9 (by decide)).trans E2.out
            have hb3 : Below w.heap.size w w3 := by have := h3.fam.P 9; rw [E3] at this; exact this
            have HB3 := hide hb3
            clear h3 o3 E3 hb3 H2 E2
            go_wp2_with fail
            refine (hex_any _ [160] _ (has_new1 w3 160) (by simp)).mono ?_
            rw [hex160]
            rintro e w4 ⟨rfl, hb4⟩
            have HB4 := hide (bel_chain (bel_chain HB3.out (below_new w3 (.cells #[byt 160] 5))) hb4)
            clear hb4 HB3
            go_wp2_with fail
            go_ret
            exact ⟨rfl, HB4.out⟩

end Go.Proofs.Ytgfgabgnejnipaa
