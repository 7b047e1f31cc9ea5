import Derived.Test.YtiefgmgjlhjjhaaDoorPad
namespace Go.Proofs.YtiefgmgjlhjjhaaDoor
open Go.RowKit

/-- A byte of a word. -/
def bo (x : BitVec 32) (d : Nat) : UInt8 := UInt8.ofNat (x.toNat / d)
/-- The four bytes of word k, in their place. -/
def put4 (L : List UInt8) (k : Nat) (x : BitVec 32) : List UInt8 := (((L.set (4 * k) (bo x 16777216)).set (4 * k + 1) (bo x 65536)).set (4 * k + 2) (bo x 256)).set (4 * k + 3) (bo x 1)
def z32 : List UInt8 := List.replicate 32 0
def dgs (s : List (BitVec 32)) : Nat → List UInt8
  | 0 => z32
  | k + 1 => put4 (dgs s k) k (s.getD k 0)
/-- The bytes of a state. -/
def digOf (s : List (BitVec 32)) : List UInt8 := dgs s 8
/-- The digest of m. -/
def sumOf (m : List UInt8) : List UInt8 := digOf (stt (m ++ padOf m.length))

theorem dgs_length (s : List (BitVec 32)) : ∀ k, (dgs s k).length = 32
  | 0 => by rw [dgs, z32, List.length_replicate]
  | k + 1 => by simp only [dgs, put4, List.length_set]; exact dgs_length s k
theorem digOf_length (s : List (BitVec 32)) : (digOf s).length = 32 := dgs_length s 8
theorem sumOf_length (m : List UInt8) : (sumOf m).length = 32 := digOf_length _

theorem bo_wn (x : BitVec 32) (d : Nat) : wn x / (d : Int) % 256 = ((bo x d).toNat : Int) := by
  unfold wn bo
  rw [UInt8.toNat_ofNat']
  rw [Int.natCast_emod, Int.natCast_ediv]
  rfl
theorem bo_one (x : BitVec 32) : wn x % 256 = ((bo x 1).toNat : Int) := by
  have := bo_wn x 1
  simpa using this

theorem zero24 (w : World) : (zeroValue 92).run Tryd.prog w = .ok (.agg (z32.map byt).toArray) w := by
  rw [Tryd.zeroValue92]; rfl
theorem info24 (L : List UInt8) (hl : L.length = 32) : (Tryd.prog.info? 92).map (·.size) = some (L.map byt).toArray.size := by
  rw [List.size_toArray, List.length_map, hl]; kernel_rfl
theorem byts_at (L : List UInt8) (j : Nat) (h : j < L.length) : (L.map byt)[j]? = some (.int .u8 ((L.getD j 0).toNat : Int)) := by
  simp [byt, List.getElem?_eq_getElem h]
theorem byts_set (L : List UInt8) (j : Nat) (u : UInt8) : (L.map byt).set j (.int .u8 (u.toNat : Int)) = (L.set j u).map byt := by
  rw [List.map_set]; rfl
theorem byts_one (L : List UInt8) : (L.map byt).toArray.all (·.oneCell') = true := all_oneCell_toArray (byt_one L)

/-- The blocks of 'Sum': its result at g, its digest at d. -/
structure Dg (w wx : World) (g d : Nat) (L : List UInt8) : Prop where
  re : Blk wx g (z32.map byt) 92
  di : Blk wx d (L.map byt) 92
  be : Below w.heap.size w wx
  lg : w.heap.size ≤ g
  gd : g < d
theorem Dg.set {w wx : World} {g d : Nat} {L : List UInt8} (h : Dg w wx g d L) (j : Nat) (u : UInt8) : Dg w (wx.setCell ⟨d, j, none⟩ (.int .u8 (u.toNat : Int))) g d (L.set j u) :=
  ⟨h.re.setOther _ _ _ (by have := h.gd; omega), by rw [← byts_set]; exact h.di.set j _, h.be.setCell (by have := h.lg; have := h.gd; show _ ≤ d; omega) _, h.lg, h.gd⟩
theorem Dg.byte {w wx : World} {g d : Nat} {L : List UInt8} (h : Dg w wx g d L) (j : Nat) (hj : j < L.length) : ∃ v, wx.cell? ⟨d, j, none⟩ = some v := ⟨_, by rw [h.di.cell, byts_at L j hj]⟩

theorem has_lt {w : World} {v : Value} {bs : List UInt8} (h : Has w v bs) (g : Nat) (hg : w.heap.size ≤ g) : bs = [] ∨ v.ownBlock ≠ some g := by
  rcases h with ⟨rfl, rfl⟩ | ⟨ad, cap, rfl, h2, h3⟩
  · exact .inl rfl
  · cases bs with
    | nil => exact .inl rfl
    | cons b r =>
      refine .inr fun e => ?_
      have := cell_lt (h3 0 b rfl)
      rw [add_block] at this
      simp [Value.ownBlock] at e
      omega

set_option maxHeartbeats 2000000 in
set_option maxRecDepth 100000 in
theorem hsum_any (p : Nat) (m : List UInt8) (w : World) (hH : HAt w p m) (hK : Kst w) (hn : m.length ≤ 1152921504606846976) :
    Calls Tryd.prog 59 #[.pointer (some ⟨p, 0, none⟩)] w fun e w' => e = .returned (.agg ((sumOf m).map byt).toArray) ∧ Below w.heap.size w w' := by
  have HH := hide hH
  have HK := hide hK
  have HN := hide hn
  have HP := hide (Blk.lt hH)
  clear hH hK hn
  obtain ⟨nM, hnM⟩ : ∃ n, n = m.length := ⟨_, rfl⟩
  have HnM := hide hnM
  clear hnM
  go_enter Tryd.func59, Tryd.ntmps59
  go_wp2_with (first
    | (refine wpList_newAt rfl 92 rfl (z32.map byt) zero24 w.heap.size rfl ?_)
    | (go_at_call 66; refine (copy_any p m _ (HH.out.alloc _)).mono ?_; rintro e w1 ⟨gC, rfl, hg1, hh1, hb1⟩; have hz1 := (HAt.hr (Blk.below (HH.out.alloc _) hb1 (by have := HP.out; simp; omega))).size; rw [← HnM.out] at hz1)
    | fail)
  refine (pad_any nM (by rw [HnM.out]; exact HN.out) w1).mono ?_
  rintro e w2 ⟨ao, cap, rfl, ho2, hb2⟩
  obtain ⟨pl, hpl⟩ : ∃ pl, pl = padOf nM := ⟨_, rfl⟩
  rw [← hpl] at ho2 ⊢
  have Hpl := hide hpl
  have hpl' := hide (padOf_length nM)
  clear hpl
  have HO2 := hide ho2
  have HB1 := hide hb1
  have HB2 := hide hb2
  have HH1 := hide hh1
  have HG1 : Hid (w.heap.size + 1 ≤ gC) := by have := hg1; simp at this; exact this
  clear ho2 hb1 hb2 hh1 hg1 hz1
  have HS1 : Hid (w.heap.size + 1 ≤ w1.heap.size) := by have := HB1.out.size; simp at this; exact this
  go_wp2_with fail
  have hHC : HAt w2 gC m := Blk.below HH1.out HB2.out (Blk.lt HH1.out)
  have hK2 : Kst w2 := (HK.out.below (((Below.refl w.heap.size w).alloc (Nat.le_refl _) _).trans (HB1.out.mono (by simp))) HK.out.lt).below HB2.out (by have := HS1.out; omega)
  have hvn : pl = [] ∨ (Value.slice ao pl.length cap).ownBlock ≠ some gC := .inr fun e => by
    have h1 := HO2.out.ownBlock gC e
    have h2 := Blk.lt HH1.out
    omega
  refine (write_any gC m pl (.slice ao pl.length cap) w2 hHC HO2.out.has hvn hK2 (by have := HG1.out; omega) (by have h1 := HN.out; have h2 := hpl'.out; rw [Hpl.out, h2]; omega)).mono ?_
  rintro e w3 ⟨rfl, hH3, hF3⟩
  have H3 := hide hH3
  have F3 := hide hF3
  clear hH3 hF3 hHC hK2 hvn
  have HS2 := hide HB2.out.size
  have HS3 := hide F3.out.size
  have h39 : (Tryd.prog.info? 132).map (·.size) = some (wvs (stt (m ++ pl))).length := by rw [wvs_length, stt_length]; kernel_rfl
  have hD : Hid (Dg w (w3.alloc (.cells (z32.map byt).toArray 92)) w.heap.size w3.heap.size z32) := by
    have b0 : Blk w1 w.heap.size (z32.map byt) 92 := (Blk.new w _ _).below HB1.out (by simp)
    have b1 : Blk w3 w.heap.size (z32.map byt) 92 := (b0.below HB2.out (by have := HS1.out; omega)).fx F3.out (fun e : w.heap.size = gC => by have := HG1.out; omega)
    have b2 : Below w.heap.size w w2 := (((Below.refl w.heap.size w).alloc (Nat.le_refl _) _).trans (HB1.out.mono (by simp))).trans (HB2.out.mono (by have := HS1.out; omega))
    have b3 : Below w.heap.size w w3 := b2.trans (F3.out.below (fun k hk (e : k = gC) => by have := HG1.out; omega) (by have := HS1.out; have := HS2.out; omega))
    exact ⟨b1.alloc _, Blk.new w3 _ _, b3.alloc (by have := HS1.out; have := HS2.out; have := HS3.out; omega) _, Nat.le_refl _, by have := HS1.out; have := HS2.out; have := HS3.out; omega⟩
  go_wp2_with (first
    | (refine wpList_newAt rfl 92 rfl (z32.map byt) zero24 w3.heap.size rfl ?_)
    | (refine wpList_load_mid rfl 132 (.tmp 18) rfl gC 0 rfl (wvs (stt (m ++ pl))) _ ((HAt.hr (Blk.alloc H3.out _)).state) Tryd.underlying132 rfl h39 ?_))
  obtain ⟨g, hg⟩ : ∃ g, g = w.heap.size := ⟨_, rfl⟩
  have HRES : Hid (sumOf m = digOf (stt (m ++ pl))) := by rw [Hpl.out, HnM.out]; rfl
  have hSl := stt_length (m ++ pl)
  obtain ⟨SL, hSL⟩ : ∃ SL, SL = stt (m ++ pl) := ⟨_, rfl⟩
  rw [← hSL] at HRES hSl ⊢
  have HSl := hide hSl
  clear hSL hSl h39
  generalize w3.alloc (.cells (z32.map byt).toArray 92) = w4 at hD ⊢
  generalize w3.heap.size = d at hD ⊢
  go_loopw [20] (fun i wr => ∃ k : Nat, k ≤ 8 ∧ i = .int .i64 k ∧ Hid (Dg w wr w.heap.size d (dgs SL k))) (fun i _ => 8 - (intOf i).toNat)
  case atStart => exact ⟨0, by omega, rfl, hD⟩
  case round =>
    obtain ⟨k, hk, rfl, hx⟩ := hrel
    by_cases hlt : k < 8
    · have hlz : (k : Int) < 8 := by omega
      have hidx := fun W => run_idx 132 8 Tryd.underlying132 SL HSl.out k hlt W
      have hll := dgs_length SL k
      obtain ⟨L, hL⟩ : ∃ L, L = dgs SL k := ⟨_, rfl⟩
      obtain ⟨x, hX⟩ : ∃ x, x = SL.getD k 0 := ⟨_, rfl⟩
      rw [← hL] at hx hll
      rw [← hX] at hidx
      obtain ⟨v0, c0⟩ := hx.out.byte (4 * k) (by omega)
      obtain ⟨v1, c1⟩ := hx.out.byte (4 * k + 1) (by omega)
      obtain ⟨v2, c2⟩ := hx.out.byte (4 * k + 2) (by omega)
      obtain ⟨v3, c3⟩ := hx.out.byte (4 * k + 3) (by omega)
      have f0 := hx.out.di.frozen (4 * k)
      have f1 := hx.out.di.frozen (4 * k + 1)
      have f2 := hx.out.di.frozen (4 * k + 2)
      have f3 := hx.out.di.frozen (4 * k + 3)
      have b0 : wn x / (16777216 : Int) % (256 : Int) = ((bo x 16777216).toNat : Int) := bo_wn x 16777216
      have b1 : wn x / (65536 : Int) % (256 : Int) = ((bo x 65536).toNat : Int) := bo_wn x 65536
      have b2 : wn x / (256 : Int) % (256 : Int) = ((bo x 256).toNat : Int) := bo_wn x 256
      have b3 := bo_one x
      have HL := hide hL
      have HX := hide hX
      clear hL hX hll
      go_wp2
      go_roundw
      case rel =>
        refine ⟨k + 1, by omega, by go_num, ?_⟩
        rw [dgs, put4, ← HL.out, ← HX.out]
        exact (((hx.out.set (4 * k) _).set (4 * k + 1) _).set (4 * k + 2) _).set (4 * k + 3) _
      case measure => simp [intOf]; omega
    · obtain rfl : k = 8 := by omega
      rw [show dgs SL 8 = sumOf m from HRES.out.symm] at hx
      have hsz := info24 (sumOf m) (sumOf_length m)
      go_wp2_with (first
        | (refine wpList_load_row rfl 92 (.tmp 4) rfl d rfl 92 ((sumOf m).map byt).toArray (0, 0) _ hx.out.di Tryd.underlying92 rfl hsz ?_)
        | (refine wpList_store_row rfl 92 (.tmp 2) (.tmp 51) rfl w.heap.size ((sumOf m).map byt).toArray rfl rfl 92 (z32.map byt).toArray hx.out.re hsz (by rw [List.size_toArray, List.size_toArray, List.length_map, List.length_map, sumOf_length]; rfl) (byts_one _) ?_))
      refine bodyPost_ret (v := .agg ((sumOf m).map byt).toArray) ?_ rfl ⟨rfl, below_setRow hx.out.be _ _ (Nat.le_refl _)⟩
      exact results_cell_row Tryd.results59 _ _ w.heap.size 92 _ (0, 0) _ rfl (hx.out.re.setRow _) Tryd.underlying92 rfl hsz
end Go.Proofs.YtiefgmgjlhjjhaaDoor
