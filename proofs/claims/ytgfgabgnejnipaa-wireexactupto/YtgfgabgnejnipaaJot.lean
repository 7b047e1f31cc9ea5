import Derived.Test.YtgfgabgnejnipaaStage
import Derived.Deep.RegionLaw
import Derived.Deep.CutBlock
namespace Go.Proofs.Ytgfgabgnejnipaa
open Go.RowKit

theorem idx22 (ad : Addr) (n cap m : Nat) (h : m < n) (W : World) : (Instr.indexAt 22 (.slice (some ad) n cap) (.int .i64 (m : Int))).run Try.prog W = .ok (.pointer (some (ad.add m))) W := by
  have hm : (m : Int) < (n : Int) := by omega
  go_simp

/-- A place in an owned row, to be written. -/
theorem Own.place {w : World} {base : Nat} {v : Value} {bs : List UInt8} (h : Own w base v bs) (k : Nat) (hk : k < bs.length) :
    ∃ g, v.ownBlock = some g ∧ (∀ W, (Instr.indexAt 22 v (.int .i64 (k : Int))).run Try.prog W = .ok (.pointer (some ⟨g, k, none⟩)) W) ∧ w.cell? ⟨g, k, none⟩ = some (byt bs[k]) ∧ w.frozen? ⟨g, k, none⟩ = false := by
  have hc := h.has.at k hk
  obtain ⟨ao, cap, rfl⟩ := h.slice
  obtain ⟨g, rfl, _⟩ := h.at (by omega)
  refine ⟨g, rfl, fun W => ?_, ?_, (h.cells k hk).2⟩
  · rw [idx22 _ _ _ _ hk, add_plain]
  · obtain ⟨ad, h1, h2⟩ := hc
    have h3 := h1 w
    rw [idx22 _ _ _ _ hk, add_plain] at h3
    simp only [Result.ok.injEq, Value.pointer.injEq, Option.some.injEq] at h3
    rw [h3.1]; exact h2

theorem Own.placed {w : World} {base : Nat} {v : Value} {bs : List UInt8} (h : Own w base v bs) (k : Nat) (hk : k < bs.length) (g : Nat) (hg : v.ownBlock = some g) (b : UInt8) : Own (w.setCell ⟨g, k, none⟩ (byt b)) base v (bs.take k ++ [b] ++ bs.drop (k + 1)) := by
  obtain ⟨ao, cap, rfl⟩ := h.slice
  obtain ⟨g', rfl, _⟩ := h.at (by omega)
  simp [Value.ownBlock] at hg
  subst hg
  exact h.set rfl k b hk

theorem has_newzs (W : World) (n : Nat) (hn : n = W.heap.size) (z : Int) (b : UInt8) (hz : z = (b.toNat : Int)) : Has (W.alloc (.cells #[.int .u8 z] 5)) (.slice (some ⟨n, 0, none⟩) 1 1) [b] := by
  subst hn; exact has_newz W z b hz

theorem cell_new1s (W : World) (n : Nat) (hn : n = W.heap.size) (u : Value) : (W.alloc (.cells #[u] 22)).cell? ⟨n, 0, none⟩ = some u := by
  subst hn; exact cell_new1 W u

theorem size_setCell (w : World) (a : Addr) (v : Value) : (w.setCell a v).heap.size = w.heap.size := by simp [World.setCell]

set_option maxRecDepth 100000 in
set_option maxHeartbeats 4000000 in
theorem jot_any (T : Nat) (cs : Array Value) (L V lv : Value) (ls vs : List Value) (bs : List UInt8) (w : World) (h : Bk w T cs L V ls vs) (he : Ents w ls vs) (hl : Own w 0 lv bs) (hbs : bs.length ≤ 100000000) (hn : ls.length ≤ 1000)
    (hd : ∀ u, u ∈ ls ∨ u ∈ vs → Apart u lv) :
    Calls Try.prog 51 #[.pointer (some ⟨T, 8, none⟩), lv] w fun e w' => e = .returned (.tuple #[]) ∧ ∃ cs' L' V' l2 v1 v2, Bk w' T cs' L' V' (ls ++ [lv] ++ [l2]) (vs ++ [v1] ++ [v2]) ∧ Ents w' (ls ++ [lv] ++ [l2]) (vs ++ [v1] ++ [v2]) ∧ (∀ i, i < 8 → cs'[i]? = cs[i]?) ∧ Fx (Nf T L V lv) w w' ∧ Nw w L L' ∧ Nw w V V' ∧ Nw w lv l2 ∧ Nw w (.slice none 0 0) v1 ∧ Nw w (.slice none 0 0) v2 := by
  obtain ⟨c8, c9, _⟩ := h.cells
  have lL := h.ol.len
  have ll := hl.has.len
  have HB := hide h
  have HE := hide he
  have HL := hide hl
  have HD : Hid (∀ u, u ∈ ls ∨ u ∈ vs → Apart u lv) := hd
  obtain ⟨lo, lc, hlv⟩ := hl.slice
  obtain ⟨mk, hmk⟩ : ∃ mk, ls.length * 29 + 7 = mk := ⟨_, rfl⟩
  have hmi : (ls.length : Int) * 29 + 7 = (mk : Int) := by omega
  have hmb : mk ≤ 100000 := by omega
  have HLV := hide hlv
  clear h he hl hd hlv hmk
  go_enter Try.func51, Try.ntmps51
  go_wp2
  clear hmi c8 c9 lL
  go_loopw [5, 6] (fun t i wr => ∃ k : Nat, k ≤ bs.length ∧ i = .int .i64 k ∧ Hid (Own wr 0 lv (mks mk k ++ bs.drop k)) ∧ Hid (Own wr w.heap.size t (mks mk k)) ∧ Hid (Fx (fun k => lv.ownBlock = some k) w wr)) (fun _ i _ => bs.length - (intOf i).toNat)
  case atStart => exact ⟨0, Nat.zero_le _, rfl, by simpa [mks] using HL, Own.nil _ _, Fx.refl _ _⟩
  case round =>
    obtain ⟨k, hk, rfl, ho, hw, hf⟩ := hrel
    by_cases hlt : k < bs.length
    · have hi : (k : Int) < (bs.length : Int) := by omega
      have hlen : (mks mk k ++ bs.drop k).length = bs.length := by simp [mks_length]; omega
      obtain ⟨g, hg, i1, d1, z1⟩ := ho.out.place k (by omega)
      have hset := ho.out.placed k (by omega) g hg (UInt8.ofNat (mk + k))
      rw [mks_write mk k bs hlt, byt_mod] at hset
      have e : (((mk + k) % 256 : Nat) : Int) = ((mk : Int) + k) % 256 := by omega
      rw [e] at hset
      have hgl : g < w.heap.size := HL.out.lt g hg
      have fset : Fx (fun k => lv.ownBlock = some k) wr (wr.setCell ⟨g, k, none⟩ (.int .u8 (((mk : Int) + k) % 256))) := Fx.setCell (S := fun k => lv.ownBlock = some k) wr g k _ hg
      have hw1 : Own (wr.setCell ⟨g, k, none⟩ (.int .u8 (((mk : Int) + k) % 256))) w.heap.size u5 (mks mk k) := hw.out.fx fset (fun j hj e => by
        have h1 := hw.out.ownBlock j hj
        rw [hg] at e; cases e; omega)
      have hf1 := hf.out.trans fset (fun _ _ s => s)
      have d2 : (wr.setCell ⟨g, k, none⟩ (.int .u8 (((mk : Int) + k) % 256))).cell? ⟨g, k, none⟩ = some (.int .u8 (((mk : Int) + k) % 256)) := by
        obtain ⟨g2, hg2, _, d3, _⟩ := hset.place k (by simp [mks_length]; omega)
        rw [hg] at hg2; cases hg2
        rw [d3, List.getElem_append_left (by rw [mks_length]; omega)]
        simp only [mks, List.getElem_map, List.getElem_range]
        rw [byt_mod, e]
      have HO := hide hset
      have HW1 := hide hw1
      have HF1 := hide hf1
      have HMS := hide (mks_succ mk k)
      have HZ : Hid (((mk : Int) + k) % 256 = ((UInt8.ofNat (mk + k)).toNat : Int)) := by
        show _ = _
        rw [UInt8.toNat_ofNat']; omega
      obtain ⟨b, hb⟩ : ∃ b, UInt8.ofNat (mk + k) = b := ⟨_, rfl⟩
      rw [hb] at HMS HZ
      clear hb
      unfold byt at d1
      have hkb : (k : Int) ≤ 100000000 := by omega
      have hml : (mks mk k).length ≤ 100000000 := by rw [mks_length]; omega
      have HML := hide hml
      clear hset hw1 hf1 fset ho hw hf e hml
      go_wp2_with (at_builtin; go_loud (refine wpList_appx rfl _ _ rfl w.heap.size _ (mks mk k) rfl (HW1.out.below (below_new _ _)) _ [b] rfl (has_newzs _ _ (size_setCell _ _ _).symm _ _ HZ.out) (by have := HML.out; simp; omega) (by have := HF1.out.size; rw [size_setCell] at this; simp; omega) ?_))
      intro v3 w3 hown3 hg3 hnw3
      rw [← HMS.out] at hown3
      have HO3 := hide (HO.out.below (below_new _ (.cells #[.int .u8 (((mk : Int) + k) % 256)] 5)) |>.fx (Fx.grown (S := fun j => u5.ownBlock = some j) hg3 (fun _ e => e)) (fun j hj e => by
        have h1 := HW1.out.ownBlock j e
        rw [hg] at hj; cases hj; omega))
      have HF3 := hide ((HF1.out.then_below (below_new _ (.cells #[.int .u8 (((mk : Int) + k) % 256)] 5))).trans (Fx.grown (S := fun j => u5.ownBlock = some j) hg3 (fun _ e => e)) (fun j hj e => by
        have h1 := HW1.out.ownBlock j e
        omega))
      have HW3 := hide hown3
      clear hown3 hg3 hnw3 HO HW1 HF1 d1 d2 z1 i1 HZ HML
      go_wp2
      go_roundw
      case rel => exact ⟨k + 1, by omega, by go_num, HO3, HW3, HF3⟩
      case measure => simp [intOf]; omega
    · have hi : ¬ (k : Int) < (bs.length : Int) := by omega
      obtain ⟨M, hM⟩ : ∃ M, M = mks mk k := ⟨_, rfl⟩
      have ho1 := ho.out
      rw [List.drop_of_length_le (by omega), List.append_nil, ← hM] at ho1
      have hw1 := hw.out
      rw [← hM] at hw1
      have hMl : M.length = bs.length := by rw [hM, mks_length]; omega
      have hf1 := hf.out
      obtain ⟨wo, wq, hwv⟩ := hw1.slice
      subst hwv
      have hlv := HLV.out
      subst hlv
      have hB := HB.out.bytes HL.out hf1
      have hE := HE.out.fx hf1 (fun u hu k hk e => HD.out u hu k hk e)
      have hMb : M.length ≤ 100000000 := by omega
      have HVL : Hid (vs.length ≤ 1000) := by have := HE.out.1; show _ ≤ _; omega
      have hwn : ∀ k, (Value.slice wo M.length wq).ownBlock = some k → w.heap.size ≤ k := hw1.ownBlock
      have hJ : Js w wr T cs cs L V (.slice lo bs.length lc) L V (.slice wo M.length wq) ls vs ls vs M :=
        ⟨hB, hE, ho1, hw1.weaken (Nat.zero_le _), fun _ _ => rfl, hf1.mono (fun _ _ s => .inr (.inr (.inr s))), Nw.refl _ _, Nw.refl _ _, fun k hk => .inr (hwn k hk), HD.out, fun u hu k h1 h2 => by
          obtain ⟨cur, hc⟩ := HE.out.type u hu k h1
          have h3 := block_lt hc
          have h4 := hwn k h2
          omega, fun k h1 h2 => by
          have h3 := HL.out.lt k h1
          have h4 := hwn k h2
          omega⟩
      clear hM ho hw hf HLV hB hE ho1 hw1 hf1 hwn HB HE HL HD ll hMl hlt hk
      obtain ⟨c8, c9, _⟩ := hJ.bk.cells
      have J0 := hide hJ
      clear hJ
      obtain ⟨lv, hlv⟩ : ∃ lv, lv = Value.slice lo bs.length lc := ⟨_, rfl⟩
      have HLV := hide hlv
      clear hlv
      go_wp2_with (at_builtin; go_loud (refine wpList_app66 rfl _ _ rfl _ ls rfl (J0.out.bk.below (below_new _ _)).ol ⟨wr.heap.size, 0, none⟩ 1 (.slice lo bs.length lc) rfl rfl (cell_new1 _ _) (by omega) ?_))
      intro L1 w1 hol1 hgl1 hnl1
      obtain ⟨j1, ⟨k8, k8f, k9⟩, _⟩ := (J0.out.below (below_new _ (.cells #[.slice lo bs.length lc] 22))).putL hol1 hgl1 hnl1
      obtain ⟨ls1, hls1⟩ : ∃ ls1, ls1 = ls ++ [.slice lo bs.length lc] := ⟨_, rfl⟩
      rw [← hls1] at j1 hol1
      have hl1 : ls1.length ≤ 1001 := by rw [hls1]; simp; omega
      have HL1 := hide hls1
      obtain ⟨a1, b1, rfl⟩ := hol1.slice
      have J1 := hide j1
      clear hol1 hgl1 hnl1 J0 c8 c9 j1 hls1
      go_wp2_with (at_builtin; go_loud (refine wpList_app66 rfl _ _ rfl _ vs rfl (J1.out.bk.below (below_new _ _)).ov ⟨w1.heap.size, 0, none⟩ 1 (.slice wo M.length wq) rfl rfl (cell_new1s _ _ (size_setCell _ _ _).symm _) (by have := HVL.out; omega) ?_))
      intro V1 w2 hol2 hgl2 hnl2
      obtain ⟨j2, ⟨k9, k9f, k98⟩, _⟩ := (J1.out.below (below_new _ (.cells #[.slice wo M.length wq] 22))).putV hol2 hgl2 hnl2
      obtain ⟨vs1, hvs1⟩ : ∃ vs1, vs1 = vs ++ [.slice wo M.length wq] := ⟨_, rfl⟩
      rw [← hvs1] at j2 hol2
      have hv1 : vs1.length ≤ 1001 := by rw [hvs1]; have := HVL.out; simp; omega
      have HV1 := hide hvs1
      obtain ⟨a2, b2, rfl⟩ := hol2.slice
      have J2 := hide j2
      obtain ⟨x, hx⟩ : ∃ x, x = UInt8.ofNat (mk * 3 + 1) := ⟨_, rfl⟩
      have HX : Hid (((mk : Int) * 3 + 1) % 256 = (x.toNat : Int)) := by
        show _ = _
        rw [hx, UInt8.toNat_ofNat']; omega
      clear hol2 hgl2 hnl2 J1 j2 hvs1 hx
      go_wp2_with fail
      have hJ := J2.out
      generalize w2.setCell ⟨T, 9, none⟩ (.slice a2 vs1.length b2) = w3 at *
      obtain ⟨m8, m9, m0⟩ := hJ.bk.cells
      have m8f := m0 8
      have m9f := m0 9
      have M8 := hide m8
      have M8f := hide m8f
      clear hJ m0
      have e3 : ∀ o, (w3.alloc o).cell? ⟨T, 8, none⟩ = some (.slice a1 ls1.length b1) := fun o => at_below (below_new w3 o) M8.out
      go_cut [59] from 60 to 73 (fun _ wx => ∃ a3 a5 b3 b5 M2 ls2 cs2, Hid (M2 = M ++ [x, x, x]) ∧ Hid (ls2 = ls1 ++ [.slice a3 M2.length b3]) ∧ Hid (Js w wx T cs cs2 L V (.slice lo bs.length lc) (.slice a5 ls2.length b5) (.slice a2 vs1.length b2) (.slice wo M.length wq) ls vs ls2 vs1 M) ∧ Hid (Own wx 0 (.slice a3 M2.length b3) M2) ∧ Hid (Apart (.slice a3 M2.length b3) (.slice wo M.length wq)) ∧ Hid (Nw w (.slice lo bs.length lc) (.slice a3 M2.length b3)))
      · go_region_law ((first | (refine step_appk ?_ (.tmp 64) (.tmp 68) ?_ 0 (.slice lo bs.length lc) M ?_ ?_ ⟨w3.heap.size, 0, none⟩ 3 3 [x, x, x] ?_ ?_ ?_ ?_ ?_ ?_; rfl; rfl; rfl; exact J2.out.ol.below (bel_new w3 _ _ ⟨rfl, rfl, rfl, rfl⟩); rfl; rfl; exact three_new w3 _ _ x HX.out ⟨rfl, rfl, rfl, rfl⟩; (simp; omega); exact Nat.zero_le _; intro l2 w4 ho4 hg4 hn4 hk4; obtain ⟨M2, hM2⟩ : ∃ M2, M2 = M ++ [x, x, x] := ⟨_, rfl⟩; rw [← hM2] at ho4; obtain ⟨a3, b3, rfl⟩ := ho4.slice; have HM2 := hide hM2; clear hM2; have HO4 := hide ho4; have HN4 := hide hn4; have J4 := hide ((J2.out.below (bel_new w3 _ _ (by exact ⟨rfl, rfl, rfl, rfl⟩))).extL hg4 hk4); have n8 := J4.out.bk.cells.1; have n8f := J4.out.bk.cells.2.2 8; have e4 : ∀ o, (w4.alloc o).cell? ⟨T, 8, none⟩ = some (.slice a1 ls1.length b1) := fun o => at_below (below_new w4 o) J4.out.bk.cells.1; clear ho4 hg4 hn4 hk4) | (refine step_app66 ?_ (.tmp 63) (.tmp 70) ?_ (.slice a1 ls1.length b1) ls1 ?_ ?_ ⟨w4.heap.size, 0, none⟩ 1 (.slice a3 M2.length b3) ?_ ?_ ?_ ?_ ?_; rfl; rfl; rfl; exact (J4.out.below (below_new _ _)).bk.ol; rfl; rfl; exact cell_new1 _ _; omega; intro L3 w5 ho5 hg5 hn5; obtain ⟨j5, ⟨p8, p8f, p9⟩, keep5⟩ := (J4.out.below (below_new _ (.cells #[.slice a3 M2.length b3] 22))).putL ho5 hg5 hn5; obtain ⟨ls2, hls2⟩ : ∃ ls2, ls2 = ls1 ++ [.slice a3 M2.length b3] := ⟨_, rfl⟩; rw [← hls2] at j5 ho5; obtain ⟨a5, b5, rfl⟩ := ho5.slice; have HL2 := hide hls2; have J5 := hide j5; have HO5 := hide (keep5 _ _ (HO4.out.below (below_new _ (.cells #[.slice a3 M2.length b3] 22)))); clear hls2 j5 ho5 hg5 hn5 keep5)))
        all_goals
          have HAP : Hid (Apart (.slice a3 M2.length b3) (.slice wo M.length wq)) := by
            refine (Apart.nw (J4.out.lw.symm) HN4.out (fun k hk => ?_)).symm
            exact (J2.out.below (bel_new w3 _ _ (by exact ⟨rfl, rfl, rfl, rfl⟩))).ow.lt k hk
          have HNL : Hid (Nw w (.slice lo bs.length lc) (.slice a3 M2.length b3)) := fun k hk => by
            rcases HN4.out k hk with h | h
            · exact .inl h
            · exact .inr (Nat.le_trans J2.out.fx.size (by simp at h; omega))
          go_wp2_with fail
          go_meet
          exact ⟨a3, a5, b3, b5, M2, ls2, _, HM2, HL2, J5, HO5, HAP, HNL⟩
      case rest =>
        obtain ⟨a3, a5, b3, b5, M2, ls2, cs2, HM2, HL2, J5, HO5, HAP, HNL⟩ := hcut
        clear J2 e3 k8 k8f k9 k9f k98 M8 M8f m8f m8 m9 m9f
        have hJ := J5.out
        have M9 := hide hJ.bk.cells.2.1
        have m9 := hJ.bk.cells.2.1
        have m9f := hJ.bk.cells.2.2 9
        have e6 : ∀ o, (wc.alloc o).cell? ⟨T, 9, none⟩ = some (.slice a2 vs1.length b2) := fun o => at_below (below_new wc o) M9.out
        clear hJ
        go_wp2_with fail
        go_region_law ((first | (refine step_appk ?_ (.tmp 79) (.tmp 83) ?_ 0 (.slice wo M.length wq) M ?_ ?_ ⟨wc.heap.size, 0, none⟩ 3 3 [x, x, x] ?_ ?_ ?_ ?_ ?_ ?_; rfl; rfl; rfl; exact J5.out.ow.below (bel_new wc _ _ ⟨rfl, rfl, rfl, rfl⟩); rfl; rfl; exact three_new wc _ _ x HX.out ⟨rfl, rfl, rfl, rfl⟩; (simp; omega); exact Nat.zero_le _; intro v2 w7 ho7 hg7 hn7 hk7; rw [← HM2.out] at ho7; obtain ⟨a7, b7, rfl⟩ := ho7.slice; have HO7 := hide ho7; have HN7 := hide hn7; obtain ⟨j7, keep7⟩ := (J5.out.below (bel_new wc _ _ (by exact ⟨rfl, rfl, rfl, rfl⟩))).extW hg7 hk7; have J7 := hide j7; have HL7 := hide (keep7 _ _ (HO5.out.below (bel_new wc _ _ (by exact ⟨rfl, rfl, rfl, rfl⟩))) HAP.out); have n9 := J7.out.bk.cells.2.1; have n9f := J7.out.bk.cells.2.2 9; have e7 : ∀ o, (w7.alloc o).cell? ⟨T, 9, none⟩ = some (.slice a2 vs1.length b2) := fun o => at_below (below_new w7 o) J7.out.bk.cells.2.1; clear ho7 hg7 hn7 hk7 j7 keep7) | (refine step_app66 ?_ (.tmp 78) (.tmp 85) ?_ (.slice a2 vs1.length b2) vs1 ?_ ?_ ⟨w7.heap.size, 0, none⟩ 1 (.slice a7 M2.length b7) ?_ ?_ ?_ ?_ ?_; rfl; rfl; rfl; exact (J7.out.below (below_new _ _)).bk.ov; rfl; rfl; exact cell_new1 _ _; omega; intro V3 w8 ho8 hg8 hn8; obtain ⟨j8, ⟨p9, p9f, p8⟩, keep8⟩ := (J7.out.below (below_new _ (.cells #[.slice a7 M2.length b7] 22))).putV ho8 hg8 hn8; obtain ⟨vs2, hvs2⟩ : ∃ vs2, vs2 = vs1 ++ [.slice a7 M2.length b7] := ⟨_, rfl⟩; rw [← hvs2] at j8 ho8; obtain ⟨a8, b8, rfl⟩ := ho8.slice; have HV2 := hide hvs2; have J8 := hide j8; have HO8 := hide (keep8 _ _ (HO7.out.below (below_new _ (.cells #[.slice a7 M2.length b7] 22)))); have HL8 := hide (keep8 _ _ (HL7.out.below (below_new _ (.cells #[.slice a7 M2.length b7] 22)))); clear hvs2 j8 ho8 hg8 hn8 keep8)))
        all_goals
          have HNW : Hid (Nw w (.slice none 0 0) (.slice a7 M2.length b7)) := fun k hk => by
            rcases HN7.out k hk with h | h
            · exact J5.out.nw k h
            · exact .inr (Nat.le_trans J5.out.fx.size (by simp at h; omega))
          go_wp2_with fail
          go_end0
          have hJ := J8.out
          have hE := (hJ.en.snoc hJ.ol hJ.ow).snoc HL8.out HO8.out
          refine ⟨rfl, _, _, _, _, _, _, ?_, hE, hJ.pre, hJ.fx, hJ.nl, hJ.nv, HNL.out, hJ.nw, HNW.out⟩
          rw [← HL1.out, ← HL2.out, ← HV1.out, ← HV2.out]
          exact hJ.bk

end Go.Proofs.Ytgfgabgnejnipaa
