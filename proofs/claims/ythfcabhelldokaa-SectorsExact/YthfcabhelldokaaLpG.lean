import Derived.Test.YthfcabhelldokaaUpG
set_option linter.unusedVariables false
set_option linter.unusedSimpArgs false
namespace Go.Proofs.Ythfcabhelldokaa
open Go.RowKit

/-- A device of the call's own. -/
structure Mine (w W : World) (L : Lay) (D : Dv) : Prop where
  dev : Dev W L D
  be : Below w.heap.size w W
  own : ∀ k, L.F k → w.heap.size ≤ k
theorem Mine.turn {w W W' : World} {L L' : Lay} {D D' : Dv} (h : Mine w W L D) (ht : Turn W W' L L') (hd : Dev W' L' D') : Mine w W' L' D' :=
  ⟨hd, h.be.trans (ht.fx.below (fun k hk hF => by have := h.own k hF; omega) h.be.size), fun k hk => by
    rcases ht.own k hk with h1 | h1
    · exact h.own k h1
    · have := h.be.size; omega⟩
theorem Mine.below {w W W' : World} {L : Lay} {D : Dv} (h : Mine w W L D) (hb : Below W.heap.size W W') : Mine w W' L D := ⟨h.dev.below hb, h.be.trans (hb.mono h.be.size), h.own⟩
theorem Mine.new (w : World) (n : Nat) (img : List UInt8) (h1 : 1 ≤ n) (h2 : n ≤ 4096) (hl : img.length = n * 512) : Mine w (newW w n img) (freshL (w.heap.size + 2) w.heap.size (w.heap.size + 1)) (freshD n img) :=
  ⟨newW_dev w n img h1 h2 hl, newW_below w n img, fun k hk => by
    rcases hk with h | h | h | h | h | h
    · have : k = w.heap.size + 2 := h; omega
    · have : k = w.heap.size := h; omega
    · have : k = w.heap.size + 1 := h; omega
    · simp [freshL, Value.ownBlock] at h
    · simp [freshL, Value.ownBlock] at h
    · simp [freshL] at h⟩
theorem Mine.newX {w X W : World} {n : Nat} {img : List UInt8} (hX : Below w.heap.size w X) (hW : W = newW X n img) (h1 : 1 ≤ n) (h2 : n ≤ 4096) (hl : img.length = n * 512) : Mine w W (freshL (X.heap.size + 2) X.heap.size (X.heap.size + 1)) (freshD n img) := by
  subst hW
  have h := Mine.new X n img h1 h2 hl
  exact ⟨h.dev, hX.trans (h.be.mono hX.size), fun k hk => Nat.le_trans hX.size (h.own k hk)⟩
theorem has_sec (W : World) (b : List UInt8) (hb : b.length = 512) : Has (W.alloc (.cells (b.map byt).toArray 5)) (.slice (some ⟨W.heap.size, 0, none⟩) 512 512) b := Blk.hasB (Blk.new W _ _) hb

theorem changedD_zero {D : Dv} (h : D.left = 0) : changedD D = { D with calls := D.calls + 1 } := by
  unfold changedD tickD
  rw [if_neg (by omega), h]
theorem changedE_zero {D : Dv} (h : D.left = 0) : changedE D = 0 := if_neg (by omega)
theorem imgT_one (f : Nat → Nat) (x : Nat × List UInt8) (img : List UInt8) : imgT f [x] img [x].length = settleL img x.1 (f 0) x.2 := rfl
/-- The devices of the worked example. -/
def fi2 : List UInt8 := settleL (zer 2) 0 512 (secL 97 [])
def fi4 : List UInt8 := settleL fi2 0 (survN [] 0 2 0) (secL 98 [])
def fx1 : Dv := ⟨2, zer 2, [(0, secL 97 [])], 0, [], 0, 0, false, 1⟩
def fx2 : Dv := ⟨2, fi2, [], 0, [], 0, 0, false, 2⟩
def fx3 : Dv := ⟨2, fi2, [(0, secL 98 [])], 0, [], 0, 0, false, 3⟩
def fx4 : Dv := ⟨2, fi4, [], 0, [], 0, 0, true, 3⟩
theorem fx1_is : changedD (pushD (freshD 2 (zer 2)) 0 (secL 97 [])) = fx1 := by rw [changedD_zero rfl]; rfl
theorem fx2_is : flushD fx1 = fx2 := by
  unfold flushD fx1
  simp only [imgT_one]
  rfl
theorem fx3_is : changedD (pushD fx2 0 (secL 98 [])) = fx3 := by rw [changedD_zero rfl]; rfl
theorem fx4_is : crashD fx3 [] 0 2 = fx4 := by
  unfold crashD fx3
  simp only [imgT_one]
  rfl
theorem fi2_len : fi2.length = 2 * 512 := by
  unfold fi2
  rw [settle_length _ _ _ 2 _ (zer_length 2) (by decide) (Nat.le_refl _) (secL_length _ _), zer_length]
theorem fi4_len : fi4.length = 1024 := by
  unfold fi4
  rw [settle_length _ _ _ 2 _ fi2_len (by decide) (surv_le _ _ _ _) (secL_length _ _), fi2_len]
theorem surv2 : survN [] 0 2 0 = 2 := by decide +kernel
theorem fi4_is : fi4 = 98 :: 98 :: 97 :: (List.replicate 509 97 ++ List.replicate 512 0) := by
  unfold fi4 fi2 zer settleL
  rw [surv2, secL_full, secL_full]
  decide +kernel

theorem build38t (W : World) : (Instr.build 38 #[(1, .int .i64 0), (2, .int .i64 2)]).run Try.prog W = .ok (.agg (lossC (.slice none 0 0) 0 2).toArray) W := by kernel_rfl
set_option maxRecDepth 100000 in
set_option maxHeartbeats 4000000 in
theorem fixed_any (w : World) : Calls Try.prog 10 #[] w fun e w' => e = .returned (.bool true) ∧ Below w.heap.size w w' := by
  have c13a : Hid (∀ W, Calls Try.prog 13 #[.int .u8 97, .slice none 0 0] W fun e w' => e = .returned (.slice (some ⟨W.heap.size, 0, none⟩) 512 512) ∧ w' = W.alloc (.cells ((secL 97 []).map byt).toArray 5)) := hide (fun W => sector_any 97 _ [] (by decide) W (Has.nil W))
  have c13b : Hid (∀ W, Calls Try.prog 13 #[.int .u8 98, .slice none 0 0] W fun e w' => e = .returned (.slice (some ⟨W.heap.size, 0, none⟩) 512 512) ∧ w' = W.alloc (.cells ((secL 98 []).map byt).toArray 5)) := hide (fun W => sector_any 98 _ [] (by decide) W (Has.nil W))
  have c18 : Hid (Calls Try.prog 18 #[.int .i64 2] w fun e w' => e = .returned (.tuple #[.pointer (some ⟨w.heap.size + 2, 0, none⟩), .int .i64 0]) ∧ w' = newW w 2 (zer 2)) := hide (new_any 2 (by decide) (by decide) w)
  have M0 := hide (Mine.new w 2 (zer 2) (by decide) (by decide) (zer_length 2))
  obtain ⟨p, hp⟩ : ∃ p, w.heap.size + 2 = p := ⟨_, rfl⟩
  obtain ⟨L0, hL0⟩ : ∃ L, freshL (w.heap.size + 2) w.heap.size (w.heap.size + 1) = L := ⟨_, rfl⟩
  have hp0 : L0.p = p := by rw [← hL0, ← hp]; rfl
  rw [hL0] at M0
  rw [hp] at c18
  clear hL0 hp
  obtain ⟨w1, hw1⟩ : ∃ w1, newW w 2 (zer 2) = w1 := ⟨_, rfl⟩
  rw [hw1] at M0 c18
  clear hw1
  go_enter Try.func10, Try.ntmps10
  go_upto_region 4 with (first
    | (go_at_call 18; refine c18.out.mono ?_; rintro e wz ⟨rfl, hz⟩; rw [hz]; clear hz wz)
    | fail)
  clear c18
  -- the first write
  have wr1 : Hid (∀ W g, W.heap.size = g → Mine w W L0 (freshD 2 (zer 2)) → Calls Try.prog 12 #[.pointer (some ⟨p, 0, none⟩), .int .i64 0, .slice (some ⟨g, 0, none⟩) 512 512] (W.alloc (.cells ((secL 97 []).map byt).toArray 5)) fun e w' => e = .returned (.int .i64 0) ∧ ∃ L', L'.p = p ∧ Mine w w' L' fx1) := hide (fun W g hg h => by
    have h' := h.below (below_new W (.cells ((secL 97 []).map byt).toArray 5))
    have := write_ok h'.dev rfl 0 (by decide) _ (secL 97 []) (secL_length _ _) (has_sec W _ (secL_length _ _)) (by decide) (by decide) (by decide)
    rw [changedE_zero rfl, fx1_is, hp0, hg] at this
    exact this.mono fun e w' ⟨he, L', ht, hd⟩ => ⟨he, L', ht.p.trans hp0, h'.turn ht hd⟩)
  obtain ⟨g1, hg1⟩ : ∃ g, w1.heap.size = g := ⟨_, rfl⟩
  have c13a' := hide (c13a.out w1)
  rw [hg1] at c13a'
  have wr1' := hide (wr1.out w1 g1 hg1 M0.out)
  obtain ⟨wa, hwa⟩ : ∃ wa, w1.alloc (.cells ((secL 97 []).map byt).toArray 5) = wa := ⟨_, rfl⟩
  rw [hwa] at c13a' wr1'
  clear wr1 M0 c13a hwa hg1
  go_upto_region 5 with (first
    | (go_at_call 13; refine c13a'.out.mono ?_; rintro e wz ⟨rfl, hz⟩; rw [hz]; clear hz wz)
    | (go_at_call 12; refine wr1'.out.mono ?_; rintro e w2 ⟨rfl, L1, hp1, hm⟩; have M1 := hide hm; clear hm)
    | fail)
  clear c13a' wr1'
  -- the flush
  have fl := flush_ok M1.out.dev rfl (by decide) (by decide) (by decide)
  rw [hp1, fx2_is] at fl
  have FL : Hid (Calls Try.prog 26 #[.pointer (some ⟨p, 0, none⟩)] w2 fun e w' => e = .returned (.int .i64 0) ∧ ∃ L', L'.p = p ∧ Mine w w' L' fx2) := hide (fl.mono fun e w' ⟨he, ht, hd⟩ => ⟨he, _, ht.p.trans hp1, M1.out.turn ht hd⟩)
  clear fl M1
  go_upto_region 6 with (first
    | (go_at_call 26; refine FL.out.mono ?_; rintro e w3 ⟨rfl, L2, hp2, hm⟩; have M2 := hide hm; clear hm)
    | fail)
  clear FL
  -- the second write
  obtain ⟨g2, hg2⟩ : ∃ g, w3.heap.size = g := ⟨_, rfl⟩
  have c13b' := hide (c13b.out w3)
  rw [hg2] at c13b'
  have wr2 : Hid (Calls Try.prog 12 #[.pointer (some ⟨p, 0, none⟩), .int .i64 0, .slice (some ⟨g2, 0, none⟩) 512 512] (w3.alloc (.cells ((secL 98 []).map byt).toArray 5)) fun e w' => e = .returned (.int .i64 0) ∧ ∃ L', L'.p = p ∧ Mine w w' L' fx3) := hide (by
    have h' := M2.out.below (below_new w3 (.cells ((secL 98 []).map byt).toArray 5))
    have := write_ok h'.dev rfl 0 (by decide) _ (secL 98 []) (secL_length _ _) (has_sec w3 _ (secL_length _ _)) (by decide) (by decide) (by decide)
    rw [changedE_zero rfl, fx3_is, hp2, hg2] at this
    exact this.mono fun e w' ⟨he, L', ht, hd⟩ => ⟨he, L', ht.p.trans hp2, h'.turn ht hd⟩)
  obtain ⟨wb, hwb⟩ : ∃ wb, w3.alloc (.cells ((secL 98 []).map byt).toArray 5) = wb := ⟨_, rfl⟩
  rw [hwb] at c13b' wr2
  clear M2 c13b hwb hg2
  go_upto_region 7 with (first
    | (go_at_call 13; refine c13b'.out.mono ?_; rintro e wz ⟨rfl, hz⟩; rw [hz]; clear hz wz)
    | (go_at_call 12; refine wr2.out.mono ?_; rintro e w4 ⟨rfl, L3, hp3, hm⟩; have M3 := hide hm; clear hm)
    | fail)
  clear c13b' wr2
  -- the crash
  have cr := crash_any M3.out.dev rfl (.slice none 0 0) [] 0 2 (Has64.nil _) (fun k hk => by simp [Value.ownBlock] at hk)
  rw [hp3, fx4_is] at cr
  have CR : Hid (Calls Try.prog 15 #[.pointer (some ⟨p, 0, none⟩), .agg (lossC (.slice none 0 0) 0 2).toArray] w4 fun e w' => e = .returned (.int .i64 0) ∧ ∃ L', L'.p = p ∧ Mine w w' L' fx4) := hide (cr.mono fun e w' ⟨he, ht, hd⟩ => ⟨he, _, ht.p.trans hp3, M3.out.turn ht hd⟩)
  have hb38 := build38t
  clear cr M3
  go_upto_region 8 with (first
    | (go_at_call 15; refine CR.out.mono ?_; rintro e w5 ⟨rfl, L4, hp4, hm⟩; have M4 := hide hm; clear hm)
    | fail)
  clear CR hb38
  -- the image
  have im := image_any M4.out.dev
  rw [hp4, show fx4.img = fi4 from rfl, fi4_len] at im
  have M5 := hide (M4.out.below (below_new w5 (.cells (fi4.map byt).toArray 5)))
  have hI : Has (w5.alloc (.cells (fi4.map byt).toArray 5)) (.slice (some ⟨w5.heap.size, 0, none⟩) 1024 1024) fi4 := .inr ⟨⟨w5.heap.size, 0, none⟩, 1024, by rw [fi4_len], by rw [fi4_len]; exact Nat.le_refl _, fun i u hu => by rw [add_plain, (Blk.new w5 _ _).cell, List.getElem?_map, hu]; rfl⟩
  obtain ⟨g5, hg5⟩ : ∃ g, w5.heap.size = g := ⟨_, rfl⟩
  obtain ⟨w6, hw6⟩ : ∃ w6, w5.alloc (.cells (fi4.map byt).toArray 5) = w6 := ⟨_, rfl⟩
  rw [hg5, hw6] at hI
  rw [hg5, hw6] at im
  rw [hw6] at M5
  have IM := hide im
  clear im M4
  go_upto_region 9 with (first
    | (go_at_call 16; refine IM.out.mono ?_; rintro e wz ⟨rfl, hz⟩; rw [hz]; clear hz wz)
    | fail)
  clear IM
  have dn := down_any M5.out.dev
  rw [hp4, show fx4.down = true from rfl] at dn
  have DN := hide dn
  have hcut := hI.cutH 3 (by rw [fi4_len]; decide)
  have hcv := (hI.cut 0 3 (by decide) (by rw [fi4_len]; decide)).convert
  rw [show (fi4.drop 0).take (3 - 0) = [98, 98, 97] by rw [fi4_is]; rfl] at hcv
  have h512 : w6.cell? ⟨g5, 512, none⟩ = some (.int .u8 0) := by
    rcases hI with ⟨h, _⟩ | ⟨ad, cap, h1, _, h3⟩
    · cases h
    · injection h1 with h1
      injection h1 with h1
      subst h1
      have := h3 512 0 (by rw [fi4_is]; decide +kernel)
      rw [add_plain] at this
      exact this
  have hix := fun W => idx34b g5 1024 1024 512 (by decide) W
  have hlen : ∀ W ty, (Builtin.len_ #[34] ty #[.slice (some ⟨g5, 0, none⟩) 1024 1024]).run Try.prog W = .ok (.int .i64 1024) W := fun W ty => by go_simp
  clear dn hI
  rw [show ((3 : Nat) : Int) = 3 from rfl] at hcut
  rw [show ((512 : Nat) : Int) = 512 from rfl] at hix
  obtain ⟨V, hV⟩ : ∃ V, cutV (.slice (some ⟨g5, 0, none⟩) 1024 1024) 0 3 = V := ⟨_, rfl⟩
  rw [hV] at hcut hcv
  clear hV
  go_wp2_with (first
    | (go_at_call 22; refine DN.out.mono ?_; rintro e wz ⟨rfl, hz⟩; rw [hz]; clear hz wz)
    | fail)
  go_ret
  exact ⟨rfl, M5.out.be⟩
end Go.Proofs.Ythfcabhelldokaa

set_option linter.unusedVariables false
set_option linter.unusedSimpArgs false
namespace Go.Proofs.Ythfcabhelldokaa
open Go.RowKit

/-- A number from 0 to n - 1. -/
def pickN (k : Int) (n : Nat) : Nat := (k % (n : Int)).toNat
theorem pick_lt (k : Int) (n : Nat) (h : 0 < n) : pickN k n < n := by
  unfold pickN
  have h1 := Int.emod_nonneg k (show (n : Int) ≠ 0 by omega)
  have h2 := Int.emod_lt_of_pos k (show (0 : Int) < n by omega)
  omega
theorem pick_is (k : Int) (n : Nat) (h : 0 < n) : (if k.tmod n < 0 then k.tmod n + n else k.tmod n) = (pickN k n : Int) := by
  unfold pickN
  have h1 := Int.emod_nonneg k (show (n : Int) ≠ 0 by omega)
  have h2 := Int.emod_lt_of_pos k (show (0 : Int) < n by omega)
  rw [Int.toNat_of_nonneg h1]
  have h3 : k.tmod (n : Int) = _ := Int.tmod_eq_emod
  by_cases hc : 0 ≤ k ∨ (n : Int) ∣ k
  · rw [if_pos hc] at h3
    rw [h3, if_neg (by omega)]
    omega
  · rw [if_neg hc] at h3
    rw [h3, if_pos (by omega)]
    omega
theorem pick_any (k : Int) (n : Nat) (h : 0 < n) (hn : n ≤ 1000000) (hk : -9223372036854775808 ≤ k ∧ k ≤ 9223372036854775807) (w : World) : Calls Try.prog 9 #[.int .i64 k, .int .i64 (n : Int)] w fun e w' => e = .returned (.int .i64 (pickN k n : Int)) ∧ w' = w := by
  have hp := pick_is k n h
  have h2 : ¬ (n : Int) = 0 := by omega
  have hlt := pick_lt k n h
  have b1 : -(n : Int) < k.tmod n ∧ k.tmod n < n := by
    have e1 := Int.natAbs_tmod k (n : Int)
    have e2 : k.natAbs % (n : Int).natAbs < n := by
      have := Nat.mod_lt k.natAbs (show 0 < (n : Int).natAbs by omega)
      omega
    omega
  obtain ⟨N, hN⟩ : ∃ N, pickN k n = N := ⟨_, rfl⟩
  rw [hN] at hp hlt ⊢
  clear hN
  obtain ⟨r, hr⟩ : ∃ r, k.tmod n = r := ⟨_, rfl⟩
  rw [hr] at hp b1
  by_cases hneg : r < 0
  · rw [if_pos hneg] at hp
    go_enter Try.func9, Try.ntmps9
    go_wp2
    go_ret
    exact ⟨rfl, rfl⟩
  · rw [if_neg hneg] at hp
    go_enter Try.func9, Try.ntmps9
    go_wp2
    go_ret
    exact ⟨rfl, rfl⟩

/-- The cells of a life. -/
def lifeC (p : Nat) (vi vl : Value) : List Value := [.pointer (some ⟨p, 0, none⟩), vi, vl]
theorem build32 (p : Nat) (W : World) : (Instr.build 32 #[(0, .pointer (some ⟨p, 0, none⟩))]).run Try.prog W = .ok (.agg (lifeC p (.slice none 0 0) (.slice none 0 0)).toArray) W := by kernel_rfl
theorem Try.info9 : (Try.prog.info? 9).map (fun i => (i.zero, i.size, i.bytes)) = some (some (.string ByteArray.empty), 1, 16) := by kernel_rfl
theorem bs29 (s : ByteArray) (W : World) : (Instr.buildSlice 29 1 #[(0, .string s)]).run Try.prog W = .ok (.slice (some ⟨W.heap.size, 0, none⟩) 1 1) (W.alloc (.cells [Value.string s].toArray 9)) := by kernel_rfl
/-- 'append(strings, one)'. -/
theorem run_app29 (w : World) (v : Value) (n : Nat) (xs : List Value) (hown : w.ownsRow 0 9 1 v n xs) (g : Nat) (s : ByteArray) (hB : Blk w g [Value.string s] 9) (hn : n ≤ 1000000) (ty : TypeId) :
    ∃ v' w', (Builtin.append_ #[29, 29] ty #[v, .slice (some ⟨g, 0, none⟩) 1 1]).run Try.prog w = .ok v' w' ∧ w'.ownsRow 0 9 1 v' (n + 1) (xs ++ [Value.string s]) ∧ w.grownBy w' v.ownBlock ∧ Nw w v v' := by
  obtain ⟨i0, hi, hz0, hz1, hz2⟩ := info_parts Try.info9
  exact run_appx w 29 ty 9 i0 _ 1 16 Try.underlying29 hi hz0 hz1 hz2 (by simp [Value.cells]) (by decide) v n xs hown ⟨g, 0, none⟩ 1 1 [Value.string s] rfl
    (fun j u hu => by rw [add_plain, hB.cell]; exact hu) (fun u hu => by
      simp only [List.mem_cons, List.not_mem_nil, or_false] at hu
      subst hu; rfl) (by omega) (by omega)
/-- A sector of zeros, as a string. -/
def zS : ByteArray := ⟨(List.replicate 512 (0 : UInt8)).toArray⟩
end Go.Proofs.Ythfcabhelldokaa
