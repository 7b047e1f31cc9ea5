import Derived.Test.YtomioemhjhhbcaaGreatDoorStG
set_option linter.unusedVariables false
set_option linter.unusedSimpArgs false
namespace Go.Proofs.YtomioemhjhhbcaaGreatDoor
open Go.RowKit

/-- Is bit k set? -/
def keptB (ks : List (BitVec 64)) (k : Nat) : Bool := decide (k / 64 < ks.length) && decide (wn ((ks.getD (k / 64) 0 >>> (k % 64)) &&& 1#64) = 1)
theorem idx36 (ad : Addr) (n cap m : Nat) (h : m < n) (W : World) : (Instr.indexAt 68 (.slice (some ad) n cap) (.int .i64 (m : Int))).run Tryz.prog W = .ok (.pointer (some (ad.add m))) W := by
  have hm : (m : Int) < (n : Int) := by omega
  go_simp
  try simp
theorem wand1 (x : BitVec 64) : bits .and .u64 (wn x) (1 : Int) = wn (x &&& 1#64) := wand x 1#64

theorem kept_any (v : Value) (ks : List (BitVec 64)) (k : Nat) (hk : k < 1000000000000) (w : World) (hv : Has64 w v ks) :
    Calls Tryz.prog 106 #[v, .int .i64 (k : Int)] w fun e w' => e = .returned (.bool (keptB ks k)) ∧ w' = w := by
  have hlen := hv.len
  have q1 : (k : Int) / 64 = ((k / 64 : Nat) : Int) := by omega
  have q2 : (k : Int) % 64 = ((k % 64 : Nat) : Int) := by omega
  have q3 : k % 64 < 64 := Nat.mod_lt _ (by decide)
  have q4 : k / 64 < 1000000000000 := by omega
  obtain ⟨K, hK⟩ : ∃ K, keptB ks k = K := ⟨_, rfl⟩
  have hK2 := hK
  unfold keptB at hK2
  rw [hK]
  clear hK
  obtain ⟨q, hq⟩ : ∃ q, k / 64 = q := ⟨_, rfl⟩
  obtain ⟨r, hr⟩ : ∃ r, k % 64 = r := ⟨_, rfl⟩
  rw [hq] at q1 hK2 q4
  rw [hr] at q2 hK2 q3
  clear hq hr
  by_cases h1 : q < ks.length
  · have h1z : (q : Int) < (ks.length : Int) := by omega
    rcases hv with ⟨rfl, rfl⟩ | ⟨ad, cap, rfl, h2, h3⟩
    · simp at h1
    · obtain ⟨u, hu⟩ : ∃ u, ks.getD q 0 = u := ⟨_, rfl⟩
      have hcell := h3 q u (by rw [← hu, List.getD_eq_getElem?_getD, List.getElem?_eq_getElem h1]; rfl)
      unfold wv at hcell
      have hix := fun W => idx36 ad ks.length cap q h1 W
      rw [hu, decide_eq_true h1, Bool.true_and] at hK2
      have s1 := wshr u r
      have s2 := wand1 (u >>> r)
      obtain ⟨X, hX⟩ : ∃ X, wn (u >>> r &&& 1#64) = X := ⟨_, rfl⟩
      rw [hX] at s2 hK2
      have s3 := wn_nonneg u
      have HK := hide hK2
      clear h3 hu hX hK2
      go_enter Tryz.func106, Tryz.ntmps106
      go_wp2
      go_ret
      refine ⟨?_, rfl⟩
      rw [← HK.out]
      rfl
  · have h1z : ¬ (q : Int) < (ks.length : Int) := by omega
    have hKf : K = false := by rw [← hK2, decide_eq_false h1, Bool.false_and]
    clear hK2
    subst hKf
    go_enter Tryz.func106, Tryz.ntmps106
    go_wp2
    go_ret
    exact ⟨rfl, rfl⟩
/-- How many of its first bytes a loss leaves of write number k. -/
def survN (ks : List (BitVec 64)) (torn off : Int) (k : Nat) : Nat := if keptB ks k then 512 else if (k : Int) = torn then (min (max off 0) 512).toNat else 0
theorem surv_le (ks : List (BitVec 64)) (torn off : Int) (k : Nat) : survN ks torn off k ≤ 512 := by
  unfold survN
  split
  · omega
  · split <;> omega
/-- The cells of a loss. -/
def lossC (vk : Value) (torn off : Int) : List Value := [vk, .int .i64 torn, .int .i64 off]
set_option maxRecDepth 100000 in
set_option maxHeartbeats 2000000 in
theorem surviving_any (v : Value) (ks : List (BitVec 64)) (torn off : Int) (k : Nat) (hk : k < 1000000000000) (w : World) (hv : Has64 w v ks) :
    Calls Tryz.prog 104 #[.agg (lossC v torn off).toArray, .int .i64 (k : Int)] w fun e w' => e = .returned (.int .i64 (survN ks torn off k : Int)) ∧ Below w.heap.size w w' := by
  have b0 : Blk (w.alloc (.cells (lossC v torn off).toArray 70)) w.heap.size (lossC v torn off) 70 := Blk.new w _ _
  have be : Below w.heap.size w (w.alloc (.cells (lossC v torn off).toArray 70)) := below_new w _
  have hkp := hide (kept_any v ks k hk (w.alloc (.cells (lossC v torn off).toArray 70)) (hv.fx (Fx.of_below (S := fun _ => False) be) (fun _ _ h => h)))
  clear hv
  unfold survN
  obtain ⟨K, hK⟩ : ∃ K, keptB ks k = K := ⟨_, rfl⟩
  rw [hK] at hkp ⊢
  clear hK
  have r0 := (b0.cell 0).trans (show (lossC v torn off)[0]? = some v from rfl)
  have r1 := (b0.cell 1).trans (show (lossC v torn off)[1]? = some (.int .i64 torn) from rfl)
  have r2 := (b0.cell 2).trans (show (lossC v torn off)[2]? = some (.int .i64 off) from rfl)
  clear b0
  obtain ⟨g, hg⟩ : ∃ g, w.heap.size = g := ⟨_, rfl⟩
  obtain ⟨w1, hw1⟩ : ∃ w1, w.alloc (.cells (lossC v torn off).toArray 70) = w1 := ⟨_, rfl⟩
  rw [hg, hw1] at r0 r1 r2 be
  rw [hw1] at hkp
  have BE := hide be
  clear be
  cases K with
  | true =>
    go_enter Tryz.func104, Tryz.ntmps104
    go_wp2_with (first
      | (refine wpList_boxAt rfl 70 (.tmp 0) rfl (lossC v torn off) rfl g hg ?_; rw [hw1])
      | (go_at_call 106; refine hkp.out.mono ?_; rintro e w3 ⟨rfl, rfl⟩)
      | fail)
    go_ret
    exact ⟨by simp, by first | exact BE.out | (rw [hg]; exact BE.out)⟩
  | false =>
    by_cases ht : (k : Int) = torn
    · subst ht
      by_cases o1 : off < 0
      · skip
        have hM : (((if (false : Bool) = true then 512 else if (k : Int) = (k : Int) then (min (max off 0) 512).toNat else 0 : Nat) : Nat) : Int) = 0 := by rw [if_neg (by decide), if_pos rfl]; omega
        rw [hM]
        clear hM
        go_enter Tryz.func104, Tryz.ntmps104
        go_wp2_with (first
          | (refine wpList_boxAt rfl 70 (.tmp 0) rfl (lossC v _ off) rfl g hg ?_; rw [hw1])
          | (go_at_call 106; refine hkp.out.mono ?_; rintro e w3 ⟨rfl, rfl⟩)
          | fail)
        go_ret
        exact ⟨by first | rfl | simp, by first | exact BE.out | (rw [hg]; exact BE.out)⟩
      · by_cases o2 : 512 < off
        · skip
          have hM : (((if (false : Bool) = true then 512 else if (k : Int) = (k : Int) then (min (max off 0) 512).toNat else 0 : Nat) : Nat) : Int) = 512 := by rw [if_neg (by decide), if_pos rfl]; omega
          rw [hM]
          clear hM
          go_enter Tryz.func104, Tryz.ntmps104
          go_wp2_with (first
            | (refine wpList_boxAt rfl 70 (.tmp 0) rfl (lossC v _ off) rfl g hg ?_; rw [hw1])
            | (go_at_call 106; refine hkp.out.mono ?_; rintro e w3 ⟨rfl, rfl⟩)
            | fail)
          go_ret
          exact ⟨by first | rfl | simp, by first | exact BE.out | (rw [hg]; exact BE.out)⟩
        · skip
          have hM : (((if (false : Bool) = true then 512 else if (k : Int) = (k : Int) then (min (max off 0) 512).toNat else 0 : Nat) : Nat) : Int) = off := by rw [if_neg (by decide), if_pos rfl]; omega
          rw [hM]
          clear hM
          go_enter Tryz.func104, Tryz.ntmps104
          go_wp2_with (first
            | (refine wpList_boxAt rfl 70 (.tmp 0) rfl (lossC v _ off) rfl g hg ?_; rw [hw1])
            | (go_at_call 106; refine hkp.out.mono ?_; rintro e w3 ⟨rfl, rfl⟩)
            | fail)
          go_ret
          exact ⟨by first | rfl | simp, by first | exact BE.out | (rw [hg]; exact BE.out)⟩
    · go_enter Tryz.func104, Tryz.ntmps104
      go_wp2_with (first
        | (refine wpList_boxAt rfl 70 (.tmp 0) rfl (lossC v torn off) rfl g hg ?_; rw [hw1])
        | (go_at_call 106; refine hkp.out.mono ?_; rintro e w3 ⟨rfl, rfl⟩)
        | fail)
      go_ret
      exact ⟨by simp [ht], by first | exact BE.out | (rw [hg]; exact BE.out)⟩
end Go.Proofs.YtomioemhjhhbcaaGreatDoor

set_option linter.unusedVariables false
set_option linter.unusedSimpArgs false
namespace Go.Proofs.YtomioemhjhhbcaaGreatDoor
open Go.RowKit

/-- The bytes of a pending write. -/
def bV (g : Nat) : Value := .slice (some ⟨g, 0, none⟩) 512 512
theorem idx30 (g n cap m : Nat) (h : m < n) (W : World) : (Instr.indexAt 78 (.slice (some ⟨g, 0, none⟩) n cap) (.int .i64 (m : Int))).run Tryz.prog W = .ok (.pointer (some ⟨g, m * 2, none⟩)) W := by
  have hm : (m : Int) < (n : Int) := by omega
  go_simp
  try simp [add_plain]
theorem idx73 (g n m : Nat) (h : m < n) (W : World) : (Instr.indexAt 79 (.slice (some ⟨g, 0, none⟩) n n) (.int .i64 (m : Int))).run Tryz.prog W = .ok (.pointer (some ⟨g, m, none⟩)) W := by
  have hm : (m : Int) < (n : Int) := by omega
  go_simp
  try simp [add_plain]
theorem pen_len {w : World} {vp : Value} {m : Nat} {cs : List Value} (h : w.ownsRow 0 130 2 vp m cs) (W : World) (ty : TypeId) : (Builtin.len_ #[78] ty #[vp]).run Tryz.prog W = .ok (.int .i64 (m : Int)) W := by
  obtain ⟨h1, ⟨rfl, rfl⟩ | ⟨g, cap, cur, rfl, _⟩⟩ := h
  · go_simp
  · go_simp
/-- One pending write in its place. -/
theorem pen_item {w : World} {vp : Value} {gs : List Nat} {pen : List (Nat × List UInt8)} (h : w.ownsRow 0 130 2 vp pen.length (penC gs pen)) (k gb : Nat) (x : Nat × List UInt8) (h1 : gs[k]? = some gb) (h2 : pen[k]? = some x) :
    ∃ g, vp.ownBlock = some g ∧ (∀ W, (Instr.indexAt 78 vp (.int .i64 (k : Int))).run Tryz.prog W = .ok (.pointer (some ⟨g, k * 2, none⟩)) W) ∧ w.rangeAt g (k * 2) (pwC x.1 (bV gb)) := by
  have hk : k < pen.length := (List.getElem?_eq_some_iff.1 h2).1
  obtain ⟨h0, ⟨rfl, hn⟩ | ⟨g, cap, cur, rfl, hg, hh, hn, hc, hs, ht⟩⟩ := h
  · omega
  · refine ⟨g, rfl, fun W => idx30 g pen.length cap k hk W, fun j v hj => ?_⟩
    have hj2 : j < 2 := by have := (List.getElem?_eq_some_iff.1 hj).1; simpa [pwC] using this
    obtain ⟨p1, p2⟩ := penC_at gs pen k gb x h1 h2
    have hv : (penC gs pen)[k * 2 + j]? = some v := by
      match j, hj2, hj with
      | 0, _, hj => rw [Nat.add_zero, p1]; simpa [pwC] using hj
      | 1, _, hj => rw [p2]; simpa [pwC, bV] using hj
    rw [← ht, List.getElem?_take_of_lt (by omega)] at hv
    rw [Array.getElem?_toList] at hv
    simp [World.cell?, hh, hv]

/-- The newest ones while the pending writes are dropped. -/
def nwD (pen : List (Nat × List UInt8)) : Nat → Nat → Nat
  | 0, i => nw pen i
  | t + 1, i => if (pen.getD t (0, [])).1 = i then 0 else nwD pen t i
theorem nwR_zero : ∀ (l : List (Nat × List UInt8)) (i : Nat), (∀ x ∈ l, x.1 ≠ i) → nwR l i = 0
  | [], _, _ => rfl
  | x :: r, i, h => by
    rw [nwR, if_neg (h x (by simp))]
    exact nwR_zero r i (fun y hy => h y (by simp [hy]))
theorem nwD_le (pen : List (Nat × List UInt8)) (i : Nat) : ∀ t, nwD pen t i = 0 ∨ (nwD pen t i = nw pen i ∧ ∀ k, k < t → (pen.getD k (0, [])).1 ≠ i)
  | 0 => .inr ⟨rfl, fun k h => by omega⟩
  | t + 1 => by
    rw [nwD]
    split
    · exact .inl rfl
    · rename_i hne
      rcases nwD_le pen i t with h | ⟨h, hk⟩
      · exact .inl h
      · refine .inr ⟨h, fun k hkt => ?_⟩
        rcases Nat.lt_or_ge k t with h1 | h1
        · exact hk k h1
        · obtain rfl : k = t := by omega
          exact hne
theorem nwD_end (pen : List (Nat × List UInt8)) (i : Nat) : nwD pen pen.length i = 0 := by
  rcases nwD_le pen i pen.length with h | ⟨h, hk⟩
  · exact h
  · rw [h]
    refine nwR_zero _ _ fun x hx => ?_
    rw [List.mem_reverse] at hx
    obtain ⟨k, hkl, hkx⟩ := List.mem_iff_getElem.1 hx
    have := hk k hkl
    rw [List.getD_eq_getElem?_getD, List.getElem?_eq_getElem hkl] at this
    simpa [hkx] using this
theorem Blk.newAt {w : World} {g : Nat} {cs : List Value} {t : TypeId} (h : w.heap.size = g) : Blk (w.alloc (.cells cs.toArray t)) g cs t := by rw [← h]; exact Blk.new w cs t
theorem zero78 (w : World) : (zeroValue 130).run Tryz.prog w = .ok (.agg [Value.int .i64 0, .slice none 0 0].toArray) w := by kernel_rfl
theorem info78 (s : Nat) (v : Value) : (Tryz.prog.info? 130).map (·.size) = some (pwC s v).length := by kernel_rfl
theorem info78A (s : Nat) (v : Value) : (Tryz.prog.info? 130).map (·.size) = some (pwC s v).toArray.size := by kernel_rfl
theorem pwC_one (s g : Nat) : (pwC s (bV g)).toArray.all (·.oneCell') = true := all_oneCell_toArray fun v hv => by
  simp only [pwC, List.mem_cons, List.not_mem_nil, or_false] at hv
  rcases hv with rfl | rfl <;> rfl
set_option maxRecDepth 100000 in
set_option maxHeartbeats 2000000 in
theorem drop_any {w : World} {L : Lay} {D : Dv} (h : Dev w L D) : Calls Tryz.prog 87 #[.pointer (some ⟨L.p, 0, none⟩)] w fun e w' => e = .returned (.tuple #[]) ∧ Fx (fun k => k = L.gn ∨ k = L.p) w w' ∧
    Blk w' L.gn (nwC D.n (fun _ => 0)) 3 ∧ Blk w' L.p (dvC L.gi D.n (.slice none 0 0) L.gn D.left L.vk D.torn D.off D.down D.calls) 81 := by
  have H := hide h
  have hlen := pen_len h.pen
  have hc1 := h.c1
  have few := h.ok.few
  obtain ⟨m, hm⟩ : ∃ m, D.pen.length = m := ⟨_, rfl⟩
  rw [hm] at hlen few
  clear h
  go_enter Tryz.func87, Tryz.ntmps87
  go_wp2
  go_loopw [9] (fun i wr => ∃ t : Nat, t ≤ m ∧ i = .int .i64 t ∧ Hid (Fx (One L.gn) w wr ∧ Blk wr L.gn (nwC D.n (nwD D.pen t)) 3)) (fun i _ => m - (intOf i).toNat)
  case atStart => exact ⟨0, by omega, rfl, hide ⟨Fx.refl _ _, H.out.new⟩⟩
  case round =>
    obtain ⟨t, ht, rfl, hs⟩ := hrel
    by_cases hlt : t < m
    · have hlz : (t : Int) < (m : Int) := by omega
      obtain ⟨x, hx⟩ : ∃ x, D.pen[t]? = some x := ⟨D.pen[t]'(by omega), List.getElem?_eq_getElem _⟩
      obtain ⟨gb, hgb⟩ : ∃ g, L.gs[t]? = some g := ⟨L.gs[t]'(by rw [H.out.gsl]; omega), List.getElem?_eq_getElem _⟩
      obtain ⟨g, hgo, hix, hrg⟩ := pen_item H.out.pen t gb x hgb hx
      obtain ⟨n1, n2, n3, _, _⟩ := H.out.vpn g hgo
      have hsec := (H.out.ok.sec x (List.mem_of_getElem? hx)).1
      have RG : Hid (wr.rangeAt g (t * 2) (pwC x.1 (bV gb))) := hide (fun j v hj => hs.out.1.cell (hrg j v hj) (fun e => n3 e))
      have hget : (D.pen.getD t (0, [])).1 = x.1 := by rw [List.getD_eq_getElem?_getD, hx]; rfl
      obtain ⟨gw, hgw⟩ : ∃ gw, wr.heap.size = gw := ⟨_, rfl⟩
      go_upto_region 3 with (first
        | (refine wpList_load_mid rfl 130 (.tmp 11) rfl g (t * 2) rfl (pwC x.1 (bV gb)) _ RG.out Tryz.underlying130 rfl (info78 _ _) ?_)
        | (refine wpList_newAt rfl 130 rfl _ zero78 gw hgw ?_)
        | (refine wpList_store_row rfl 130 (.tmp 3) (.tmp 12) rfl gw (pwC x.1 (bV gb)).toArray rfl rfl 130 _ (Blk.newAt hgw) (info78A _ _) rfl (pwC_one _ _) ?_))
      have be1 : Below wr.heap.size wr ((wr.alloc (.cells [Value.int .i64 0, .slice none 0 0].toArray 130)).setRow gw (pwC x.1 (bV gb)).toArray) := below_setRow (below_new wr _) _ _ (by omega)
      have bw : Blk ((wr.alloc (.cells [Value.int .i64 0, .slice none 0 0].toArray 130)).setRow gw (pwC x.1 (bV gb)).toArray) gw (pwC x.1 (bV gb)) 130 := (Blk.newAt hgw).setRow _
      generalize (wr.alloc (.cells [Value.int .i64 0, .slice none 0 0].toArray 130)).setRow gw (pwC x.1 (bV gb)).toArray = w1 at be1 bw ⊢
      have hf1 : Fx (One L.gn) w w1 := hs.out.1.then_below be1
      have hn1 : Blk w1 L.gn (nwC D.n (nwD D.pen t)) 3 := hs.out.2.on be1
      have HC2 : ∀ W, Below w1.heap.size w1 W → W.cell? ⟨L.p, 2, none⟩ = some (.slice (some ⟨L.gn, 0, none⟩) D.n D.n) := fun W hW => (hf1.then_below hW).cell H.out.c2 (fun e => H.out.pn e)
      have HS2 : ∀ W, Below w1.heap.size w1 W → W.cell? ⟨gw, 0, none⟩ = some (.int .i64 (x.1 : Int)) := fun W hW => ((bw.on hW).cell 0).trans rfl
      refine reg_rest 6 2 (by kernel_rfl) rfl (by kernel_rfl) ?_
      simp only [List.take_succ_cons, List.take_zero]
      refine wpLex_cons2 _ (uni_val (by rfl) (Op.move (Operand.tmp 0)) rfl (.pointer (some ⟨L.p, 0, none⟩)) (fun o' ho W hW => by go_simp)) (by simp only [Act.put, List.setIfInBounds_toArray, List.set_cons_zero, List.set_cons_succ]; rfl) ?_
      refine wpLex_cons2 _ (uni_val (by rfl) (Op.nilCheck (Operand.tmp 13)) rfl (.pointer (some ⟨L.p, 0, none⟩)) (fun o' ho W hW => by go_simp)) (by simp only [Act.put, List.setIfInBounds_toArray, List.set_cons_zero, List.set_cons_succ]; rfl) ?_
      refine wpLex_cons2 _ (uni_val (by rfl) (Op.fieldAddr 81 (Operand.tmp 14) 2) rfl (.pointer (some ⟨L.p, 2, none⟩)) (fun o' ho W hW => by go_simp)) (by simp only [Act.put, List.setIfInBounds_toArray, List.set_cons_zero, List.set_cons_succ]; rfl) ?_
      refine wpLex_cons2 _ (uni_val (by rfl) (Op.load 79 (Operand.tmp 15)) rfl (.slice (some ⟨L.gn, 0, none⟩) D.n D.n) (fun o' ho W hW => by have hc := HC2 W hW; go_simp)) (by simp only [Act.put, List.setIfInBounds_toArray, List.set_cons_zero, List.set_cons_succ]; rfl) ?_
      refine wpLex_cons2 _ (uni_val (by rfl) (Op.fieldAddr 130 (Operand.tmp 3) 0) rfl (.pointer (some ⟨gw, 0, none⟩)) (fun o' ho W hW => by go_simp)) (by simp only [Act.put, List.setIfInBounds_toArray, List.set_cons_zero, List.set_cons_succ]; rfl) ?_
      refine wpLex_cons2 _ (uni_val (by rfl) (Op.load 3 (Operand.tmp 17)) rfl (.int .i64 (x.1 : Int)) (fun o' ho W hW => by have hc := HS2 W hW; go_simp)) (by simp only [Act.put, List.setIfInBounds_toArray, List.set_cons_zero, List.set_cons_succ]; rfl) ?_
      intro W hW
      simp only [List.drop_succ_cons, List.drop_zero]
      have hixn := fun W => idx73 L.gn D.n x.1 hsec W
      have hnW := hn1.on hW
      have hfz := hnW.frozen x.1
      have hold := (hnW.cell x.1).trans (nwC_at D.n _ x.1 hsec)
      have FW : Fx (One L.gn) w W := hf1.then_below hW
      clear hW HC2 HS2 hn1 hf1 be1 bw hs RG hrg
      go_wp2
      go_roundw
      case rel =>
        refine ⟨t + 1, by omega, by go_num, hide ⟨FW.and (Fx.setCell _ _ _ _ rfl), ?_⟩⟩
        have := hnW.set x.1 (.int .i64 ((0 : Nat) : Int))
        rw [nwC_set] at this
        rw [show nwD D.pen (t + 1) = fun j => if x.1 = j then 0 else nwD D.pen t j from funext fun j => by rw [nwD, hget]]
        exact this
      case measure => simp [intOf]; omega
    · obtain rfl : t = m := by omega
      have hP : Blk wr L.p (dvC L.gi D.n L.vp L.gn D.left L.vk D.torn D.off D.down D.calls) 81 := H.out.dev.fx hs.out.1 (fun e => H.out.pn e)
      have hfz := hP.frozen 1
      have hold := (hP.cell 1).trans (show (dvC L.gi D.n L.vp L.gn D.left L.vk D.torn D.off D.down D.calls)[1]? = some L.vp from rfl)
      go_wp2
      go_end0
      refine ⟨rfl, (hs.out.1.mono (fun i _ h => .inl h)).and (Fx.setCell _ _ _ _ (.inr rfl)), ?_, hP.set 1 _⟩
      have := hs.out.2
      rw [nwC_congr D.n (nwD D.pen t) (fun _ => 0) (fun i _ => by rw [← hm]; exact nwD_end D.pen i)] at this
      exact this.setOther _ _ _ (Ne.symm H.out.pn)
end Go.Proofs.YtomioemhjhhbcaaGreatDoor
