import Derived.Test.YtmbgeojjklboeaaGreatDoorNwG
set_option linter.unusedVariables false
set_option linter.unusedSimpArgs false
namespace Go.Proofs.YtmbgeojjklboeaaGreatDoor
open Go.RowKit

/-- The image's bytes of a sector. -/
def secV (gi n i : Nat) : Value := .slice (some ⟨gi, i * 512, none⟩) 512 (n * 512 - i * 512)
theorem run_sec (gi n i : Nat) (hi : i < n) (W : World) : (Instr.slice 49 (.slice (some ⟨gi, 0, none⟩) (n * 512) (n * 512)) (some (.int .i64 ((i * 512 : Nat) : Int))) (some (.int .i64 (((i + 1) * 512 : Nat) : Int))) none).run Tryz.prog W = .ok (secV gi n i) W := by
  have ht : Tryz.prog.underlying 49 = some (.slice (Tryz.prog.elem 49)) := by rw [elem37]; exact Tryz.underlying49
  rw [run_slice_lh W 49 _ _ _ ht .i64 .i64 ((i * 512 : Nat) : Int) (((i + 1) * 512 : Nat) : Int) (by omega) (by omega) (by omega), elem37, size5]
  simp only [Result.andThen, sliced, Int.toNat_natCast, Nat.mul_one, secV]
  rw [if_neg (by omega), show (i + 1) * 512 - i * 512 = 512 by omega]
  simp only [Option.map_some]
  unfold Addr.add
  by_cases h0 : i = 0
  · subst h0; simp
  · rw [if_neg (by omega)]; simp

theorem durable_any {w : World} {L : Lay} {n : Nat} (hc : w.cell? ⟨L.p, 0, none⟩ = some (.slice (some ⟨L.gi, 0, none⟩) (n * 512) (n * 512))) (i : Nat) (hi : i < n) (hn : n ≤ 4096) : Calls Tryz.prog 78 #[.pointer (some ⟨L.p, 0, none⟩), .int .i64 (i : Int)] w fun e w' => e = .returned (secV L.gi n i) ∧ w' = w := by
  have hs := fun W => run_sec L.gi n i hi W
  have e1 : wrap64 ((i : Int) * 512) = ((i * 512 : Nat) : Int) := by rw [IntWalk.wrap64_in _ (by omega)]; simp
  have e2 : (i : Int) * 512 = ((i * 512 : Nat) : Int) := by simp
  have e3 : wrap64 (((i : Int) + 1) * 512) = (((i + 1) * 512 : Nat) : Int) := by rw [IntWalk.wrap64_in _ (by omega)]; simp
  have e4 : ((i : Int) + 1) * 512 = (((i + 1) * 512 : Nat) : Int) := by simp
  have e5 : wrap64 ((i : Int) + 1) = (i : Int) + 1 := IntWalk.wrap64_in _ (by omega)
  obtain ⟨A, hA⟩ : ∃ A, i * 512 = A := ⟨_, rfl⟩
  obtain ⟨B, hB⟩ : ∃ B, (i + 1) * 512 = B := ⟨_, rfl⟩
  obtain ⟨N, hN⟩ : ∃ N, n * 512 = N := ⟨_, rfl⟩
  obtain ⟨V, hV⟩ : ∃ V, secV L.gi n i = V := ⟨_, rfl⟩
  rw [hA, hB, hN, hV] at hs
  rw [hN] at hc
  rw [hA] at e1 e2
  rw [hB] at e3 e4
  rw [hV]
  clear hA hB hN hV
  go_enter Tryz.func78, Tryz.ntmps78
  go_wp2
  go_ret
  exact ⟨rfl, rfl⟩
/-- The first m bytes of a write go to the image. -/
def settleL (img : List UInt8) (s m : Nat) (b : List UInt8) : List UInt8 := img.take (s * 512) ++ b.take m ++ img.drop (s * 512 + m)
theorem settle_length (img : List UInt8) (s m n : Nat) (b : List UInt8) (hl : img.length = n * 512) (hs : s < n) (hm : m ≤ 512) (hb : b.length = 512) : (settleL img s m b).length = img.length := by
  simp only [settleL, List.length_append, List.length_take, List.length_drop, hl, hb]
  omega

theorem add_off (g o j : Nat) : (⟨g, o, none⟩ : Addr).add j = ⟨g, o + j, none⟩ := by
  unfold Addr.add; split <;> simp_all
/-- The cells of one pending write. -/
def pwC (s : Nat) (vb : Value) : List Value := [.int .i64 (s : Int), vb]
/-- 'copy(x[o:o + n], b)', x a block of bytes. -/
theorem wpList_cp {ops : Array Oper} {rest : List Oper} {o : Oper} {a : Act} {w : World} {Q : Exit → Act → World → Prop} (hgd : o.guard = none) (d x : Operand)
    (ho : o.op = .call { callee := .builtin .copy, args := #[d, x], argTypes := #[49, 49] }) (p off n c : Nat) (hd : a.eval d = .slice (some ⟨p, off, none⟩) n c)
    (v : Value) (bs : List UInt8) (hx : a.eval x = v) (hv : Has w v bs) (L : List UInt8) (hB : Blk w p (L.map byt) 5) (hon : off + n ≤ L.length)
    (h : ∀ (q : Int) w', Blk w' p ((L.take off ++ bs.take n ++ L.drop (off + (bs.take n).length)).map byt) 5 → Fx (One p) w w' → wpList Tryz.prog ops Q rest (a.put o.dst (.int .i64 q)) w') : wpList Tryz.prog ops Q (o :: rest) a w := by
  have hl : (bs.take n).length = min n bs.length := List.length_take
  rcases hv with ⟨rfl, rfl⟩ | ⟨ad, cap, rfl, h2, h3⟩
  · have hrun := run_copy_none (P := Tryz.prog) w 49 49 o.type 5 (some ⟨p, off, none⟩) none n c 0 0 Tryz.underlying49 info5s (by simp)
    refine wpList_plain hgd fun K hK => ?_
    unfold Oper.wp
    simp [execOp, ho, resolve, invoke, builtin, hd, hx, hrun, Result.andThen]
    refine hK _ _ ?_
    exact h 0 w (by simpa using hB) (Fx.refl _ _)
  · have hrun := run_copy_cells (P := Tryz.prog) w 49 49 o.type 5 p off n c ad bs.length cap ((bs.take n).map byt) Tryz.underlying49 info5s (by rw [List.length_map, hl]; exact Nat.min_comm _ _)
      (fun j v hj => by
        rw [List.getElem?_map, Option.map_eq_some_iff] at hj
        obtain ⟨u, hu, rfl⟩ := hj
        have hjq : j < (bs.take n).length := (List.getElem?_eq_some_iff.1 hu).1
        rw [List.getElem?_take_of_lt (by omega)] at hu
        exact h3 j u hu)
      (fun j hj => by
        rw [List.length_map] at hj
        rw [hB.cell, List.getElem?_eq_getElem (by rw [List.length_map]; omega)]; rfl) (fun j _ => hB.frozen _) (byt_one _)
    refine wpList_plain hgd fun K hK => ?_
    unfold Oper.wp
    rw [List.length_map] at hrun
    have hb := Blk.setCells ((bs.take n).map byt) off w (L.map byt) hB (by rw [List.length_map, List.length_map]; omega)
    have hfin := h ((bs.take n).length : Int) (w.setCells p off ((bs.take n).map byt)) (by
      rw [List.length_map] at hb
      rw [List.map_append, List.map_append, List.map_drop, show (L.take off).map byt = (L.map byt).take off from List.map_take]
      exact hb) (Fx.setCells (S := One p) p rfl _ _ _)
    generalize w.setCells p off ((bs.take n).map byt) = w' at hrun hfin
    simp [execOp, ho, resolve, invoke, builtin, hd, hx, hrun, Result.andThen]
    exact hK _ _ (by simpa [goInt, hl] using hfin)

set_option maxRecDepth 100000 in
set_option maxHeartbeats 1000000 in
theorem settle_any {w : World} {L : Lay} {n : Nat} {img : List UInt8} (hc : w.cell? ⟨L.p, 0, none⟩ = some (.slice (some ⟨L.gi, 0, none⟩) (n * 512) (n * 512))) (hI : Blk w L.gi (img.map byt) 5) (hl : img.length = n * 512) (hn : n ≤ 4096)
    (s m : Nat) (hs : s < n) (hm : m ≤ 512) (vb : Value) (b : List UInt8) (hb : b.length = 512) (hv : Has w vb b) :
    Calls Tryz.prog 88 #[.pointer (some ⟨L.p, 0, none⟩), .agg (pwC s vb).toArray, .int .i64 (m : Int)] w fun e w' => e = .returned (.tuple #[]) ∧ Fx (One L.gi) w w' ∧ Blk w' L.gi ((settleL img s m b).map byt) 5 := by
  have HC := hide hc
  have HI := hide hI
  have HV := hide hv
  have plt := cell_lt hc
  clear hc hI hv
  go_enter Tryz.func88, Tryz.ntmps88
  go_upto_region 1 with (refine wpList_boxAt rfl 121 (.tmp 1) rfl (pwC s vb) rfl w.heap.size rfl ?_)
  have b0 : Blk (w.alloc (.cells (pwC s vb).toArray 121)) w.heap.size (pwC s vb) 121 := Blk.new w _ _
  have be : Below w.heap.size w (w.alloc (.cells (pwC s vb).toArray 121)) := below_new w _
  generalize w.alloc (.cells (pwC s vb).toArray 121) = w1 at b0 be ⊢
  obtain ⟨g, hg⟩ : ∃ g, w.heap.size = g := ⟨_, rfl⟩
  rw [hg] at b0 be
  have HCW : ∀ W, Below w1.heap.size w1 W → W.cell? ⟨L.p, 0, none⟩ = some (.slice (some ⟨L.gi, 0, none⟩) (n * 512) (n * 512)) := fun W hW => (hW.cell (Nat.lt_of_lt_of_le plt be.size)).trans ((be.cell (by rw [← hg]; exact plt)).trans HC.out)
  have HVW : ∀ W, Below w1.heap.size w1 W → Has W vb b := fun W hW => HV.out.below (by rw [hg]; exact be.trans (hW.mono (by have := be.size; omega)))
  have R0 : ∀ W, Below w1.heap.size w1 W → W.cell? ⟨g, 0, none⟩ = some (.int .i64 (s : Int)) := fun W hW => ((b0.on hW).cell 0).trans rfl
  have R1 : ∀ W, Below w1.heap.size w1 W → W.cell? ⟨g, 1, none⟩ = some vb := fun W hW => ((b0.on hW).cell 1).trans rfl
  refine reg_rest 8 1 (by kernel_rfl) rfl (by kernel_rfl) ?_
  simp only [List.take_succ_cons, List.take_zero]
  refine wpLex_cons2 _ (uni_val (by rfl) (Op.move (Operand.tmp 0)) rfl (.pointer (some ⟨L.p, 0, none⟩)) (fun o' ho W hW => by go_simp)) (by simp only [Act.put, List.setIfInBounds_toArray, List.set_cons_zero, List.set_cons_succ]; rfl) ?_; refine wpLex_cons2 _ (uni_val (by rfl) (Op.fieldAddr 121 (Operand.tmp 4) 0) rfl (.pointer (some ⟨g, 0, none⟩)) (fun o' ho W hW => by go_simp)) (by simp only [Act.put, List.setIfInBounds_toArray, List.set_cons_zero, List.set_cons_succ]; rfl) ?_; refine wpLex_cons2 _ (uni_val (by rfl) (Op.load 3 (Operand.tmp 7)) rfl (.int .i64 (s : Int)) (fun o' ho W hW => by have hc := R0 W hW; go_simp)) (by simp only [Act.put, List.setIfInBounds_toArray, List.set_cons_zero, List.set_cons_succ]; rfl) ?_; refine wpLex_cons2 _ (uni_callF (by rfl) 78 [Operand.tmp 6, Operand.tmp 8] #[36, 3] rfl [.pointer (some ⟨L.p, 0, none⟩), .int .i64 (s : Int)] (secV L.gi n s) rfl enter78 (fun W hW => (durable_any (HCW W hW) s hs hn).mono (fun e w' h => ⟨h.1, by rw [h.2]; exact Below.refl _ _⟩))) (by simp only [Act.put, List.setIfInBounds_toArray, List.set_cons_zero, List.set_cons_succ]; rfl) ?_; refine wpLex_cons2 _ (uni_val (by rfl) (Op.fieldAddr 121 (Operand.tmp 4) 1) rfl (.pointer (some ⟨g, 1, none⟩)) (fun o' ho W hW => by go_simp)) (by simp only [Act.put, List.setIfInBounds_toArray, List.set_cons_zero, List.set_cons_succ]; rfl) ?_; refine wpLex_cons2 _ (uni_val (by rfl) (Op.load 49 (Operand.tmp 10)) rfl (vb) (fun o' ho W hW => by have hc := R1 W hW; go_simp)) (by simp only [Act.put, List.setIfInBounds_toArray, List.set_cons_zero, List.set_cons_succ]; rfl) ?_; refine wpLex_cons2 _ (uni_val (by rfl) (Op.move (Operand.tmp 2)) rfl (.int .i64 (m : Int)) (fun o' ho W hW => by go_simp)) (by simp only [Act.put, List.setIfInBounds_toArray, List.set_cons_zero, List.set_cons_succ]; rfl) ?_; refine wpLex_cons2 _ (uni_val (by rfl) (Op.slice 49 (Operand.tmp 11) none (some (Operand.tmp 12)) none) rfl (cutV vb 0 m) (fun o' ho W hW => by have hq := (HVW W hW).cutH m (by omega) W; go_simp)) (by simp only [Act.put, List.setIfInBounds_toArray, List.set_cons_zero, List.set_cons_succ]; rfl) ?_
  intro W hW
  simp only [List.drop_succ_cons, List.drop_zero]
  have hI : Blk W L.gi (img.map byt) 5 := (HI.out.below be (by rw [← hg]; exact HI.out.lt)).on hW
  have hcut := (HVW W hW).cut 0 m (by omega) (by omega)
  simp only [List.drop_zero, Nat.sub_zero] at hcut
  have hgi : L.gi < w.heap.size := HI.out.lt
  have bw : Below w.heap.size w W := by rw [hg]; exact be.trans (hW.mono (by have := be.size; omega))
  refine wpList_cp rfl (.tmp 9) (.tmp 13) rfl L.gi (s * 512) 512 _ rfl _ (b.take m) rfl hcut img hI (by omega) (fun q W2 hB hF => ?_); refine wpList_nil ?_; refine bodyPost_end (results_none Tryz.results88 _ _ _) rfl ?_; refine ⟨rfl, (Fx.of_below bw).and (hF.mono (fun i _ h => h)), ?_⟩
  have e1 : (b.take m).take 512 = b.take m := List.take_of_length_le (by simp; omega)
  have e2 : (b.take m).length = m := by simp; omega
  rw [e1, e2] at hB
  exact hB
end Go.Proofs.YtmbgeojjklboeaaGreatDoor

set_option linter.unusedVariables false
set_option linter.unusedSimpArgs false
namespace Go.Proofs.YtmbgeojjklboeaaGreatDoor
open Go.RowKit

/-- Is bit k set? -/
def keptB (ks : List (BitVec 64)) (k : Nat) : Bool := decide (k / 64 < ks.length) && decide (wn ((ks.getD (k / 64) 0 >>> (k % 64)) &&& 1#64) = 1)
theorem idx36 (ad : Addr) (n cap m : Nat) (h : m < n) (W : World) : (Instr.indexAt 61 (.slice (some ad) n cap) (.int .i64 (m : Int))).run Tryz.prog W = .ok (.pointer (some (ad.add m))) W := by
  have hm : (m : Int) < (n : Int) := by omega
  go_simp
  try simp
theorem wand1 (x : BitVec 64) : bits .and .u64 (wn x) (1 : Int) = wn (x &&& 1#64) := wand x 1#64

theorem kept_any (v : Value) (ks : List (BitVec 64)) (k : Nat) (hk : k < 1000000000000) (w : World) (hv : Has64 w v ks) :
    Calls Tryz.prog 108 #[v, .int .i64 (k : Int)] w fun e w' => e = .returned (.bool (keptB ks k)) ∧ w' = w := by
  have hlen := hv.len
  have q1 : (k : Int) / 64 = ((k / 64 : Nat) : Int) := by omega
  have q2 : (k : Int) % 64 = ((k % 64 : Nat) : Int) := by omega
  have q3 : k % 64 < 64 := Nat.mod_lt _ (by decide)
  have q4 : k / 64 < 1000000000000 := by omega
  obtain ⟨K, hK⟩ : ∃ K, keptB ks k = K := ⟨_, rfl⟩
  have hK2 := hK
  unfold keptB at hK2
  rw [hK]
  clear hK
  obtain ⟨q, hq⟩ : ∃ q, k / 64 = q := ⟨_, rfl⟩
  obtain ⟨r, hr⟩ : ∃ r, k % 64 = r := ⟨_, rfl⟩
  rw [hq] at q1 hK2 q4
  rw [hr] at q2 hK2 q3
  clear hq hr
  by_cases h1 : q < ks.length
  · have h1z : (q : Int) < (ks.length : Int) := by omega
    rcases hv with ⟨rfl, rfl⟩ | ⟨ad, cap, rfl, h2, h3⟩
    · simp at h1
    · obtain ⟨u, hu⟩ : ∃ u, ks.getD q 0 = u := ⟨_, rfl⟩
      have hcell := h3 q u (by rw [← hu, List.getD_eq_getElem?_getD, List.getElem?_eq_getElem h1]; rfl)
      unfold wv at hcell
      have hix := fun W => idx36 ad ks.length cap q h1 W
      rw [hu, decide_eq_true h1, Bool.true_and] at hK2
      have s1 := wshr u r
      have s2 := wand1 (u >>> r)
      obtain ⟨X, hX⟩ : ∃ X, wn (u >>> r &&& 1#64) = X := ⟨_, rfl⟩
      rw [hX] at s2 hK2
      have s3 := wn_nonneg u
      have HK := hide hK2
      clear h3 hu hX hK2
      go_enter Tryz.func108, Tryz.ntmps108
      go_wp2
      go_ret
      refine ⟨?_, rfl⟩
      rw [← HK.out]
      rfl
  · have h1z : ¬ (q : Int) < (ks.length : Int) := by omega
    have hKf : K = false := by rw [← hK2, decide_eq_false h1, Bool.false_and]
    clear hK2
    subst hKf
    go_enter Tryz.func108, Tryz.ntmps108
    go_wp2
    go_ret
    exact ⟨rfl, rfl⟩
/-- How many of its first bytes a loss leaves of write number k. -/
def survN (ks : List (BitVec 64)) (torn off : Int) (k : Nat) : Nat := if keptB ks k then 512 else if (k : Int) = torn then (min (max off 0) 512).toNat else 0
theorem surv_le (ks : List (BitVec 64)) (torn off : Int) (k : Nat) : survN ks torn off k ≤ 512 := by
  unfold survN
  split
  · omega
  · split <;> omega
/-- The cells of a loss. -/
def lossC (vk : Value) (torn off : Int) : List Value := [vk, .int .i64 torn, .int .i64 off]
set_option maxRecDepth 100000 in
set_option maxHeartbeats 2000000 in
theorem surviving_any (v : Value) (ks : List (BitVec 64)) (torn off : Int) (k : Nat) (hk : k < 1000000000000) (w : World) (hv : Has64 w v ks) :
    Calls Tryz.prog 106 #[.agg (lossC v torn off).toArray, .int .i64 (k : Int)] w fun e w' => e = .returned (.int .i64 (survN ks torn off k : Int)) ∧ Below w.heap.size w w' := by
  have b0 : Blk (w.alloc (.cells (lossC v torn off).toArray 63)) w.heap.size (lossC v torn off) 63 := Blk.new w _ _
  have be : Below w.heap.size w (w.alloc (.cells (lossC v torn off).toArray 63)) := below_new w _
  have hkp := hide (kept_any v ks k hk (w.alloc (.cells (lossC v torn off).toArray 63)) (hv.fx (Fx.of_below (S := fun _ => False) be) (fun _ _ h => h)))
  clear hv
  unfold survN
  obtain ⟨K, hK⟩ : ∃ K, keptB ks k = K := ⟨_, rfl⟩
  rw [hK] at hkp ⊢
  clear hK
  have r0 := (b0.cell 0).trans (show (lossC v torn off)[0]? = some v from rfl)
  have r1 := (b0.cell 1).trans (show (lossC v torn off)[1]? = some (.int .i64 torn) from rfl)
  have r2 := (b0.cell 2).trans (show (lossC v torn off)[2]? = some (.int .i64 off) from rfl)
  clear b0
  obtain ⟨g, hg⟩ : ∃ g, w.heap.size = g := ⟨_, rfl⟩
  obtain ⟨w1, hw1⟩ : ∃ w1, w.alloc (.cells (lossC v torn off).toArray 63) = w1 := ⟨_, rfl⟩
  rw [hg, hw1] at r0 r1 r2 be
  rw [hw1] at hkp
  have BE := hide be
  clear be
  cases K with
  | true =>
    go_enter Tryz.func106, Tryz.ntmps106
    go_wp2_with (first
      | (refine wpList_boxAt rfl 63 (.tmp 0) rfl (lossC v torn off) rfl g hg ?_; rw [hw1])
      | (go_at_call 108; refine hkp.out.mono ?_; rintro e w3 ⟨rfl, rfl⟩)
      | fail)
    go_ret
    exact ⟨by simp, by first | exact BE.out | (rw [hg]; exact BE.out)⟩
  | false =>
    by_cases ht : (k : Int) = torn
    · subst ht
      by_cases o1 : off < 0
      · skip
        have hM : (((if (false : Bool) = true then 512 else if (k : Int) = (k : Int) then (min (max off 0) 512).toNat else 0 : Nat) : Nat) : Int) = 0 := by rw [if_neg (by decide), if_pos rfl]; omega
        rw [hM]
        clear hM
        go_enter Tryz.func106, Tryz.ntmps106
        go_wp2_with (first
          | (refine wpList_boxAt rfl 63 (.tmp 0) rfl (lossC v _ off) rfl g hg ?_; rw [hw1])
          | (go_at_call 108; refine hkp.out.mono ?_; rintro e w3 ⟨rfl, rfl⟩)
          | fail)
        go_ret
        exact ⟨by first | rfl | simp, by first | exact BE.out | (rw [hg]; exact BE.out)⟩
      · by_cases o2 : 512 < off
        · skip
          have hM : (((if (false : Bool) = true then 512 else if (k : Int) = (k : Int) then (min (max off 0) 512).toNat else 0 : Nat) : Nat) : Int) = 512 := by rw [if_neg (by decide), if_pos rfl]; omega
          rw [hM]
          clear hM
          go_enter Tryz.func106, Tryz.ntmps106
          go_wp2_with (first
            | (refine wpList_boxAt rfl 63 (.tmp 0) rfl (lossC v _ off) rfl g hg ?_; rw [hw1])
            | (go_at_call 108; refine hkp.out.mono ?_; rintro e w3 ⟨rfl, rfl⟩)
            | fail)
          go_ret
          exact ⟨by first | rfl | simp, by first | exact BE.out | (rw [hg]; exact BE.out)⟩
        · skip
          have hM : (((if (false : Bool) = true then 512 else if (k : Int) = (k : Int) then (min (max off 0) 512).toNat else 0 : Nat) : Nat) : Int) = off := by rw [if_neg (by decide), if_pos rfl]; omega
          rw [hM]
          clear hM
          go_enter Tryz.func106, Tryz.ntmps106
          go_wp2_with (first
            | (refine wpList_boxAt rfl 63 (.tmp 0) rfl (lossC v _ off) rfl g hg ?_; rw [hw1])
            | (go_at_call 108; refine hkp.out.mono ?_; rintro e w3 ⟨rfl, rfl⟩)
            | fail)
          go_ret
          exact ⟨by first | rfl | simp, by first | exact BE.out | (rw [hg]; exact BE.out)⟩
    · go_enter Tryz.func106, Tryz.ntmps106
      go_wp2_with (first
        | (refine wpList_boxAt rfl 63 (.tmp 0) rfl (lossC v torn off) rfl g hg ?_; rw [hw1])
        | (go_at_call 108; refine hkp.out.mono ?_; rintro e w3 ⟨rfl, rfl⟩)
        | fail)
      go_ret
      exact ⟨by simp [ht], by first | exact BE.out | (rw [hg]; exact BE.out)⟩
end Go.Proofs.YtmbgeojjklboeaaGreatDoor

set_option linter.unusedVariables false
set_option linter.unusedSimpArgs false
namespace Go.Proofs.YtmbgeojjklboeaaGreatDoor
open Go.RowKit

/-- The bytes of a pending write. -/
def bV (g : Nat) : Value := .slice (some ⟨g, 0, none⟩) 512 512
theorem idx30 (g n cap m : Nat) (h : m < n) (W : World) : (Instr.indexAt 89 (.slice (some ⟨g, 0, none⟩) n cap) (.int .i64 (m : Int))).run Tryz.prog W = .ok (.pointer (some ⟨g, m * 2, none⟩)) W := by
  have hm : (m : Int) < (n : Int) := by omega
  go_simp
  try simp [add_plain]
theorem idx73 (g n m : Nat) (h : m < n) (W : World) : (Instr.indexAt 100 (.slice (some ⟨g, 0, none⟩) n n) (.int .i64 (m : Int))).run Tryz.prog W = .ok (.pointer (some ⟨g, m, none⟩)) W := by
  have hm : (m : Int) < (n : Int) := by omega
  go_simp
  try simp [add_plain]
theorem pen_len {w : World} {vp : Value} {m : Nat} {cs : List Value} (h : w.ownsRow 0 121 2 vp m cs) (W : World) (ty : TypeId) : (Builtin.len_ #[89] ty #[vp]).run Tryz.prog W = .ok (.int .i64 (m : Int)) W := by
  obtain ⟨h1, ⟨rfl, rfl⟩ | ⟨g, cap, cur, rfl, _⟩⟩ := h
  · go_simp
  · go_simp
/-- One pending write in its place. -/
theorem pen_item {w : World} {vp : Value} {gs : List Nat} {pen : List (Nat × List UInt8)} (h : w.ownsRow 0 121 2 vp pen.length (penC gs pen)) (k gb : Nat) (x : Nat × List UInt8) (h1 : gs[k]? = some gb) (h2 : pen[k]? = some x) :
    ∃ g, vp.ownBlock = some g ∧ (∀ W, (Instr.indexAt 89 vp (.int .i64 (k : Int))).run Tryz.prog W = .ok (.pointer (some ⟨g, k * 2, none⟩)) W) ∧ w.rangeAt g (k * 2) (pwC x.1 (bV gb)) := by
  have hk : k < pen.length := (List.getElem?_eq_some_iff.1 h2).1
  obtain ⟨h0, ⟨rfl, hn⟩ | ⟨g, cap, cur, rfl, hg, hh, hn, hc, hs, ht⟩⟩ := h
  · omega
  · refine ⟨g, rfl, fun W => idx30 g pen.length cap k hk W, fun j v hj => ?_⟩
    have hj2 : j < 2 := by have := (List.getElem?_eq_some_iff.1 hj).1; simpa [pwC] using this
    obtain ⟨p1, p2⟩ := penC_at gs pen k gb x h1 h2
    have hv : (penC gs pen)[k * 2 + j]? = some v := by
      match j, hj2, hj with
      | 0, _, hj => rw [Nat.add_zero, p1]; simpa [pwC] using hj
      | 1, _, hj => rw [p2]; simpa [pwC, bV] using hj
    rw [← ht, List.getElem?_take_of_lt (by omega)] at hv
    rw [Array.getElem?_toList] at hv
    simp [World.cell?, hh, hv]

/-- The newest ones while the pending writes are dropped. -/
def nwD (pen : List (Nat × List UInt8)) : Nat → Nat → Nat
  | 0, i => nw pen i
  | t + 1, i => if (pen.getD t (0, [])).1 = i then 0 else nwD pen t i
theorem nwR_zero : ∀ (l : List (Nat × List UInt8)) (i : Nat), (∀ x ∈ l, x.1 ≠ i) → nwR l i = 0
  | [], _, _ => rfl
  | x :: r, i, h => by
    rw [nwR, if_neg (h x (by simp))]
    exact nwR_zero r i (fun y hy => h y (by simp [hy]))
theorem nwD_le (pen : List (Nat × List UInt8)) (i : Nat) : ∀ t, nwD pen t i = 0 ∨ (nwD pen t i = nw pen i ∧ ∀ k, k < t → (pen.getD k (0, [])).1 ≠ i)
  | 0 => .inr ⟨rfl, fun k h => by omega⟩
  | t + 1 => by
    rw [nwD]
    split
    · exact .inl rfl
    · rename_i hne
      rcases nwD_le pen i t with h | ⟨h, hk⟩
      · exact .inl h
      · refine .inr ⟨h, fun k hkt => ?_⟩
        rcases Nat.lt_or_ge k t with h1 | h1
        · exact hk k h1
        · obtain rfl : k = t := by omega
          exact hne
theorem nwD_end (pen : List (Nat × List UInt8)) (i : Nat) : nwD pen pen.length i = 0 := by
  rcases nwD_le pen i pen.length with h | ⟨h, hk⟩
  · exact h
  · rw [h]
    refine nwR_zero _ _ fun x hx => ?_
    rw [List.mem_reverse] at hx
    obtain ⟨k, hkl, hkx⟩ := List.mem_iff_getElem.1 hx
    have := hk k hkl
    rw [List.getD_eq_getElem?_getD, List.getElem?_eq_getElem hkl] at this
    simpa [hkx] using this
theorem Blk.newAt {w : World} {g : Nat} {cs : List Value} {t : TypeId} (h : w.heap.size = g) : Blk (w.alloc (.cells cs.toArray t)) g cs t := by rw [← h]; exact Blk.new w cs t
theorem zero78 (w : World) : (zeroValue 121).run Tryz.prog w = .ok (.agg [Value.int .i64 0, .slice none 0 0].toArray) w := by kernel_rfl
theorem info78 (s : Nat) (v : Value) : (Tryz.prog.info? 121).map (·.size) = some (pwC s v).length := by kernel_rfl
theorem info78A (s : Nat) (v : Value) : (Tryz.prog.info? 121).map (·.size) = some (pwC s v).toArray.size := by kernel_rfl
theorem pwC_one (s g : Nat) : (pwC s (bV g)).toArray.all (·.oneCell') = true := all_oneCell_toArray fun v hv => by
  simp only [pwC, List.mem_cons, List.not_mem_nil, or_false] at hv
  rcases hv with rfl | rfl <;> rfl
set_option maxRecDepth 100000 in
set_option maxHeartbeats 2000000 in
theorem drop_any {w : World} {L : Lay} {D : Dv} (h : Dev w L D) : Calls Tryz.prog 89 #[.pointer (some ⟨L.p, 0, none⟩)] w fun e w' => e = .returned (.tuple #[]) ∧ Fx (fun k => k = L.gn ∨ k = L.p) w w' ∧
    Blk w' L.gn (nwC D.n (fun _ => 0)) 3 ∧ Blk w' L.p (dvC L.gi D.n (.slice none 0 0) L.gn D.left L.vk D.torn D.off D.down D.calls) 102 := by
  have H := hide h
  have hlen := pen_len h.pen
  have hc1 := h.c1
  have few := h.ok.few
  obtain ⟨m, hm⟩ : ∃ m, D.pen.length = m := ⟨_, rfl⟩
  rw [hm] at hlen few
  clear h
  go_enter Tryz.func89, Tryz.ntmps89
  go_wp2
  go_loopw [9] (fun i wr => ∃ t : Nat, t ≤ m ∧ i = .int .i64 t ∧ Hid (Fx (One L.gn) w wr ∧ Blk wr L.gn (nwC D.n (nwD D.pen t)) 3)) (fun i _ => m - (intOf i).toNat)
  case atStart => exact ⟨0, by omega, rfl, hide ⟨Fx.refl _ _, H.out.new⟩⟩
  case round =>
    obtain ⟨t, ht, rfl, hs⟩ := hrel
    by_cases hlt : t < m
    · have hlz : (t : Int) < (m : Int) := by omega
      obtain ⟨x, hx⟩ : ∃ x, D.pen[t]? = some x := ⟨D.pen[t]'(by omega), List.getElem?_eq_getElem _⟩
      obtain ⟨gb, hgb⟩ : ∃ g, L.gs[t]? = some g := ⟨L.gs[t]'(by rw [H.out.gsl]; omega), List.getElem?_eq_getElem _⟩
      obtain ⟨g, hgo, hix, hrg⟩ := pen_item H.out.pen t gb x hgb hx
      obtain ⟨n1, n2, n3, _, _⟩ := H.out.vpn g hgo
      have hsec := (H.out.ok.sec x (List.mem_of_getElem? hx)).1
      have RG : Hid (wr.rangeAt g (t * 2) (pwC x.1 (bV gb))) := hide (fun j v hj => hs.out.1.cell (hrg j v hj) (fun e => n3 e))
      have hget : (D.pen.getD t (0, [])).1 = x.1 := by rw [List.getD_eq_getElem?_getD, hx]; rfl
      obtain ⟨gw, hgw⟩ : ∃ gw, wr.heap.size = gw := ⟨_, rfl⟩
      go_upto_region 3 with (first
        | (refine wpList_load_mid rfl 121 (.tmp 11) rfl g (t * 2) rfl (pwC x.1 (bV gb)) _ RG.out Tryz.underlying121 rfl (info78 _ _) ?_)
        | (refine wpList_newAt rfl 121 rfl _ zero78 gw hgw ?_)
        | (refine wpList_store_row rfl 121 (.tmp 3) (.tmp 12) rfl gw (pwC x.1 (bV gb)).toArray rfl rfl 121 _ (Blk.newAt hgw) (info78A _ _) rfl (pwC_one _ _) ?_))
      have be1 : Below wr.heap.size wr ((wr.alloc (.cells [Value.int .i64 0, .slice none 0 0].toArray 121)).setRow gw (pwC x.1 (bV gb)).toArray) := below_setRow (below_new wr _) _ _ (by omega)
      have bw : Blk ((wr.alloc (.cells [Value.int .i64 0, .slice none 0 0].toArray 121)).setRow gw (pwC x.1 (bV gb)).toArray) gw (pwC x.1 (bV gb)) 121 := (Blk.newAt hgw).setRow _
      generalize (wr.alloc (.cells [Value.int .i64 0, .slice none 0 0].toArray 121)).setRow gw (pwC x.1 (bV gb)).toArray = w1 at be1 bw ⊢
      have hf1 : Fx (One L.gn) w w1 := hs.out.1.then_below be1
      have hn1 : Blk w1 L.gn (nwC D.n (nwD D.pen t)) 3 := hs.out.2.on be1
      have HC2 : ∀ W, Below w1.heap.size w1 W → W.cell? ⟨L.p, 2, none⟩ = some (.slice (some ⟨L.gn, 0, none⟩) D.n D.n) := fun W hW => (hf1.then_below hW).cell H.out.c2 (fun e => H.out.pn e)
      have HS2 : ∀ W, Below w1.heap.size w1 W → W.cell? ⟨gw, 0, none⟩ = some (.int .i64 (x.1 : Int)) := fun W hW => ((bw.on hW).cell 0).trans rfl
      refine reg_rest 6 2 (by kernel_rfl) rfl (by kernel_rfl) ?_
      simp only [List.take_succ_cons, List.take_zero]
      refine wpLex_cons2 _ (uni_val (by rfl) (Op.move (Operand.tmp 0)) rfl (.pointer (some ⟨L.p, 0, none⟩)) (fun o' ho W hW => by go_simp)) (by simp only [Act.put, List.setIfInBounds_toArray, List.set_cons_zero, List.set_cons_succ]; rfl) ?_; refine wpLex_cons2 _ (uni_val (by rfl) (Op.nilCheck (Operand.tmp 13)) rfl (.pointer (some ⟨L.p, 0, none⟩)) (fun o' ho W hW => by go_simp)) (by simp only [Act.put, List.setIfInBounds_toArray, List.set_cons_zero, List.set_cons_succ]; rfl) ?_; refine wpLex_cons2 _ (uni_val (by rfl) (Op.fieldAddr 102 (Operand.tmp 14) 2) rfl (.pointer (some ⟨L.p, 2, none⟩)) (fun o' ho W hW => by go_simp)) (by simp only [Act.put, List.setIfInBounds_toArray, List.set_cons_zero, List.set_cons_succ]; rfl) ?_; refine wpLex_cons2 _ (uni_val (by rfl) (Op.load 100 (Operand.tmp 15)) rfl (.slice (some ⟨L.gn, 0, none⟩) D.n D.n) (fun o' ho W hW => by have hc := HC2 W hW; go_simp)) (by simp only [Act.put, List.setIfInBounds_toArray, List.set_cons_zero, List.set_cons_succ]; rfl) ?_; refine wpLex_cons2 _ (uni_val (by rfl) (Op.fieldAddr 121 (Operand.tmp 3) 0) rfl (.pointer (some ⟨gw, 0, none⟩)) (fun o' ho W hW => by go_simp)) (by simp only [Act.put, List.setIfInBounds_toArray, List.set_cons_zero, List.set_cons_succ]; rfl) ?_; refine wpLex_cons2 _ (uni_val (by rfl) (Op.load 3 (Operand.tmp 17)) rfl (.int .i64 (x.1 : Int)) (fun o' ho W hW => by have hc := HS2 W hW; go_simp)) (by simp only [Act.put, List.setIfInBounds_toArray, List.set_cons_zero, List.set_cons_succ]; rfl) ?_
      intro W hW
      simp only [List.drop_succ_cons, List.drop_zero]
      have hixn := fun W => idx73 L.gn D.n x.1 hsec W
      have hnW := hn1.on hW
      have hfz := hnW.frozen x.1
      have hold := (hnW.cell x.1).trans (nwC_at D.n _ x.1 hsec)
      have FW : Fx (One L.gn) w W := hf1.then_below hW
      clear hW HC2 HS2 hn1 hf1 be1 bw hs RG hrg
      go_wp2
      go_roundw
      case rel =>
        refine ⟨t + 1, by omega, by go_num, hide ⟨FW.and (Fx.setCell _ _ _ _ rfl), ?_⟩⟩
        have := hnW.set x.1 (.int .i64 ((0 : Nat) : Int))
        rw [nwC_set] at this
        rw [show nwD D.pen (t + 1) = fun j => if x.1 = j then 0 else nwD D.pen t j from funext fun j => by rw [nwD, hget]]
        exact this
      case measure => simp [intOf]; omega
    · obtain rfl : t = m := by omega
      have hP : Blk wr L.p (dvC L.gi D.n L.vp L.gn D.left L.vk D.torn D.off D.down D.calls) 102 := H.out.dev.fx hs.out.1 (fun e => H.out.pn e)
      have hfz := hP.frozen 1
      have hold := (hP.cell 1).trans (show (dvC L.gi D.n L.vp L.gn D.left L.vk D.torn D.off D.down D.calls)[1]? = some L.vp from rfl)
      go_wp2
      go_end0
      refine ⟨rfl, (hs.out.1.mono (fun i _ h => .inl h)).and (Fx.setCell _ _ _ _ (.inr rfl)), ?_, hP.set 1 _⟩
      have := hs.out.2
      rw [nwC_congr D.n (nwD D.pen t) (fun _ => 0) (fun i _ => by rw [← hm]; exact nwD_end D.pen i)] at this
      exact this.setOther _ _ _ (Ne.symm H.out.pn)
end Go.Proofs.YtmbgeojjklboeaaGreatDoor
