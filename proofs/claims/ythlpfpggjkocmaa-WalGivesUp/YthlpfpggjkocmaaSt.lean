import Derived.Test.YthlpfpggjkocmaaNw
set_option linter.unusedVariables false
set_option linter.unusedSimpArgs false
namespace Go.Proofs.Ythlpfpggjkocmaa
open Go.RowKit

/-- The image's bytes of a sector. -/
def secV (gi n i : Nat) : Value := .slice (some ⟨gi, i * 512, none⟩) 512 (n * 512 - i * 512)
theorem run_sec (gi n i : Nat) (hi : i < n) (W : World) : (Instr.slice 37 (.slice (some ⟨gi, 0, none⟩) (n * 512) (n * 512)) (some (.int .i64 ((i * 512 : Nat) : Int))) (some (.int .i64 (((i + 1) * 512 : Nat) : Int))) none).run Try.prog W = .ok (secV gi n i) W := by
  have ht : Try.prog.underlying 37 = some (.slice (Try.prog.elem 37)) := by rw [elem37]; exact Try.underlying37
  rw [run_slice_lh W 37 _ _ _ ht .i64 .i64 ((i * 512 : Nat) : Int) (((i + 1) * 512 : Nat) : Int) (by omega) (by omega) (by omega), elem37, size5]
  simp only [Result.andThen, sliced, Int.toNat_natCast, Nat.mul_one, secV]
  rw [if_neg (by omega), show (i + 1) * 512 - i * 512 = 512 by omega]
  simp only [Option.map_some]
  unfold Addr.add
  by_cases h0 : i = 0
  · subst h0; simp
  · rw [if_neg (by omega)]; simp

theorem durable_any {w : World} {L : Lay} {n : Nat} (hc : w.cell? ⟨L.p, 0, none⟩ = some (.slice (some ⟨L.gi, 0, none⟩) (n * 512) (n * 512))) (i : Nat) (hi : i < n) (hn : n ≤ 4096) : Calls Try.prog 67 #[.pointer (some ⟨L.p, 0, none⟩), .int .i64 (i : Int)] w fun e w' => e = .returned (secV L.gi n i) ∧ w' = w := by
  have hs := fun W => run_sec L.gi n i hi W
  have e1 : wrap64 ((i : Int) * 512) = ((i * 512 : Nat) : Int) := by rw [IntWalk.wrap64_in _ (by omega)]; simp
  have e2 : (i : Int) * 512 = ((i * 512 : Nat) : Int) := by simp
  have e3 : wrap64 (((i : Int) + 1) * 512) = (((i + 1) * 512 : Nat) : Int) := by rw [IntWalk.wrap64_in _ (by omega)]; simp
  have e4 : ((i : Int) + 1) * 512 = (((i + 1) * 512 : Nat) : Int) := by simp
  have e5 : wrap64 ((i : Int) + 1) = (i : Int) + 1 := IntWalk.wrap64_in _ (by omega)
  obtain ⟨A, hA⟩ : ∃ A, i * 512 = A := ⟨_, rfl⟩
  obtain ⟨B, hB⟩ : ∃ B, (i + 1) * 512 = B := ⟨_, rfl⟩
  obtain ⟨N, hN⟩ : ∃ N, n * 512 = N := ⟨_, rfl⟩
  obtain ⟨V, hV⟩ : ∃ V, secV L.gi n i = V := ⟨_, rfl⟩
  rw [hA, hB, hN, hV] at hs
  rw [hN] at hc
  rw [hA] at e1 e2
  rw [hB] at e3 e4
  rw [hV]
  clear hA hB hN hV
  go_enter Try.func67, Try.ntmps67
  go_wp2
  go_ret
  exact ⟨rfl, rfl⟩
/-- The first m bytes of a write go to the image. -/
def settleL (img : List UInt8) (s m : Nat) (b : List UInt8) : List UInt8 := img.take (s * 512) ++ b.take m ++ img.drop (s * 512 + m)
theorem settle_length (img : List UInt8) (s m n : Nat) (b : List UInt8) (hl : img.length = n * 512) (hs : s < n) (hm : m ≤ 512) (hb : b.length = 512) : (settleL img s m b).length = img.length := by
  simp only [settleL, List.length_append, List.length_take, List.length_drop, hl, hb]
  omega

theorem add_off (g o j : Nat) : (⟨g, o, none⟩ : Addr).add j = ⟨g, o + j, none⟩ := by
  unfold Addr.add; split <;> simp_all
/-- The cells of one pending write. -/
def pwC (s : Nat) (vb : Value) : List Value := [.int .i64 (s : Int), vb]
theorem sub_below {w : World} (W : World) (h : Below w.heap.size w W) {v : Value} {bs : List UInt8} (hh : Has w v bs) : Has W v bs := hh.below h

/-- 'copy(x[o:o + n], b)', x a block of bytes. -/
theorem wpList_cp {ops : Array Oper} {rest : List Oper} {o : Oper} {a : Act} {w : World} {Q : Exit → Act → World → Prop} (hgd : o.guard = none) (d x : Operand)
    (ho : o.op = .call { callee := .builtin .copy, args := #[d, x], argTypes := #[37, 37] }) (p off n c : Nat) (hd : a.eval d = .slice (some ⟨p, off, none⟩) n c)
    (v : Value) (bs : List UInt8) (hx : a.eval x = v) (hv : Has w v bs) (L : List UInt8) (hB : Blk w p (L.map byt) 5) (hon : off + n ≤ L.length)
    (h : ∀ (q : Int) w', Blk w' p ((L.take off ++ bs.take n ++ L.drop (off + (bs.take n).length)).map byt) 5 → Fx (One p) w w' → wpList Try.prog ops Q rest (a.put o.dst (.int .i64 q)) w') : wpList Try.prog ops Q (o :: rest) a w := by
  have hl : (bs.take n).length = min n bs.length := List.length_take
  rcases hv with ⟨rfl, rfl⟩ | ⟨ad, cap, rfl, h2, h3⟩
  · have hrun := run_copy_none (P := Try.prog) w 37 37 o.type 5 (some ⟨p, off, none⟩) none n c 0 0 Try.underlying37 info5s (by simp)
    refine wpList_plain hgd fun K hK => ?_
    unfold Oper.wp
    simp [execOp, ho, resolve, invoke, builtin, hd, hx, hrun, Result.andThen]
    refine hK _ _ ?_
    exact h 0 w (by simpa using hB) (Fx.refl _ _)
  · have hrun := run_copy_cells (P := Try.prog) w 37 37 o.type 5 p off n c ad bs.length cap ((bs.take n).map byt) Try.underlying37 info5s (by rw [List.length_map, hl]; exact Nat.min_comm _ _)
      (fun j v hj => by
        rw [List.getElem?_map, Option.map_eq_some_iff] at hj
        obtain ⟨u, hu, rfl⟩ := hj
        have hjq : j < (bs.take n).length := (List.getElem?_eq_some_iff.1 hu).1
        rw [List.getElem?_take_of_lt (by omega)] at hu
        exact h3 j u hu)
      (fun j hj => by
        rw [List.length_map] at hj
        rw [hB.cell, List.getElem?_eq_getElem (by rw [List.length_map]; omega)]; rfl) (fun j _ => hB.frozen _) (byt_one _)
    refine wpList_plain hgd fun K hK => ?_
    unfold Oper.wp
    rw [List.length_map] at hrun
    have hb := Blk.setCells ((bs.take n).map byt) off w (L.map byt) hB (by rw [List.length_map, List.length_map]; omega)
    have hfin := h ((bs.take n).length : Int) (w.setCells p off ((bs.take n).map byt)) (by
      rw [List.length_map] at hb
      rw [List.map_append, List.map_append, List.map_drop, show (L.take off).map byt = (L.map byt).take off from List.map_take]
      exact hb) (Fx.setCells (S := One p) p rfl _ _ _)
    generalize w.setCells p off ((bs.take n).map byt) = w' at hrun hfin
    simp [execOp, ho, resolve, invoke, builtin, hd, hx, hrun, Result.andThen]
    exact hK _ _ (by simpa [goInt, hl] using hfin)

set_option maxRecDepth 100000 in
set_option maxHeartbeats 1000000 in
theorem settle_any {w : World} {L : Lay} {n : Nat} {img : List UInt8} (hc : w.cell? ⟨L.p, 0, none⟩ = some (.slice (some ⟨L.gi, 0, none⟩) (n * 512) (n * 512))) (hI : Blk w L.gi (img.map byt) 5) (hl : img.length = n * 512) (hn : n ≤ 4096)
    (s m : Nat) (hs : s < n) (hm : m ≤ 512) (vb : Value) (b : List UInt8) (hb : b.length = 512) (hv : Has w vb b) :
    Calls Try.prog 69 #[.pointer (some ⟨L.p, 0, none⟩), .agg (pwC s vb).toArray, .int .i64 (m : Int)] w fun e w' => e = .returned (.tuple #[]) ∧ Fx (One L.gi) w w' ∧ Blk w' L.gi ((settleL img s m b).map byt) 5 := by
  have HC := hide hc
  have HI := hide hI
  have HV := hide hv
  have plt := cell_lt hc
  clear hc hI hv
  go_enter Try.func69, Try.ntmps69
  go_upto_region 1 with (refine wpList_boxAt rfl 92 (.tmp 1) rfl (pwC s vb) rfl w.heap.size rfl ?_)
  have b0 : Blk (w.alloc (.cells (pwC s vb).toArray 92)) w.heap.size (pwC s vb) 92 := Blk.new w _ _
  have be : Below w.heap.size w (w.alloc (.cells (pwC s vb).toArray 92)) := below_new w _
  generalize w.alloc (.cells (pwC s vb).toArray 92) = w1 at b0 be ⊢
  obtain ⟨g, hg⟩ : ∃ g, w.heap.size = g := ⟨_, rfl⟩
  rw [hg] at b0 be
  have HCW : ∀ W, Below w1.heap.size w1 W → W.cell? ⟨L.p, 0, none⟩ = some (.slice (some ⟨L.gi, 0, none⟩) (n * 512) (n * 512)) := fun W hW => (hW.cell (Nat.lt_of_lt_of_le plt be.size)).trans ((be.cell (by rw [← hg]; exact plt)).trans HC.out)
  have HVW : ∀ W, Below w1.heap.size w1 W → Has W vb b := fun W hW => HV.out.below (by rw [hg]; exact be.trans (hW.mono (by have := be.size; omega)))
  have R0 : ∀ W, Below w1.heap.size w1 W → W.cell? ⟨g, 0, none⟩ = some (.int .i64 (s : Int)) := fun W hW => ((b0.on hW).cell 0).trans rfl
  have R1 : ∀ W, Below w1.heap.size w1 W → W.cell? ⟨g, 1, none⟩ = some vb := fun W hW => ((b0.on hW).cell 1).trans rfl
  refine reg_rest 8 1 (by kernel_rfl) rfl (by kernel_rfl) ?_
  simp only [List.take_succ_cons, List.take_zero]
  refine wpLex_cons2 _ (uni_val (by rfl) (Op.move (Operand.tmp 0)) rfl (.pointer (some ⟨L.p, 0, none⟩)) (fun o' ho W hW => by go_simp)) (by simp only [Act.put, List.setIfInBounds_toArray, List.set_cons_zero, List.set_cons_succ]; rfl) ?_
  refine wpLex_cons2 _ (uni_val (by rfl) (Op.fieldAddr 92 (Operand.tmp 4) 0) rfl (.pointer (some ⟨g, 0, none⟩)) (fun o' ho W hW => by go_simp)) (by simp only [Act.put, List.setIfInBounds_toArray, List.set_cons_zero, List.set_cons_succ]; rfl) ?_
  refine wpLex_cons2 _ (uni_val (by rfl) (Op.load 3 (Operand.tmp 7)) rfl (.int .i64 (s : Int)) (fun o' ho W hW => by have hc := R0 W hW; go_simp)) (by simp only [Act.put, List.setIfInBounds_toArray, List.set_cons_zero, List.set_cons_succ]; rfl) ?_
  refine wpLex_cons2 _ (uni_callF (by rfl) 67 [Operand.tmp 6, Operand.tmp 8] #[41, 3] rfl [.pointer (some ⟨L.p, 0, none⟩), .int .i64 (s : Int)] (secV L.gi n s) rfl enter67 (fun W hW => (durable_any (HCW W hW) s hs hn).mono (fun e w' h => ⟨h.1, by rw [h.2]; exact Below.refl _ _⟩))) (by simp only [Act.put, List.setIfInBounds_toArray, List.set_cons_zero, List.set_cons_succ]; rfl) ?_
  refine wpLex_cons2 _ (uni_val (by rfl) (Op.fieldAddr 92 (Operand.tmp 4) 1) rfl (.pointer (some ⟨g, 1, none⟩)) (fun o' ho W hW => by go_simp)) (by simp only [Act.put, List.setIfInBounds_toArray, List.set_cons_zero, List.set_cons_succ]; rfl) ?_
  refine wpLex_cons2 _ (uni_val (by rfl) (Op.load 37 (Operand.tmp 10)) rfl (vb) (fun o' ho W hW => by have hc := R1 W hW; go_simp)) (by simp only [Act.put, List.setIfInBounds_toArray, List.set_cons_zero, List.set_cons_succ]; rfl) ?_
  refine wpLex_cons2 _ (uni_val (by rfl) (Op.move (Operand.tmp 2)) rfl (.int .i64 (m : Int)) (fun o' ho W hW => by go_simp)) (by simp only [Act.put, List.setIfInBounds_toArray, List.set_cons_zero, List.set_cons_succ]; rfl) ?_
  refine wpLex_cons2 _ (uni_val (by rfl) (Op.slice 37 (Operand.tmp 11) none (some (Operand.tmp 12)) none) rfl (cutV vb 0 m) (fun o' ho W hW => by have hq := (HVW W hW).cutH m (by omega) W; go_simp)) (by simp only [Act.put, List.setIfInBounds_toArray, List.set_cons_zero, List.set_cons_succ]; rfl) ?_
  intro W hW
  simp only [List.drop_succ_cons, List.drop_zero]
  have hI : Blk W L.gi (img.map byt) 5 := (HI.out.below be (by rw [← hg]; exact HI.out.lt)).on hW
  have hcut := (HVW W hW).cut 0 m (by omega) (by omega)
  simp only [List.drop_zero, Nat.sub_zero] at hcut
  have hgi : L.gi < w.heap.size := HI.out.lt
  have bw : Below w.heap.size w W := by rw [hg]; exact be.trans (hW.mono (by have := be.size; omega))
  refine wpList_cp rfl (.tmp 9) (.tmp 13) rfl L.gi (s * 512) 512 _ rfl _ (b.take m) rfl hcut img hI (by omega) (fun q W2 hB hF => ?_)
  refine wpList_nil ?_
  refine bodyPost_end (results_none Try.results69 _ _ _) rfl ?_
  refine ⟨rfl, (Fx.of_below bw).and (hF.mono (fun i _ h => h)), ?_⟩
  have e1 : (b.take m).take 512 = b.take m := List.take_of_length_le (by simp; omega)
  have e2 : (b.take m).length = m := by simp; omega
  rw [e1, e2] at hB
  exact hB
end Go.Proofs.Ythlpfpggjkocmaa
