import Derived.Test.YtacancfmgnmpiaaRead
set_option linter.unusedVariables false
set_option linter.unusedSimpArgs false
namespace Go.Proofs.Ytacancfmgnmpiaa
open Go.RowKit

theorem wshr38 (x : BitVec 64) : wn x / (274877906944 : Int) = wn (x >>> 38) := wshr x 38
theorem wshr25 (x : BitVec 64) : wn x / (33554432 : Int) = wn (x >>> 25) := wshr x 25
theorem wshr12 (x : BitVec 64) : wn x / (4096 : Int) = wn (x >>> 12) := wshr x 12
theorem wshl26 (x : BitVec 64) : IntKind.u64.wrap (wn x * (67108864 : Int)) = wn (x <<< 26) := wshl x 26
theorem wshl39 (x : BitVec 64) : IntKind.u64.wrap (wn x * (549755813888 : Int)) = wn (x <<< 39) := wshl x 39

/-- The limbs of four words. -/
def limbs4 (a b c d : BitVec 64) : L5 := ⟨a &&& mk51, (a >>> 51 ||| b <<< 13) &&& mk51, (b >>> 38 ||| c <<< 26) &&& mk51, (c >>> 25 ||| d <<< 39) &&& mk51, d >>> 12 &&& mk51⟩
def readE (k : List UInt8) : L5 := limbs4 ((wdk k 32).getD 0 0) ((wdk k 32).getD 1 0) ((wdk k 32).getD 2 0) ((wdk k 32).getD 3 0)

theorem four {α : Type} {L : List α} (h : L.length = 4) : ∃ a b c d, L = [a, b, c, d] := by
  match L, h with
  | [a, b, c, d], _ => exact ⟨a, b, c, d, rfl⟩

set_option maxRecDepth 100000 in
set_option maxHeartbeats 2000000 in
theorem read_any (k : List UInt8) (hk : k.length = 32) (w : World) :
    Calls Try.prog 20 #[.agg (k.map byt).toArray] w fun e w' => e = .returned (readE k).v ∧ Below w.heap.size w w' := by
  have hks : (Try.prog.info? 24).map (·.size) = some (k.map byt).length := by rw [List.length_map, hk]; kernel_rfl
  obtain ⟨a, b, c, d, hL⟩ := four (wdk_length k 32)
  have hwd := fun W => words_any k hk W
  rw [hL] at hwd
  have HR : Hid (readE k = limbs4 a b c d) := by
    unfold readE
    rw [hL]
    rfl
  generalize readE k = R at HR ⊢
  clear hL hk
  go_enter Try.func20, Try.ntmps20
  go_upto_region 1 with (first | (refine wpList_box rfl 24 _ rfl (k.map byt) rfl ?_) | (refine wpList_newAt rfl 53 rfl z5 zero27 (w.heap.size + 1) (by simp) ?_))
  have b1 : Blk ((w.alloc (.cells (k.map byt).toArray 24)).alloc (.cells z5.toArray 53)) w.heap.size (k.map byt) 24 := (Blk.new _ _ _).alloc _
  have b2 : Blk ((w.alloc (.cells (k.map byt).toArray 24)).alloc (.cells z5.toArray 53)) (w.heap.size + 1) z5 53 := by
    have := Blk.new (w.alloc (.cells (k.map byt).toArray 24)) z5 53
    simpa using this
  have be : Below w.heap.size w ((w.alloc (.cells (k.map byt).toArray 24)).alloc (.cells z5.toArray 53)) := by go_grown
  generalize (w.alloc (.cells (k.map byt).toArray 24)).alloc (.cells z5.toArray 53) = w1 at b1 b2 be ⊢
  obtain ⟨n, hn⟩ : ∃ n, w.heap.size = n := ⟨_, rfl⟩
  rw [hn] at b1 b2 be ⊢
  simp only [Act.put, List.setIfInBounds_toArray, List.set_cons_zero, List.set_cons_succ]
  refine lst_newT 2 rfl rfl rfl rfl 3 rfl 68 rfl (wvs z4) zero58 rfl rfl (.tmp 5) rfl ?_
  simp only [List.take_succ_cons, List.take_zero]
  refine wpLex_cons _ (uni_row rfl 24 (.tmp 1) rfl n (k.map byt) 24 rfl (fun W hW => b1.on hW) Try.underlying24 rfl hks) ?_
  simp only [Act.put, List.setIfInBounds_toArray, List.set_cons_zero, List.set_cons_succ]
  refine wpLex_cons _ (uni_callF (by rfl) 31 [Operand.tmp 4] #[24] rfl [.agg (k.map byt).toArray] (.agg (wvs [a, b, c, d]).toArray) rfl enter31 (fun W hW => hwd W)) ?_
  simp only [Act.put, List.setIfInBounds_toArray, List.set_cons_zero, List.set_cons_succ]
  refine ⟨wvs [a, b, c, d], rfl, by simp, by simp, by kernel_rfl, rfl, wvs_one _, fun g w2 hg hW c1 => ?_⟩
  simp only [Act.put, List.setIfInBounds_toArray, List.set_cons_zero, List.set_cons_succ]
  replace b2 := b2.on hW
  replace be := be.trans (hW.mono (by have := be.size; omega))
  have g0 : w2.cell? ⟨g, 0, none⟩ = some (.int .u64 (wn a)) := c1.cell 0
  have g1 : w2.cell? ⟨g, 1, none⟩ = some (.int .u64 (wn b)) := c1.cell 1
  have g2 : w2.cell? ⟨g, 2, none⟩ = some (.int .u64 (wn c)) := c1.cell 2
  have g3 : w2.cell? ⟨g, 3, none⟩ = some (.int .u64 (wn d)) := c1.cell 3
  clear hW hg b1 w1 hks hwd c1
  have B2 := hide b2
  have BE := hide be
  clear b2 be
  have h1 := wand51
  have h2 := wshr51
  have h3 := wshl13
  have h4 := wshr38
  have h5 := wshl26
  have h6 := wshr25
  have h7 := wshl39
  have h8 := wshr12
  have h9 := wor
  go_wp2_with (refine wpList_store_row rfl 53 (.tmp 2) (.tmp 38) rfl (n + 1) (limbs4 a b c d).cs.toArray rfl rfl 53 z5.toArray B2.out (cs_infoA _) (cs_size _) (cs_one _) ?_)
  refine bodyPost_ret (results_cell_row Try.results20 _ _ (n + 1) 53 (limbs4 a b c d).cs.toArray (0, 0) _ rfl (B2.out.setRow _) Try.underlying53 rfl (cs_infoA _)) rfl ?_
  exact ⟨by rw [HR.out]; rfl, by rw [hn]; exact below_setRow BE.out _ _ (by omega)⟩
end Go.Proofs.Ytacancfmgnmpiaa
