import Derived.Test.YtoceepmehmacbaaDoorKPrmG
import Derived.Test.YtoceepmehmacbaaDoorKTellG
set_option linter.unusedVariables false
set_option linter.unusedSimpArgs false
namespace Go.Proofs.YtoceepmehmacbaaDoor.Cv
open Go.RowKit

theorem plusW (s : W2) (x y : BitVec 64) (W : World) : Calls Tryd.prog 55 #[s.v, .int .u64 (wn x), .int .u64 (wn y)] W fun e w' => e = .returned (plW s x y).v ∧ Below W.heap.size W w' := plus_any s.h s.l x y W
theorem aboveW (s : W2) (W : World) : Calls Tryd.prog 57 #[s.v] W fun e w' => e = .returned (.int .u64 (wn s.up)) ∧ Below W.heap.size W w' := above_any s.h s.l W
theorem carriedE (x : L5) (W : World) : Calls Tryd.prog 56 #[x.v] W fun e w' => e = .returned (carr x).v ∧ Below W.heap.size W w' := carried_any x W
theorem w2_len (s : W2) : w20.cs.length = s.cs.length := rfl
theorem w2_info (s : W2) : (Tryd.prog.info? 110).map (·.size) = some s.cs.length := by kernel_rfl
theorem zero64 (w : World) : (zeroValue 110).run Tryd.prog w = .ok (.agg w20.cs.toArray) w := by rw [Tryd.zeroValue110]; rfl

set_option maxRecDepth 100000 in
set_option maxHeartbeats 20000000 in
theorem mul_any (x y : L5) (w : World) :
    Calls Tryd.prog 38 #[x.v, y.v] w fun e w' => e = .returned (mulE x y).v ∧ Below w.heap.size w w' := by
  obtain ⟨xa, xb, xc, xd, xe⟩ := x
  obtain ⟨ya, yb, yc, yd, ye⟩ := y
  obtain ⟨X, hX⟩ : ∃ X : L5, X = ⟨xa, xb, xc, xd, xe⟩ := ⟨_, rfl⟩
  obtain ⟨Y, hY⟩ : ∃ Y : L5, Y = ⟨ya, yb, yc, yd, ye⟩ := ⟨_, rfl⟩
  have x0 : X.cs[0]? = some (.int .u64 (wn xa)) := by rw [hX]; rfl
  have x1 : X.cs[1]? = some (.int .u64 (wn xb)) := by rw [hX]; rfl
  have x2 : X.cs[2]? = some (.int .u64 (wn xc)) := by rw [hX]; rfl
  have x3 : X.cs[3]? = some (.int .u64 (wn xd)) := by rw [hX]; rfl
  have x4 : X.cs[4]? = some (.int .u64 (wn xe)) := by rw [hX]; rfl
  have y0 : Y.cs[0]? = some (.int .u64 (wn ya)) := by rw [hY]; rfl
  have y1 : Y.cs[1]? = some (.int .u64 (wn yb)) := by rw [hY]; rfl
  have y2 : Y.cs[2]? = some (.int .u64 (wn yc)) := by rw [hY]; rfl
  have y3 : Y.cs[3]? = some (.int .u64 (wn yd)) := by rw [hY]; rfl
  have y4 : Y.cs[4]? = some (.int .u64 (wn ye)) := by rw [hY]; rfl
  have HM : Hid (mulE ⟨xa, xb, xc, xd, xe⟩ ⟨ya, yb, yc, yd, ye⟩ = carr (joinW (ms0 ⟨xa, xb, xc, xd, xe⟩ ⟨ya, yb, yc, yd, ye⟩) (ms1 ⟨xa, xb, xc, xd, xe⟩ ⟨ya, yb, yc, yd, ye⟩) (ms2 ⟨xa, xb, xc, xd, xe⟩ ⟨ya, yb, yc, yd, ye⟩) (ms3 ⟨xa, xb, xc, xd, xe⟩ ⟨ya, yb, yc, yd, ye⟩) (ms4 ⟨xa, xb, xc, xd, xe⟩ ⟨ya, yb, yc, yd, ye⟩))) := rfl
  generalize mulE ⟨xa, xb, xc, xd, xe⟩ ⟨ya, yb, yc, yd, ye⟩ = R at HM ⊢
  rw [← hX, ← hY]
  clear hX hY
  go_enter Tryd.func38, Tryd.ntmps38
  go_upto_region 1 with (first | (refine wpList_boxAt rfl 71 (.tmp 0) rfl X.cs rfl w.heap.size rfl ?_) | (refine wpList_boxAt rfl 71 (.tmp 1) rfl Y.cs rfl (w.heap.size + 1) (by simp) ?_) | (refine wpList_newAt rfl 71 rfl z5 zero27 (w.heap.size + 1 + 1) (by simp) ?_))
  have b1 : Blk (((w.alloc (.cells X.cs.toArray 71)).alloc (.cells Y.cs.toArray 71)).alloc (.cells z5.toArray 71)) w.heap.size X.cs 71 := ((Blk.new _ _ _).alloc _).alloc _
  have b2 : Blk (((w.alloc (.cells X.cs.toArray 71)).alloc (.cells Y.cs.toArray 71)).alloc (.cells z5.toArray 71)) (w.heap.size + 1) Y.cs 71 := by
    have := (Blk.new (w.alloc (.cells X.cs.toArray 71)) Y.cs 71).alloc (.cells z5.toArray 71)
    simpa using this
  have b3 : Blk (((w.alloc (.cells X.cs.toArray 71)).alloc (.cells Y.cs.toArray 71)).alloc (.cells z5.toArray 71)) (w.heap.size + 1 + 1) z5 71 := by
    have := Blk.new ((w.alloc (.cells X.cs.toArray 71)).alloc (.cells Y.cs.toArray 71)) z5 71
    simpa using this
  have be : Below w.heap.size w (((w.alloc (.cells X.cs.toArray 71)).alloc (.cells Y.cs.toArray 71)).alloc (.cells z5.toArray 71)) := by go_grown
  generalize ((w.alloc (.cells X.cs.toArray 71)).alloc (.cells Y.cs.toArray 71)).alloc (.cells z5.toArray 71) = w1 at b1 b2 b3 be ⊢
  simp only [Act.put, List.setIfInBounds_toArray, List.set_cons_zero, List.set_cons_succ]
  obtain ⟨n, hn⟩ : ∃ n, w.heap.size = n := ⟨_, rfl⟩
  rw [hn] at b1 b2 b3 be ⊢
  refine reg_all (by kernel_rfl) (by kernel_rfl) ?_
  refine wpLex_cons2 _ (uni_val (by rfl) (Op.fieldAddr 71 (Operand.tmp 2) 0) rfl (.pointer (some ⟨n, 0, none⟩)) (fun o' ho W _ => by go_simp)) (by simp only [Act.put, List.setIfInBounds_toArray, List.set_cons_zero, List.set_cons_succ]; rfl) ?_
  refine wpLex_cons2 _ (uni_val (by rfl) (Op.indexAddr 69 (Operand.tmp 25) (Operand.const (Value.int IntKind.i64 0))) rfl (.pointer (some ⟨n, 0, none⟩)) (fun o' ho W _ => by go_simp)) (by simp only [Act.put, List.setIfInBounds_toArray, List.set_cons_zero, List.set_cons_succ]; rfl) ?_
  refine wpLex_cons2 _ (uni_cell (by rfl) 68 (.tmp 26) rfl (n) 0 (.int .u64 (wn xa)) rfl (fun W hW => (((b1).on hW).cell 0).trans x0) Tryd.underlying68 rfl) (by simp only [Act.put, List.setIfInBounds_toArray, List.set_cons_zero, List.set_cons_succ]; rfl) ?_
  refine wpLex_cons2 _ (uni_val (by rfl) (Op.fieldAddr 71 (Operand.tmp 2) 0) rfl (.pointer (some ⟨n, 0, none⟩)) (fun o' ho W _ => by go_simp)) (by simp only [Act.put, List.setIfInBounds_toArray, List.set_cons_zero, List.set_cons_succ]; rfl) ?_
  refine wpLex_cons2 _ (uni_val (by rfl) (Op.indexAddr 69 (Operand.tmp 28) (Operand.const (Value.int IntKind.i64 1))) rfl (.pointer (some ⟨n, 1, none⟩)) (fun o' ho W _ => by go_simp)) (by simp only [Act.put, List.setIfInBounds_toArray, List.set_cons_zero, List.set_cons_succ]; rfl) ?_
  refine wpLex_cons2 _ (uni_cell (by rfl) 68 (.tmp 29) rfl (n) 1 (.int .u64 (wn xb)) rfl (fun W hW => (((b1).on hW).cell 1).trans x1) Tryd.underlying68 rfl) (by simp only [Act.put, List.setIfInBounds_toArray, List.set_cons_zero, List.set_cons_succ]; rfl) ?_
  refine wpLex_cons2 _ (uni_val (by rfl) (Op.fieldAddr 71 (Operand.tmp 2) 0) rfl (.pointer (some ⟨n, 0, none⟩)) (fun o' ho W _ => by go_simp)) (by simp only [Act.put, List.setIfInBounds_toArray, List.set_cons_zero, List.set_cons_succ]; rfl) ?_
  refine wpLex_cons2 _ (uni_val (by rfl) (Op.indexAddr 69 (Operand.tmp 31) (Operand.const (Value.int IntKind.i64 2))) rfl (.pointer (some ⟨n, 2, none⟩)) (fun o' ho W _ => by go_simp)) (by simp only [Act.put, List.setIfInBounds_toArray, List.set_cons_zero, List.set_cons_succ]; rfl) ?_
  refine wpLex_cons2 _ (uni_cell (by rfl) 68 (.tmp 32) rfl (n) 2 (.int .u64 (wn xc)) rfl (fun W hW => (((b1).on hW).cell 2).trans x2) Tryd.underlying68 rfl) (by simp only [Act.put, List.setIfInBounds_toArray, List.set_cons_zero, List.set_cons_succ]; rfl) ?_
  refine wpLex_cons2 _ (uni_val (by rfl) (Op.fieldAddr 71 (Operand.tmp 2) 0) rfl (.pointer (some ⟨n, 0, none⟩)) (fun o' ho W _ => by go_simp)) (by simp only [Act.put, List.setIfInBounds_toArray, List.set_cons_zero, List.set_cons_succ]; rfl) ?_
  refine wpLex_cons2 _ (uni_val (by rfl) (Op.indexAddr 69 (Operand.tmp 34) (Operand.const (Value.int IntKind.i64 3))) rfl (.pointer (some ⟨n, 3, none⟩)) (fun o' ho W _ => by go_simp)) (by simp only [Act.put, List.setIfInBounds_toArray, List.set_cons_zero, List.set_cons_succ]; rfl) ?_
  refine wpLex_cons2 _ (uni_cell (by rfl) 68 (.tmp 35) rfl (n) 3 (.int .u64 (wn xd)) rfl (fun W hW => (((b1).on hW).cell 3).trans x3) Tryd.underlying68 rfl) (by simp only [Act.put, List.setIfInBounds_toArray, List.set_cons_zero, List.set_cons_succ]; rfl) ?_
  refine wpLex_cons2 _ (uni_val (by rfl) (Op.fieldAddr 71 (Operand.tmp 2) 0) rfl (.pointer (some ⟨n, 0, none⟩)) (fun o' ho W _ => by go_simp)) (by simp only [Act.put, List.setIfInBounds_toArray, List.set_cons_zero, List.set_cons_succ]; rfl) ?_
  refine wpLex_cons2 _ (uni_val (by rfl) (Op.indexAddr 69 (Operand.tmp 37) (Operand.const (Value.int IntKind.i64 4))) rfl (.pointer (some ⟨n, 4, none⟩)) (fun o' ho W _ => by go_simp)) (by simp only [Act.put, List.setIfInBounds_toArray, List.set_cons_zero, List.set_cons_succ]; rfl) ?_
  refine wpLex_cons2 _ (uni_cell (by rfl) 68 (.tmp 38) rfl (n) 4 (.int .u64 (wn xe)) rfl (fun W hW => (((b1).on hW).cell 4).trans x4) Tryd.underlying68 rfl) (by simp only [Act.put, List.setIfInBounds_toArray, List.set_cons_zero, List.set_cons_succ]; rfl) ?_
  refine wpLex_cons2 _ (uni_val (by rfl) (Op.assign (Operand.tmp 27)) rfl (.int .u64 (wn xa)) (fun o' ho W _ => by go_simp)) (by simp only [Act.put, List.setIfInBounds_toArray, List.set_cons_zero, List.set_cons_succ]; rfl) ?_
  refine wpLex_cons2 _ (uni_val (by rfl) (Op.assign (Operand.tmp 30)) rfl (.int .u64 (wn xb)) (fun o' ho W _ => by go_simp)) (by simp only [Act.put, List.setIfInBounds_toArray, List.set_cons_zero, List.set_cons_succ]; rfl) ?_
  refine wpLex_cons2 _ (uni_val (by rfl) (Op.assign (Operand.tmp 33)) rfl (.int .u64 (wn xc)) (fun o' ho W _ => by go_simp)) (by simp only [Act.put, List.setIfInBounds_toArray, List.set_cons_zero, List.set_cons_succ]; rfl) ?_
  refine wpLex_cons2 _ (uni_val (by rfl) (Op.assign (Operand.tmp 36)) rfl (.int .u64 (wn xd)) (fun o' ho W _ => by go_simp)) (by simp only [Act.put, List.setIfInBounds_toArray, List.set_cons_zero, List.set_cons_succ]; rfl) ?_
  refine wpLex_cons2 _ (uni_val (by rfl) (Op.assign (Operand.tmp 39)) rfl (.int .u64 (wn xe)) (fun o' ho W _ => by go_simp)) (by simp only [Act.put, List.setIfInBounds_toArray, List.set_cons_zero, List.set_cons_succ]; rfl) ?_
  intro w2 hW
  replace b1 := b1.on hW
  replace b2 := b2.on hW
  replace b3 := b3.on hW
  replace be := be.trans (hW.mono (by have := be.size; omega))
  clear hW w1
  go_upto_region 2 with fail
  refine reg_all (by kernel_rfl) (by kernel_rfl) ?_
  refine wpLex_cons2 _ (uni_val (by rfl) (Op.fieldAddr 71 (Operand.tmp 3) 0) rfl (.pointer (some ⟨n + 1, 0, none⟩)) (fun o' ho W _ => by go_simp)) (by simp only [Act.put, List.setIfInBounds_toArray, List.set_cons_zero, List.set_cons_succ]; rfl) ?_
  refine wpLex_cons2 _ (uni_val (by rfl) (Op.indexAddr 69 (Operand.tmp 40) (Operand.const (Value.int IntKind.i64 0))) rfl (.pointer (some ⟨n + 1, 0, none⟩)) (fun o' ho W _ => by go_simp)) (by simp only [Act.put, List.setIfInBounds_toArray, List.set_cons_zero, List.set_cons_succ]; rfl) ?_
  refine wpLex_cons2 _ (uni_cell (by rfl) 68 (.tmp 41) rfl (n + 1) 0 (.int .u64 (wn ya)) rfl (fun W hW => (((b2).on hW).cell 0).trans y0) Tryd.underlying68 rfl) (by simp only [Act.put, List.setIfInBounds_toArray, List.set_cons_zero, List.set_cons_succ]; rfl) ?_
  refine wpLex_cons2 _ (uni_val (by rfl) (Op.fieldAddr 71 (Operand.tmp 3) 0) rfl (.pointer (some ⟨n + 1, 0, none⟩)) (fun o' ho W _ => by go_simp)) (by simp only [Act.put, List.setIfInBounds_toArray, List.set_cons_zero, List.set_cons_succ]; rfl) ?_
  refine wpLex_cons2 _ (uni_val (by rfl) (Op.indexAddr 69 (Operand.tmp 43) (Operand.const (Value.int IntKind.i64 1))) rfl (.pointer (some ⟨n + 1, 1, none⟩)) (fun o' ho W _ => by go_simp)) (by simp only [Act.put, List.setIfInBounds_toArray, List.set_cons_zero, List.set_cons_succ]; rfl) ?_
  refine wpLex_cons2 _ (uni_cell (by rfl) 68 (.tmp 44) rfl (n + 1) 1 (.int .u64 (wn yb)) rfl (fun W hW => (((b2).on hW).cell 1).trans y1) Tryd.underlying68 rfl) (by simp only [Act.put, List.setIfInBounds_toArray, List.set_cons_zero, List.set_cons_succ]; rfl) ?_
  refine wpLex_cons2 _ (uni_val (by rfl) (Op.fieldAddr 71 (Operand.tmp 3) 0) rfl (.pointer (some ⟨n + 1, 0, none⟩)) (fun o' ho W _ => by go_simp)) (by simp only [Act.put, List.setIfInBounds_toArray, List.set_cons_zero, List.set_cons_succ]; rfl) ?_
  refine wpLex_cons2 _ (uni_val (by rfl) (Op.indexAddr 69 (Operand.tmp 46) (Operand.const (Value.int IntKind.i64 2))) rfl (.pointer (some ⟨n + 1, 2, none⟩)) (fun o' ho W _ => by go_simp)) (by simp only [Act.put, List.setIfInBounds_toArray, List.set_cons_zero, List.set_cons_succ]; rfl) ?_
  refine wpLex_cons2 _ (uni_cell (by rfl) 68 (.tmp 47) rfl (n + 1) 2 (.int .u64 (wn yc)) rfl (fun W hW => (((b2).on hW).cell 2).trans y2) Tryd.underlying68 rfl) (by simp only [Act.put, List.setIfInBounds_toArray, List.set_cons_zero, List.set_cons_succ]; rfl) ?_
  refine wpLex_cons2 _ (uni_val (by rfl) (Op.fieldAddr 71 (Operand.tmp 3) 0) rfl (.pointer (some ⟨n + 1, 0, none⟩)) (fun o' ho W _ => by go_simp)) (by simp only [Act.put, List.setIfInBounds_toArray, List.set_cons_zero, List.set_cons_succ]; rfl) ?_
  refine wpLex_cons2 _ (uni_val (by rfl) (Op.indexAddr 69 (Operand.tmp 49) (Operand.const (Value.int IntKind.i64 3))) rfl (.pointer (some ⟨n + 1, 3, none⟩)) (fun o' ho W _ => by go_simp)) (by simp only [Act.put, List.setIfInBounds_toArray, List.set_cons_zero, List.set_cons_succ]; rfl) ?_
  refine wpLex_cons2 _ (uni_cell (by rfl) 68 (.tmp 50) rfl (n + 1) 3 (.int .u64 (wn yd)) rfl (fun W hW => (((b2).on hW).cell 3).trans y3) Tryd.underlying68 rfl) (by simp only [Act.put, List.setIfInBounds_toArray, List.set_cons_zero, List.set_cons_succ]; rfl) ?_
  refine wpLex_cons2 _ (uni_val (by rfl) (Op.fieldAddr 71 (Operand.tmp 3) 0) rfl (.pointer (some ⟨n + 1, 0, none⟩)) (fun o' ho W _ => by go_simp)) (by simp only [Act.put, List.setIfInBounds_toArray, List.set_cons_zero, List.set_cons_succ]; rfl) ?_
  refine wpLex_cons2 _ (uni_val (by rfl) (Op.indexAddr 69 (Operand.tmp 52) (Operand.const (Value.int IntKind.i64 4))) rfl (.pointer (some ⟨n + 1, 4, none⟩)) (fun o' ho W _ => by go_simp)) (by simp only [Act.put, List.setIfInBounds_toArray, List.set_cons_zero, List.set_cons_succ]; rfl) ?_
  refine wpLex_cons2 _ (uni_cell (by rfl) 68 (.tmp 53) rfl (n + 1) 4 (.int .u64 (wn ye)) rfl (fun W hW => (((b2).on hW).cell 4).trans y4) Tryd.underlying68 rfl) (by simp only [Act.put, List.setIfInBounds_toArray, List.set_cons_zero, List.set_cons_succ]; rfl) ?_
  refine wpLex_cons2 _ (uni_val (by rfl) (Op.assign (Operand.tmp 42)) rfl (.int .u64 (wn ya)) (fun o' ho W _ => by go_simp)) (by simp only [Act.put, List.setIfInBounds_toArray, List.set_cons_zero, List.set_cons_succ]; rfl) ?_
  refine wpLex_cons2 _ (uni_val (by rfl) (Op.assign (Operand.tmp 45)) rfl (.int .u64 (wn yb)) (fun o' ho W _ => by go_simp)) (by simp only [Act.put, List.setIfInBounds_toArray, List.set_cons_zero, List.set_cons_succ]; rfl) ?_
  refine wpLex_cons2 _ (uni_val (by rfl) (Op.assign (Operand.tmp 48)) rfl (.int .u64 (wn yc)) (fun o' ho W _ => by go_simp)) (by simp only [Act.put, List.setIfInBounds_toArray, List.set_cons_zero, List.set_cons_succ]; rfl) ?_
  refine wpLex_cons2 _ (uni_val (by rfl) (Op.assign (Operand.tmp 51)) rfl (.int .u64 (wn yd)) (fun o' ho W _ => by go_simp)) (by simp only [Act.put, List.setIfInBounds_toArray, List.set_cons_zero, List.set_cons_succ]; rfl) ?_
  refine wpLex_cons2 _ (uni_val (by rfl) (Op.assign (Operand.tmp 54)) rfl (.int .u64 (wn ye)) (fun o' ho W _ => by go_simp)) (by simp only [Act.put, List.setIfInBounds_toArray, List.set_cons_zero, List.set_cons_succ]; rfl) ?_
  intro w3 hW
  replace b1 := b1.on hW
  replace b2 := b2.on hW
  replace b3 := b3.on hW
  replace be := be.trans (hW.mono (by have := be.size; omega))
  clear hW w2
  clear x0 x1 x2 x3 x4 y0 y1 y2 y3 y4 b1 b2
  have h4 := wmul19
  go_upto_region 5 with (refine wpList_newAt rfl 110 rfl w20.cs zero64 w3.heap.size rfl ?_)
  clear h4
  have b4 : Blk (w3.alloc (.cells w20.cs.toArray 110)) w3.heap.size w20.cs 110 := Blk.new _ _ _
  replace b3 := b3.alloc (.cells w20.cs.toArray 110)
  replace be := be.alloc (by have := be.size; omega) (.cells w20.cs.toArray 110)
  obtain ⟨m, hm⟩ : ∃ m, w3.heap.size = m := ⟨_, rfl⟩
  rw [hm] at b4 ⊢
  clear hm
  generalize w3.alloc (.cells w20.cs.toArray 110) = w4 at b3 b4 be ⊢
  simp only [Act.put, List.setIfInBounds_toArray, List.set_cons_zero, List.set_cons_succ]
  refine lst_newT 16 rfl rfl rfl rfl 20 rfl 110 rfl w20.cs zero64 rfl rfl (.tmp 78) rfl ?_
  simp only [List.take_succ_cons, List.take_zero]
  refine wpLex_cons2 _ (uni_row rfl 110 (.tmp 19) rfl m w20.cs 110 rfl (fun W hW => b4.on hW) Tryd.underlying110 rfl (w2_info _)) (by simp only [Act.put, List.setIfInBounds_toArray, List.set_cons_zero, List.set_cons_succ]; rfl) ?_
  refine wpLex_cons2 _ (uni_val (by rfl) (Op.move (Operand.tmp 5)) rfl (.int .u64 (wn xa)) (fun o' ho W _ => by go_simp)) (by simp only [Act.put, List.setIfInBounds_toArray, List.set_cons_zero, List.set_cons_succ]; rfl) ?_
  refine wpLex_cons2 _ (uni_val (by rfl) (Op.move (Operand.tmp 10)) rfl (.int .u64 (wn ya)) (fun o' ho W _ => by go_simp)) (by simp only [Act.put, List.setIfInBounds_toArray, List.set_cons_zero, List.set_cons_succ]; rfl) ?_
  refine wpLex_cons2 _ (uni_callF (by rfl) 55 [Operand.tmp 63, Operand.tmp 64, Operand.tmp 65] #[110, 68, 68] rfl [w20.v, .int .u64 (wn xa), .int .u64 (wn ya)] ((plW w20 xa ya).v) rfl enter55 (fun W hW => plusW w20 xa ya W)) (by simp only [Act.put, List.setIfInBounds_toArray, List.set_cons_zero, List.set_cons_succ]; rfl) ?_
  refine wpLex_cons2 _ (uni_val (by rfl) (Op.move (Operand.tmp 6)) rfl (.int .u64 (wn xb)) (fun o' ho W _ => by go_simp)) (by simp only [Act.put, List.setIfInBounds_toArray, List.set_cons_zero, List.set_cons_succ]; rfl) ?_
  refine wpLex_cons2 _ (uni_val (by rfl) (Op.move (Operand.tmp 18)) rfl (.int .u64 (wn (19#64 * ye))) (fun o' ho W _ => by go_simp)) (by simp only [Act.put, List.setIfInBounds_toArray, List.set_cons_zero, List.set_cons_succ]; rfl) ?_
  refine wpLex_cons2 _ (uni_callF (by rfl) 55 [Operand.tmp 66, Operand.tmp 67, Operand.tmp 68] #[110, 68, 68] rfl [((plW w20 xa ya).v), .int .u64 (wn xb), .int .u64 (wn (19#64 * ye))] ((plW (plW w20 xa ya) xb (19#64 * ye)).v) rfl enter55 (fun W hW => plusW (plW w20 xa ya) xb (19#64 * ye) W)) (by simp only [Act.put, List.setIfInBounds_toArray, List.set_cons_zero, List.set_cons_succ]; rfl) ?_
  refine wpLex_cons2 _ (uni_val (by rfl) (Op.move (Operand.tmp 7)) rfl (.int .u64 (wn xc)) (fun o' ho W _ => by go_simp)) (by simp only [Act.put, List.setIfInBounds_toArray, List.set_cons_zero, List.set_cons_succ]; rfl) ?_
  refine wpLex_cons2 _ (uni_val (by rfl) (Op.move (Operand.tmp 17)) rfl (.int .u64 (wn (19#64 * yd))) (fun o' ho W _ => by go_simp)) (by simp only [Act.put, List.setIfInBounds_toArray, List.set_cons_zero, List.set_cons_succ]; rfl) ?_
  refine wpLex_cons2 _ (uni_callF (by rfl) 55 [Operand.tmp 69, Operand.tmp 70, Operand.tmp 71] #[110, 68, 68] rfl [((plW (plW w20 xa ya) xb (19#64 * ye)).v), .int .u64 (wn xc), .int .u64 (wn (19#64 * yd))] ((plW (plW (plW w20 xa ya) xb (19#64 * ye)) xc (19#64 * yd)).v) rfl enter55 (fun W hW => plusW (plW (plW w20 xa ya) xb (19#64 * ye)) xc (19#64 * yd) W)) (by simp only [Act.put, List.setIfInBounds_toArray, List.set_cons_zero, List.set_cons_succ]; rfl) ?_
  refine wpLex_cons2 _ (uni_val (by rfl) (Op.move (Operand.tmp 8)) rfl (.int .u64 (wn xd)) (fun o' ho W _ => by go_simp)) (by simp only [Act.put, List.setIfInBounds_toArray, List.set_cons_zero, List.set_cons_succ]; rfl) ?_
  refine wpLex_cons2 _ (uni_val (by rfl) (Op.move (Operand.tmp 16)) rfl (.int .u64 (wn (19#64 * yc))) (fun o' ho W _ => by go_simp)) (by simp only [Act.put, List.setIfInBounds_toArray, List.set_cons_zero, List.set_cons_succ]; rfl) ?_
  refine wpLex_cons2 _ (uni_callF (by rfl) 55 [Operand.tmp 72, Operand.tmp 73, Operand.tmp 74] #[110, 68, 68] rfl [((plW (plW (plW w20 xa ya) xb (19#64 * ye)) xc (19#64 * yd)).v), .int .u64 (wn xd), .int .u64 (wn (19#64 * yc))] ((plW (plW (plW (plW w20 xa ya) xb (19#64 * ye)) xc (19#64 * yd)) xd (19#64 * yc)).v) rfl enter55 (fun W hW => plusW (plW (plW (plW w20 xa ya) xb (19#64 * ye)) xc (19#64 * yd)) xd (19#64 * yc) W)) (by simp only [Act.put, List.setIfInBounds_toArray, List.set_cons_zero, List.set_cons_succ]; rfl) ?_
  refine wpLex_cons2 _ (uni_val (by rfl) (Op.move (Operand.tmp 9)) rfl (.int .u64 (wn xe)) (fun o' ho W _ => by go_simp)) (by simp only [Act.put, List.setIfInBounds_toArray, List.set_cons_zero, List.set_cons_succ]; rfl) ?_
  refine wpLex_cons2 _ (uni_val (by rfl) (Op.move (Operand.tmp 15)) rfl (.int .u64 (wn (19#64 * yb))) (fun o' ho W _ => by go_simp)) (by simp only [Act.put, List.setIfInBounds_toArray, List.set_cons_zero, List.set_cons_succ]; rfl) ?_
  refine wpLex_cons2 _ (uni_callF (by rfl) 55 [Operand.tmp 75, Operand.tmp 76, Operand.tmp 77] #[110, 68, 68] rfl [((plW (plW (plW (plW w20 xa ya) xb (19#64 * ye)) xc (19#64 * yd)) xd (19#64 * yc)).v), .int .u64 (wn xe), .int .u64 (wn (19#64 * yb))] ((plW (plW (plW (plW (plW w20 xa ya) xb (19#64 * ye)) xc (19#64 * yd)) xd (19#64 * yc)) xe (19#64 * yb)).v) rfl enter55 (fun W hW => plusW (plW (plW (plW (plW w20 xa ya) xb (19#64 * ye)) xc (19#64 * yd)) xd (19#64 * yc)) xe (19#64 * yb) W)) (by simp only [Act.put, List.setIfInBounds_toArray, List.set_cons_zero, List.set_cons_succ]; rfl) ?_
  refine ⟨((plW (plW (plW (plW (plW w20 xa ya) xb (19#64 * ye)) xc (19#64 * yd)) xd (19#64 * yc)) xe (19#64 * yb))).cs, rfl, by simp, by simp, w2_info _, w2_len _, w2_one _, fun g0 w5 hg hW c0 => ?_⟩
  simp only [Act.put, List.setIfInBounds_toArray, List.set_cons_zero, List.set_cons_succ]
  replace b3 := b3.on hW
  replace b4 := b4.on hW
  replace be := be.trans (hW.mono (by have := be.size; omega))
  clear hW hg w4
  obtain ⟨s0, hs0⟩ : ∃ s, ms0 ⟨xa, xb, xc, xd, xe⟩ ⟨ya, yb, yc, yd, ye⟩ = s := ⟨_, rfl⟩
  rw [hs0] at HM
  rw [show (plW (plW (plW (plW (plW w20 xa ya) xb (19#64 * ye)) xc (19#64 * yd)) xd (19#64 * yc)) xe (19#64 * yb)) = s0 from hs0] at c0 ⊢
  clear hs0
  go_upto_region 6 with fail
  refine lst_newT 16 rfl rfl rfl rfl 21 rfl 110 rfl w20.cs zero64 rfl rfl (.tmp 94) rfl ?_
  simp only [List.take_succ_cons, List.take_zero]
  refine wpLex_cons2 _ (uni_row rfl 110 (.tmp 19) rfl m w20.cs 110 rfl (fun W hW => b4.on hW) Tryd.underlying110 rfl (w2_info _)) (by simp only [Act.put, List.setIfInBounds_toArray, List.set_cons_zero, List.set_cons_succ]; rfl) ?_
  refine wpLex_cons2 _ (uni_val (by rfl) (Op.move (Operand.tmp 5)) rfl (.int .u64 (wn xa)) (fun o' ho W _ => by go_simp)) (by simp only [Act.put, List.setIfInBounds_toArray, List.set_cons_zero, List.set_cons_succ]; rfl) ?_
  refine wpLex_cons2 _ (uni_val (by rfl) (Op.move (Operand.tmp 11)) rfl (.int .u64 (wn yb)) (fun o' ho W _ => by go_simp)) (by simp only [Act.put, List.setIfInBounds_toArray, List.set_cons_zero, List.set_cons_succ]; rfl) ?_
  refine wpLex_cons2 _ (uni_callF (by rfl) 55 [Operand.tmp 79, Operand.tmp 80, Operand.tmp 81] #[110, 68, 68] rfl [w20.v, .int .u64 (wn xa), .int .u64 (wn yb)] ((plW w20 xa yb).v) rfl enter55 (fun W hW => plusW w20 xa yb W)) (by simp only [Act.put, List.setIfInBounds_toArray, List.set_cons_zero, List.set_cons_succ]; rfl) ?_
  refine wpLex_cons2 _ (uni_val (by rfl) (Op.move (Operand.tmp 6)) rfl (.int .u64 (wn xb)) (fun o' ho W _ => by go_simp)) (by simp only [Act.put, List.setIfInBounds_toArray, List.set_cons_zero, List.set_cons_succ]; rfl) ?_
  refine wpLex_cons2 _ (uni_val (by rfl) (Op.move (Operand.tmp 10)) rfl (.int .u64 (wn ya)) (fun o' ho W _ => by go_simp)) (by simp only [Act.put, List.setIfInBounds_toArray, List.set_cons_zero, List.set_cons_succ]; rfl) ?_
  refine wpLex_cons2 _ (uni_callF (by rfl) 55 [Operand.tmp 82, Operand.tmp 83, Operand.tmp 84] #[110, 68, 68] rfl [((plW w20 xa yb).v), .int .u64 (wn xb), .int .u64 (wn ya)] ((plW (plW w20 xa yb) xb ya).v) rfl enter55 (fun W hW => plusW (plW w20 xa yb) xb ya W)) (by simp only [Act.put, List.setIfInBounds_toArray, List.set_cons_zero, List.set_cons_succ]; rfl) ?_
  refine wpLex_cons2 _ (uni_val (by rfl) (Op.move (Operand.tmp 7)) rfl (.int .u64 (wn xc)) (fun o' ho W _ => by go_simp)) (by simp only [Act.put, List.setIfInBounds_toArray, List.set_cons_zero, List.set_cons_succ]; rfl) ?_
  refine wpLex_cons2 _ (uni_val (by rfl) (Op.move (Operand.tmp 18)) rfl (.int .u64 (wn (19#64 * ye))) (fun o' ho W _ => by go_simp)) (by simp only [Act.put, List.setIfInBounds_toArray, List.set_cons_zero, List.set_cons_succ]; rfl) ?_
  refine wpLex_cons2 _ (uni_callF (by rfl) 55 [Operand.tmp 85, Operand.tmp 86, Operand.tmp 87] #[110, 68, 68] rfl [((plW (plW w20 xa yb) xb ya).v), .int .u64 (wn xc), .int .u64 (wn (19#64 * ye))] ((plW (plW (plW w20 xa yb) xb ya) xc (19#64 * ye)).v) rfl enter55 (fun W hW => plusW (plW (plW w20 xa yb) xb ya) xc (19#64 * ye) W)) (by simp only [Act.put, List.setIfInBounds_toArray, List.set_cons_zero, List.set_cons_succ]; rfl) ?_
  refine wpLex_cons2 _ (uni_val (by rfl) (Op.move (Operand.tmp 8)) rfl (.int .u64 (wn xd)) (fun o' ho W _ => by go_simp)) (by simp only [Act.put, List.setIfInBounds_toArray, List.set_cons_zero, List.set_cons_succ]; rfl) ?_
  refine wpLex_cons2 _ (uni_val (by rfl) (Op.move (Operand.tmp 17)) rfl (.int .u64 (wn (19#64 * yd))) (fun o' ho W _ => by go_simp)) (by simp only [Act.put, List.setIfInBounds_toArray, List.set_cons_zero, List.set_cons_succ]; rfl) ?_
  refine wpLex_cons2 _ (uni_callF (by rfl) 55 [Operand.tmp 88, Operand.tmp 89, Operand.tmp 90] #[110, 68, 68] rfl [((plW (plW (plW w20 xa yb) xb ya) xc (19#64 * ye)).v), .int .u64 (wn xd), .int .u64 (wn (19#64 * yd))] ((plW (plW (plW (plW w20 xa yb) xb ya) xc (19#64 * ye)) xd (19#64 * yd)).v) rfl enter55 (fun W hW => plusW (plW (plW (plW w20 xa yb) xb ya) xc (19#64 * ye)) xd (19#64 * yd) W)) (by simp only [Act.put, List.setIfInBounds_toArray, List.set_cons_zero, List.set_cons_succ]; rfl) ?_
  refine wpLex_cons2 _ (uni_val (by rfl) (Op.move (Operand.tmp 9)) rfl (.int .u64 (wn xe)) (fun o' ho W _ => by go_simp)) (by simp only [Act.put, List.setIfInBounds_toArray, List.set_cons_zero, List.set_cons_succ]; rfl) ?_
  refine wpLex_cons2 _ (uni_val (by rfl) (Op.move (Operand.tmp 16)) rfl (.int .u64 (wn (19#64 * yc))) (fun o' ho W _ => by go_simp)) (by simp only [Act.put, List.setIfInBounds_toArray, List.set_cons_zero, List.set_cons_succ]; rfl) ?_
  refine wpLex_cons2 _ (uni_callF (by rfl) 55 [Operand.tmp 91, Operand.tmp 92, Operand.tmp 93] #[110, 68, 68] rfl [((plW (plW (plW (plW w20 xa yb) xb ya) xc (19#64 * ye)) xd (19#64 * yd)).v), .int .u64 (wn xe), .int .u64 (wn (19#64 * yc))] ((plW (plW (plW (plW (plW w20 xa yb) xb ya) xc (19#64 * ye)) xd (19#64 * yd)) xe (19#64 * yc)).v) rfl enter55 (fun W hW => plusW (plW (plW (plW (plW w20 xa yb) xb ya) xc (19#64 * ye)) xd (19#64 * yd)) xe (19#64 * yc) W)) (by simp only [Act.put, List.setIfInBounds_toArray, List.set_cons_zero, List.set_cons_succ]; rfl) ?_
  refine ⟨((plW (plW (plW (plW (plW w20 xa yb) xb ya) xc (19#64 * ye)) xd (19#64 * yd)) xe (19#64 * yc))).cs, rfl, by simp, by simp, w2_info _, w2_len _, w2_one _, fun g1 w6 hg hW c1 => ?_⟩
  simp only [Act.put, List.setIfInBounds_toArray, List.set_cons_zero, List.set_cons_succ]
  replace b3 := b3.on hW
  replace b4 := b4.on hW
  replace c0 := c0.on hW
  replace be := be.trans (hW.mono (by have := be.size; omega))
  clear hW hg w5
  obtain ⟨s1, hs1⟩ : ∃ s, ms1 ⟨xa, xb, xc, xd, xe⟩ ⟨ya, yb, yc, yd, ye⟩ = s := ⟨_, rfl⟩
  rw [hs1] at HM
  rw [show (plW (plW (plW (plW (plW w20 xa yb) xb ya) xc (19#64 * ye)) xd (19#64 * yd)) xe (19#64 * yc)) = s1 from hs1] at c1 ⊢
  clear hs1
  go_upto_region 7 with fail
  refine lst_newT 16 rfl rfl rfl rfl 22 rfl 110 rfl w20.cs zero64 rfl rfl (.tmp 110) rfl ?_
  simp only [List.take_succ_cons, List.take_zero]
  refine wpLex_cons2 _ (uni_row rfl 110 (.tmp 19) rfl m w20.cs 110 rfl (fun W hW => b4.on hW) Tryd.underlying110 rfl (w2_info _)) (by simp only [Act.put, List.setIfInBounds_toArray, List.set_cons_zero, List.set_cons_succ]; rfl) ?_
  refine wpLex_cons2 _ (uni_val (by rfl) (Op.move (Operand.tmp 5)) rfl (.int .u64 (wn xa)) (fun o' ho W _ => by go_simp)) (by simp only [Act.put, List.setIfInBounds_toArray, List.set_cons_zero, List.set_cons_succ]; rfl) ?_
  refine wpLex_cons2 _ (uni_val (by rfl) (Op.move (Operand.tmp 12)) rfl (.int .u64 (wn yc)) (fun o' ho W _ => by go_simp)) (by simp only [Act.put, List.setIfInBounds_toArray, List.set_cons_zero, List.set_cons_succ]; rfl) ?_
  refine wpLex_cons2 _ (uni_callF (by rfl) 55 [Operand.tmp 95, Operand.tmp 96, Operand.tmp 97] #[110, 68, 68] rfl [w20.v, .int .u64 (wn xa), .int .u64 (wn yc)] ((plW w20 xa yc).v) rfl enter55 (fun W hW => plusW w20 xa yc W)) (by simp only [Act.put, List.setIfInBounds_toArray, List.set_cons_zero, List.set_cons_succ]; rfl) ?_
  refine wpLex_cons2 _ (uni_val (by rfl) (Op.move (Operand.tmp 6)) rfl (.int .u64 (wn xb)) (fun o' ho W _ => by go_simp)) (by simp only [Act.put, List.setIfInBounds_toArray, List.set_cons_zero, List.set_cons_succ]; rfl) ?_
  refine wpLex_cons2 _ (uni_val (by rfl) (Op.move (Operand.tmp 11)) rfl (.int .u64 (wn yb)) (fun o' ho W _ => by go_simp)) (by simp only [Act.put, List.setIfInBounds_toArray, List.set_cons_zero, List.set_cons_succ]; rfl) ?_
  refine wpLex_cons2 _ (uni_callF (by rfl) 55 [Operand.tmp 98, Operand.tmp 99, Operand.tmp 100] #[110, 68, 68] rfl [((plW w20 xa yc).v), .int .u64 (wn xb), .int .u64 (wn yb)] ((plW (plW w20 xa yc) xb yb).v) rfl enter55 (fun W hW => plusW (plW w20 xa yc) xb yb W)) (by simp only [Act.put, List.setIfInBounds_toArray, List.set_cons_zero, List.set_cons_succ]; rfl) ?_
  refine wpLex_cons2 _ (uni_val (by rfl) (Op.move (Operand.tmp 7)) rfl (.int .u64 (wn xc)) (fun o' ho W _ => by go_simp)) (by simp only [Act.put, List.setIfInBounds_toArray, List.set_cons_zero, List.set_cons_succ]; rfl) ?_
  refine wpLex_cons2 _ (uni_val (by rfl) (Op.move (Operand.tmp 10)) rfl (.int .u64 (wn ya)) (fun o' ho W _ => by go_simp)) (by simp only [Act.put, List.setIfInBounds_toArray, List.set_cons_zero, List.set_cons_succ]; rfl) ?_
  refine wpLex_cons2 _ (uni_callF (by rfl) 55 [Operand.tmp 101, Operand.tmp 102, Operand.tmp 103] #[110, 68, 68] rfl [((plW (plW w20 xa yc) xb yb).v), .int .u64 (wn xc), .int .u64 (wn ya)] ((plW (plW (plW w20 xa yc) xb yb) xc ya).v) rfl enter55 (fun W hW => plusW (plW (plW w20 xa yc) xb yb) xc ya W)) (by simp only [Act.put, List.setIfInBounds_toArray, List.set_cons_zero, List.set_cons_succ]; rfl) ?_
  refine wpLex_cons2 _ (uni_val (by rfl) (Op.move (Operand.tmp 8)) rfl (.int .u64 (wn xd)) (fun o' ho W _ => by go_simp)) (by simp only [Act.put, List.setIfInBounds_toArray, List.set_cons_zero, List.set_cons_succ]; rfl) ?_
  refine wpLex_cons2 _ (uni_val (by rfl) (Op.move (Operand.tmp 18)) rfl (.int .u64 (wn (19#64 * ye))) (fun o' ho W _ => by go_simp)) (by simp only [Act.put, List.setIfInBounds_toArray, List.set_cons_zero, List.set_cons_succ]; rfl) ?_
  refine wpLex_cons2 _ (uni_callF (by rfl) 55 [Operand.tmp 104, Operand.tmp 105, Operand.tmp 106] #[110, 68, 68] rfl [((plW (plW (plW w20 xa yc) xb yb) xc ya).v), .int .u64 (wn xd), .int .u64 (wn (19#64 * ye))] ((plW (plW (plW (plW w20 xa yc) xb yb) xc ya) xd (19#64 * ye)).v) rfl enter55 (fun W hW => plusW (plW (plW (plW w20 xa yc) xb yb) xc ya) xd (19#64 * ye) W)) (by simp only [Act.put, List.setIfInBounds_toArray, List.set_cons_zero, List.set_cons_succ]; rfl) ?_
  refine wpLex_cons2 _ (uni_val (by rfl) (Op.move (Operand.tmp 9)) rfl (.int .u64 (wn xe)) (fun o' ho W _ => by go_simp)) (by simp only [Act.put, List.setIfInBounds_toArray, List.set_cons_zero, List.set_cons_succ]; rfl) ?_
  refine wpLex_cons2 _ (uni_val (by rfl) (Op.move (Operand.tmp 17)) rfl (.int .u64 (wn (19#64 * yd))) (fun o' ho W _ => by go_simp)) (by simp only [Act.put, List.setIfInBounds_toArray, List.set_cons_zero, List.set_cons_succ]; rfl) ?_
  refine wpLex_cons2 _ (uni_callF (by rfl) 55 [Operand.tmp 107, Operand.tmp 108, Operand.tmp 109] #[110, 68, 68] rfl [((plW (plW (plW (plW w20 xa yc) xb yb) xc ya) xd (19#64 * ye)).v), .int .u64 (wn xe), .int .u64 (wn (19#64 * yd))] ((plW (plW (plW (plW (plW w20 xa yc) xb yb) xc ya) xd (19#64 * ye)) xe (19#64 * yd)).v) rfl enter55 (fun W hW => plusW (plW (plW (plW (plW w20 xa yc) xb yb) xc ya) xd (19#64 * ye)) xe (19#64 * yd) W)) (by simp only [Act.put, List.setIfInBounds_toArray, List.set_cons_zero, List.set_cons_succ]; rfl) ?_
  refine ⟨((plW (plW (plW (plW (plW w20 xa yc) xb yb) xc ya) xd (19#64 * ye)) xe (19#64 * yd))).cs, rfl, by simp, by simp, w2_info _, w2_len _, w2_one _, fun g2 w7 hg hW c2 => ?_⟩
  simp only [Act.put, List.setIfInBounds_toArray, List.set_cons_zero, List.set_cons_succ]
  replace b3 := b3.on hW
  replace b4 := b4.on hW
  replace c0 := c0.on hW
  replace c1 := c1.on hW
  replace be := be.trans (hW.mono (by have := be.size; omega))
  clear hW hg w6
  obtain ⟨s2, hs2⟩ : ∃ s, ms2 ⟨xa, xb, xc, xd, xe⟩ ⟨ya, yb, yc, yd, ye⟩ = s := ⟨_, rfl⟩
  rw [hs2] at HM
  rw [show (plW (plW (plW (plW (plW w20 xa yc) xb yb) xc ya) xd (19#64 * ye)) xe (19#64 * yd)) = s2 from hs2] at c2 ⊢
  clear hs2
  go_upto_region 8 with fail
  refine lst_newT 16 rfl rfl rfl rfl 23 rfl 110 rfl w20.cs zero64 rfl rfl (.tmp 126) rfl ?_
  simp only [List.take_succ_cons, List.take_zero]
  refine wpLex_cons2 _ (uni_row rfl 110 (.tmp 19) rfl m w20.cs 110 rfl (fun W hW => b4.on hW) Tryd.underlying110 rfl (w2_info _)) (by simp only [Act.put, List.setIfInBounds_toArray, List.set_cons_zero, List.set_cons_succ]; rfl) ?_
  refine wpLex_cons2 _ (uni_val (by rfl) (Op.move (Operand.tmp 5)) rfl (.int .u64 (wn xa)) (fun o' ho W _ => by go_simp)) (by simp only [Act.put, List.setIfInBounds_toArray, List.set_cons_zero, List.set_cons_succ]; rfl) ?_
  refine wpLex_cons2 _ (uni_val (by rfl) (Op.move (Operand.tmp 13)) rfl (.int .u64 (wn yd)) (fun o' ho W _ => by go_simp)) (by simp only [Act.put, List.setIfInBounds_toArray, List.set_cons_zero, List.set_cons_succ]; rfl) ?_
  refine wpLex_cons2 _ (uni_callF (by rfl) 55 [Operand.tmp 111, Operand.tmp 112, Operand.tmp 113] #[110, 68, 68] rfl [w20.v, .int .u64 (wn xa), .int .u64 (wn yd)] ((plW w20 xa yd).v) rfl enter55 (fun W hW => plusW w20 xa yd W)) (by simp only [Act.put, List.setIfInBounds_toArray, List.set_cons_zero, List.set_cons_succ]; rfl) ?_
  refine wpLex_cons2 _ (uni_val (by rfl) (Op.move (Operand.tmp 6)) rfl (.int .u64 (wn xb)) (fun o' ho W _ => by go_simp)) (by simp only [Act.put, List.setIfInBounds_toArray, List.set_cons_zero, List.set_cons_succ]; rfl) ?_
  refine wpLex_cons2 _ (uni_val (by rfl) (Op.move (Operand.tmp 12)) rfl (.int .u64 (wn yc)) (fun o' ho W _ => by go_simp)) (by simp only [Act.put, List.setIfInBounds_toArray, List.set_cons_zero, List.set_cons_succ]; rfl) ?_
  refine wpLex_cons2 _ (uni_callF (by rfl) 55 [Operand.tmp 114, Operand.tmp 115, Operand.tmp 116] #[110, 68, 68] rfl [((plW w20 xa yd).v), .int .u64 (wn xb), .int .u64 (wn yc)] ((plW (plW w20 xa yd) xb yc).v) rfl enter55 (fun W hW => plusW (plW w20 xa yd) xb yc W)) (by simp only [Act.put, List.setIfInBounds_toArray, List.set_cons_zero, List.set_cons_succ]; rfl) ?_
  refine wpLex_cons2 _ (uni_val (by rfl) (Op.move (Operand.tmp 7)) rfl (.int .u64 (wn xc)) (fun o' ho W _ => by go_simp)) (by simp only [Act.put, List.setIfInBounds_toArray, List.set_cons_zero, List.set_cons_succ]; rfl) ?_
  refine wpLex_cons2 _ (uni_val (by rfl) (Op.move (Operand.tmp 11)) rfl (.int .u64 (wn yb)) (fun o' ho W _ => by go_simp)) (by simp only [Act.put, List.setIfInBounds_toArray, List.set_cons_zero, List.set_cons_succ]; rfl) ?_
  refine wpLex_cons2 _ (uni_callF (by rfl) 55 [Operand.tmp 117, Operand.tmp 118, Operand.tmp 119] #[110, 68, 68] rfl [((plW (plW w20 xa yd) xb yc).v), .int .u64 (wn xc), .int .u64 (wn yb)] ((plW (plW (plW w20 xa yd) xb yc) xc yb).v) rfl enter55 (fun W hW => plusW (plW (plW w20 xa yd) xb yc) xc yb W)) (by simp only [Act.put, List.setIfInBounds_toArray, List.set_cons_zero, List.set_cons_succ]; rfl) ?_
  refine wpLex_cons2 _ (uni_val (by rfl) (Op.move (Operand.tmp 8)) rfl (.int .u64 (wn xd)) (fun o' ho W _ => by go_simp)) (by simp only [Act.put, List.setIfInBounds_toArray, List.set_cons_zero, List.set_cons_succ]; rfl) ?_
  refine wpLex_cons2 _ (uni_val (by rfl) (Op.move (Operand.tmp 10)) rfl (.int .u64 (wn ya)) (fun o' ho W _ => by go_simp)) (by simp only [Act.put, List.setIfInBounds_toArray, List.set_cons_zero, List.set_cons_succ]; rfl) ?_
  refine wpLex_cons2 _ (uni_callF (by rfl) 55 [Operand.tmp 120, Operand.tmp 121, Operand.tmp 122] #[110, 68, 68] rfl [((plW (plW (plW w20 xa yd) xb yc) xc yb).v), .int .u64 (wn xd), .int .u64 (wn ya)] ((plW (plW (plW (plW w20 xa yd) xb yc) xc yb) xd ya).v) rfl enter55 (fun W hW => plusW (plW (plW (plW w20 xa yd) xb yc) xc yb) xd ya W)) (by simp only [Act.put, List.setIfInBounds_toArray, List.set_cons_zero, List.set_cons_succ]; rfl) ?_
  refine wpLex_cons2 _ (uni_val (by rfl) (Op.move (Operand.tmp 9)) rfl (.int .u64 (wn xe)) (fun o' ho W _ => by go_simp)) (by simp only [Act.put, List.setIfInBounds_toArray, List.set_cons_zero, List.set_cons_succ]; rfl) ?_
  refine wpLex_cons2 _ (uni_val (by rfl) (Op.move (Operand.tmp 18)) rfl (.int .u64 (wn (19#64 * ye))) (fun o' ho W _ => by go_simp)) (by simp only [Act.put, List.setIfInBounds_toArray, List.set_cons_zero, List.set_cons_succ]; rfl) ?_
  refine wpLex_cons2 _ (uni_callF (by rfl) 55 [Operand.tmp 123, Operand.tmp 124, Operand.tmp 125] #[110, 68, 68] rfl [((plW (plW (plW (plW w20 xa yd) xb yc) xc yb) xd ya).v), .int .u64 (wn xe), .int .u64 (wn (19#64 * ye))] ((plW (plW (plW (plW (plW w20 xa yd) xb yc) xc yb) xd ya) xe (19#64 * ye)).v) rfl enter55 (fun W hW => plusW (plW (plW (plW (plW w20 xa yd) xb yc) xc yb) xd ya) xe (19#64 * ye) W)) (by simp only [Act.put, List.setIfInBounds_toArray, List.set_cons_zero, List.set_cons_succ]; rfl) ?_
  refine ⟨((plW (plW (plW (plW (plW w20 xa yd) xb yc) xc yb) xd ya) xe (19#64 * ye))).cs, rfl, by simp, by simp, w2_info _, w2_len _, w2_one _, fun g3 w8 hg hW c3 => ?_⟩
  simp only [Act.put, List.setIfInBounds_toArray, List.set_cons_zero, List.set_cons_succ]
  replace b3 := b3.on hW
  replace b4 := b4.on hW
  replace c0 := c0.on hW
  replace c1 := c1.on hW
  replace c2 := c2.on hW
  replace be := be.trans (hW.mono (by have := be.size; omega))
  clear hW hg w7
  obtain ⟨s3, hs3⟩ : ∃ s, ms3 ⟨xa, xb, xc, xd, xe⟩ ⟨ya, yb, yc, yd, ye⟩ = s := ⟨_, rfl⟩
  rw [hs3] at HM
  rw [show (plW (plW (plW (plW (plW w20 xa yd) xb yc) xc yb) xd ya) xe (19#64 * ye)) = s3 from hs3] at c3 ⊢
  clear hs3
  go_upto_region 9 with fail
  refine lst_newT 16 rfl rfl rfl rfl 24 rfl 110 rfl w20.cs zero64 rfl rfl (.tmp 142) rfl ?_
  simp only [List.take_succ_cons, List.take_zero]
  refine wpLex_cons2 _ (uni_row rfl 110 (.tmp 19) rfl m w20.cs 110 rfl (fun W hW => b4.on hW) Tryd.underlying110 rfl (w2_info _)) (by simp only [Act.put, List.setIfInBounds_toArray, List.set_cons_zero, List.set_cons_succ]; rfl) ?_
  refine wpLex_cons2 _ (uni_val (by rfl) (Op.move (Operand.tmp 5)) rfl (.int .u64 (wn xa)) (fun o' ho W _ => by go_simp)) (by simp only [Act.put, List.setIfInBounds_toArray, List.set_cons_zero, List.set_cons_succ]; rfl) ?_
  refine wpLex_cons2 _ (uni_val (by rfl) (Op.move (Operand.tmp 14)) rfl (.int .u64 (wn ye)) (fun o' ho W _ => by go_simp)) (by simp only [Act.put, List.setIfInBounds_toArray, List.set_cons_zero, List.set_cons_succ]; rfl) ?_
  refine wpLex_cons2 _ (uni_callF (by rfl) 55 [Operand.tmp 127, Operand.tmp 128, Operand.tmp 129] #[110, 68, 68] rfl [w20.v, .int .u64 (wn xa), .int .u64 (wn ye)] ((plW w20 xa ye).v) rfl enter55 (fun W hW => plusW w20 xa ye W)) (by simp only [Act.put, List.setIfInBounds_toArray, List.set_cons_zero, List.set_cons_succ]; rfl) ?_
  refine wpLex_cons2 _ (uni_val (by rfl) (Op.move (Operand.tmp 6)) rfl (.int .u64 (wn xb)) (fun o' ho W _ => by go_simp)) (by simp only [Act.put, List.setIfInBounds_toArray, List.set_cons_zero, List.set_cons_succ]; rfl) ?_
  refine wpLex_cons2 _ (uni_val (by rfl) (Op.move (Operand.tmp 13)) rfl (.int .u64 (wn yd)) (fun o' ho W _ => by go_simp)) (by simp only [Act.put, List.setIfInBounds_toArray, List.set_cons_zero, List.set_cons_succ]; rfl) ?_
  refine wpLex_cons2 _ (uni_callF (by rfl) 55 [Operand.tmp 130, Operand.tmp 131, Operand.tmp 132] #[110, 68, 68] rfl [((plW w20 xa ye).v), .int .u64 (wn xb), .int .u64 (wn yd)] ((plW (plW w20 xa ye) xb yd).v) rfl enter55 (fun W hW => plusW (plW w20 xa ye) xb yd W)) (by simp only [Act.put, List.setIfInBounds_toArray, List.set_cons_zero, List.set_cons_succ]; rfl) ?_
  refine wpLex_cons2 _ (uni_val (by rfl) (Op.move (Operand.tmp 7)) rfl (.int .u64 (wn xc)) (fun o' ho W _ => by go_simp)) (by simp only [Act.put, List.setIfInBounds_toArray, List.set_cons_zero, List.set_cons_succ]; rfl) ?_
  refine wpLex_cons2 _ (uni_val (by rfl) (Op.move (Operand.tmp 12)) rfl (.int .u64 (wn yc)) (fun o' ho W _ => by go_simp)) (by simp only [Act.put, List.setIfInBounds_toArray, List.set_cons_zero, List.set_cons_succ]; rfl) ?_
  refine wpLex_cons2 _ (uni_callF (by rfl) 55 [Operand.tmp 133, Operand.tmp 134, Operand.tmp 135] #[110, 68, 68] rfl [((plW (plW w20 xa ye) xb yd).v), .int .u64 (wn xc), .int .u64 (wn yc)] ((plW (plW (plW w20 xa ye) xb yd) xc yc).v) rfl enter55 (fun W hW => plusW (plW (plW w20 xa ye) xb yd) xc yc W)) (by simp only [Act.put, List.setIfInBounds_toArray, List.set_cons_zero, List.set_cons_succ]; rfl) ?_
  refine wpLex_cons2 _ (uni_val (by rfl) (Op.move (Operand.tmp 8)) rfl (.int .u64 (wn xd)) (fun o' ho W _ => by go_simp)) (by simp only [Act.put, List.setIfInBounds_toArray, List.set_cons_zero, List.set_cons_succ]; rfl) ?_
  refine wpLex_cons2 _ (uni_val (by rfl) (Op.move (Operand.tmp 11)) rfl (.int .u64 (wn yb)) (fun o' ho W _ => by go_simp)) (by simp only [Act.put, List.setIfInBounds_toArray, List.set_cons_zero, List.set_cons_succ]; rfl) ?_
  refine wpLex_cons2 _ (uni_callF (by rfl) 55 [Operand.tmp 136, Operand.tmp 137, Operand.tmp 138] #[110, 68, 68] rfl [((plW (plW (plW w20 xa ye) xb yd) xc yc).v), .int .u64 (wn xd), .int .u64 (wn yb)] ((plW (plW (plW (plW w20 xa ye) xb yd) xc yc) xd yb).v) rfl enter55 (fun W hW => plusW (plW (plW (plW w20 xa ye) xb yd) xc yc) xd yb W)) (by simp only [Act.put, List.setIfInBounds_toArray, List.set_cons_zero, List.set_cons_succ]; rfl) ?_
  refine wpLex_cons2 _ (uni_val (by rfl) (Op.move (Operand.tmp 9)) rfl (.int .u64 (wn xe)) (fun o' ho W _ => by go_simp)) (by simp only [Act.put, List.setIfInBounds_toArray, List.set_cons_zero, List.set_cons_succ]; rfl) ?_
  refine wpLex_cons2 _ (uni_val (by rfl) (Op.move (Operand.tmp 10)) rfl (.int .u64 (wn ya)) (fun o' ho W _ => by go_simp)) (by simp only [Act.put, List.setIfInBounds_toArray, List.set_cons_zero, List.set_cons_succ]; rfl) ?_
  refine wpLex_cons2 _ (uni_callF (by rfl) 55 [Operand.tmp 139, Operand.tmp 140, Operand.tmp 141] #[110, 68, 68] rfl [((plW (plW (plW (plW w20 xa ye) xb yd) xc yc) xd yb).v), .int .u64 (wn xe), .int .u64 (wn ya)] ((plW (plW (plW (plW (plW w20 xa ye) xb yd) xc yc) xd yb) xe ya).v) rfl enter55 (fun W hW => plusW (plW (plW (plW (plW w20 xa ye) xb yd) xc yc) xd yb) xe ya W)) (by simp only [Act.put, List.setIfInBounds_toArray, List.set_cons_zero, List.set_cons_succ]; rfl) ?_
  refine ⟨((plW (plW (plW (plW (plW w20 xa ye) xb yd) xc yc) xd yb) xe ya)).cs, rfl, by simp, by simp, w2_info _, w2_len _, w2_one _, fun g4 w9 hg hW c4 => ?_⟩
  simp only [Act.put, List.setIfInBounds_toArray, List.set_cons_zero, List.set_cons_succ]
  replace b3 := b3.on hW
  replace b4 := b4.on hW
  replace c0 := c0.on hW
  replace c1 := c1.on hW
  replace c2 := c2.on hW
  replace c3 := c3.on hW
  replace be := be.trans (hW.mono (by have := be.size; omega))
  clear hW hg w8
  obtain ⟨s4, hs4⟩ : ∃ s, ms4 ⟨xa, xb, xc, xd, xe⟩ ⟨ya, yb, yc, yd, ye⟩ = s := ⟨_, rfl⟩
  rw [hs4] at HM
  rw [show (plW (plW (plW (plW (plW w20 xa ye) xb yd) xc yc) xd yb) xe ya) = s4 from hs4] at c4 ⊢
  clear hs4
  go_upto_region 10 with fail
  refine reg_putT (by kernel_rfl) 33 rfl rfl (by kernel_rfl) rfl rfl 71 (.tmp 4) (.tmp 175) rfl ?_
  simp only [List.take_succ_cons, List.take_zero]
  refine wpLex_cons2 _ (uni_val (by rfl) (Op.fieldAddr 110 (Operand.tmp 20) 1) rfl (.pointer (some ⟨g0, 1, none⟩)) (fun o' ho W _ => by go_simp)) (by simp only [Act.put, List.setIfInBounds_toArray, List.set_cons_zero, List.set_cons_succ]; rfl) ?_
  refine wpLex_cons2 _ (uni_cell (by rfl) 68 (.tmp 143) rfl g0 1 (.int .u64 (wn s0.l)) rfl (fun W hW => (c0.on hW).cell 1) Tryd.underlying68 rfl) (by simp only [Act.put, List.setIfInBounds_toArray, List.set_cons_zero, List.set_cons_succ]; rfl) ?_
  refine wpLex_cons2 _ (uni_val (by rfl) (Op.binOp BinOp.and 68 (Operand.tmp 144) (Operand.const (Value.int IntKind.u64 2251799813685247)) 68) rfl (.int .u64 (wn (s0.l &&& mk51))) (fun o' ho W _ => by have hh := wand51; go_simp)) (by simp only [Act.put, List.setIfInBounds_toArray, List.set_cons_zero, List.set_cons_succ]; rfl) ?_
  refine wpLex_cons2 _ (uni_row rfl 110 (.tmp 24) rfl g4 s4.cs 110 rfl (fun W hW => c4.on hW) Tryd.underlying110 rfl (w2_info _)) (by simp only [Act.put, List.setIfInBounds_toArray, List.set_cons_zero, List.set_cons_succ]; rfl) ?_
  refine wpLex_cons2 _ (uni_callF (by rfl) 57 [Operand.tmp 146] #[110] rfl [s4.v] (.int .u64 (wn s4.up)) rfl enter57 (fun W hW => aboveW s4 W)) (by simp only [Act.put, List.setIfInBounds_toArray, List.set_cons_zero, List.set_cons_succ]; rfl) ?_
  refine wpLex_cons2 _ (uni_val (by rfl) (Op.binOp BinOp.mul 68 (Operand.const (Value.int IntKind.u64 19)) (Operand.tmp 147) 68) rfl (.int .u64 (wn (19#64 * s4.up))) (fun o' ho W _ => by have hh := wmul19; go_simp)) (by simp only [Act.put, List.setIfInBounds_toArray, List.set_cons_zero, List.set_cons_succ]; rfl) ?_
  refine wpLex_cons2 _ (uni_val (by rfl) (Op.binOp BinOp.add 68 (Operand.tmp 145) (Operand.tmp 148) 68) rfl (.int .u64 (wn ((s0.l &&& mk51) + (19#64 * s4.up)))) (fun o' ho W _ => by have hh := wadd; go_simp)) (by simp only [Act.put, List.setIfInBounds_toArray, List.set_cons_zero, List.set_cons_succ]; rfl) ?_
  refine wpLex_cons2 _ (uni_val (by rfl) (Op.fieldAddr 110 (Operand.tmp 21) 1) rfl (.pointer (some ⟨g1, 1, none⟩)) (fun o' ho W _ => by go_simp)) (by simp only [Act.put, List.setIfInBounds_toArray, List.set_cons_zero, List.set_cons_succ]; rfl) ?_
  refine wpLex_cons2 _ (uni_cell (by rfl) 68 (.tmp 150) rfl g1 1 (.int .u64 (wn s1.l)) rfl (fun W hW => (c1.on hW).cell 1) Tryd.underlying68 rfl) (by simp only [Act.put, List.setIfInBounds_toArray, List.set_cons_zero, List.set_cons_succ]; rfl) ?_
  refine wpLex_cons2 _ (uni_val (by rfl) (Op.binOp BinOp.and 68 (Operand.tmp 151) (Operand.const (Value.int IntKind.u64 2251799813685247)) 68) rfl (.int .u64 (wn (s1.l &&& mk51))) (fun o' ho W _ => by have hh := wand51; go_simp)) (by simp only [Act.put, List.setIfInBounds_toArray, List.set_cons_zero, List.set_cons_succ]; rfl) ?_
  refine wpLex_cons2 _ (uni_row rfl 110 (.tmp 20) rfl g0 s0.cs 110 rfl (fun W hW => c0.on hW) Tryd.underlying110 rfl (w2_info _)) (by simp only [Act.put, List.setIfInBounds_toArray, List.set_cons_zero, List.set_cons_succ]; rfl) ?_
  refine wpLex_cons2 _ (uni_callF (by rfl) 57 [Operand.tmp 153] #[110] rfl [s0.v] (.int .u64 (wn s0.up)) rfl enter57 (fun W hW => aboveW s0 W)) (by simp only [Act.put, List.setIfInBounds_toArray, List.set_cons_zero, List.set_cons_succ]; rfl) ?_
  refine wpLex_cons2 _ (uni_val (by rfl) (Op.binOp BinOp.add 68 (Operand.tmp 152) (Operand.tmp 154) 68) rfl (.int .u64 (wn ((s1.l &&& mk51) + s0.up))) (fun o' ho W _ => by have hh := wadd; go_simp)) (by simp only [Act.put, List.setIfInBounds_toArray, List.set_cons_zero, List.set_cons_succ]; rfl) ?_
  refine wpLex_cons2 _ (uni_val (by rfl) (Op.fieldAddr 110 (Operand.tmp 22) 1) rfl (.pointer (some ⟨g2, 1, none⟩)) (fun o' ho W _ => by go_simp)) (by simp only [Act.put, List.setIfInBounds_toArray, List.set_cons_zero, List.set_cons_succ]; rfl) ?_
  refine wpLex_cons2 _ (uni_cell (by rfl) 68 (.tmp 156) rfl g2 1 (.int .u64 (wn s2.l)) rfl (fun W hW => (c2.on hW).cell 1) Tryd.underlying68 rfl) (by simp only [Act.put, List.setIfInBounds_toArray, List.set_cons_zero, List.set_cons_succ]; rfl) ?_
  refine wpLex_cons2 _ (uni_val (by rfl) (Op.binOp BinOp.and 68 (Operand.tmp 157) (Operand.const (Value.int IntKind.u64 2251799813685247)) 68) rfl (.int .u64 (wn (s2.l &&& mk51))) (fun o' ho W _ => by have hh := wand51; go_simp)) (by simp only [Act.put, List.setIfInBounds_toArray, List.set_cons_zero, List.set_cons_succ]; rfl) ?_
  refine wpLex_cons2 _ (uni_row rfl 110 (.tmp 21) rfl g1 s1.cs 110 rfl (fun W hW => c1.on hW) Tryd.underlying110 rfl (w2_info _)) (by simp only [Act.put, List.setIfInBounds_toArray, List.set_cons_zero, List.set_cons_succ]; rfl) ?_
  refine wpLex_cons2 _ (uni_callF (by rfl) 57 [Operand.tmp 159] #[110] rfl [s1.v] (.int .u64 (wn s1.up)) rfl enter57 (fun W hW => aboveW s1 W)) (by simp only [Act.put, List.setIfInBounds_toArray, List.set_cons_zero, List.set_cons_succ]; rfl) ?_
  refine wpLex_cons2 _ (uni_val (by rfl) (Op.binOp BinOp.add 68 (Operand.tmp 158) (Operand.tmp 160) 68) rfl (.int .u64 (wn ((s2.l &&& mk51) + s1.up))) (fun o' ho W _ => by have hh := wadd; go_simp)) (by simp only [Act.put, List.setIfInBounds_toArray, List.set_cons_zero, List.set_cons_succ]; rfl) ?_
  refine wpLex_cons2 _ (uni_val (by rfl) (Op.fieldAddr 110 (Operand.tmp 23) 1) rfl (.pointer (some ⟨g3, 1, none⟩)) (fun o' ho W _ => by go_simp)) (by simp only [Act.put, List.setIfInBounds_toArray, List.set_cons_zero, List.set_cons_succ]; rfl) ?_
  refine wpLex_cons2 _ (uni_cell (by rfl) 68 (.tmp 162) rfl g3 1 (.int .u64 (wn s3.l)) rfl (fun W hW => (c3.on hW).cell 1) Tryd.underlying68 rfl) (by simp only [Act.put, List.setIfInBounds_toArray, List.set_cons_zero, List.set_cons_succ]; rfl) ?_
  refine wpLex_cons2 _ (uni_val (by rfl) (Op.binOp BinOp.and 68 (Operand.tmp 163) (Operand.const (Value.int IntKind.u64 2251799813685247)) 68) rfl (.int .u64 (wn (s3.l &&& mk51))) (fun o' ho W _ => by have hh := wand51; go_simp)) (by simp only [Act.put, List.setIfInBounds_toArray, List.set_cons_zero, List.set_cons_succ]; rfl) ?_
  refine wpLex_cons2 _ (uni_row rfl 110 (.tmp 22) rfl g2 s2.cs 110 rfl (fun W hW => c2.on hW) Tryd.underlying110 rfl (w2_info _)) (by simp only [Act.put, List.setIfInBounds_toArray, List.set_cons_zero, List.set_cons_succ]; rfl) ?_
  refine wpLex_cons2 _ (uni_callF (by rfl) 57 [Operand.tmp 165] #[110] rfl [s2.v] (.int .u64 (wn s2.up)) rfl enter57 (fun W hW => aboveW s2 W)) (by simp only [Act.put, List.setIfInBounds_toArray, List.set_cons_zero, List.set_cons_succ]; rfl) ?_
  refine wpLex_cons2 _ (uni_val (by rfl) (Op.binOp BinOp.add 68 (Operand.tmp 164) (Operand.tmp 166) 68) rfl (.int .u64 (wn ((s3.l &&& mk51) + s2.up))) (fun o' ho W _ => by have hh := wadd; go_simp)) (by simp only [Act.put, List.setIfInBounds_toArray, List.set_cons_zero, List.set_cons_succ]; rfl) ?_
  refine wpLex_cons2 _ (uni_val (by rfl) (Op.fieldAddr 110 (Operand.tmp 24) 1) rfl (.pointer (some ⟨g4, 1, none⟩)) (fun o' ho W _ => by go_simp)) (by simp only [Act.put, List.setIfInBounds_toArray, List.set_cons_zero, List.set_cons_succ]; rfl) ?_
  refine wpLex_cons2 _ (uni_cell (by rfl) 68 (.tmp 168) rfl g4 1 (.int .u64 (wn s4.l)) rfl (fun W hW => (c4.on hW).cell 1) Tryd.underlying68 rfl) (by simp only [Act.put, List.setIfInBounds_toArray, List.set_cons_zero, List.set_cons_succ]; rfl) ?_
  refine wpLex_cons2 _ (uni_val (by rfl) (Op.binOp BinOp.and 68 (Operand.tmp 169) (Operand.const (Value.int IntKind.u64 2251799813685247)) 68) rfl (.int .u64 (wn (s4.l &&& mk51))) (fun o' ho W _ => by have hh := wand51; go_simp)) (by simp only [Act.put, List.setIfInBounds_toArray, List.set_cons_zero, List.set_cons_succ]; rfl) ?_
  refine wpLex_cons2 _ (uni_row rfl 110 (.tmp 23) rfl g3 s3.cs 110 rfl (fun W hW => c3.on hW) Tryd.underlying110 rfl (w2_info _)) (by simp only [Act.put, List.setIfInBounds_toArray, List.set_cons_zero, List.set_cons_succ]; rfl) ?_
  refine wpLex_cons2 _ (uni_callF (by rfl) 57 [Operand.tmp 171] #[110] rfl [s3.v] (.int .u64 (wn s3.up)) rfl enter57 (fun W hW => aboveW s3 W)) (by simp only [Act.put, List.setIfInBounds_toArray, List.set_cons_zero, List.set_cons_succ]; rfl) ?_
  refine wpLex_cons2 _ (uni_val (by rfl) (Op.binOp BinOp.add 68 (Operand.tmp 170) (Operand.tmp 172) 68) rfl (.int .u64 (wn ((s4.l &&& mk51) + s3.up))) (fun o' ho W _ => by have hh := wadd; go_simp)) (by simp only [Act.put, List.setIfInBounds_toArray, List.set_cons_zero, List.set_cons_succ]; rfl) ?_
  refine wpLex_cons2 _ (uni_val (by rfl) (Op.build 69 #[(0, Operand.tmp 149), (1, Operand.tmp 155), (2, Operand.tmp 161), (3, Operand.tmp 167), (4, Operand.tmp 173)]) rfl ((joinW s0 s1 s2 s3 s4).v) (fun o' ho W _ => by go_simp; rfl)) (by simp only [Act.put, List.setIfInBounds_toArray, List.set_cons_zero, List.set_cons_succ]; rfl) ?_
  refine wpLex_cons2 _ (uni_callF (by rfl) 56 [Operand.tmp 174] #[69] rfl [(joinW s0 s1 s2 s3 s4).v] ((carr (joinW s0 s1 s2 s3 s4)).v) rfl enter56 (fun W hW => carriedE (joinW s0 s1 s2 s3 s4) W)) (by simp only [Act.put, List.setIfInBounds_toArray, List.set_cons_zero, List.set_cons_succ]; rfl) ?_
  refine ⟨n + 1 + 1, (carr (joinW s0 s1 s2 s3 s4)).cs, z5, 71, rfl, rfl, b3, cs_info _, cs_len _, cs_one _, fun w10 hW => ?_⟩
  go_wp2
  refine bodyPost_ret (results_cell_row Tryd.results38 _ _ (n + 1 + 1) 71 (carr (joinW s0 s1 s2 s3 s4)).cs.toArray (0, 0) _ rfl ((b3.on hW).setRow _) Tryd.underlying71 rfl (cs_infoA _)) rfl ?_
  exact ⟨by rw [HM.out]; rfl, by rw [hn]; exact below_setRow (be.trans (hW.mono (by have := be.size; omega))) _ _ (by omega)⟩

end Go.Proofs.YtoceepmehmacbaaDoor.Cv
