import Derived.Test.YtnakeieeopbeiaaPw3
set_option linter.unusedVariables false
set_option linter.unusedSimpArgs false
namespace Go.Proofs.Ytnakeieeopbeiaa
open Go.RowKit

theorem cs_ln (X Y : L5) : X.cs.length = Y.cs.length := rfl
def rootM : L5 := mulE (sqN (onesE (small 2#32)) 3) (small 8#32)
def zeroE : L5 := ⟨0, 0, 0, 0, 0⟩
def eqE (x y : L5) : Bool := decide (tellE x = tellE y)
def oddE (x : L5) : Bool := decide (((tellE x).getD 0 0).toNat % 2 = 1)
theorem equalE (x y : L5) (w : World) : Calls Try.prog 12 #[x.v, y.v] w fun e w' => e = .returned (.bool (eqE x y)) ∧ Below w.heap.size w w' := equal_any x y w

set_option maxRecDepth 100000 in
set_option maxHeartbeats 4000000 in
theorem rootM_any (w : World) :
    Calls Try.prog 33 #[] w fun e w' => e = .returned rootM.v ∧ Below w.heap.size w w' := by
  have HR : Hid (rootM = mulE (sqN (onesE (small 2#32)) 3) (small 8#32)) := by rw [rootM]; trivial
  generalize rootM = R at HR ⊢
  go_enter Try.func33, Try.ntmps33
  go_upto_region 1 with (first | (refine wpList_newAt rfl 27 rfl z5 zero27 (w.heap.size) rfl ?_))
  have b0 : Blk (w.alloc (.cells (z5).toArray 27)) (w.heap.size) (z5) 27 := by
    have := Blk.new w (z5) 27
    simpa using this
  have be : Below w.heap.size w (w.alloc (.cells (z5).toArray 27)) := by go_grown
  generalize (w.alloc (.cells (z5).toArray 27)) = w1 at b0 be ⊢
  obtain ⟨n, hn⟩ : ∃ n, w.heap.size = n := ⟨_, rfl⟩
  rw [hn] at b0 be ⊢
  try simp only [Act.put, List.setIfInBounds_toArray, List.set_cons_zero, List.set_cons_succ]
  refine lst_putT 5 rfl rfl rfl rfl 27 (.tmp 0) (.tmp 5) rfl ?_
  simp only [List.take_succ_cons, List.take_zero]
  refine wpLex_cons2 _ (uni_callF (by rfl) 14 [Operand.const (Value.int IntKind.u32 2)] #[34] rfl [Value.int IntKind.u32 2] ((small 2#32).v) rfl enter14 (fun W hW => small_any 2#32 W)) (by simp only [Act.put, List.setIfInBounds_toArray, List.set_cons_zero, List.set_cons_succ]; rfl) ?_
  refine wpLex_cons2 _ (uni_callF (by rfl) 32 [Operand.tmp 1] #[27] rfl [((small 2#32).v)] ((onesE (small 2#32)).v) rfl enter32 (fun W hW => manyOnes_any (small 2#32) W)) (by simp only [Act.put, List.setIfInBounds_toArray, List.set_cons_zero, List.set_cons_succ]; rfl) ?_
  refine wpLex_cons2 _ (uni_callF (by rfl) 31 [Operand.tmp 2, Operand.const (Value.int IntKind.i64 3)] #[27, 3] rfl [((onesE (small 2#32)).v), Value.int IntKind.i64 3] ((sqN (onesE (small 2#32)) 3).v) rfl enter31 (fun W hW => squared_at (onesE (small 2#32)) 3 W)) (by simp only [Act.put, List.setIfInBounds_toArray, List.set_cons_zero, List.set_cons_succ]; rfl) ?_
  refine wpLex_cons2 _ (uni_callF (by rfl) 14 [Operand.const (Value.int IntKind.u32 8)] #[34] rfl [Value.int IntKind.u32 8] ((small 8#32).v) rfl enter14 (fun W hW => small_any 8#32 W)) (by simp only [Act.put, List.setIfInBounds_toArray, List.set_cons_zero, List.set_cons_succ]; rfl) ?_
  refine wpLex_cons2 _ (uni_callF (by rfl) 16 [Operand.tmp 3, Operand.tmp 4] #[27, 27] rfl [((sqN (onesE (small 2#32)) 3).v), ((small 8#32).v)] ((mulE (sqN (onesE (small 2#32)) 3) (small 8#32)).v) rfl enter16 (fun W hW => mul_any (sqN (onesE (small 2#32)) 3) (small 8#32) W)) (by simp only [Act.put, List.setIfInBounds_toArray, List.set_cons_zero, List.set_cons_succ]; rfl) ?_
  refine ⟨n, (mulE (sqN (onesE (small 2#32)) 3) (small 8#32)).cs, z5, 27, rfl, rfl, b0, cs_info _, cs_len _, cs_one _, fun wz hW => ?_⟩
  go_wp2
  refine bodyPost_ret (results_cell_row Try.results33 _ _ (n) 27 ((mulE (sqN (onesE (small 2#32)) 3) (small 8#32)).cs).toArray (0, 0) _ rfl ((b0.on hW).setRow _) Try.underlying27 rfl (cs_infoA _)) rfl ?_
  exact ⟨by rw [HR.out]; rfl, by rw [hn]; exact below_setRow (be.trans (hW.mono (by have := be.size; omega))) _ _ (by omega)⟩

theorem and1_u8 (u : UInt8) : bits .and .u8 (u.toNat : Int) (1 : Int) = ((u.toNat % 2 : Nat) : Int) := by
  have h := (bits_nat .u8 8 (by decide) wraps_u8 u.toNat 1 u.toNat_lt (by decide)).1
  have e : u.toNat &&& 1 = u.toNat % 2 := Nat.and_two_pow_sub_one_eq_mod u.toNat 1
  rw [← e]
  exact h

set_option maxRecDepth 100000 in
set_option maxHeartbeats 4000000 in
theorem odd_any (x : L5) (w : World) :
    Calls Try.prog 34 #[x.v] w fun e w' => e = .returned (.bool (oddE x)) ∧ Below w.heap.size w w' := by
  have hidx : ∀ W, (Instr.index 23 (.agg ((tellE x).map byt).toArray) (.int .i64 0)).run Try.prog W = .ok (.int .u8 (((tellE x).getD 0 0).toNat : Int)) W := fun W => run_byte (tellE x) (tell_length x) 0 (by decide) W
  have hx := fun W => bytes_any x W
  have HQ : Hid (oddE x = decide (((tellE x).getD 0 0).toNat % 2 = 1)) := rfl
  generalize oddE x = q at HQ ⊢
  generalize tellE x = L at hidx hx HQ
  have ha := and1_u8 (L.getD 0 0)
  generalize L.getD 0 0 = u at hidx ha HQ
  have hq2 : (((u.toNat % 2 : Nat) : Int) == 1) = q := by
    rw [HQ.out]
    by_cases h : u.toNat % 2 = 1
    · rw [h]; rfl
    · have h0 : u.toNat % 2 = 0 := by omega
      rw [h0]; rfl
  obtain ⟨p, hp⟩ : ∃ p : Int, p = ((u.toNat % 2 : Nat) : Int) := ⟨_, rfl⟩
  rw [← hp] at ha hq2
  clear hp HQ
  go_enter Try.func34, Try.ntmps34
  go_upto_region 1 with (first | (refine wpList_boxAt rfl 27 (.tmp 0) rfl (x.cs) rfl (w.heap.size) rfl ?_))
  have b0 : Blk (w.alloc (.cells (x.cs).toArray 27)) (w.heap.size) (x.cs) 27 := by
    have := Blk.new w (x.cs) 27
    simpa using this
  have be : Below w.heap.size w (w.alloc (.cells (x.cs).toArray 27)) := by go_grown
  generalize (w.alloc (.cells (x.cs).toArray 27)) = w1 at b0 be ⊢
  obtain ⟨n, hn⟩ : ∃ n, w.heap.size = n := ⟨_, rfl⟩
  rw [hn] at b0 be ⊢
  try simp only [Act.put, List.setIfInBounds_toArray, List.set_cons_zero, List.set_cons_succ]
  refine lst_all ?_
  refine wpLex_cons2 _ (uni_row rfl 27 (.tmp 1) rfl n x.cs 27 rfl (fun W hW => b0.on hW) Try.underlying27 rfl (cs_info _)) (by simp only [Act.put, List.setIfInBounds_toArray, List.set_cons_zero, List.set_cons_succ]; rfl) ?_
  refine wpLex_cons2 _ (uni_callF (by rfl) 10 [Operand.tmp 3] #[27] rfl [x.v] (.agg (L.map byt).toArray) rfl enter10 (fun W hW => hx W)) (by simp only [Act.put, List.setIfInBounds_toArray, List.set_cons_zero, List.set_cons_succ]; rfl) ?_
  refine wpLex_cons2 _ (uni_val (by rfl) (Op.index 23 (Operand.tmp 4) (Operand.const (Value.int IntKind.i64 0))) rfl (.int .u8 (u.toNat : Int)) (fun o' ho W _ => by have h := hidx W; go_simp)) (by simp only [Act.put, List.setIfInBounds_toArray, List.set_cons_zero, List.set_cons_succ]; rfl) ?_
  refine wpLex_cons2 _ (uni_val (by rfl) (Op.binOp BinOp.and 5 (Operand.tmp 5) (Operand.const (Value.int IntKind.u8 1)) 5) rfl (.int .u8 p) (fun o' ho W _ => by go_simp)) (by simp only [Act.put, List.setIfInBounds_toArray, List.set_cons_zero, List.set_cons_succ]; rfl) ?_
  refine wpLex_cons2 _ (uni_val (by rfl) (Op.binOp BinOp.eql 5 (Operand.tmp 6) (Operand.const (Value.int IntKind.u8 1)) 5) rfl (.bool q) (fun o' ho W _ => by go_simp)) (by simp only [Act.put, List.setIfInBounds_toArray, List.set_cons_zero, List.set_cons_succ]; rfl) ?_
  refine wpLex_cons2 _ (uni_val (by rfl) (Op.assign (Operand.tmp 7)) rfl (.bool q) (fun o' ho W _ => by go_simp)) (by simp only [Act.put, List.setIfInBounds_toArray, List.set_cons_zero, List.set_cons_succ]; rfl) ?_
  intro w2 hW
  go_wp2
  go_ret
  exact ⟨rfl, by rw [hn]; exact be.trans (hW.mono (by have := be.size; omega))⟩

def root1 (x : L5) : L5 := mulE (sqN (onesE x) 2) (mulE x x)
def root2 (x : L5) : L5 := if eqE (mulE (root1 x) (root1 x)) x = true then root1 x else mulE (root1 x) rootM
def rootE (x : L5) : L5 := if eqE (mulE (root2 x) (root2 x)) x = true then (if oddE (root2 x) = true then subE zeroE (root2 x) else root2 x) else zeroE
def hasE (x : L5) : Bool := eqE (mulE (root2 x) (root2 x)) x
theorem build27 (W : World) : (Instr.build 27 #[]).run Try.prog W = .ok zeroE.v W := by kernel_rfl
theorem results_two {P : Program} {fn : Func} {p q : Tmp} {ty : TypeId} (h : fn.results = #[.cell p ty, .tmp q]) (tmps : Array Value) (w : World) (g : Nat) (t : TypeId) (cs : Array Value) (fr : Nat × Nat) (d : TypeDesc) (v : Value)
    (hp : tmps.getD p undef = .pointer (some ⟨g, 0, none⟩)) (hq : tmps.getD q undef = v) (hg : w.heap[g]? = some (.cells cs t fr))
    (hu : P.underlying ty = some d) (hd : (match d with | .struct _ | .array _ _ => true | _ => false) = true) (hi : (P.info? ty).map (·.size) = some cs.size) :
    (results fn tmps).run P w = .ok (.tuple #[.agg cs, v]) w := by
  have hp' : tmps[p]?.getD undef = .pointer (some ⟨g, 0, none⟩) := by simpa using hp
  have hq' : tmps[q]?.getD undef = v := by simpa using hq
  simp [results, h, hp', hq', asAddr, run_loadVar_row w g t ty cs fr d hg hu hd hi]

set_option maxRecDepth 100000 in
set_option maxHeartbeats 20000000 in
theorem root_any (x : L5) (w : World) :
    Calls Try.prog 22 #[x.v] w fun e w' => e = .returned (.tuple #[(rootE x).v, .bool (hasE x)]) ∧ Below w.heap.size w w' := by
  have hq1 := fun W => equalE (mulE (root1 x) (root1 x)) x W
  have hr2 : Hid (root2 x = if eqE (mulE (root1 x) (root1 x)) x = true then root1 x else mulE (root1 x) rootM) := rfl
  have hq2 := fun W => equalE (mulE (root2 x) (root2 x)) x W
  have hod := fun W => odd_any (root2 x) W
  have hres : Hid (rootE x = if eqE (mulE (root2 x) (root2 x)) x = true then (if oddE (root2 x) = true then subE zeroE (root2 x) else root2 x) else zeroE) := rfl
  have hhas : Hid (hasE x = eqE (mulE (root2 x) (root2 x)) x) := rfl
  generalize rootE x = R at hres ⊢
  generalize hasE x = ok at hhas ⊢
  generalize oddE (root2 x) = od at hod hres
  generalize eqE (mulE (root2 x) (root2 x)) x = q2 at hq2 hres hhas
  generalize eqE (mulE (root1 x) (root1 x)) x = q1 at hq1 hr2
  generalize root2 x = r2 at hr2 hq2 hod hres
  have h1 : Hid (root1 x = mulE (sqN (onesE x) 2) (mulE x x)) := rfl
  generalize root1 x = r1 at h1 hr2 hq1
  go_enter Try.func22, Try.ntmps22
  go_upto_region 1 with (first | (refine wpList_boxAt rfl 27 (.tmp 0) rfl (x.cs) rfl (w.heap.size) rfl ?_) | (refine wpList_newAt rfl 27 rfl z5 zero27 (w.heap.size + 1) (by simp) ?_))
  have b0 : Blk ((w.alloc (.cells (x.cs).toArray 27)).alloc (.cells (z5).toArray 27)) (w.heap.size) (x.cs) 27 := by
    have := (Blk.new w (x.cs) 27).alloc (.cells (z5).toArray 27)
    simpa using this
  have b1 : Blk ((w.alloc (.cells (x.cs).toArray 27)).alloc (.cells (z5).toArray 27)) (w.heap.size + 1) (z5) 27 := by
    have := Blk.new (w.alloc (.cells (x.cs).toArray 27)) (z5) 27
    simpa using this
  have be : Below w.heap.size w ((w.alloc (.cells (x.cs).toArray 27)).alloc (.cells (z5).toArray 27)) := by go_grown
  generalize ((w.alloc (.cells (x.cs).toArray 27)).alloc (.cells (z5).toArray 27)) = w1 at b0 b1 be ⊢
  obtain ⟨n, hn⟩ : ∃ n, w.heap.size = n := ⟨_, rfl⟩
  rw [hn] at b0 b1 be ⊢
  try simp only [Act.put, List.setIfInBounds_toArray, List.set_cons_zero, List.set_cons_succ]
  have hb1 := b1.lt
  refine reg_newT (by kernel_rfl) 6 rfl rfl rfl (by kernel_rfl) rfl 4 rfl 27 rfl z5 zero27 rfl rfl (.tmp 10) rfl ?_
  simp only [List.take_succ_cons, List.take_zero]
  refine wpLex_cons2 _ (uni_row rfl 27 (.tmp 1) rfl n x.cs 27 rfl (fun W hW => b0.on hW) Try.underlying27 rfl (cs_info _)) (by simp only [Act.put, List.setIfInBounds_toArray, List.set_cons_zero, List.set_cons_succ]; rfl) ?_
  refine wpLex_cons2 _ (uni_callF (by rfl) 32 [Operand.tmp 5] #[27] rfl [x.v] ((onesE x).v) rfl enter32 (fun W hW => manyOnes_any x W)) (by simp only [Act.put, List.setIfInBounds_toArray, List.set_cons_zero, List.set_cons_succ]; rfl) ?_
  refine wpLex_cons2 _ (uni_callF (by rfl) 31 [Operand.tmp 6, Operand.const (Value.int IntKind.i64 2)] #[27, 3] rfl [((onesE x).v), Value.int IntKind.i64 2] ((sqN (onesE x) 2).v) rfl enter31 (fun W hW => squared_at (onesE x) 2 W)) (by simp only [Act.put, List.setIfInBounds_toArray, List.set_cons_zero, List.set_cons_succ]; rfl) ?_
  refine wpLex_cons2 _ (uni_row rfl 27 (.tmp 1) rfl n x.cs 27 rfl (fun W hW => b0.on hW) Try.underlying27 rfl (cs_info _)) (by simp only [Act.put, List.setIfInBounds_toArray, List.set_cons_zero, List.set_cons_succ]; rfl) ?_
  refine wpLex_cons2 _ (uni_callF (by rfl) 20 [Operand.tmp 8] #[27] rfl [x.v] ((mulE x x).v) rfl enter20 (fun W hW => square_any x W)) (by simp only [Act.put, List.setIfInBounds_toArray, List.set_cons_zero, List.set_cons_succ]; rfl) ?_
  refine wpLex_cons2 _ (uni_callF (by rfl) 16 [Operand.tmp 7, Operand.tmp 9] #[27, 27] rfl [((sqN (onesE x) 2).v), ((mulE x x).v)] ((mulE (sqN (onesE x) 2) (mulE x x)).v) rfl enter16 (fun W hW => mul_any (sqN (onesE x) 2) (mulE x x) W)) (by simp only [Act.put, List.setIfInBounds_toArray, List.set_cons_zero, List.set_cons_succ]; rfl) ?_
  refine ⟨(mulE (sqN (onesE x) 2) (mulE x x)).cs, rfl, by simp, by simp, cs_info _, cs_len _, cs_one _, fun gcr w2 hg hW cr => ?_⟩
  simp only [Act.put, List.setIfInBounds_toArray, List.set_cons_zero, List.set_cons_succ]
  replace b0 := b0.on hW
  replace b1 := b1.on hW
  replace be := be.trans (hW.mono (by have := be.size; omega))
  have hlt : n + 1 < gcr := Nat.lt_of_lt_of_le hb1 hg
  clear hb1
  clear hW hg w1
  rw [← h1.out] at cr ⊢
  go_upto_region 2 with fail
  refine reg_all (by kernel_rfl) (by kernel_rfl) ?_
  refine wpLex_cons2 _ (uni_row rfl 27 (.tmp 4) rfl gcr r1.cs 27 rfl (fun W hW => cr.on hW) Try.underlying27 rfl (cs_info _)) (by simp only [Act.put, List.setIfInBounds_toArray, List.set_cons_zero, List.set_cons_succ]; rfl) ?_
  refine wpLex_cons2 _ (uni_callF (by rfl) 20 [Operand.tmp 11] #[27] rfl [r1.v] ((mulE r1 r1).v) rfl enter20 (fun W hW => square_any r1 W)) (by simp only [Act.put, List.setIfInBounds_toArray, List.set_cons_zero, List.set_cons_succ]; rfl) ?_
  refine wpLex_cons2 _ (uni_row rfl 27 (.tmp 1) rfl n x.cs 27 rfl (fun W hW => b0.on hW) Try.underlying27 rfl (cs_info _)) (by simp only [Act.put, List.setIfInBounds_toArray, List.set_cons_zero, List.set_cons_succ]; rfl) ?_
  refine wpLex_cons2 _ (uni_callF (by rfl) 12 [Operand.tmp 12, Operand.tmp 13] #[27, 27] rfl [((mulE r1 r1).v), x.v] (.bool q1) rfl enter12 (fun W hW => hq1 W)) (by simp only [Act.put, List.setIfInBounds_toArray, List.set_cons_zero, List.set_cons_succ]; rfl) ?_
  refine wpLex_cons2 _ (uni_val (by rfl) (Op.unOp UnOp.not 4 (Operand.tmp 14)) rfl (.bool (!q1)) (fun o' ho W _ => by go_simp)) (by simp only [Act.put, List.setIfInBounds_toArray, List.set_cons_zero, List.set_cons_succ]; rfl) ?_
  intro w3 hW
  replace b0 := b0.on hW
  replace b1 := b1.on hW
  replace cr := cr.on hW
  replace be := be.trans (hW.mono (by have := be.size; omega))
  clear hW w2
  cases q1 with
  | true =>
    have h2 : r2 = r1 := by rw [hr2.out]; rfl
    rw [← h2] at cr
    clear h2
    go_upto_region 4 with fail
    refine reg_all (by kernel_rfl) (by kernel_rfl) ?_
    refine wpLex_cons2 _ (uni_row rfl 27 (.tmp 4) rfl gcr r2.cs 27 rfl (fun W hW => cr.on hW) Try.underlying27 rfl (cs_info _)) (by simp only [Act.put, List.setIfInBounds_toArray, List.set_cons_zero, List.set_cons_succ]; rfl) ?_
    refine wpLex_cons2 _ (uni_callF (by rfl) 20 [Operand.tmp 19] #[27] rfl [r2.v] ((mulE r2 r2).v) rfl enter20 (fun W hW => square_any r2 W)) (by simp only [Act.put, List.setIfInBounds_toArray, List.set_cons_zero, List.set_cons_succ]; rfl) ?_
    refine wpLex_cons2 _ (uni_row rfl 27 (.tmp 1) rfl n x.cs 27 rfl (fun W hW => b0.on hW) Try.underlying27 rfl (cs_info _)) (by simp only [Act.put, List.setIfInBounds_toArray, List.set_cons_zero, List.set_cons_succ]; rfl) ?_
    refine wpLex_cons2 _ (uni_callF (by rfl) 12 [Operand.tmp 20, Operand.tmp 21] #[27, 27] rfl [((mulE r2 r2).v), x.v] (.bool q2) rfl enter12 (fun W hW => hq2 W)) (by simp only [Act.put, List.setIfInBounds_toArray, List.set_cons_zero, List.set_cons_succ]; rfl) ?_
    refine wpLex_cons2 _ (uni_val (by rfl) (Op.unOp UnOp.not 4 (Operand.tmp 22)) rfl (.bool (!q2)) (fun o' ho W _ => by go_simp)) (by simp only [Act.put, List.setIfInBounds_toArray, List.set_cons_zero, List.set_cons_succ]; rfl) ?_
    intro w4 hW
    replace b0 := b0.on hW
    replace b1 := b1.on hW
    replace cr := cr.on hW
    replace be := be.trans (hW.mono (by have := be.size; omega))
    clear hW w3
    cases q2 with
    | false =>
      have hR : Hid (R = zeroE) := by have h := hres.out; simp at h; exact h
      have hO : Hid (ok = false) := hhas
      go_wp2_with (first | (refine wpList_store_row rfl 27 (.tmp 2) (.tmp 24) rfl (n + 1) zeroE.cs.toArray rfl rfl 27 z5.toArray b1 (cs_infoA _) (cs_size _) (cs_one _) ?_) | simp only [build27])
      refine bodyPost_ret (results_two Try.results22 _ _ (n + 1) 27 zeroE.cs.toArray (0, 0) _ (.bool false) rfl rfl (b1.setRow _) Try.underlying27 rfl (cs_infoA _)) rfl ?_
      exact ⟨by rw [hR.out, hO.out]; rfl, by first | (rw [hn]; exact below_setRow be _ _ (by omega)) | exact below_setRow be _ _ (by omega)⟩
    | true =>
      have hO : Hid (ok = true) := hhas
      go_upto_region 6 with fail
      refine lst_all ?_
      refine wpLex_cons2 _ (uni_row rfl 27 (.tmp 4) rfl gcr r2.cs 27 rfl (fun W hW => cr.on hW) Try.underlying27 rfl (cs_info _)) (by simp only [Act.put, List.setIfInBounds_toArray, List.set_cons_zero, List.set_cons_succ]; rfl) ?_
      refine wpLex_cons2 _ (uni_callF (by rfl) 34 [Operand.tmp 25] #[27] rfl [r2.v] (.bool od) rfl enter34 (fun W hW => hod W)) (by simp only [Act.put, List.setIfInBounds_toArray, List.set_cons_zero, List.set_cons_succ]; rfl) ?_
      intro w5 hW
      replace b0 := b0.on hW
      replace b1 := b1.on hW
      replace cr := cr.on hW
      replace be := be.trans (hW.mono (by have := be.size; omega))
      clear hW w4
      cases od with
      | false =>
        have hR : Hid (R = r2) := by have h := hres.out; simp at h; exact h
        go_wp2_with (first | (refine wpList_load_row rfl 27 (.tmp 4) rfl gcr rfl 27 r2.cs.toArray (0, 0) _ cr Try.underlying27 rfl (cs_infoA _) ?_) | (refine wpList_store_row rfl 27 (.tmp 2) (.tmp 30) rfl (n + 1) r2.cs.toArray rfl rfl 27 z5.toArray b1 (cs_infoA _) (cs_size _) (cs_one _) ?_))
        refine bodyPost_ret (results_two Try.results22 _ _ (n + 1) 27 r2.cs.toArray (0, 0) _ (.bool true) rfl rfl (b1.setRow _) Try.underlying27 rfl (cs_infoA _)) rfl ?_
        exact ⟨by rw [hR.out, hO.out]; rfl, by first | (rw [hn]; exact below_setRow be _ _ (by omega)) | exact below_setRow be _ _ (by omega)⟩
      | true =>
        have hR : Hid (R = subE zeroE r2) := by have h := hres.out; simp at h; exact h
        go_upto_region 7 with fail
        refine lst_putT 3 rfl rfl rfl rfl 27 (.tmp 4) (.tmp 29) rfl ?_
        simp only [List.take_succ_cons, List.take_zero]
        refine wpLex_cons2 _ (uni_val (by rfl) (Op.build 27 #[]) rfl zeroE.v (fun o' ho W _ => by have hbb := build27 W; go_simp <;> rfl)) (by simp only [Act.put, List.setIfInBounds_toArray, List.set_cons_zero, List.set_cons_succ]; rfl) ?_
        refine wpLex_cons2 _ (uni_row rfl 27 (.tmp 4) rfl gcr r2.cs 27 rfl (fun W hW => cr.on hW) Try.underlying27 rfl (cs_info _)) (by simp only [Act.put, List.setIfInBounds_toArray, List.set_cons_zero, List.set_cons_succ]; rfl) ?_
        refine wpLex_cons2 _ (uni_callF (by rfl) 19 [Operand.tmp 27, Operand.tmp 28] #[27, 27] rfl [zeroE.v, r2.v] ((subE zeroE r2).v) rfl enter19 (fun W hW => sub_any zeroE r2 W)) (by simp only [Act.put, List.setIfInBounds_toArray, List.set_cons_zero, List.set_cons_succ]; rfl) ?_
        refine ⟨gcr, (subE zeroE r2).cs, r2.cs, 27, rfl, rfl, cr, cs_info _, cs_ln _ _, cs_one _, fun wy hW => ?_⟩
        replace b1 := (b1.on hW).setRowOther gcr (subE zeroE r2).cs.toArray (by omega)
        replace cr := (cr.on hW).setRow (subE zeroE r2).cs
        replace be := below_setRow (be.trans (hW.mono (by have := be.size; omega))) gcr (subE zeroE r2).cs.toArray (by omega)
        go_wp2_with (first | (refine wpList_load_row rfl 27 (.tmp 4) rfl gcr rfl 27 (subE zeroE r2).cs.toArray (0, 0) _ cr Try.underlying27 rfl (cs_infoA _) ?_) | (refine wpList_store_row rfl 27 (.tmp 2) (.tmp 30) rfl (n + 1) (subE zeroE r2).cs.toArray rfl rfl 27 z5.toArray b1 (cs_infoA _) (cs_size _) (cs_one _) ?_))
        refine bodyPost_ret (results_two Try.results22 _ _ (n + 1) 27 (subE zeroE r2).cs.toArray (0, 0) _ (.bool true) rfl rfl (b1.setRow _) Try.underlying27 rfl (cs_infoA _)) rfl ?_
        exact ⟨by rw [hR.out, hO.out]; rfl, by first | (rw [hn]; exact below_setRow be _ _ (by omega)) | exact below_setRow be _ _ (by omega)⟩
  | false =>
    have h2 : r2 = mulE r1 rootM := by rw [hr2.out]; rfl
    go_upto_region 3 with fail
    refine reg_putT (by kernel_rfl) 3 rfl rfl (by kernel_rfl) rfl rfl 27 (.tmp 4) (.tmp 18) rfl ?_
    simp only [List.take_succ_cons, List.take_zero]
    refine wpLex_cons2 _ (uni_row rfl 27 (.tmp 4) rfl gcr r1.cs 27 rfl (fun W hW => cr.on hW) Try.underlying27 rfl (cs_info _)) (by simp only [Act.put, List.setIfInBounds_toArray, List.set_cons_zero, List.set_cons_succ]; rfl) ?_
    refine wpLex_cons2 _ (uni_callF (by rfl) 33 [] #[] rfl [] (rootM.v) rfl enter33 (fun W hW => rootM_any W)) (by simp only [Act.put, List.setIfInBounds_toArray, List.set_cons_zero, List.set_cons_succ]; rfl) ?_
    refine wpLex_cons2 _ (uni_callF (by rfl) 16 [Operand.tmp 16, Operand.tmp 17] #[27, 27] rfl [r1.v, (rootM.v)] ((mulE r1 rootM).v) rfl enter16 (fun W hW => mul_any r1 rootM W)) (by simp only [Act.put, List.setIfInBounds_toArray, List.set_cons_zero, List.set_cons_succ]; rfl) ?_
    refine ⟨gcr, (mulE r1 rootM).cs, r1.cs, 27, rfl, rfl, cr, cs_info _, cs_ln _ _, cs_one _, fun wx hW => ?_⟩
    rw [← h2]
    replace b0 := (b0.on hW).setRowOther gcr r2.cs.toArray (by omega)
    replace b1 := (b1.on hW).setRowOther gcr r2.cs.toArray (by omega)
    replace cr := (cr.on hW).setRow r2.cs
    replace be := below_setRow (be.trans (hW.mono (by have := be.size; omega))) gcr r2.cs.toArray (by omega)
    clear h2 hW
    generalize wx.setRow gcr r2.cs.toArray = wy at b0 b1 cr be ⊢
    go_upto_region 4 with fail
    refine reg_all (by kernel_rfl) (by kernel_rfl) ?_
    refine wpLex_cons2 _ (uni_row rfl 27 (.tmp 4) rfl gcr r2.cs 27 rfl (fun W hW => cr.on hW) Try.underlying27 rfl (cs_info _)) (by simp only [Act.put, List.setIfInBounds_toArray, List.set_cons_zero, List.set_cons_succ]; rfl) ?_
    refine wpLex_cons2 _ (uni_callF (by rfl) 20 [Operand.tmp 19] #[27] rfl [r2.v] ((mulE r2 r2).v) rfl enter20 (fun W hW => square_any r2 W)) (by simp only [Act.put, List.setIfInBounds_toArray, List.set_cons_zero, List.set_cons_succ]; rfl) ?_
    refine wpLex_cons2 _ (uni_row rfl 27 (.tmp 1) rfl n x.cs 27 rfl (fun W hW => b0.on hW) Try.underlying27 rfl (cs_info _)) (by simp only [Act.put, List.setIfInBounds_toArray, List.set_cons_zero, List.set_cons_succ]; rfl) ?_
    refine wpLex_cons2 _ (uni_callF (by rfl) 12 [Operand.tmp 20, Operand.tmp 21] #[27, 27] rfl [((mulE r2 r2).v), x.v] (.bool q2) rfl enter12 (fun W hW => hq2 W)) (by simp only [Act.put, List.setIfInBounds_toArray, List.set_cons_zero, List.set_cons_succ]; rfl) ?_
    refine wpLex_cons2 _ (uni_val (by rfl) (Op.unOp UnOp.not 4 (Operand.tmp 22)) rfl (.bool (!q2)) (fun o' ho W _ => by go_simp)) (by simp only [Act.put, List.setIfInBounds_toArray, List.set_cons_zero, List.set_cons_succ]; rfl) ?_
    intro w4 hW
    replace b0 := b0.on hW
    replace b1 := b1.on hW
    replace cr := cr.on hW
    replace be := be.trans (hW.mono (by have := be.size; omega))
    clear hW wx
    cases q2 with
    | false =>
      have hR : Hid (R = zeroE) := by have h := hres.out; simp at h; exact h
      have hO : Hid (ok = false) := hhas
      go_wp2_with (first | (refine wpList_store_row rfl 27 (.tmp 2) (.tmp 24) rfl (n + 1) zeroE.cs.toArray rfl rfl 27 z5.toArray b1 (cs_infoA _) (cs_size _) (cs_one _) ?_) | simp only [build27])
      refine bodyPost_ret (results_two Try.results22 _ _ (n + 1) 27 zeroE.cs.toArray (0, 0) _ (.bool false) rfl rfl (b1.setRow _) Try.underlying27 rfl (cs_infoA _)) rfl ?_
      exact ⟨by rw [hR.out, hO.out]; rfl, by first | (rw [hn]; exact below_setRow be _ _ (by omega)) | exact below_setRow be _ _ (by omega)⟩
    | true =>
      have hO : Hid (ok = true) := hhas
      go_upto_region 6 with fail
      refine lst_all ?_
      refine wpLex_cons2 _ (uni_row rfl 27 (.tmp 4) rfl gcr r2.cs 27 rfl (fun W hW => cr.on hW) Try.underlying27 rfl (cs_info _)) (by simp only [Act.put, List.setIfInBounds_toArray, List.set_cons_zero, List.set_cons_succ]; rfl) ?_
      refine wpLex_cons2 _ (uni_callF (by rfl) 34 [Operand.tmp 25] #[27] rfl [r2.v] (.bool od) rfl enter34 (fun W hW => hod W)) (by simp only [Act.put, List.setIfInBounds_toArray, List.set_cons_zero, List.set_cons_succ]; rfl) ?_
      intro w5 hW
      replace b0 := b0.on hW
      replace b1 := b1.on hW
      replace cr := cr.on hW
      replace be := be.trans (hW.mono (by have := be.size; omega))
      clear hW w4
      cases od with
      | false =>
        have hR : Hid (R = r2) := by have h := hres.out; simp at h; exact h
        go_wp2_with (first | (refine wpList_load_row rfl 27 (.tmp 4) rfl gcr rfl 27 r2.cs.toArray (0, 0) _ cr Try.underlying27 rfl (cs_infoA _) ?_) | (refine wpList_store_row rfl 27 (.tmp 2) (.tmp 30) rfl (n + 1) r2.cs.toArray rfl rfl 27 z5.toArray b1 (cs_infoA _) (cs_size _) (cs_one _) ?_))
        refine bodyPost_ret (results_two Try.results22 _ _ (n + 1) 27 r2.cs.toArray (0, 0) _ (.bool true) rfl rfl (b1.setRow _) Try.underlying27 rfl (cs_infoA _)) rfl ?_
        exact ⟨by rw [hR.out, hO.out]; rfl, by first | (rw [hn]; exact below_setRow be _ _ (by omega)) | exact below_setRow be _ _ (by omega)⟩
      | true =>
        have hR : Hid (R = subE zeroE r2) := by have h := hres.out; simp at h; exact h
        go_upto_region 7 with fail
        refine lst_putT 3 rfl rfl rfl rfl 27 (.tmp 4) (.tmp 29) rfl ?_
        simp only [List.take_succ_cons, List.take_zero]
        refine wpLex_cons2 _ (uni_val (by rfl) (Op.build 27 #[]) rfl zeroE.v (fun o' ho W _ => by have hbb := build27 W; go_simp <;> rfl)) (by simp only [Act.put, List.setIfInBounds_toArray, List.set_cons_zero, List.set_cons_succ]; rfl) ?_
        refine wpLex_cons2 _ (uni_row rfl 27 (.tmp 4) rfl gcr r2.cs 27 rfl (fun W hW => cr.on hW) Try.underlying27 rfl (cs_info _)) (by simp only [Act.put, List.setIfInBounds_toArray, List.set_cons_zero, List.set_cons_succ]; rfl) ?_
        refine wpLex_cons2 _ (uni_callF (by rfl) 19 [Operand.tmp 27, Operand.tmp 28] #[27, 27] rfl [zeroE.v, r2.v] ((subE zeroE r2).v) rfl enter19 (fun W hW => sub_any zeroE r2 W)) (by simp only [Act.put, List.setIfInBounds_toArray, List.set_cons_zero, List.set_cons_succ]; rfl) ?_
        refine ⟨gcr, (subE zeroE r2).cs, r2.cs, 27, rfl, rfl, cr, cs_info _, cs_ln _ _, cs_one _, fun wy hW => ?_⟩
        replace b1 := (b1.on hW).setRowOther gcr (subE zeroE r2).cs.toArray (by omega)
        replace cr := (cr.on hW).setRow (subE zeroE r2).cs
        replace be := below_setRow (be.trans (hW.mono (by have := be.size; omega))) gcr (subE zeroE r2).cs.toArray (by omega)
        go_wp2_with (first | (refine wpList_load_row rfl 27 (.tmp 4) rfl gcr rfl 27 (subE zeroE r2).cs.toArray (0, 0) _ cr Try.underlying27 rfl (cs_infoA _) ?_) | (refine wpList_store_row rfl 27 (.tmp 2) (.tmp 30) rfl (n + 1) (subE zeroE r2).cs.toArray rfl rfl 27 z5.toArray b1 (cs_infoA _) (cs_size _) (cs_one _) ?_))
        refine bodyPost_ret (results_two Try.results22 _ _ (n + 1) 27 (subE zeroE r2).cs.toArray (0, 0) _ (.bool true) rfl rfl (b1.setRow _) Try.underlying27 rfl (cs_infoA _)) rfl ?_
        exact ⟨by rw [hR.out, hO.out]; rfl, by first | (rw [hn]; exact below_setRow be _ _ (by omega)) | exact below_setRow be _ _ (by omega)⟩

end Go.Proofs.Ytnakeieeopbeiaa
