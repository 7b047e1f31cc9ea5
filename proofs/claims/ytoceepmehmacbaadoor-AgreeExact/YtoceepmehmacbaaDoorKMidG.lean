import Derived.Test.YtoceepmehmacbaaDoorKNewG
import Derived.Test.YtoceepmehmacbaaDoorKMul
set_option linter.unusedVariables false
set_option linter.unusedSimpArgs false
namespace Go.Proofs.YtoceepmehmacbaaDoor.Cv
open Go.RowKit

def chg (M : BitVec 64) (x y : L5) (t : Nat) : BitVec 64 := M &&& (x.list.getD t 0 ^^^ y.list.getD t 0)
def swA (M : BitVec 64) (x y : L5) : Nat → List (BitVec 64)
  | 0 => x.list
  | t + 1 => (swA M x y t).set t (x.list.getD t 0 ^^^ chg M x y t)
def swB (M : BitVec 64) (x y : L5) : Nat → List (BitVec 64)
  | 0 => y.list
  | t + 1 => (swB M x y t).set t (y.list.getD t 0 ^^^ chg M x y t)
theorem swA_length (M : BitVec 64) (x y : L5) : ∀ t, (swA M x y t).length = 5
  | 0 => rfl
  | t + 1 => by rw [swA, List.length_set, swA_length M x y t]
theorem swB_length (M : BitVec 64) (x y : L5) : ∀ t, (swB M x y t).length = 5
  | 0 => rfl
  | t + 1 => by rw [swB, List.length_set, swB_length M x y t]
theorem swA_at (M : BitVec 64) (x y : L5) : ∀ t j, t ≤ j → (swA M x y t).getD j 0 = x.list.getD j 0
  | 0, _, _ => rfl
  | t + 1, j, h => by
    have h1 : t ≠ j := by omega
    rw [swA, List.getD_eq_getElem?_getD, List.getElem?_set_ne h1, ← List.getD_eq_getElem?_getD]
    exact swA_at M x y t j (by omega)
theorem swB_at (M : BitVec 64) (x y : L5) : ∀ t j, t ≤ j → (swB M x y t).getD j 0 = y.list.getD j 0
  | 0, _, _ => rfl
  | t + 1, j, h => by
    have h1 : t ≠ j := by omega
    rw [swB, List.getD_eq_getElem?_getD, List.getElem?_set_ne h1, ← List.getD_eq_getElem?_getD]
    exact swB_at M x y t j (by omega)
theorem xor_full (a b : BitVec 64) : a ^^^ (BitVec.allOnes 64 &&& (a ^^^ b)) = b := by
  rw [BitVec.allOnes_and, ← BitVec.xor_assoc, BitVec.xor_self, BitVec.zero_xor]
theorem xor_full' (a b : BitVec 64) : b ^^^ (BitVec.allOnes 64 &&& (a ^^^ b)) = a := by
  rw [BitVec.allOnes_and, BitVec.xor_comm a b, ← BitVec.xor_assoc, BitVec.xor_self, BitVec.zero_xor]
theorem xor_none (a z : BitVec 64) : a ^^^ (0#64 &&& z) = a := by
  rw [BitVec.zero_and, BitVec.xor_zero]
theorem sw_full (x y : L5) : swA (BitVec.allOnes 64) x y 5 = y.list ∧ swB (BitVec.allOnes 64) x y 5 = x.list := by
  obtain ⟨a, b, c, d, e⟩ := x
  obtain ⟨p, q, r, s, t⟩ := y
  constructor
  · simp only [swA, swB, chg, L5.list, List.getD_cons_zero, List.getD_cons_succ, xor_full, xor_full', List.set_cons_zero, List.set_cons_succ]
  · simp only [swA, swB, chg, L5.list, List.getD_cons_zero, List.getD_cons_succ, xor_full, xor_full', List.set_cons_zero, List.set_cons_succ]
theorem sw_none (x y : L5) : swA 0#64 x y 5 = x.list ∧ swB 0#64 x y 5 = y.list := by
  obtain ⟨a, b, c, d, e⟩ := x
  obtain ⟨p, q, r, s, t⟩ := y
  constructor
  · simp only [swA, swB, chg, L5.list, List.getD_cons_zero, List.getD_cons_succ, xor_none, List.set_cons_zero, List.set_cons_succ]
  · simp only [swA, swB, chg, L5.list, List.getD_cons_zero, List.getD_cons_succ, xor_none, List.set_cons_zero, List.set_cons_succ]

def bitM (z : Int) : BitVec 64 := -(BitVec.ofInt 64 z &&& 1#64)
theorem wofInt (z : Int) : IntKind.u64.wrap z = wn (BitVec.ofInt 64 z) := by
  unfold wn
  rw [IntKind.wrap_u64, BitVec.toNat_ofInt]
  omega
theorem wand1 (x : BitVec 64) : bits .and .u64 (wn x) (1 : Int) = wn (x &&& 1#64) := wand x 1#64
theorem wneg (x : BitVec 64) : IntKind.u64.wrap (-(wn x)) = wn (-x) := by
  have := wlt x
  unfold wn
  rw [IntKind.wrap_u64, BitVec.toNat_neg]
  omega
theorem and1_bv (x : BitVec 64) : (x &&& 1#64).toNat = x.toNat % 2 := by
  rw [BitVec.toNat_and]
  exact Nat.and_two_pow_sub_one_eq_mod x.toNat 1
theorem bitM_odd {z : Int} (h : z % 2 = 1) : bitM z = BitVec.allOnes 64 := by
  have e : (BitVec.ofInt 64 z &&& 1#64) = 1#64 := by
    apply BitVec.eq_of_toNat_eq
    rw [and1_bv, BitVec.toNat_ofInt]
    show _ = 1
    omega
  unfold bitM
  rw [e]
  rfl
theorem bitM_even {z : Int} (h : z % 2 = 0) : bitM z = 0#64 := by
  have e : (BitVec.ofInt 64 z &&& 1#64) = 0#64 := by
    apply BitVec.eq_of_toNat_eq
    rw [and1_bv, BitVec.toNat_ofInt]
    show _ = 0
    omega
  unfold bitM
  rw [e]
  rfl

structure Swp (n : Nat) (w wx : World) (L M : List (BitVec 64)) : Prop where
  la : Blk wx n (wvs L) 71
  lb : Blk wx (n + 1) (wvs M) 71
  r1 : Blk wx (n + 1 + 1) z5 71
  r2 : Blk wx (n + 1 + 1 + 1) z5 71
  be : Below n w wx
theorem Swp.drew {n : Nat} {w wx : World} {L M : List (BitVec 64)} (h : Swp n w wx L M) : Swp n w wx.drew L M := ⟨h.la.drew, h.lb.drew, h.r1.drew, h.r2.drew, h.be.drew⟩
theorem Swp.setA {n : Nat} {w wx : World} {L M : List (BitVec 64)} (h : Swp n w wx L M) (j : Nat) (u : BitVec 64) : Swp n w (wx.setCell ⟨n, j, none⟩ (.int .u64 (wn u))) (L.set j u) M :=
  ⟨by rw [← wvs_set]; exact h.la.set j _, h.lb.setOther _ _ _ (by omega), h.r1.setOther _ _ _ (by omega), h.r2.setOther _ _ _ (by omega), h.be.setCell (by simp) _⟩
theorem Swp.setB {n : Nat} {w wx : World} {L M : List (BitVec 64)} (h : Swp n w wx L M) (j : Nat) (u : BitVec 64) : Swp n w (wx.setCell ⟨n + 1, j, none⟩ (.int .u64 (wn u))) L (M.set j u) :=
  ⟨h.la.setOther _ _ _ (by omega), by rw [← wvs_set]; exact h.lb.set j _, h.r1.setOther _ _ _ (by omega), h.r2.setOther _ _ _ (by omega), h.be.setCell (by simp) _⟩
theorem results_cells {P : Program} {fn : Func} {p q : Tmp} {ty : TypeId} (h : fn.results = #[.cell p ty, .cell q ty]) (tmps : Array Value) (w : World) (g g' : Nat) (t : TypeId) (cs cs' : Array Value) (d : TypeDesc)
    (hp : tmps.getD p undef = .pointer (some ⟨g, 0, none⟩)) (hq : tmps.getD q undef = .pointer (some ⟨g', 0, none⟩)) (hg : w.heap[g]? = some (.cells cs t (0, 0))) (hg' : w.heap[g']? = some (.cells cs' t (0, 0)))
    (hu : P.underlying ty = some d) (hd : (match d with | .struct _ | .array _ _ => true | _ => false) = true) (hi : (P.info? ty).map (·.size) = some cs.size) (hi' : (P.info? ty).map (·.size) = some cs'.size) :
    (results fn tmps).run P w = .ok (.tuple #[.agg cs, .agg cs']) w := by
  have hp' : tmps[p]?.getD undef = .pointer (some ⟨g, 0, none⟩) := by simpa using hp
  have hq' : tmps[q]?.getD undef = .pointer (some ⟨g', 0, none⟩) := by simpa using hq
  simp [results, h, hp', hq', asAddr, run_loadVar_row w g t ty cs (0, 0) d hg hu hd hi, run_loadVar_row w g' t ty cs' (0, 0) d hg' hu hd hi']

theorem size2 (w : World) (a b : Obj) : ((w.alloc a).alloc b).heap.size = w.heap.size + 1 + 1 := by simp
theorem size3 (w : World) (a b c : Obj) : (((w.alloc a).alloc b).alloc c).heap.size = w.heap.size + 1 + 1 + 1 := by simp

set_option maxRecDepth 100000 in
set_option maxHeartbeats 4000000 in
theorem swap_walk (z : Int) (x y : L5) (w : World) :
    Calls Tryd.prog 51 #[.int .i64 z, x.v, y.v] w fun e w' => e = .returned (.tuple #[.agg (wvs (swA (bitM z) x y 5)).toArray, .agg (wvs (swB (bitM z) x y 5)).toArray]) ∧ Below w.heap.size w w' := by
  have h1 := wofInt z
  have h2 := wand1
  have h3 := wneg
  have HM : Hid (bitM z = -(BitVec.ofInt 64 z &&& 1#64)) := rfl
  generalize bitM z = M at HM ⊢
  go_enter Tryd.func51, Tryd.ntmps51
  go_upto_region 1 with (first | (refine wpList_boxAt rfl 71 (.tmp 1) rfl x.cs rfl w.heap.size rfl ?_) | (refine wpList_boxAt rfl 71 (.tmp 2) rfl y.cs rfl (w.heap.size + 1) (by simp) ?_) | (refine wpList_newAt rfl 71 rfl z5 zero27 (w.heap.size + 1 + 1) (size2 _ _ _) ?_) | (refine wpList_newAt rfl 71 rfl z5 zero27 (w.heap.size + 1 + 1 + 1) (size3 _ _ _ _) ?_))
  have h0 : Hid (Swp w.heap.size w ((((w.alloc (.cells x.cs.toArray 71)).alloc (.cells y.cs.toArray 71)).alloc (.cells z5.toArray 71)).alloc (.cells z5.toArray 71)) (swA M x y 0) (swB M x y 0)) := by
    refine ⟨(((Blk.new _ _ _).alloc _).alloc _).alloc _, ?_, ?_, ?_, by go_grown⟩
    · have := ((Blk.new (w.alloc (.cells x.cs.toArray 71)) y.cs 71).alloc (.cells z5.toArray 71)).alloc (.cells z5.toArray 71)
      show Blk _ (w.heap.size + 1) y.cs 71
      simpa using this
    · have := (Blk.new ((w.alloc (.cells x.cs.toArray 71)).alloc (.cells y.cs.toArray 71)) z5 71).alloc (.cells z5.toArray 71)
      simpa using this
    · have := Blk.new (((w.alloc (.cells x.cs.toArray 71)).alloc (.cells y.cs.toArray 71)).alloc (.cells z5.toArray 71)) z5 71
      simpa using this
  generalize (((w.alloc (.cells x.cs.toArray 71)).alloc (.cells y.cs.toArray 71)).alloc (.cells z5.toArray 71)).alloc (.cells z5.toArray 71) = w1 at h0 ⊢
  obtain ⟨n, hn⟩ : ∃ n, w.heap.size = n := ⟨_, rfl⟩
  rw [hn] at h0 ⊢
  go_wp2
  rw [← HM.out]
  clear h1 h2 h3 HM
  go_loopw [15] (fun i wr => ∃ t : Nat, t ≤ 5 ∧ i = .int .i64 t ∧ Hid (Swp n w wr (swA M x y t) (swB M x y t))) (fun i _ => 5 - (intOf i).toNat)
  case atStart => exact ⟨0, by omega, rfl, h0⟩
  case round =>
    obtain ⟨t, ht, rfl, hr⟩ := hrel
    have la := swA_length M x y t
    have lb := swB_length M x y t
    have ea := swA_at M x y t t (Nat.le_refl _)
    have eb := swB_at M x y t t (Nat.le_refl _)
    have ra : Hid (swA M x y (t + 1) = (swA M x y t).set t (x.list.getD t 0 ^^^ chg M x y t)) := rfl
    have rb : Hid (swB M x y (t + 1) = (swB M x y t).set t (y.list.getD t 0 ^^^ chg M x y t)) := rfl
    obtain ⟨LA, hLA⟩ : ∃ L, swA M x y t = L := ⟨_, rfl⟩
    obtain ⟨LB, hLB⟩ : ∃ L, swB M x y t = L := ⟨_, rfl⟩
    rw [hLA] at hr la ea ra
    rw [hLB] at hr lb eb rb
    by_cases hlt : t < 5
    · have hlz : (t : Int) < 5 := by omega
      have hca := hr.out.la.cell t
      rw [wvs_at LA t (by omega), ea] at hca
      have hcb := hr.out.lb.cell t
      rw [wvs_at LB t (by omega), eb] at hcb
      have hfa := hr.out.la.frozen t
      have hfb := hr.out.lb.frozen t
      have rc : Hid (chg M x y t = M &&& (x.list.getD t 0 ^^^ y.list.getD t 0)) := rfl
      generalize chg M x y t = c at rc ra rb
      generalize x.list.getD t 0 = u at hca rc ra
      generalize y.list.getD t 0 = v at hcb rc rb
      have e1 := wxor
      have e2 := wand
      clear la lb ea eb hLA hLB
      go_wp2
      go_region
      rw [← rc.out]
      go_wp2
      go_roundw
      case rel =>
        refine ⟨t + 1, by omega, by go_num, ?_⟩
        rw [ra.out, rb.out]
        exact (hr.out.drew.setA t _).setB t _
      case measure => simp [intOf]; omega
    · obtain rfl : t = 5 := by omega
      have hA : Hid (swA M x y 5 = LA) := hLA
      have hB : Hid (swB M x y 5 = LB) := hLB
      have ia : (Tryd.prog.info? 71).map (·.size) = some (wvs LA).length := by rw [wvs_length, la]; kernel_rfl
      have ib : (Tryd.prog.info? 71).map (·.size) = some (wvs LB).length := by rw [wvs_length, lb]; kernel_rfl
      have za : z5.length = (wvs LA).length := by rw [wvs_length, la]; rfl
      have zb : z5.length = (wvs LB).length := by rw [wvs_length, lb]; rfl
      clear ra rb ea eb hLA hLB
      have HR := hr
      go_upto_region 9 with fail
      obtain ⟨b0, b1, b2, b3, be⟩ := HR.out
      have rx : ∀ W, (Blk W n (wvs LA) 71 ∧ Blk W (n + 1) (wvs LB) 71) → W.rangeAt n 0 (wvs LA) := fun W hW j v hv => by
        rw [hW.1.cell, Nat.zero_add]; exact hv
      have ry : ∀ W, (Blk W n (wvs LA) 71 ∧ Blk W (n + 1) (wvs LB) 71) → W.rangeAt (n + 1) 0 (wvs LB) := fun W hW j v hv => by
        rw [hW.2.cell, Nat.zero_add]; exact hv
      have H0 : Blk { wr with drawn := wr.drawn + 1 } n (wvs LA) 71 ∧ Blk { wr with drawn := wr.drawn + 1 } (n + 1) (wvs LB) 71 := ⟨b0, b1⟩
      refine wp_region_noPanic ?_; refine wp_region_held (S := fun W => Blk W n (wvs LA) 71 ∧ Blk W (n + 1) (wvs LB) 71) (by kernel_rfl) ?_; refine takeH_load (i := 0) rfl 46 rfl 71 (.tmp 4) rfl (by kernel_rfl) (by kernel_rfl) (by kernel_rfl) (fun _ _ _ h => h) (by rfl) n 0 rfl (wvs LA) rfl rx Tryd.underlying71 rfl ia H0 ?_
      simp only [Act.put, List.setIfInBounds_toArray, List.set_cons_zero, List.set_cons_succ]
      refine takeH_load (i := 1) rfl 47 rfl 71 (.tmp 5) rfl (by kernel_rfl) (by kernel_rfl) (by kernel_rfl) (fun _ _ _ h => h) (by rfl) (n + 1) 0 rfl (wvs LB) rfl ry Tryd.underlying71 rfl ib H0 ?_
      simp only [Act.put, List.setIfInBounds_toArray, List.set_cons_zero, List.set_cons_succ]
      have c2 : Blk { wr with drawn := wr.drawn + 1 } (n + 1 + 1) z5 71 := b2
      have c3 : Blk { wr with drawn := wr.drawn + 1 } (n + 1 + 1 + 1) z5 71 := b3
      have ce : Below n w { wr with drawn := wr.drawn + 1 } := be.drew
      generalize ({ wr with drawn := wr.drawn + 1 } : World) = w2 at H0 c2 c3 ce ⊢
      refine onlyH (i := 2) (by kernel_rfl) ?_; refine op_row rfl (by rfl) rfl 71 (.tmp 6) (.tmp 46) rfl (n + 1 + 1) (wvs LA) z5 71 rfl rfl c2 ia za (wvs_one LA) ?_; refine ⟨⟨H0.1.setRowOther _ _ (by omega), H0.2.setRowOther _ _ (by omega)⟩, ?_⟩; refine onlyH (i := 3) (by kernel_rfl) ?_; refine op_row rfl (by rfl) rfl 71 (.tmp 7) (.tmp 47) rfl (n + 1 + 1 + 1) (wvs LB) z5 71 rfl rfl (c3.setRowOther _ _ (by omega)) ib zb (wvs_one LB) ?_; refine ⟨⟨(H0.1.setRowOther _ _ (by omega)).setRowOther _ _ (by omega), (H0.2.setRowOther _ _ (by omega)).setRowOther _ _ (by omega)⟩, ?_⟩; refine wpAnyH_done (by kernel_rfl) ?_ _; refine NoPanic.normal ?_
      have d2 := (c2.setRow (wvs LA)).setRowOther (n + 1 + 1 + 1) (wvs LB).toArray (by omega)
      have d3 := (c3.setRowOther (n + 1 + 1) (wvs LA).toArray (by omega)).setRow (wvs LB)
      have de := below_setRow (below_setRow ce (n + 1 + 1) (wvs LA).toArray (by omega)) (n + 1 + 1 + 1) (wvs LB).toArray (by omega)
      generalize (w2.setRow (n + 1 + 1) (wvs LA).toArray).setRow (n + 1 + 1 + 1) (wvs LB).toArray = w3 at d2 d3 de ⊢
      have ia' : (Tryd.prog.info? 71).map (·.size) = some (wvs LA).toArray.size := by simpa using ia
      have ib' : (Tryd.prog.info? 71).map (·.size) = some (wvs LB).toArray.size := by simpa using ib
      have IA := hide ia'
      have IB := hide ib'
      clear ia ib za zb ia' ib' c2 c3 ce H0 rx ry b0 b1 b2 b3 be hr HR la lb
      go_wp2
      refine bodyPost_ret (results_cells Tryd.results51 _ _ (n + 1 + 1) (n + 1 + 1 + 1) 71 (wvs LA).toArray (wvs LB).toArray _ rfl rfl d2 d3 Tryd.underlying71 rfl IA.out IB.out) rfl ?_
      exact ⟨by rw [hA.out, hB.out], by first | (rw [hn]; exact de) | exact de⟩
theorem swap_odd {z : Int} (h : z % 2 = 1) (x y : L5) (w : World) :
    Calls Tryd.prog 51 #[.int .i64 z, x.v, y.v] w fun e w' => e = .returned (.tuple #[y.v, x.v]) ∧ Below w.heap.size w w' := by
  have := swap_walk z x y w
  rw [bitM_odd h, (sw_full x y).1, (sw_full x y).2] at this
  exact this
theorem swap_even {z : Int} (h : z % 2 = 0) (x y : L5) (w : World) :
    Calls Tryd.prog 51 #[.int .i64 z, x.v, y.v] w fun e w' => e = .returned (.tuple #[x.v, y.v]) ∧ Below w.heap.size w w' := by
  have := swap_walk z x y w
  rw [bitM_even h, (sw_none x y).1, (sw_none x y).2] at this
  exact this
/-- Two elements, one behind the other. -/
structure R2 where
  x : L5
  z : L5
def R2.cs (r : R2) : List Value := [.int .u64 (wn r.x.a), .int .u64 (wn r.x.b), .int .u64 (wn r.x.c), .int .u64 (wn r.x.d), .int .u64 (wn r.x.e), .int .u64 (wn r.z.a), .int .u64 (wn r.z.b), .int .u64 (wn r.z.c), .int .u64 (wn r.z.d), .int .u64 (wn r.z.e)]
def R2.v (r : R2) : Value := .agg r.cs.toArray
def zero10 : R2 := ⟨⟨0, 0, 0, 0, 0⟩, ⟨0, 0, 0, 0, 0⟩⟩
theorem zero55 (w : World) : (zeroValue 73).run Tryd.prog w = .ok (.agg zero10.cs.toArray) w := by rw [Tryd.zeroValue73]; rfl
theorem rs_one (r : R2) : r.cs.toArray.all (·.oneCell') = true := by simp [R2.cs, Value.oneCell']
theorem rs_len (r s : R2) : r.cs.length = s.cs.length := rfl
theorem rs_sz (r s : R2) : r.cs.toArray.size = s.cs.toArray.size := rfl
theorem rs_info (r : R2) : (Tryd.prog.info? 73).map (·.size) = some r.cs.length := by kernel_rfl
theorem rs_infoA (r : R2) : (Tryd.prog.info? 73).map (·.size) = some r.cs.toArray.size := by kernel_rfl
theorem le_x (x : L5) (r : R2) : 0 + x.cs.length ≤ r.cs.length := by show 0 + 5 ≤ 10; decide
theorem le_z (x : L5) (r : R2) : 5 + x.cs.length ≤ r.cs.length := by show 5 + 5 ≤ 10; decide
theorem size1 (w : World) (a : Obj) : (w.alloc a).heap.size = w.heap.size + 1 := by simp
theorem size4 (w : World) (a b c d : Obj) : ((((w.alloc a).alloc b).alloc c).alloc d).heap.size = w.heap.size + 1 + 1 + 1 + 1 := by simp
theorem rs_app (r : R2) : r.cs = r.x.cs ++ r.z.cs := rfl

section
variable {P : Program} {ops : Array Oper} {Q : Exit → Act → World → Prop} {md : Region.Mode} {S : World → Prop}

/-- Cells written over. -/
def over : List Value → Nat → List Value → List Value
  | l, _, [] => l
  | l, o, v :: r => over (l.set o v) (o + 1) r
theorem Blk.setCells {g : Nat} {t : TypeId} : ∀ (vs : List Value) {W : World} {cs : List Value} (o : Nat), Blk W g cs t → Blk (W.setCells g o vs) g (over cs o vs) t
  | [], _, _, _, h => h
  | v :: r, W, cs, o, h => by
    rw [World.setCells, over]
    exact Blk.setCells r (o + 1) (h.set o v)
theorem Blk.setCellsOther {g k : Nat} {t : TypeId} (hk : g ≠ k) : ∀ (vs : List Value) {W : World} {cs : List Value} (o : Nat), Blk W g cs t → Blk (W.setCells k o vs) g cs t
  | [], _, _, _, h => h
  | v :: r, W, cs, o, h => by
    rw [World.setCells]
    exact Blk.setCellsOther hk r (o + 1) (h.setOther k o v hk)
theorem below_setCells {n g : Nat} {w : World} (hg : n ≤ g) : ∀ (vs : List Value) {W : World} (o : Nat), Below n w W → Below n w (W.setCells g o vs)
  | [], _, _, h => h
  | v :: r, W, o, h => by
    rw [World.setCells]
    exact below_setCells hg r (o + 1) (h.setCell hg v)
theorem Blk.there {W : World} {g : Nat} {cs : List Value} {t : TypeId} (h : Blk W g cs t) {o n : Nat} (hn : o + n ≤ cs.length) : W.there g o n := fun j hj =>
  ⟨by rw [h.cell, List.getElem?_eq_getElem (by omega)]; rfl, h.frozen _⟩
theorem Blk.range {W : World} {g : Nat} {cs : List Value} {t : TypeId} (h : Blk W g cs t) {o : Nat} {l : List Value} (hl : ∀ j, j < l.length → cs[o + j]? = l[j]?) : W.rangeAt g o l := fun j v hv => by
  rw [h.cell, hl j (List.getElem?_eq_some_iff.1 hv).1, hv]

theorem over_x (r : R2) (x : L5) : over r.cs 0 x.cs = (R2.mk x r.z).cs := rfl
theorem over_z (r : R2) (z : L5) : over r.cs 5 z.cs = (R2.mk r.x z).cs := rfl
theorem at_x (r : R2) : ∀ j, j < r.x.cs.length → r.cs[0 + j]? = r.x.cs[j]? := fun j hj => by
  rw [rs_app, Nat.zero_add, List.getElem?_append_left hj]
theorem at_z (r : R2) : ∀ j, j < r.z.cs.length → r.cs[5 + j]? = r.z.cs[j]? := fun j hj => by
  rw [rs_app, List.getElem?_append_right (by show 5 ≤ _; omega)]
  congr 1
  show 5 + j - 5 = j
  omega

/-- A row out of the middle of a block is loaded. -/
theorem uni_mid {o : Oper} {a : Act} (hg : o.guard = none) (ty : TypeId) (x : Operand) (ho : o.op = .load ty x) (g off : Nat) (cs : List Value) (hx : a.eval x = .pointer (some ⟨g, off, none⟩))
    (hb : ∀ W, S W → W.rangeAt g off cs) {d : TypeDesc} (hu : P.underlying ty = some d) (hd : d.isRow = true) (hi : (P.info? ty).map (·.size) = some cs.length) : Uni P ops S o (.agg cs.toArray) a := by
  refine .inl ⟨by simp [Region.wanted, hg], .inl fun W hW => ?_⟩
  unfold execOp
  simp only [ho, hx, Instr.loadAt, Instr.sureAddr, Sem.run_bind, Sem.run_pure, Result.andThen_ok, run_loadVar_mid W g off ty cs d (hb W hW) hu hd hi]

/-- .. then a row is stored into the middle of a block that lies there. -/
theorem reg_putM {id : Nat} {l : List Oper} {os : Oper} {a : Act} {w : World} (hm : P.follows .mixedOrders = true) (n : Nat) (hl' : l.length = n + 1) (hos : l[n]? = some os)
    (hB : (Region.noSelect l.toArray && lexOk .any l.toArray n n 0 (none_ (n + 1)) && (Region.ready .any l.toArray (firstN n 0 (none_ (n + 1))) == [n]) && full n (firstN n 0 (none_ (n + 1))) && (Region.ready .any l.toArray ((firstN n 0 (none_ (n + 1))).setIfInBounds n true)).isEmpty) = true)
    (hg : os.guard = none) (hd : os.dst = none) (t : TypeId) (x y : Operand) (ho : os.op = .store t x y)
    (h : wpLex P l.toArray (fun W => Below w.heap.size w W) (fun a' => ∃ g off cs old t', a'.eval x = .pointer (some ⟨g, off, none⟩) ∧ a'.eval y = .agg (List.toArray cs) ∧ Blk w g old t' ∧ (P.info? t).map (·.size) = some cs.length ∧ off + cs.length ≤ old.length ∧ cs.toArray.all (·.oneCell') = true ∧
      ∀ W, Below w.heap.size w W → Q .normal a' (W.setCells g off cs)) (l.take n) a) : (Code.region id l.toArray true).wp P Q a w := by
  have hl := cut1 n hl' hos
  have hn : (l.take n).length = n := by simp; omega
  generalize l.take n = pre at hl hn h
  simp only [Bool.and_eq_true, beq_iff_eq] at hB
  obtain ⟨⟨⟨⟨h1, h2⟩, h3⟩, h4⟩, h5⟩ := hB
  have hlen : l.length = n + 1 := hl'
  have hi : l.toArray[n]? = some os := by simpa using hos
  refine wp_region_any hm ?_; refine wpAny_of_R (S := fun W => Below w.heap.size w W) (T := n) _ _ _ (fun W => Below w.heap.size w W) (stable_below w) (fun _ h => h) ?_ _ (below_drawn w)
  have := wpAnyR_lex (P := P) (Q := Q) (T := n) (md := .any) (S := fun W => Below w.heap.size w W) (ops := l.toArray) h1 (by simp; omega) (fun W => Below w.heap.size w W) 1 pre 0 (none_ (n + 1)) a (by
      intro j hj; rw [hl]; simp [List.getElem?_append_left hj]) (by rw [hn]; exact h2) (closed_none _) (by simp [none_, hlen]) ?_
  · rw [hn, Nat.add_comm] at this
    simpa [none_, hlen] using this
  · refine wpLex_mono ?_ pre a h
    rintro a' ⟨g, off, cs, old, t', e1, e2, hb, e3, e4, e5, hk⟩
    rw [hn]
    unfold wpAnyR
    rw [if_pos h4]
    intro W hW
    refine only_one h3 ?_; refine op_store hi hg hd t x y ho g off cs.toArray e1 e2 ((hb.on hW).there (by simpa using e4)) (by simpa using e3) e5 ?_
    exact wpAny_done (by simpa using h5) (by simpa using hk W hW) 0
/-- The first n, then the rest. -/
theorem lst_then {id : Nat} {l : List Oper} {a : Act} {w : World} (n : Nat)
    (h : wpLex P l.toArray (fun W => Below w.heap.size w W) (fun a' => ∀ W, Below w.heap.size w W → wpList P l.toArray Q (l.drop n) a' W) (l.take n) a) : (Code.region id l.toArray false).wp P Q a w := by
  refine wp_region_lit ?_
  have := wpList_of_lex (P := P) (Q := Q) (stable_below w) _ (l.drop n) (fun a' W (hk : ∀ W, Below w.heap.size w W → wpList P l.toArray Q (l.drop n) a' W) hW => hk W hW) (l.take n) a w (Below.refl _ _) h
  rwa [List.take_append_drop] at this
/-- One operation of one value in a list. -/
theorem lst_val {o : Oper} {rest : List Oper} {a a' : Act} {w : World} (hg : o.guard = none) (op : Op) (ho : o.op = op) (v : Value) (hrun : ∀ o' : Oper, o'.op = op → (execOp a.eval o').run P w = .ok (.value v) w) (ha : a.put o.dst v = a') (k : wpList P ops Q rest a' w) : wpList P ops Q (o :: rest) a w := by
  have hwa : Region.wanted o (yielded ops a.tmps) = true := by simp [Region.wanted, hg]
  unfold wpList
  simp only [hwa, if_true, Oper.wp, hrun o ho, Oper.upon]
  rw [ha]
  exact .inl k
theorem lst_store {op : Oper} {rest : List Oper} {a : Act} {w : World} (hg : op.guard = none) (hd : op.dst = none) (ty : TypeId) (x y : Operand) (ho : op.op = .store ty x y)
    (b o : Nat) (cs : List Value) (hx : a.eval x = .pointer (some ⟨b, o, none⟩)) (hy : a.eval y = .agg cs.toArray)
    (ht : w.there b o cs.length) (hi : (P.info? ty).map (·.size) = some cs.length) (h1 : cs.toArray.all (·.oneCell') = true)
    (h : wpList P ops Q rest a (w.setCells b o cs)) : wpList P ops Q (op :: rest) a w := by
  refine wpList_store_mid hg ty x y ho b o cs.toArray hx hy (by simpa using ht) (by simpa using hi) h1 ?_
  rw [hd]
  rw [show cs = cs.toArray.toList by simp] at h
  exact h
theorem lst_row {op : Oper} {rest : List Oper} {a : Act} {w : World} (hg : op.guard = none) (hd : op.dst = none) (ty : TypeId) (x y : Operand) (ho : op.op = .store ty x y)
    (b : Nat) (cs old : List Value) (t : TypeId) (hx : a.eval x = .pointer (some ⟨b, 0, none⟩)) (hy : a.eval y = .agg cs.toArray)
    (hb : Blk w b old t) (hi : (P.info? ty).map (·.size) = some cs.length) (hl : old.length = cs.length) (h1 : cs.toArray.all (·.oneCell') = true)
    (h : wpList P ops Q rest a (w.setRow b cs.toArray)) : wpList P ops Q (op :: rest) a w := by
  refine wpList_store_row hg ty x y ho b cs.toArray hx hy t old.toArray hb (by simpa using hi) (by simpa using hl) h1 ?_
  rw [hd]
  exact h
theorem uni_build1 {o : Oper} {a : Act} (hw : Region.wanted o (yielded ops a.tmps) = true) (t : TypeId) (x : Operand) (ho : o.op = .build t #[(0, x)]) (u v : Value) (hx : a.eval x = u) (h : ∀ W, (Instr.build t #[(0, u)]).run P W = .ok v W) : Uni P ops S o v a := by
  refine .inl ⟨hw, .inl fun W _ => ?_⟩
  unfold execOp
  simp only [ho, List.map_toArray, List.map_cons, List.map_nil, hx]
  simp only [Sem.run_bind, h W, Result.andThen_ok, Sem.run_pure]
theorem uni_build0 {o : Oper} {a : Act} (hw : Region.wanted o (yielded ops a.tmps) = true) (t : TypeId) (ho : o.op = .build t #[]) (v : Value) (h : ∀ W, (Instr.build t #[]).run P W = .ok v W) : Uni P ops S o v a := by
  refine .inl ⟨hw, .inl fun W _ => ?_⟩
  unfold execOp
  simp only [ho, List.map_toArray, List.map_nil]
  simp only [Sem.run_bind, h W, Result.andThen_ok, Sem.run_pure]
theorem uni_build2 {o : Oper} {a : Act} (hw : Region.wanted o (yielded ops a.tmps) = true) (t : TypeId) (x y : Operand) (ho : o.op = .build t #[(0, x), (1, y)]) (u u' v : Value) (hx : a.eval x = u) (hy : a.eval y = u') (h : ∀ W, (Instr.build t #[(0, u), (1, u')]).run P W = .ok v W) : Uni P ops S o v a := by
  refine .inl ⟨hw, .inl fun W _ => ?_⟩
  unfold execOp
  simp only [ho, List.map_toArray, List.map_cons, List.map_nil, hx, hy]
  simp only [Sem.run_bind, h W, Result.andThen_ok, Sem.run_pure]
theorem lst_putM {id : Nat} {l : List Oper} {os : Oper} {a : Act} {w : World} (n : Nat) (hl : l.length = n + 1) (hos : l[n]? = some os)
    (hg : os.guard = none) (hd : os.dst = none) (t : TypeId) (x y : Operand) (ho : os.op = .store t x y)
    (h : wpLex P l.toArray (fun W => Below w.heap.size w W) (fun a' => ∃ g off cs old t', a'.eval x = .pointer (some ⟨g, off, none⟩) ∧ a'.eval y = .agg (List.toArray cs) ∧ Blk w g old t' ∧ (P.info? t).map (·.size) = some cs.length ∧ off + cs.length ≤ old.length ∧ cs.toArray.all (·.oneCell') = true ∧
      ∀ W, Below w.heap.size w W → Q .normal a' (W.setCells g off cs)) (l.take n) a) : (Code.region id l.toArray false).wp P Q a w := by
  refine wp_region_lit ?_
  have := wpList_of_lex (P := P) (Q := Q) (stable_below w) _ [os] (fun a' W ⟨g, off, cs, old, t', e1, e2, hb, e3, e4, e5, hk⟩ hW =>
    wpList_store_mid hg t x y ho g off cs.toArray e1 e2 ((hb.on hW).there (by simpa using e4)) (by simpa using e3) e5 (wpList_nil (by
      rw [hd]
      have hq := hk W hW
      rw [show cs = cs.toArray.toList by simp] at hq
      exact hq))) (l.take n) a w (Below.refl _ _) h
  rw [← cut1 n hl hos] at this
  exact this
end
end Go.Proofs.YtoceepmehmacbaaDoor.Cv
