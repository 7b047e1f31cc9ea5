import Derived.Test.YtoceepmehmacbaaDoorKNewG
set_option linter.unusedVariables false
set_option linter.unusedSimpArgs false
namespace Go.Proofs.YtoceepmehmacbaaDoor.Cv
open Go.RowKit

def chg (M : BitVec 64) (x y : L5) (t : Nat) : BitVec 64 := M &&& (x.list.getD t 0 ^^^ y.list.getD t 0)
def swA (M : BitVec 64) (x y : L5) : Nat → List (BitVec 64)
  | 0 => x.list
  | t + 1 => (swA M x y t).set t (x.list.getD t 0 ^^^ chg M x y t)
def swB (M : BitVec 64) (x y : L5) : Nat → List (BitVec 64)
  | 0 => y.list
  | t + 1 => (swB M x y t).set t (y.list.getD t 0 ^^^ chg M x y t)
theorem swA_length (M : BitVec 64) (x y : L5) : ∀ t, (swA M x y t).length = 5
  | 0 => rfl
  | t + 1 => by rw [swA, List.length_set, swA_length M x y t]
theorem swB_length (M : BitVec 64) (x y : L5) : ∀ t, (swB M x y t).length = 5
  | 0 => rfl
  | t + 1 => by rw [swB, List.length_set, swB_length M x y t]
theorem swA_at (M : BitVec 64) (x y : L5) : ∀ t j, t ≤ j → (swA M x y t).getD j 0 = x.list.getD j 0
  | 0, _, _ => rfl
  | t + 1, j, h => by
    have h1 : t ≠ j := by omega
    rw [swA, List.getD_eq_getElem?_getD, List.getElem?_set_ne h1, ← List.getD_eq_getElem?_getD]
    exact swA_at M x y t j (by omega)
theorem swB_at (M : BitVec 64) (x y : L5) : ∀ t j, t ≤ j → (swB M x y t).getD j 0 = y.list.getD j 0
  | 0, _, _ => rfl
  | t + 1, j, h => by
    have h1 : t ≠ j := by omega
    rw [swB, List.getD_eq_getElem?_getD, List.getElem?_set_ne h1, ← List.getD_eq_getElem?_getD]
    exact swB_at M x y t j (by omega)
theorem xor_full (a b : BitVec 64) : a ^^^ (BitVec.allOnes 64 &&& (a ^^^ b)) = b := by
  rw [BitVec.allOnes_and, ← BitVec.xor_assoc, BitVec.xor_self, BitVec.zero_xor]
theorem xor_full' (a b : BitVec 64) : b ^^^ (BitVec.allOnes 64 &&& (a ^^^ b)) = a := by
  rw [BitVec.allOnes_and, BitVec.xor_comm a b, ← BitVec.xor_assoc, BitVec.xor_self, BitVec.zero_xor]
theorem xor_none (a z : BitVec 64) : a ^^^ (0#64 &&& z) = a := by
  rw [BitVec.zero_and, BitVec.xor_zero]
theorem sw_full (x y : L5) : swA (BitVec.allOnes 64) x y 5 = y.list ∧ swB (BitVec.allOnes 64) x y 5 = x.list := by
  obtain ⟨a, b, c, d, e⟩ := x
  obtain ⟨p, q, r, s, t⟩ := y
  constructor
  · simp only [swA, swB, chg, L5.list, List.getD_cons_zero, List.getD_cons_succ, xor_full, xor_full', List.set_cons_zero, List.set_cons_succ]
  · simp only [swA, swB, chg, L5.list, List.getD_cons_zero, List.getD_cons_succ, xor_full, xor_full', List.set_cons_zero, List.set_cons_succ]
theorem sw_none (x y : L5) : swA 0#64 x y 5 = x.list ∧ swB 0#64 x y 5 = y.list := by
  obtain ⟨a, b, c, d, e⟩ := x
  obtain ⟨p, q, r, s, t⟩ := y
  constructor
  · simp only [swA, swB, chg, L5.list, List.getD_cons_zero, List.getD_cons_succ, xor_none, List.set_cons_zero, List.set_cons_succ]
  · simp only [swA, swB, chg, L5.list, List.getD_cons_zero, List.getD_cons_succ, xor_none, List.set_cons_zero, List.set_cons_succ]

def bitM (z : Int) : BitVec 64 := -(BitVec.ofInt 64 z &&& 1#64)
theorem wofInt (z : Int) : IntKind.u64.wrap z = wn (BitVec.ofInt 64 z) := by
  unfold wn
  rw [IntKind.wrap_u64, BitVec.toNat_ofInt]
  omega
theorem wand1 (x : BitVec 64) : bits .and .u64 (wn x) (1 : Int) = wn (x &&& 1#64) := wand x 1#64
theorem wneg (x : BitVec 64) : IntKind.u64.wrap (-(wn x)) = wn (-x) := by
  have := wlt x
  unfold wn
  rw [IntKind.wrap_u64, BitVec.toNat_neg]
  omega
theorem and1_bv (x : BitVec 64) : (x &&& 1#64).toNat = x.toNat % 2 := by
  rw [BitVec.toNat_and]
  exact Nat.and_two_pow_sub_one_eq_mod x.toNat 1
theorem bitM_odd {z : Int} (h : z % 2 = 1) : bitM z = BitVec.allOnes 64 := by
  have e : (BitVec.ofInt 64 z &&& 1#64) = 1#64 := by
    apply BitVec.eq_of_toNat_eq
    rw [and1_bv, BitVec.toNat_ofInt]
    show _ = 1
    omega
  unfold bitM
  rw [e]
  rfl
theorem bitM_even {z : Int} (h : z % 2 = 0) : bitM z = 0#64 := by
  have e : (BitVec.ofInt 64 z &&& 1#64) = 0#64 := by
    apply BitVec.eq_of_toNat_eq
    rw [and1_bv, BitVec.toNat_ofInt]
    show _ = 0
    omega
  unfold bitM
  rw [e]
  rfl

structure Swp (n : Nat) (w wx : World) (L M : List (BitVec 64)) : Prop where
  la : Blk wx n (wvs L) 71
  lb : Blk wx (n + 1) (wvs M) 71
  r1 : Blk wx (n + 1 + 1) z5 71
  r2 : Blk wx (n + 1 + 1 + 1) z5 71
  be : Below n w wx
theorem Swp.drew {n : Nat} {w wx : World} {L M : List (BitVec 64)} (h : Swp n w wx L M) : Swp n w wx.drew L M := ⟨h.la.drew, h.lb.drew, h.r1.drew, h.r2.drew, h.be.drew⟩
theorem Swp.setA {n : Nat} {w wx : World} {L M : List (BitVec 64)} (h : Swp n w wx L M) (j : Nat) (u : BitVec 64) : Swp n w (wx.setCell ⟨n, j, none⟩ (.int .u64 (wn u))) (L.set j u) M :=
  ⟨by rw [← wvs_set]; exact h.la.set j _, h.lb.setOther _ _ _ (by omega), h.r1.setOther _ _ _ (by omega), h.r2.setOther _ _ _ (by omega), h.be.setCell (by simp) _⟩
theorem Swp.setB {n : Nat} {w wx : World} {L M : List (BitVec 64)} (h : Swp n w wx L M) (j : Nat) (u : BitVec 64) : Swp n w (wx.setCell ⟨n + 1, j, none⟩ (.int .u64 (wn u))) L (M.set j u) :=
  ⟨h.la.setOther _ _ _ (by omega), by rw [← wvs_set]; exact h.lb.set j _, h.r1.setOther _ _ _ (by omega), h.r2.setOther _ _ _ (by omega), h.be.setCell (by simp) _⟩
theorem results_cells {P : Program} {fn : Func} {p q : Tmp} {ty : TypeId} (h : fn.results = #[.cell p ty, .cell q ty]) (tmps : Array Value) (w : World) (g g' : Nat) (t : TypeId) (cs cs' : Array Value) (d : TypeDesc)
    (hp : tmps.getD p undef = .pointer (some ⟨g, 0, none⟩)) (hq : tmps.getD q undef = .pointer (some ⟨g', 0, none⟩)) (hg : w.heap[g]? = some (.cells cs t (0, 0))) (hg' : w.heap[g']? = some (.cells cs' t (0, 0)))
    (hu : P.underlying ty = some d) (hd : (match d with | .struct _ | .array _ _ => true | _ => false) = true) (hi : (P.info? ty).map (·.size) = some cs.size) (hi' : (P.info? ty).map (·.size) = some cs'.size) :
    (results fn tmps).run P w = .ok (.tuple #[.agg cs, .agg cs']) w := by
  have hp' : tmps[p]?.getD undef = .pointer (some ⟨g, 0, none⟩) := by simpa using hp
  have hq' : tmps[q]?.getD undef = .pointer (some ⟨g', 0, none⟩) := by simpa using hq
  simp [results, h, hp', hq', asAddr, run_loadVar_row w g t ty cs (0, 0) d hg hu hd hi, run_loadVar_row w g' t ty cs' (0, 0) d hg' hu hd hi']

theorem size2 (w : World) (a b : Obj) : ((w.alloc a).alloc b).heap.size = w.heap.size + 1 + 1 := by simp
theorem size3 (w : World) (a b c : Obj) : (((w.alloc a).alloc b).alloc c).heap.size = w.heap.size + 1 + 1 + 1 := by simp

set_option maxRecDepth 100000 in
set_option maxHeartbeats 4000000 in
theorem swap_walk (z : Int) (x y : L5) (w : World) :
    Calls Tryd.prog 51 #[.int .i64 z, x.v, y.v] w fun e w' => e = .returned (.tuple #[.agg (wvs (swA (bitM z) x y 5)).toArray, .agg (wvs (swB (bitM z) x y 5)).toArray]) ∧ Below w.heap.size w w' := by
  have h1 := wofInt z
  have h2 := wand1
  have h3 := wneg
  have HM : Hid (bitM z = -(BitVec.ofInt 64 z &&& 1#64)) := rfl
  generalize bitM z = M at HM ⊢
  go_enter Tryd.func51, Tryd.ntmps51
  go_upto_region 1 with (first | (refine wpList_boxAt rfl 71 (.tmp 1) rfl x.cs rfl w.heap.size rfl ?_) | (refine wpList_boxAt rfl 71 (.tmp 2) rfl y.cs rfl (w.heap.size + 1) (by simp) ?_) | (refine wpList_newAt rfl 71 rfl z5 zero27 (w.heap.size + 1 + 1) (size2 _ _ _) ?_) | (refine wpList_newAt rfl 71 rfl z5 zero27 (w.heap.size + 1 + 1 + 1) (size3 _ _ _ _) ?_))
  have h0 : Hid (Swp w.heap.size w ((((w.alloc (.cells x.cs.toArray 71)).alloc (.cells y.cs.toArray 71)).alloc (.cells z5.toArray 71)).alloc (.cells z5.toArray 71)) (swA M x y 0) (swB M x y 0)) := by
    refine ⟨(((Blk.new _ _ _).alloc _).alloc _).alloc _, ?_, ?_, ?_, by go_grown⟩
    · have := ((Blk.new (w.alloc (.cells x.cs.toArray 71)) y.cs 71).alloc (.cells z5.toArray 71)).alloc (.cells z5.toArray 71)
      show Blk _ (w.heap.size + 1) y.cs 71
      simpa using this
    · have := (Blk.new ((w.alloc (.cells x.cs.toArray 71)).alloc (.cells y.cs.toArray 71)) z5 71).alloc (.cells z5.toArray 71)
      simpa using this
    · have := Blk.new (((w.alloc (.cells x.cs.toArray 71)).alloc (.cells y.cs.toArray 71)).alloc (.cells z5.toArray 71)) z5 71
      simpa using this
  generalize (((w.alloc (.cells x.cs.toArray 71)).alloc (.cells y.cs.toArray 71)).alloc (.cells z5.toArray 71)).alloc (.cells z5.toArray 71) = w1 at h0 ⊢
  obtain ⟨n, hn⟩ : ∃ n, w.heap.size = n := ⟨_, rfl⟩
  rw [hn] at h0 ⊢
  go_wp2
  rw [← HM.out]
  clear h1 h2 h3 HM
  go_loopw [15] (fun i wr => ∃ t : Nat, t ≤ 5 ∧ i = .int .i64 t ∧ Hid (Swp n w wr (swA M x y t) (swB M x y t))) (fun i _ => 5 - (intOf i).toNat)
  case atStart => exact ⟨0, by omega, rfl, h0⟩
  case round =>
    obtain ⟨t, ht, rfl, hr⟩ := hrel
    have la := swA_length M x y t
    have lb := swB_length M x y t
    have ea := swA_at M x y t t (Nat.le_refl _)
    have eb := swB_at M x y t t (Nat.le_refl _)
    have ra : Hid (swA M x y (t + 1) = (swA M x y t).set t (x.list.getD t 0 ^^^ chg M x y t)) := rfl
    have rb : Hid (swB M x y (t + 1) = (swB M x y t).set t (y.list.getD t 0 ^^^ chg M x y t)) := rfl
    obtain ⟨LA, hLA⟩ : ∃ L, swA M x y t = L := ⟨_, rfl⟩
    obtain ⟨LB, hLB⟩ : ∃ L, swB M x y t = L := ⟨_, rfl⟩
    rw [hLA] at hr la ea ra
    rw [hLB] at hr lb eb rb
    by_cases hlt : t < 5
    · have hlz : (t : Int) < 5 := by omega
      have hca := hr.out.la.cell t
      rw [wvs_at LA t (by omega), ea] at hca
      have hcb := hr.out.lb.cell t
      rw [wvs_at LB t (by omega), eb] at hcb
      have hfa := hr.out.la.frozen t
      have hfb := hr.out.lb.frozen t
      have rc : Hid (chg M x y t = M &&& (x.list.getD t 0 ^^^ y.list.getD t 0)) := rfl
      generalize chg M x y t = c at rc ra rb
      generalize x.list.getD t 0 = u at hca rc ra
      generalize y.list.getD t 0 = v at hcb rc rb
      have e1 := wxor
      have e2 := wand
      clear la lb ea eb hLA hLB
      go_wp2
      go_region
      rw [← rc.out]
      go_wp2
      go_roundw
      case rel =>
        refine ⟨t + 1, by omega, by go_num, ?_⟩
        rw [ra.out, rb.out]
        exact (hr.out.drew.setA t _).setB t _
      case measure => simp [intOf]; omega
    · obtain rfl : t = 5 := by omega
      have hA : Hid (swA M x y 5 = LA) := hLA
      have hB : Hid (swB M x y 5 = LB) := hLB
      have ia : (Tryd.prog.info? 71).map (·.size) = some (wvs LA).length := by rw [wvs_length, la]; kernel_rfl
      have ib : (Tryd.prog.info? 71).map (·.size) = some (wvs LB).length := by rw [wvs_length, lb]; kernel_rfl
      have za : z5.length = (wvs LA).length := by rw [wvs_length, la]; rfl
      have zb : z5.length = (wvs LB).length := by rw [wvs_length, lb]; rfl
      clear ra rb ea eb hLA hLB
      have HR := hr
      go_upto_region 9 with fail
      obtain ⟨b0, b1, b2, b3, be⟩ := HR.out
      have rx : ∀ W, (Blk W n (wvs LA) 71 ∧ Blk W (n + 1) (wvs LB) 71) → W.rangeAt n 0 (wvs LA) := fun W hW j v hv => by
        rw [hW.1.cell, Nat.zero_add]; exact hv
      have ry : ∀ W, (Blk W n (wvs LA) 71 ∧ Blk W (n + 1) (wvs LB) 71) → W.rangeAt (n + 1) 0 (wvs LB) := fun W hW j v hv => by
        rw [hW.2.cell, Nat.zero_add]; exact hv
      have H0 : Blk { wr with drawn := wr.drawn + 1 } n (wvs LA) 71 ∧ Blk { wr with drawn := wr.drawn + 1 } (n + 1) (wvs LB) 71 := ⟨b0, b1⟩
      refine wp_region_noPanic ?_
      refine wp_region_held (S := fun W => Blk W n (wvs LA) 71 ∧ Blk W (n + 1) (wvs LB) 71) (by kernel_rfl) ?_
      refine takeH_load (i := 0) rfl 46 rfl 71 (.tmp 4) rfl (by kernel_rfl) (by kernel_rfl) (by kernel_rfl) (fun _ _ _ h => h) (by rfl) n 0 rfl (wvs LA) rfl rx Tryd.underlying71 rfl ia H0 ?_
      simp only [Act.put, List.setIfInBounds_toArray, List.set_cons_zero, List.set_cons_succ]
      refine takeH_load (i := 1) rfl 47 rfl 71 (.tmp 5) rfl (by kernel_rfl) (by kernel_rfl) (by kernel_rfl) (fun _ _ _ h => h) (by rfl) (n + 1) 0 rfl (wvs LB) rfl ry Tryd.underlying71 rfl ib H0 ?_
      simp only [Act.put, List.setIfInBounds_toArray, List.set_cons_zero, List.set_cons_succ]
      have c2 : Blk { wr with drawn := wr.drawn + 1 } (n + 1 + 1) z5 71 := b2
      have c3 : Blk { wr with drawn := wr.drawn + 1 } (n + 1 + 1 + 1) z5 71 := b3
      have ce : Below n w { wr with drawn := wr.drawn + 1 } := be.drew
      generalize ({ wr with drawn := wr.drawn + 1 } : World) = w2 at H0 c2 c3 ce ⊢
      refine onlyH (i := 2) (by kernel_rfl) ?_
      refine op_row rfl (by rfl) rfl 71 (.tmp 6) (.tmp 46) rfl (n + 1 + 1) (wvs LA) z5 71 rfl rfl c2 ia za (wvs_one LA) ?_
      refine ⟨⟨H0.1.setRowOther _ _ (by omega), H0.2.setRowOther _ _ (by omega)⟩, ?_⟩
      refine onlyH (i := 3) (by kernel_rfl) ?_
      refine op_row rfl (by rfl) rfl 71 (.tmp 7) (.tmp 47) rfl (n + 1 + 1 + 1) (wvs LB) z5 71 rfl rfl (c3.setRowOther _ _ (by omega)) ib zb (wvs_one LB) ?_
      refine ⟨⟨(H0.1.setRowOther _ _ (by omega)).setRowOther _ _ (by omega), (H0.2.setRowOther _ _ (by omega)).setRowOther _ _ (by omega)⟩, ?_⟩
      refine wpAnyH_done (by kernel_rfl) ?_ _
      refine NoPanic.normal ?_
      have d2 := (c2.setRow (wvs LA)).setRowOther (n + 1 + 1 + 1) (wvs LB).toArray (by omega)
      have d3 := (c3.setRowOther (n + 1 + 1) (wvs LA).toArray (by omega)).setRow (wvs LB)
      have de := below_setRow (below_setRow ce (n + 1 + 1) (wvs LA).toArray (by omega)) (n + 1 + 1 + 1) (wvs LB).toArray (by omega)
      generalize (w2.setRow (n + 1 + 1) (wvs LA).toArray).setRow (n + 1 + 1 + 1) (wvs LB).toArray = w3 at d2 d3 de ⊢
      have ia' : (Tryd.prog.info? 71).map (·.size) = some (wvs LA).toArray.size := by simpa using ia
      have ib' : (Tryd.prog.info? 71).map (·.size) = some (wvs LB).toArray.size := by simpa using ib
      have IA := hide ia'
      have IB := hide ib'
      clear ia ib za zb ia' ib' c2 c3 ce H0 rx ry b0 b1 b2 b3 be hr HR la lb
      go_wp2
      refine bodyPost_ret (results_cells Tryd.results51 _ _ (n + 1 + 1) (n + 1 + 1 + 1) 71 (wvs LA).toArray (wvs LB).toArray _ rfl rfl d2 d3 Tryd.underlying71 rfl IA.out IB.out) rfl ?_
      exact ⟨by rw [hA.out, hB.out], by first | (rw [hn]; exact de) | exact de⟩
theorem swap_odd {z : Int} (h : z % 2 = 1) (x y : L5) (w : World) :
    Calls Tryd.prog 51 #[.int .i64 z, x.v, y.v] w fun e w' => e = .returned (.tuple #[y.v, x.v]) ∧ Below w.heap.size w w' := by
  have := swap_walk z x y w
  rw [bitM_odd h, (sw_full x y).1, (sw_full x y).2] at this
  exact this
theorem swap_even {z : Int} (h : z % 2 = 0) (x y : L5) (w : World) :
    Calls Tryd.prog 51 #[.int .i64 z, x.v, y.v] w fun e w' => e = .returned (.tuple #[x.v, y.v]) ∧ Below w.heap.size w w' := by
  have := swap_walk z x y w
  rw [bitM_even h, (sw_none x y).1, (sw_none x y).2] at this
  exact this
end Go.Proofs.YtoceepmehmacbaaDoor.Cv
