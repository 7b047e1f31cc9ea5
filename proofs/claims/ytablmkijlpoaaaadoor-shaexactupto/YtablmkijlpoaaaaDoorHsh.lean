import Derived.Test.YtablmkijlpoaaaaDoorSk
namespace Go.Proofs.YtablmkijlpoaaaaDoor
open Go.RowKit

theorem opC_at (kind which tw : Int) (vB vC : Value) (st : List (BitVec 32)) (bl : List UInt8) : (opC kind which tw vB vC st bl)[0]? = some (.int .i64 kind) ∧ (opC kind which tw vB vC st bl)[1]? = some (.int .i64 which) ∧ (opC kind which tw vB vC st bl)[2]? = some (.int .i64 tw) ∧ (opC kind which tw vB vC st bl)[3]? = some vB ∧ (opC kind which tw vB vC st bl)[4]? = some vC := ⟨rfl, rfl, rfl, rfl, rfl⟩

theorem own_blk {w : World} {base : Nat} {v : Value} {bs : List UInt8} (h : Own w base v bs) : ∀ k, v.ownBlock = some k → base ≤ k ∧ k < w.heap.size := by
  intro k hk
  obtain ⟨_, h | ⟨g, cap, cur, hv, hg, hh, _⟩⟩ := h
  · rw [h.1] at hk; cases hk
  · rw [hv] at hk
    have hlt : g < w.heap.size := Blk.lt (cs := cur.toList) (t := 5) (by unfold Blk; simpa using hh)
    simp [Value.ownBlock] at hk
    omega
theorem Tb.fx {w x y : World} {p : Nat} {hs : List Nat} {vs : List Value} {mh mv : List (List UInt8)} (h : Tb w x p hs vs mh mv) (r : Nat) (hf : Fx (One r) x y) (r0 : w.heap.size ≤ r) (r1 : r ≠ p) (r2 : ∀ j, j < 3 → r ≠ hs.getD j 0) (r3 : ∀ j, j < 3 → ∀ k, (vs.getD j nilS).ownBlock = some k → k ≠ r) : Tb w y p hs vs mh mv :=
  ⟨h.tb.fx hf (fun e : p = r => r1 e.symm), h.lh, h.lv, fun j hj => Blk.fx (h.hh j hj) hf (fun e : _ = r => r2 j hj e.symm), fun j hj => (h.hv j hj).fx hf (fun k hk (e : k = r) => r3 j hj k hk e), h.be.trans (hf.below (fun k hk (e : k = r) => by omega) h.be.size), h.gp, h.gh, h.nh, h.np, h.nv, fun i hi k hk => Nat.lt_of_lt_of_le (h.bv i hi k hk) hf.size⟩
theorem own_blk2 {w : World} {base n c : Nat} {ar : Option Addr} {bs : List UInt8} (h : Own w base (.slice ar n c) bs) (hl : bs.length = n) (hn : 0 < n) : ∃ rb CS, ar = some ⟨rb, 0, none⟩ ∧ base ≤ rb ∧ Blk w rb CS 5 ∧ CS.take n = bs.map byt ∧ n ≤ CS.length ∧ n ≤ c := by
  obtain ⟨_, h | ⟨g, cap, cur, hv, hg, hh, hn2, hc, hs, ht⟩⟩ := h
  · have := h.2; omega
  · simp only [Value.slice.injEq] at hv
    obtain ⟨rfl, h2, rfl⟩ := hv
    refine ⟨g, cur.toList, rfl, hg, by unfold Blk; simpa using hh, by rw [← ht, hl, Nat.mul_one], ?_, by omega⟩
    rw [Array.length_toList]; omega
theorem rm_has {w : World} {rb n c : Nat} {CS : List Value} {bs : List UInt8} (h : Blk w rb CS 5) (ht : CS.take n = bs.map byt) (hl : bs.length = n) (hc : n ≤ c) : Has w (.slice (some ⟨rb, 0, none⟩) n c) bs := by
  subst hl
  refine .inr ⟨_, c, rfl, hc, fun i u hu => ?_⟩
  have hi : i < bs.length := (List.getElem?_eq_some_iff.1 hu).1
  rw [add_plain, h.cell]
  have e : (CS.take bs.length)[i]? = (bs.map byt)[i]? := by rw [ht]
  rw [List.getElem?_take_of_lt hi, List.getElem?_map, hu] at e
  exact e
theorem opG_skip {ops : Array Oper} {Q : Exit → Act → World → Prop} {i : Nat} {o : Oper} (hi : ops[i]? = some o) {K : Act → World → Prop} {a : Act} {w : World} (hw : Region.wanted o (yielded ops a.tmps) = true) (op : Op) (ho : o.op = op) (hd : o.dst = none) (w1 : World)
    (hrun : ∀ o' : Oper, o'.op = op → (execOp a.eval o').run Tryd.prog w = .ok .skip w1) (h : K a w1) : wpOp Tryd.prog ops Q i K a w := by
  refine opG_wp hi hw ?_
  unfold Oper.wp
  rw [hrun o ho]
  simp only [Oper.upon]
  rw [hd]
  exact h
theorem refsum_is (v : Value) (M D : List UInt8) (hD : sumOf M = D) (w : World) (hv : Has w v M) (hM : M.length ≤ 100000000000000) (hR : Rst w) (hB : Bst w) :
    Calls Tryd.prog 28 #[v] w fun e w' => e = .returned (.agg (D.map byt).toArray) ∧ Below w.heap.size w w' := by
  subst hD
  exact refsum_any v M w hv hM hR hB
theorem len_set (ms : List (List UInt8)) (n : Nat) (m : List UInt8) (L d : Nat) (hm : m.length ≤ L + d) (h : ∀ i, i < 3 → (ms.getD i []).length ≤ L) (hl : ms.length = 3) (i : Nat) (hi : i < 3) : ((ms.set n m).getD i []).length ≤ L + d := by
  by_cases e : n = i
  · subst e
    rw [getD_set_self _ _ _ _ (by omega)]
    exact hm
  · rw [getD_set_ne _ _ _ _ _ e]
    have := h i hi
    omega

set_option maxHeartbeats 4000000 in
set_option maxRecDepth 100000 in
theorem hashes_any (p : Nat) (hs : List Nat) (vs : List Value) (ms : List (List UInt8)) (kind which tw : Int) (vB vC : Value) (bB : List UInt8) (st : List (BitVec 32)) (bl : List UInt8) (L : Nat) (w x : World)
    (hT : Tb w x p hs vs ms ms) (hms : ms.length = 3) (hB : Has w vB bB) (hK : Kst w) (hR : Rst w) (hS : Bst w) (hlen : ∀ i, i < 3 → (ms.getD i []).length ≤ L) (hL : L + bB.length ≤ 100000000000000) :
    Calls Tryd.prog 12 #[.pointer (some ⟨p, 0, none⟩), .agg (opC kind which tw vB vC st bl).toArray] x fun e y => e = .returned (.bool true) ∧ ∃ hs' vs' ms', Tb w y p hs' vs' ms' ms' ∧ ms'.length = 3 ∧ ∀ i, i < 3 → (ms'.getD i []).length ≤ L + bB.length := by
  have HT := hide hT
  have HMS := hide hms
  have HB := hide hB
  have HK := hide hK
  have HR := hide hR
  have HS := hide hS
  have HL := hide hlen
  have HLL := hide hL
  obtain ⟨n, hn⟩ : ∃ q : Nat, which % 3 = (q : Int) := ⟨(which % 3).toNat, by omega⟩
  obtain ⟨m, hm⟩ : ∃ q : Nat, tw % 3 = (q : Int) := ⟨(tw % 3).toNat, by omega⟩
  have hn3 : n < 3 := by omega
  have hm3 : m < 3 := by omega
  obtain ⟨oc, hoc⟩ : ∃ oc, opC kind which tw vB vC st bl = oc := ⟨_, rfl⟩
  have hat := opC_at kind which tw vB vC st bl
  rw [hoc] at hat
  rw [hoc]
  have O0 := Lk.mk hat.1
  have O1 := Lk.mk hat.2.1
  have O2 := Lk.mk hat.2.2.1
  have O3 := Lk.mk hat.2.2.2.1
  clear hat hoc hT hms hB hK hR hS hlen hL
  go_enter Tryd.func12, Tryd.ntmps12
  go_upto_region 1 with (first
    | (refine wpList_boxAt rfl 37 _ rfl oc rfl x.heap.size rfl ?_)
    | fail)
  have X1 : Hid (Tb w (x.alloc (.cells oc.toArray 37)) p hs vs ms ms) := HT.out.below (below_new x _)
  have OB : Hid (Blk (x.alloc (.cells oc.toArray 37)) x.heap.size oc 37) := Blk.new x _ _
  have c1 := (OB.out.cell 1).trans O1.h
  have c2 := (OB.out.cell 2).trans O2.h
  have HBX : Hid (p < x.heap.size ∧ (∀ j, j < 3 → hs.getD j 0 < x.heap.size) ∧ w.heap.size ≤ x.heap.size) := hide ⟨HT.out.tb.lt, fun j hj => Blk.lt (HT.out.hh j hj), HT.out.be.size⟩
  generalize x.alloc (.cells oc.toArray 37) = x1 at X1 OB c1 c2 ⊢
  generalize x.heap.size = bx at OB c1 c2 HBX ⊢
  go_quiet ((go_at_call 32; exact Calls.quiet_of_same (rest2_any _ 3 _ (by decide) (by decide))))
  rw [hn, hm]
  have X2 : Hid (Tb w (x1.drewN nq) p hs vs ms ms) := X1.out.below (below_drewN (Below.refl _ _) nq)
  have OB2 : Hid (Blk (x1.drewN nq) bx oc 37) := OB.out.drewN nq
  generalize x1.drewN nq = x2 at X2 OB2 ⊢
  have c0 := (OB2.out.cell 0).trans O0.h
  have hnz : (n : Int) < 3 := by omega
  have hmz : (m : Int) < 3 := by omega
  clear c1 c2 hn hm X1 OB HT
  by_cases k3 : kind = 3
  · subst k3
    go_upto_region 4 with fail
    clear c0
    refine wp_region_noPanic ?_
    refine wp_region_any (by kernel_rfl) ?_
    have Z0 : Tb w { x2 with drawn := x2.drawn + 1 } p hs vs ms ms := X2.out.below (Below.refl _ _).drew
    generalize { x2 with drawn := x2.drawn + 1 } = z0 at Z0 ⊢
    refine take_any (i := 0) rfl rfl (.move (.tmp 0)) rfl 20 rfl (v := (.pointer (some ⟨p, 0, none⟩))) (by kernel_rfl) (by kernel_rfl) (by kernel_rfl) (fun _ _ _ h => h) (fun o' ho w => by go_simp) ?_
    simp only [Act.put, List.setIfInBounds_toArray, List.set_cons_zero, List.set_cons_succ]
    refine take_any (i := 1) rfl rfl (.move (.tmp 5)) rfl 21 rfl (v := (.int .i64 (n : Int))) (by kernel_rfl) (by kernel_rfl) (by kernel_rfl) (fun _ _ _ h => h) (fun o' ho w => by go_simp) ?_
    simp only [Act.put, List.setIfInBounds_toArray, List.set_cons_zero, List.set_cons_succ]
    refine take_any (i := 3) rfl rfl (.nilCheck (.tmp 20)) rfl 23 rfl (v := (.pointer (some ⟨p, 0, none⟩))) (by kernel_rfl) (by kernel_rfl) (by kernel_rfl) (fun _ _ _ h => h) (fun o' ho w => by go_simp) ?_
    simp only [Act.put, List.setIfInBounds_toArray, List.set_cons_zero, List.set_cons_succ]
    refine take_any (i := 4) rfl rfl (.fieldAddr 30 (.tmp 23) 0) rfl 24 rfl (v := (.pointer (some ⟨p, 0, none⟩))) (by kernel_rfl) (by kernel_rfl) (by kernel_rfl) (fun _ _ _ h => h) (fun o' ho w => by go_simp) ?_
    simp only [Act.put, List.setIfInBounds_toArray, List.set_cons_zero, List.set_cons_succ]
    refine only_one (i := 2) (by kernel_rfl) ?_
    refine op_call (R := fun v wx => ∃ g, v = .pointer (some ⟨g, 0, none⟩) ∧ z0.heap.size ≤ g ∧ HAt wx g [] ∧ Below z0.heap.size z0 wx) rfl rfl (.call { callee := .value (.func 10), args := #[], argTypes := #[] }) rfl 22 rfl 10 #[] (fun o' ho => by go_simp) ((new_any z0).mono fun e wx ⟨g, h1, h2, h3, h4⟩ => ⟨_, h1, g, rfl, h2, h3, h4⟩) ?_
    rintro v z1 ⟨g, rfl, hg, hgh, hgb⟩
    simp only [Act.put, List.setIfInBounds_toArray, List.set_cons_zero, List.set_cons_succ]
    refine take_any (i := 5) rfl rfl (.indexAddr 26 (.tmp 24) (.tmp 21)) rfl 25 rfl (v := (.pointer (some ⟨p, n, none⟩))) (by kernel_rfl) (by kernel_rfl) (by kernel_rfl) (fun _ _ _ h => h) (fun o' ho w => by go_simp) ?_
    simp only [Act.put, List.setIfInBounds_toArray, List.set_cons_zero, List.set_cons_succ]
    have Z1 := Z0.below hgb
    have pc := Z1.ptrAt n hn3
    have pf := Z1.tb.frozen n
    have Z2 := Z1.put HMS.out n hn3 g [] hgh (Nat.le_trans Z0.be.size hg) (by have := Z0.tb.lt; omega) (fun j hj => by have := Blk.lt (Z0.hh j hj); omega) (fun j hj k hk => by have := Z0.bv j hj k hk; omega)
    unfold ptr at Z2
    refine only_one (i := 6) (by kernel_rfl) ?_
    refine op_skip rfl rfl (.store 25 (.tmp 25) (.tmp 22)) rfl rfl (z1.setCell ⟨p, n, none⟩ (.pointer (some ⟨g, 0, none⟩))) (fun o' ho => by go_simp) ?_
    have X3 := hide Z2
    clear Z0 Z1 Z2 pc pf hgh hgb hg
    generalize z1.setCell ⟨p, n, none⟩ (.pointer (some ⟨g, 0, none⟩)) = z2 at X3 ⊢
    refine wpAny_done (by kernel_rfl) (NoPanic.normal ?_) _
    have vc := X3.out.valAt n hn3
    have vf := X3.out.tb.frozen (3 + n)
    have X4 := hide (X3.out.val HMS.out n hn3 nilS [] (Has.nil _) (fun k hk => by cases hk) (fun k hk => by cases hk))
    unfold nilS at X4
    go_upto_region 24 with fail
    generalize z2.setCell ⟨p, 3 + n, none⟩ (.slice none 0 0) = z3 at X4 ⊢
    clear vc vf X3
    have pa := X4.out.ptrAt n hn3
    have pb := X4.out.ptrAt m hm3
    unfold ptr at pa pb
    generalize (hs.set n g).getD n 0 = ga at pa
    generalize (hs.set n g).getD m 0 = gb at pb
    go_wp2
    go_ret
    refine ⟨rfl, _, _, _, X4.out, by rw [List.length_set]; exact HMS.out, fun i hi => ?_⟩
    exact len_set ms n [] L bB.length (Nat.zero_le _) HL.out HMS.out i hi
  · by_cases k6 : kind = 6
    · subst k6
      go_upto_region 19 with fail
      clear c0
      refine wp_region_noPanic ?_
      refine wp_region_any (by kernel_rfl) ?_
      have Z0 : Tb w { x2 with drawn := x2.drawn + 1 } p hs vs ms ms := X2.out.below (Below.refl _ _).drew
      generalize { x2 with drawn := x2.drawn + 1 } = z0 at Z0 ⊢
      have pa := Z0.ptrAt n hn3
      unfold ptr at pa
      obtain ⟨gn, hgn⟩ : ∃ g, hs.getD n 0 = g := ⟨_, rfl⟩
      have hhn := Z0.hh n hn3
      rw [hgn] at pa hhn
      obtain ⟨mn, hmn⟩ : ∃ q, ms.getD n [] = q := ⟨_, rfl⟩
      rw [hmn] at hhn
      refine take_any (i := 0) rfl rfl (.move (.tmp 0)) rfl 113 rfl (v := (.pointer (some ⟨p, 0, none⟩))) (by kernel_rfl) (by kernel_rfl) (by kernel_rfl) (fun _ _ _ h => h) (fun o' ho w => by go_simp) ?_
      simp only [Act.put, List.setIfInBounds_toArray, List.set_cons_zero, List.set_cons_succ]
      refine take_any (i := 1) rfl rfl (.move (.tmp 6)) rfl 114 rfl (v := (.int .i64 (m : Int))) (by kernel_rfl) (by kernel_rfl) (by kernel_rfl) (fun _ _ _ h => h) (fun o' ho w => by go_simp) ?_
      simp only [Act.put, List.setIfInBounds_toArray, List.set_cons_zero, List.set_cons_succ]
      refine take_any (i := 2) rfl rfl (.move (.tmp 0)) rfl 115 rfl (v := (.pointer (some ⟨p, 0, none⟩))) (by kernel_rfl) (by kernel_rfl) (by kernel_rfl) (fun _ _ _ h => h) (fun o' ho w => by go_simp) ?_
      simp only [Act.put, List.setIfInBounds_toArray, List.set_cons_zero, List.set_cons_succ]
      refine take_any (i := 3) rfl rfl (.move (.tmp 5)) rfl 116 rfl (v := (.int .i64 (n : Int))) (by kernel_rfl) (by kernel_rfl) (by kernel_rfl) (fun _ _ _ h => h) (fun o' ho w => by go_simp) ?_
      simp only [Act.put, List.setIfInBounds_toArray, List.set_cons_zero, List.set_cons_succ]
      refine take_any (i := 4) rfl rfl (.nilCheck (.tmp 115)) rfl 117 rfl (v := (.pointer (some ⟨p, 0, none⟩))) (by kernel_rfl) (by kernel_rfl) (by kernel_rfl) (fun _ _ _ h => h) (fun o' ho w => by go_simp) ?_
      simp only [Act.put, List.setIfInBounds_toArray, List.set_cons_zero, List.set_cons_succ]
      refine take_any (i := 5) rfl rfl (.fieldAddr 30 (.tmp 117) 0) rfl 118 rfl (v := (.pointer (some ⟨p, 0, none⟩))) (by kernel_rfl) (by kernel_rfl) (by kernel_rfl) (fun _ _ _ h => h) (fun o' ho w => by go_simp) ?_
      simp only [Act.put, List.setIfInBounds_toArray, List.set_cons_zero, List.set_cons_succ]
      refine take_any (i := 9) rfl rfl (.nilCheck (.tmp 113)) rfl 122 rfl (v := (.pointer (some ⟨p, 0, none⟩))) (by kernel_rfl) (by kernel_rfl) (by kernel_rfl) (fun _ _ _ h => h) (fun o' ho w => by go_simp) ?_
      simp only [Act.put, List.setIfInBounds_toArray, List.set_cons_zero, List.set_cons_succ]
      refine take_any (i := 10) rfl rfl (.fieldAddr 30 (.tmp 122) 0) rfl 123 rfl (v := (.pointer (some ⟨p, 0, none⟩))) (by kernel_rfl) (by kernel_rfl) (by kernel_rfl) (fun _ _ _ h => h) (fun o' ho w => by go_simp) ?_
      simp only [Act.put, List.setIfInBounds_toArray, List.set_cons_zero, List.set_cons_succ]
      refine take_any (i := 6) rfl rfl (.indexAddr 26 (.tmp 118) (.tmp 116)) rfl 119 rfl (v := (.pointer (some ⟨p, n, none⟩))) (by kernel_rfl) (by kernel_rfl) (by kernel_rfl) (fun _ _ _ h => h) (fun o' ho w => by go_simp) ?_
      simp only [Act.put, List.setIfInBounds_toArray, List.set_cons_zero, List.set_cons_succ]
      refine only_one (i := 7) (by kernel_rfl) ?_
      refine op_run rfl rfl (.load 25 (.tmp 119)) rfl 120 rfl (.pointer (some ⟨gn, 0, none⟩)) z0 (fun o' ho => by go_simp) ?_
      simp only [Act.put, List.setIfInBounds_toArray, List.set_cons_zero, List.set_cons_succ]
      refine only_one (i := 8) (by kernel_rfl) ?_
      refine op_call (R := fun v wx => ∃ g, v = .pointer (some ⟨g, 0, none⟩) ∧ z0.heap.size ≤ g ∧ HAt wx g mn ∧ Below z0.heap.size z0 wx) rfl rfl (.call { callee := .value (.func 34), args := #[.tmp 120], argTypes := #[25] }) rfl 121 rfl 34 #[.pointer (some ⟨gn, 0, none⟩)] (fun o' ho => by go_simp) ((copy_any gn mn z0 hhn).mono fun e wx ⟨g, h1, h2, h3, h4⟩ => ⟨_, h1, g, rfl, h2, h3, h4⟩) ?_
      rintro v z1 ⟨g, rfl, hg, hgh, hgb⟩
      simp only [Act.put, List.setIfInBounds_toArray, List.set_cons_zero, List.set_cons_succ]
      refine take_any (i := 11) rfl rfl (.indexAddr 26 (.tmp 123) (.tmp 114)) rfl 124 rfl (v := (.pointer (some ⟨p, m, none⟩))) (by kernel_rfl) (by kernel_rfl) (by kernel_rfl) (fun _ _ _ h => h) (fun o' ho w => by go_simp) ?_
      simp only [Act.put, List.setIfInBounds_toArray, List.set_cons_zero, List.set_cons_succ]
      have Z1 := Z0.below hgb
      have pc := Z1.ptrAt m hm3
      have pf := Z1.tb.frozen m
      have Z2 := Z1.put HMS.out m hm3 g mn hgh (Nat.le_trans Z0.be.size hg) (by have := Z0.tb.lt; omega) (fun j hj => by have := Blk.lt (Z0.hh j hj); omega) (fun j hj k hk => by have := Z0.bv j hj k hk; omega)
      unfold ptr at Z2
      refine only_one (i := 12) (by kernel_rfl) ?_
      refine op_skip rfl rfl (.store 25 (.tmp 124) (.tmp 121)) rfl rfl (z1.setCell ⟨p, m, none⟩ (.pointer (some ⟨g, 0, none⟩))) (fun o' ho => by go_simp) ?_
      have X3 := hide Z2
      have HMN : Lk (ms.getD n []) mn := ⟨hmn⟩
      clear Z0 Z1 Z2 pa pc pf hgh hgb hg hhn hgn hmn
      generalize z1.setCell ⟨p, m, none⟩ (.pointer (some ⟨g, 0, none⟩)) = z2 at X3 ⊢
      refine wpAny_done (by kernel_rfl) (NoPanic.normal ?_) _
      obtain ⟨a5, q5, hv5⟩ := (X3.out.hv n hn3).slice
      have hhv := X3.out.hv n hn3
      rw [hv5] at hhv
      rw [HMN.h] at hhv hv5
      go_upto_region 20 with fail
      refine wp_region_noPanic ?_
      refine wp_region_any (by kernel_rfl) ?_
      have Z3 : Tb w { z2 with drawn := z2.drawn + 1 } p (hs.set m g) vs (ms.set m mn) ms := X3.out.below (Below.refl _ _).drew
      have U3 : Has { z2 with drawn := z2.drawn + 1 } (.slice a5 mn.length q5) mn := hhv.below (Below.refl _ _).drew
      generalize { z2 with drawn := z2.drawn + 1 } = z3 at Z3 U3 ⊢
      have va := Z3.valAt n hn3
      rw [hv5] at va
      have MNL : Lk mn.length mn.length := ⟨rfl⟩
      have hmn14 : mn.length ≤ 100000000000000 := by have h1 := HL.out n hn3; have h2 := HLL.out; rw [HMN.h] at h1; omega
      obtain ⟨ln, hln⟩ : ∃ l, mn.length = l := ⟨_, rfl⟩
      rw [hln] at va U3 hmn14
      refine take_any (i := 0) rfl rfl (.move (.tmp 0)) rfl 125 rfl (v := (.pointer (some ⟨p, 0, none⟩))) (by kernel_rfl) (by kernel_rfl) (by kernel_rfl) (fun _ _ _ h => h) (fun o' ho w => by go_simp) ?_
      simp only [Act.put, List.setIfInBounds_toArray, List.set_cons_zero, List.set_cons_succ]
      refine take_any (i := 1) rfl rfl (.move (.tmp 6)) rfl 126 rfl (v := (.int .i64 (m : Int))) (by kernel_rfl) (by kernel_rfl) (by kernel_rfl) (fun _ _ _ h => h) (fun o' ho w => by go_simp) ?_
      simp only [Act.put, List.setIfInBounds_toArray, List.set_cons_zero, List.set_cons_succ]
      refine take_any (i := 2) rfl rfl (.move (.tmp 0)) rfl 127 rfl (v := (.pointer (some ⟨p, 0, none⟩))) (by kernel_rfl) (by kernel_rfl) (by kernel_rfl) (fun _ _ _ h => h) (fun o' ho w => by go_simp) ?_
      simp only [Act.put, List.setIfInBounds_toArray, List.set_cons_zero, List.set_cons_succ]
      refine take_any (i := 3) rfl rfl (.move (.tmp 5)) rfl 128 rfl (v := (.int .i64 (n : Int))) (by kernel_rfl) (by kernel_rfl) (by kernel_rfl) (fun _ _ _ h => h) (fun o' ho w => by go_simp) ?_
      simp only [Act.put, List.setIfInBounds_toArray, List.set_cons_zero, List.set_cons_succ]
      refine take_any (i := 4) rfl rfl (.nilCheck (.tmp 127)) rfl 129 rfl (v := (.pointer (some ⟨p, 0, none⟩))) (by kernel_rfl) (by kernel_rfl) (by kernel_rfl) (fun _ _ _ h => h) (fun o' ho w => by go_simp) ?_
      simp only [Act.put, List.setIfInBounds_toArray, List.set_cons_zero, List.set_cons_succ]
      refine take_any (i := 5) rfl rfl (.fieldAddr 30 (.tmp 129) 1) rfl 130 rfl (v := (.pointer (some ⟨p, 3, none⟩))) (by kernel_rfl) (by kernel_rfl) (by kernel_rfl) (fun _ _ _ h => h) (fun o' ho w => by go_simp) ?_
      simp only [Act.put, List.setIfInBounds_toArray, List.set_cons_zero, List.set_cons_succ]
      refine take_any (i := 9) rfl rfl (.nilCheck (.tmp 125)) rfl 134 rfl (v := (.pointer (some ⟨p, 0, none⟩))) (by kernel_rfl) (by kernel_rfl) (by kernel_rfl) (fun _ _ _ h => h) (fun o' ho w => by go_simp) ?_
      simp only [Act.put, List.setIfInBounds_toArray, List.set_cons_zero, List.set_cons_succ]
      refine take_any (i := 10) rfl rfl (.fieldAddr 30 (.tmp 134) 1) rfl 135 rfl (v := (.pointer (some ⟨p, 3, none⟩))) (by kernel_rfl) (by kernel_rfl) (by kernel_rfl) (fun _ _ _ h => h) (fun o' ho w => by go_simp) ?_
      simp only [Act.put, List.setIfInBounds_toArray, List.set_cons_zero, List.set_cons_succ]
      refine take_any (i := 6) rfl rfl (.indexAddr 28 (.tmp 130) (.tmp 128)) rfl 131 rfl (v := (.pointer (some ⟨p, 3 + n, none⟩))) (by kernel_rfl) (by kernel_rfl) (by kernel_rfl) (fun _ _ _ h => h) (fun o' ho w => by go_simp) ?_
      simp only [Act.put, List.setIfInBounds_toArray, List.set_cons_zero, List.set_cons_succ]
      refine only_one (i := 7) (by kernel_rfl) ?_
      refine op_run rfl rfl (.load 27 (.tmp 131)) rfl 132 rfl (.slice a5 ln q5) z3 (fun o' ho => by go_simp) ?_
      simp only [Act.put, List.setIfInBounds_toArray, List.set_cons_zero, List.set_cons_succ]
      refine only_one (i := 8) (by kernel_rfl) ?_
      refine opG_app rfl (by rfl) (.const (.slice none 0 0)) (.tmp 132) rfl 133 rfl z3.heap.size (.slice none 0 0) [] rfl (Own.nil _ _) (.slice a5 ln q5) mn rfl U3 (by rw [hln]; simp; omega) (Nat.le_refl _) ?_
      intro v6 z4 ho6 hg6
      rw [List.nil_append] at ho6
      have B6 : Below z3.heap.size z3 z4 := (Below.refl _ _).grown hg6 (Nat.le_refl _) (fun k hk => by cases hk)
      obtain ⟨a6, q6, rfl⟩ := ho6.slice
      rw [hln] at ho6 ⊢
      have nb6 : ∀ k, (Value.slice a6 ln q6).ownBlock = some k → z3.heap.size ≤ k ∧ k < z4.heap.size := own_blk ho6
      simp only [Act.put, List.setIfInBounds_toArray, List.set_cons_zero, List.set_cons_succ]
      refine take_any (i := 11) rfl rfl (.indexAddr 28 (.tmp 135) (.tmp 126)) rfl 136 rfl (v := (.pointer (some ⟨p, 3 + m, none⟩))) (by kernel_rfl) (by kernel_rfl) (by kernel_rfl) (fun _ _ _ h => h) (fun o' ho w => by go_simp) ?_
      simp only [Act.put, List.setIfInBounds_toArray, List.set_cons_zero, List.set_cons_succ]
      have Z4 := Z3.below B6
      have vc := Z4.valAt m hm3
      have vf := Z4.tb.frozen (3 + m)
      have Z5 := Z4.val HMS.out m hm3 (.slice a6 ln q6) mn ho6.has (fun k hk => ⟨by have := (nb6 k hk).1; have := Z3.tb.lt; omega, fun j hj => by have := (nb6 k hk).1; have := Blk.lt (Z3.hh j hj); omega⟩) (fun k hk => (nb6 k hk).2)
      refine only_one (i := 12) (by kernel_rfl) ?_
      refine op_skip rfl rfl (.store 27 (.tmp 136) (.tmp 133)) rfl rfl (z4.setCell ⟨p, 3 + m, none⟩ (.slice a6 ln q6)) (fun o' ho => by go_simp) ?_
      have X5 := hide Z5
      clear Z3 Z4 Z5 vc vf va ho6 hg6 B6 U3 nb6
      generalize z4.setCell ⟨p, 3 + m, none⟩ (.slice a6 ln q6) = z5 at X5 ⊢
      refine wpAny_done (by kernel_rfl) (NoPanic.normal ?_) _
      have pa := X5.out.ptrAt n hn3
      have pb := X5.out.ptrAt m hm3
      unfold ptr at pa pb
      generalize (hs.set m g).getD n 0 = ga at pa
      generalize (hs.set m g).getD m 0 = gb at pb
      clear X3 hhv hv5
      go_wp2
      go_ret
      refine ⟨rfl, _, _, _, X5.out, by rw [List.length_set]; exact HMS.out, fun i hi => ?_⟩
      exact len_set ms m mn L bB.length (by have h1 := HL.out n hn3; rw [HMN.h] at h1; omega) HL.out HMS.out i hi
    · by_cases k7 : kind = 7
      · subst k7
        have pa := X2.out.ptrAt n hn3
        unfold ptr at pa
        obtain ⟨gn, hgn⟩ : ∃ g, hs.getD n 0 = g := ⟨_, rfl⟩
        obtain ⟨mn, hmn⟩ : ∃ q, ms.getD n [] = q := ⟨_, rfl⟩
        have hhn := X2.out.hh n hn3
        rw [hmn, hgn] at hhn
        rw [hgn] at pa
        have HH := hide hhn
        have HG : Lk (hs.getD n 0) gn := ⟨hgn⟩
        clear hhn hgn hmn
        go_upto_region 24 with (first
          | (go_at_call 35; refine (wipe_any gn mn _ HH.out).mono ?_; rintro e z1 ⟨rfl, hz1, hf1⟩; have X3 : Hid (Tb w z1 p hs vs (ms.set n []) ms) := hide (X2.out.hash HMS.out n hn3 [] (by rw [HG.h]; exact hz1) (by rw [HG.h]; exact hf1)); clear hz1 hf1; have vc := X3.out.valAt n hn3; have vf := X3.out.tb.frozen (3 + n))
          | fail)
        have X4 := hide (X3.out.val HMS.out n hn3 nilS [] (Has.nil _) (fun k hk => by cases hk) (fun k hk => by cases hk))
        unfold nilS at X4
        generalize z1.setCell ⟨p, 3 + n, none⟩ (.slice none 0 0) = z3 at X4 ⊢
        clear vc vf X3 pa
        have pa := X4.out.ptrAt n hn3
        have pb := X4.out.ptrAt m hm3
        unfold ptr at pa pb
        generalize hs.getD n 0 = ga at pa
        generalize hs.getD m 0 = gb at pb
        go_wp2
        go_ret
        refine ⟨rfl, _, _, _, X4.out, by rw [List.length_set]; exact HMS.out, fun i hi => ?_⟩
        exact len_set ms n [] L bB.length (Nat.zero_le _) HL.out HMS.out i hi
      · by_cases k4 : kind = 4
        · subst k4
          have pa := X2.out.ptrAt n hn3
          unfold ptr at pa
          obtain ⟨gn, hgn⟩ : ∃ g, hs.getD n 0 = g := ⟨_, rfl⟩
          obtain ⟨mn, hmn⟩ : ∃ q, ms.getD n [] = q := ⟨_, rfl⟩
          obtain ⟨av, cv, hav⟩ := (X2.out.hv n hn3).slice
          obtain ⟨aB, cB, hvB⟩ := HB.out.slice
          have hh0 := X2.out.hh n hn3
          have lm := HL.out n hn3
          obtain ⟨lB, hlB⟩ : ∃ l, bB.length = l := ⟨_, rfl⟩
          rw [hlB] at hvB
          subst hvB
          have c3 := (OB2.out.cell 3).trans O3.h
          have HLB : Lk bB.length lB := ⟨hlB⟩
          have HMN : Lk (ms.getD n []) mn := ⟨hmn⟩
          have HGN : Lk (hs.getD n 0) gn := ⟨hgn⟩
          have lB14 : lB ≤ 100000000000000 := by have := HLL.out; omega
          have HUB : Hid (Has x2 (.slice aB lB cB) bB) := HB.out.below X2.out.be
          clear hlB lm hmn hh0 hgn hav pa
          go_upto_region 8 with (first
            | (go_at_call 27; refine (room_any (.slice aB lB cB) bB _ HUB.out (by rw [HLB.h]; omega)).mono ?_; rintro e z1 ⟨ar, cr, rfl, ho1, hb1⟩; rw [HLB.h] at ho1 ⊢; have HO1 := hide ho1; have HB1 := hide hb1; clear ho1 hb1)
            | fail)
          have L3 : (bB ++ marks).length = lB + 3 := by rw [List.length_append, HLB.h]; rfl
          obtain ⟨rb, CS, rfl, hrb, hrB, hrt, hrl, hrc⟩ := own_blk2 HO1.out L3 (by omega)
          have RB0 : Hid (x2.heap.size ≤ rb ∧ rb < z1.heap.size) := hide ⟨hrb, hrB.lt⟩
          have HRT : Lk (CS.take (lB + 3)) ((bB ++ marks).map byt) := ⟨hrt⟩
          have HRL := hide hrl
          have HRC := hide hrc
          have HL3 : Lk (bB ++ marks).length (lB + 3) := ⟨L3⟩
          have RX := hide hrB
          clear hrb hrB hrt hrl L3 HO1 c3
          have T1 := hide (X2.out.below HB1.out)
          have OB3 : Hid (Blk z1 bx oc 37) := OB2.out.below HB1.out OB2.out.lt
          have hbx := HBX.out
          refine wp_region_noPanic ?_
          refine wp_region_held (S := fun y => y.cell? ⟨p, n, none⟩ = some (.pointer (some ⟨gn, 0, none⟩)) ∧ y.cell? ⟨bx, 3, none⟩ = some (.slice aB lB cB)) (by kernel_rfl) ?_
          have Z0 : Tb w { z1 with drawn := z1.drawn + 1 } p hs vs ms ms := T1.out.below (Below.refl _ _).drew
          have R0 : Blk { z1 with drawn := z1.drawn + 1 } rb CS 5 := RX.out
          have O0b : Blk { z1 with drawn := z1.drawn + 1 } bx oc 37 := OB3.out
          have zs : Hid (z1.heap.size = ({ z1 with drawn := z1.drawn + 1 } : World).heap.size) := hide rfl
          generalize { z1 with drawn := z1.drawn + 1 } = z2 at Z0 R0 O0b zs ⊢
          have S0 : z2.cell? ⟨p, n, none⟩ = some (.pointer (some ⟨gn, 0, none⟩)) ∧ z2.cell? ⟨bx, 3, none⟩ = some (.slice aB lB cB) := ⟨by have := Z0.ptrAt n hn3; rw [HGN.h] at this; exact this, (O0b.cell 3).trans O3.h⟩
          have S0H := hide S0
          clear S0
          have cutr : (0 : Int) ≤ (lB : Int) ∧ (lB : Int) ≤ (cr : Int) := by have := HRC.out; omega
          have cutn : lB ≤ cr := by have := HRC.out; omega
          refine takeH (i := 0) rfl (.move (.tmp 0)) rfl 36 rfl (v := (.pointer (some ⟨p, 0, none⟩))) (by kernel_rfl) (by kernel_rfl) (by kernel_rfl) (fun _ _ _ h => h) (by rfl) (fun o' ho W hW => by clear hW; go_simp) S0H.out ?_
          simp only [Act.put, List.setIfInBounds_toArray, List.set_cons_zero, List.set_cons_succ]
          refine takeH (i := 1) rfl (.move (.tmp 5)) rfl 37 rfl (v := (.int .i64 (n : Int))) (by kernel_rfl) (by kernel_rfl) (by kernel_rfl) (fun _ _ _ h => h) (by rfl) (fun o' ho W hW => by clear hW; go_simp) S0H.out ?_
          simp only [Act.put, List.setIfInBounds_toArray, List.set_cons_zero, List.set_cons_succ]
          refine takeH (i := 2) rfl (.nilCheck (.tmp 36)) rfl 38 rfl (v := (.pointer (some ⟨p, 0, none⟩))) (by kernel_rfl) (by kernel_rfl) (by kernel_rfl) (fun _ _ _ h => h) (by rfl) (fun o' ho W hW => by clear hW; go_simp) S0H.out ?_
          simp only [Act.put, List.setIfInBounds_toArray, List.set_cons_zero, List.set_cons_succ]
          refine takeH (i := 3) rfl (.fieldAddr 30 (.tmp 38) 0) rfl 39 rfl (v := (.pointer (some ⟨p, 0, none⟩))) (by kernel_rfl) (by kernel_rfl) (by kernel_rfl) (fun _ _ _ h => h) (by rfl) (fun o' ho W hW => by clear hW; go_simp) S0H.out ?_
          simp only [Act.put, List.setIfInBounds_toArray, List.set_cons_zero, List.set_cons_succ]
          refine takeH (i := 4) rfl (.indexAddr 26 (.tmp 39) (.tmp 37)) rfl 40 rfl (v := (.pointer (some ⟨p, n, none⟩))) (by kernel_rfl) (by kernel_rfl) (by kernel_rfl) (fun _ _ _ h => h) (by rfl) (fun o' ho W hW => by clear hW; go_simp) S0H.out ?_
          simp only [Act.put, List.setIfInBounds_toArray, List.set_cons_zero, List.set_cons_succ]
          refine takeH (i := 5) rfl (.load 25 (.tmp 40)) rfl 41 rfl (v := (.pointer (some ⟨gn, 0, none⟩))) (by kernel_rfl) (by kernel_rfl) (by kernel_rfl) (fun _ _ _ h => h) (by rfl) (fun o' ho W hW => by obtain ⟨s1, s2⟩ := hW; go_simp) S0H.out ?_
          simp only [Act.put, List.setIfInBounds_toArray, List.set_cons_zero, List.set_cons_succ]
          refine takeH (i := 6) rfl (.move (.tmp 7)) rfl 42 rfl (v := (.slice (some ⟨rb, 0, none⟩) (lB + 3) cr)) (by kernel_rfl) (by kernel_rfl) (by kernel_rfl) (fun _ _ _ h => h) (by rfl) (fun o' ho W hW => by clear hW; go_simp) S0H.out ?_
          simp only [Act.put, List.setIfInBounds_toArray, List.set_cons_zero, List.set_cons_succ]
          refine takeH (i := 7) rfl (.fieldAddr 37 (.tmp 3) 3) rfl 43 rfl (v := (.pointer (some ⟨bx, 3, none⟩))) (by kernel_rfl) (by kernel_rfl) (by kernel_rfl) (fun _ _ _ h => h) (by rfl) (fun o' ho W hW => by clear hW; go_simp) S0H.out ?_
          simp only [Act.put, List.setIfInBounds_toArray, List.set_cons_zero, List.set_cons_succ]
          refine takeH (i := 8) rfl (.load 27 (.tmp 43)) rfl 44 rfl (v := (.slice aB lB cB)) (by kernel_rfl) (by kernel_rfl) (by kernel_rfl) (fun _ _ _ h => h) (by rfl) (fun o' ho W hW => by obtain ⟨s1, s2⟩ := hW; go_simp) S0H.out ?_
          simp only [Act.put, List.setIfInBounds_toArray, List.set_cons_zero, List.set_cons_succ]
          refine takeH (i := 9) rfl (.call { callee := .builtin .len, args := #[.tmp 44], argTypes := #[27] }) rfl 45 rfl (v := (.int .i64 (lB : Int))) (by kernel_rfl) (by kernel_rfl) (by kernel_rfl) (fun _ _ _ h => h) (by rfl) (fun o' ho W hW => by clear hW; go_simp) S0H.out ?_
          simp only [Act.put, List.setIfInBounds_toArray, List.set_cons_zero, List.set_cons_succ]
          refine takeH (i := 10) rfl (.slice 27 (.tmp 42) none (some (.tmp 45)) none) rfl 46 rfl (v := (.slice (some ⟨rb, 0, none⟩) lB cr)) (by kernel_rfl) (by kernel_rfl) (by kernel_rfl) (fun _ _ _ h => h) (by rfl) (fun o' ho W hW => by clear hW; go_simp) S0H.out ?_
          simp only [Act.put, List.setIfInBounds_toArray, List.set_cons_zero, List.set_cons_succ]
          have HW : Has z2 (.slice (some ⟨rb, 0, none⟩) lB cr) bB := by
            have h1 := take_slice (rm_has R0 HRT.h HL3.h HRC.out) HL3.h lB (by omega)
            rwa [List.take_append_of_le_length (by rw [HLB.h]; exact Nat.le_refl _), List.take_of_length_le (by rw [HLB.h]; exact Nat.le_refl _)] at h1
          have hgnr : gn ≠ rb := by have := hbx.2.1 n hn3; rw [HGN.h] at this; have h2 := RB0.out.1; have := OB2.out.lt; omega
          have hgn0 : gn ≠ 0 := by have h1 := X2.out.gh n hn3; rw [HGN.h] at h1; have := HK.out.lt; omega
          have HHn : HAt z2 gn mn := by have h1 := Z0.hh n hn3; rw [HGN.h, HMN.h] at h1; exact h1
          have lmn : mn.length ≤ L := by have h1 := HL.out n hn3; rw [HMN.h] at h1; exact h1
          refine onlyH (i := 11) (by kernel_rfl) ?_
          refine opG_call (R := fun v wz => v = .tuple #[] ∧ HAt wz gn (mn ++ bB) ∧ Fx (One gn) z2 wz) rfl (by rfl) (.call { callee := .value (.func 24), args := #[.tmp 41, .tmp 46], argTypes := #[25, 27] }) rfl 47 rfl 24 #[.pointer (some ⟨gn, 0, none⟩), .slice (some ⟨rb, 0, none⟩) lB cr] (fun o' ho => by go_simp) ((write_any gn mn bB (.slice (some ⟨rb, 0, none⟩) lB cr) z2 HHn HW (.inr (fun e => by simp [Value.ownBlock] at e; omega)) (HK.out.below Z0.be HK.out.lt) hgn0 (by have := HLL.out; omega)).mono fun e wz ⟨h1, h2, h3⟩ => ⟨_, h1, rfl, h2, h3⟩) ?_
          rintro v z3 ⟨rfl, hz3, hf3⟩
          have Z3 := Z0.hash HMS.out n hn3 (mn ++ bB) (by rw [HGN.h]; exact hz3) (by rw [HGN.h]; exact hf3)
          have R3 : Blk z3 rb CS 5 := R0.fx hf3 (fun e : rb = gn => hgnr e.symm)
          have O3b : Blk z3 bx oc 37 := O0b.fx hf3 (fun e : bx = gn => by have := hbx.2.1 n hn3; rw [HGN.h] at this; omega)
          have zs3 : z2.heap.size ≤ z3.heap.size := hf3.size
          refine ⟨⟨by have := Z3.ptrAt n hn3; rw [HGN.h] at this; exact this, (O3b.cell 3).trans O3.h⟩, ?_⟩
          simp only [Act.put, List.setIfInBounds_toArray, List.set_cons_zero, List.set_cons_succ]
          refine wpAnyH_done (by kernel_rfl) (NoPanic.normal ?_) _
          have Z3H := hide Z3
          have R3H := hide R3
          have O3H := hide O3b
          have RB3 : Hid (x2.heap.size ≤ rb ∧ rb < z3.heap.size) := hide ⟨RB0.out.1, R3.lt⟩
          have LMN := hide lmn
          clear Z0 Z3 R0 R3 O0b O3b S0H HW HHn hz3 hf3 zs3 zs T1 OB3 RX RB0 lmn hgnr cutr cutn HB1
          obtain ⟨av, cv, hav⟩ := (Z3H.out.hv n hn3).slice
          rw [HMN.h] at hav
          obtain ⟨ln, hln⟩ : ∃ l, mn.length = l := ⟨_, rfl⟩
          rw [hln] at hav
          have HLN : Lk mn.length ln := ⟨hln⟩
          have HAV : Lk (vs.getD n nilS) (.slice av ln cv) := ⟨hav⟩
          clear hln hav
          go_upto_region 9 with fail
          refine wp_region_noPanic ?_
          refine wp_region_held (S := fun y => y.cell? ⟨bx, 3, none⟩ = some (.slice aB lB cB)) (by kernel_rfl) ?_
          have Y0 : Tb w { z3 with drawn := z3.drawn + 1 } p hs vs (ms.set n (mn ++ bB)) ms := Z3H.out.below (Below.refl _ _).drew
          have Q0 : Blk { z3 with drawn := z3.drawn + 1 } rb CS 5 := R3H.out
          have P0 : Blk { z3 with drawn := z3.drawn + 1 } bx oc 37 := O3H.out
          generalize { z3 with drawn := z3.drawn + 1 } = y0 at Y0 Q0 P0 ⊢
          have s0 : y0.cell? ⟨bx, 3, none⟩ = some (.slice aB lB cB) := (P0.cell 3).trans O3.h
          have va : y0.cell? ⟨p, 3 + n, none⟩ = some (.slice av ln cv) := by have h1 := Y0.valAt n hn3; rw [HAV.h] at h1; exact h1
          have U0 : Has y0 (.slice av ln cv) mn := by have h1 := Y0.hv n hn3; rw [HAV.h, HMN.h] at h1; exact h1
          refine takeH (i := 0) rfl (.move (.tmp 0)) rfl 48 rfl (v := (.pointer (some ⟨p, 0, none⟩))) (by kernel_rfl) (by kernel_rfl) (by kernel_rfl) (fun _ _ _ h => h) (by rfl) (fun o' ho W hW => by clear hW; go_simp) s0 ?_
          simp only [Act.put, List.setIfInBounds_toArray, List.set_cons_zero, List.set_cons_succ]
          refine takeH (i := 1) rfl (.move (.tmp 5)) rfl 49 rfl (v := (.int .i64 (n : Int))) (by kernel_rfl) (by kernel_rfl) (by kernel_rfl) (fun _ _ _ h => h) (by rfl) (fun o' ho W hW => by clear hW; go_simp) s0 ?_
          simp only [Act.put, List.setIfInBounds_toArray, List.set_cons_zero, List.set_cons_succ]
          refine takeH (i := 2) rfl (.move (.tmp 0)) rfl 50 rfl (v := (.pointer (some ⟨p, 0, none⟩))) (by kernel_rfl) (by kernel_rfl) (by kernel_rfl) (fun _ _ _ h => h) (by rfl) (fun o' ho W hW => by clear hW; go_simp) s0 ?_
          simp only [Act.put, List.setIfInBounds_toArray, List.set_cons_zero, List.set_cons_succ]
          refine takeH (i := 3) rfl (.move (.tmp 5)) rfl 51 rfl (v := (.int .i64 (n : Int))) (by kernel_rfl) (by kernel_rfl) (by kernel_rfl) (fun _ _ _ h => h) (by rfl) (fun o' ho W hW => by clear hW; go_simp) s0 ?_
          simp only [Act.put, List.setIfInBounds_toArray, List.set_cons_zero, List.set_cons_succ]
          refine takeH (i := 4) rfl (.nilCheck (.tmp 50)) rfl 52 rfl (v := (.pointer (some ⟨p, 0, none⟩))) (by kernel_rfl) (by kernel_rfl) (by kernel_rfl) (fun _ _ _ h => h) (by rfl) (fun o' ho W hW => by clear hW; go_simp) s0 ?_
          simp only [Act.put, List.setIfInBounds_toArray, List.set_cons_zero, List.set_cons_succ]
          refine takeH (i := 5) rfl (.fieldAddr 30 (.tmp 52) 1) rfl 53 rfl (v := (.pointer (some ⟨p, 3, none⟩))) (by kernel_rfl) (by kernel_rfl) (by kernel_rfl) (fun _ _ _ h => h) (by rfl) (fun o' ho W hW => by clear hW; go_simp) s0 ?_
          simp only [Act.put, List.setIfInBounds_toArray, List.set_cons_zero, List.set_cons_succ]
          refine takeH (i := 6) rfl (.indexAddr 28 (.tmp 53) (.tmp 51)) rfl 54 rfl (v := (.pointer (some ⟨p, 3 + n, none⟩))) (by kernel_rfl) (by kernel_rfl) (by kernel_rfl) (fun _ _ _ h => h) (by rfl) (fun o' ho W hW => by clear hW; go_simp) s0 ?_
          simp only [Act.put, List.setIfInBounds_toArray, List.set_cons_zero, List.set_cons_succ]
          refine takeH (i := 9) rfl (.fieldAddr 37 (.tmp 3) 3) rfl 57 rfl (v := (.pointer (some ⟨bx, 3, none⟩))) (by kernel_rfl) (by kernel_rfl) (by kernel_rfl) (fun _ _ _ h => h) (by rfl) (fun o' ho W hW => by clear hW; go_simp) s0 ?_
          simp only [Act.put, List.setIfInBounds_toArray, List.set_cons_zero, List.set_cons_succ]
          refine takeH (i := 10) rfl (.load 27 (.tmp 57)) rfl 58 rfl (v := (.slice aB lB cB)) (by kernel_rfl) (by kernel_rfl) (by kernel_rfl) (fun _ _ _ h => h) (by rfl) (fun o' ho W hW => by go_simp) s0 ?_
          simp only [Act.put, List.setIfInBounds_toArray, List.set_cons_zero, List.set_cons_succ]
          refine takeH (i := 12) rfl (.nilCheck (.tmp 48)) rfl 60 rfl (v := (.pointer (some ⟨p, 0, none⟩))) (by kernel_rfl) (by kernel_rfl) (by kernel_rfl) (fun _ _ _ h => h) (by rfl) (fun o' ho W hW => by clear hW; go_simp) s0 ?_
          simp only [Act.put, List.setIfInBounds_toArray, List.set_cons_zero, List.set_cons_succ]
          refine takeH (i := 13) rfl (.fieldAddr 30 (.tmp 60) 1) rfl 61 rfl (v := (.pointer (some ⟨p, 3, none⟩))) (by kernel_rfl) (by kernel_rfl) (by kernel_rfl) (fun _ _ _ h => h) (by rfl) (fun o' ho W hW => by clear hW; go_simp) s0 ?_
          simp only [Act.put, List.setIfInBounds_toArray, List.set_cons_zero, List.set_cons_succ]
          refine onlyH (i := 7) (by kernel_rfl) ?_
          refine opG_run rfl (by rfl) (.load 27 (.tmp 54)) rfl 55 rfl (.slice av ln cv) y0 (fun o' ho => by go_simp) ?_
          refine ⟨s0, ?_⟩
          simp only [Act.put, List.setIfInBounds_toArray, List.set_cons_zero, List.set_cons_succ]
          refine onlyH (i := 8) (by kernel_rfl) ?_
          refine opG_app rfl (by rfl) (.const (.slice none 0 0)) (.tmp 55) rfl 56 rfl y0.heap.size (.slice none 0 0) [] rfl (Own.nil _ _) (.slice av ln cv) mn rfl U0 (by have := LMN.out; have := HLL.out; simp; omega) (Nat.le_refl _) ?_
          intro v6 y1 ho6 hg6
          rw [List.nil_append] at ho6
          have B6 : Below y0.heap.size y0 y1 := (Below.refl _ _).grown hg6 (Nat.le_refl _) (fun k hk => by cases hk)
          obtain ⟨a6, q6, rfl⟩ := ho6.slice
          rw [HLN.h] at ho6 ⊢
          have P1 := P0.below B6 P0.lt
          refine ⟨(P1.cell 3).trans O3.h, ?_⟩
          simp only [Act.put, List.setIfInBounds_toArray, List.set_cons_zero, List.set_cons_succ]
          refine onlyH (i := 11) (by kernel_rfl) ?_
          refine opG_app rfl (by rfl) (.tmp 56) (.tmp 58) rfl 59 rfl y0.heap.size (.slice a6 ln q6) mn rfl ho6 (.slice aB lB cB) bB rfl (HB.out.below (Y0.be.trans (B6.mono Y0.be.size))) (by have := LMN.out; have := HLL.out; omega) B6.size ?_
          intro v7 y2 ho7 hg7
          have B7 : Below y0.heap.size y0 y2 := B6.grown hg7 B6.size ho6.ownBlock
          have L7 : (mn ++ bB).length = ln + lB := by rw [List.length_append, HLN.h, HLB.h]
          obtain ⟨a7, q7, rfl⟩ := ho7.slice
          rw [L7] at ho7 ⊢
          have P2 := P0.below B7 P0.lt
          refine ⟨(P2.cell 3).trans O3.h, ?_⟩
          simp only [Act.put, List.setIfInBounds_toArray, List.set_cons_zero, List.set_cons_succ]
          have nb7 : ∀ k, (Value.slice a7 (ln + lB) q7).ownBlock = some k → y0.heap.size ≤ k ∧ k < y2.heap.size := own_blk ho7
          refine takeH (i := 14) rfl (.indexAddr 28 (.tmp 61) (.tmp 49)) rfl 62 rfl (v := (.pointer (some ⟨p, 3 + n, none⟩))) (by kernel_rfl) (by kernel_rfl) (by kernel_rfl) (fun _ _ _ h => h) (by rfl) (fun o' ho W hW => by clear hW; go_simp) ((P2.cell 3).trans O3.h) ?_
          simp only [Act.put, List.setIfInBounds_toArray, List.set_cons_zero, List.set_cons_succ]
          have Y2 := Y0.below B7
          have vc := Y2.valAt n hn3
          have vf := Y2.tb.frozen (3 + n)
          have Y3 := Y2.val HMS.out n hn3 (.slice a7 (ln + lB) q7) (mn ++ bB) ho7.has (fun k hk => ⟨by have := (nb7 k hk).1; have := Y0.tb.lt; omega, fun j hj => by have := (nb7 k hk).1; have := Blk.lt (Y0.hh j hj); omega⟩) (fun k hk => (nb7 k hk).2)
          have Q3 : Blk (y2.setCell ⟨p, 3 + n, none⟩ (.slice a7 (ln + lB) q7)) rb CS 5 := (Q0.below B7 Q0.lt).setOther _ _ _ (by have := hbx.1; have := RB3.out.1; have := OB2.out.lt; omega)
          have P3 : Blk (y2.setCell ⟨p, 3 + n, none⟩ (.slice a7 (ln + lB) q7)) bx oc 37 := P2.setOther _ _ _ (by have := hbx.1; omega)
          have nvr : ∀ j, j < 3 → ∀ k, ((vs.set n (Value.slice a7 (ln + lB) q7)).getD j nilS).ownBlock = some k → k ≠ rb := by
            intro j hj k hk
            by_cases e : n = j
            · subst e
              rw [getD_set_self _ _ _ _ (by have := Y0.lv; omega)] at hk
              have := (nb7 k hk).1
              have := Q0.lt
              omega
            · rw [getD_set_ne _ _ _ _ _ e] at hk
              have := X2.out.bv j hj k hk
              have := RB3.out.1
              omega
          refine onlyH (i := 15) (by kernel_rfl) ?_
          refine opG_skip rfl (by rfl) (.store 27 (.tmp 62) (.tmp 59)) rfl rfl (y2.setCell ⟨p, 3 + n, none⟩ (.slice a7 (ln + lB) q7)) (fun o' ho => by go_simp) ?_
          refine ⟨(P3.cell 3).trans O3.h, ?_⟩
          have X5 := hide Y3
          have Q5 := hide Q3
          have P5 := hide P3
          have NVR := hide nvr
          clear Y0 Y2 Y3 Q0 Q3 P0 P1 P2 P3 s0 va U0 ho6 hg6 B6 ho7 hg7 B7 nb7 vc vf nvr L7 R3H O3H Z3H
          generalize y2.setCell ⟨p, 3 + n, none⟩ (.slice a7 (ln + lB) q7) = y3 at X5 Q5 P5 ⊢
          refine wpAnyH_done (by kernel_rfl) (NoPanic.normal ?_) _
          have c3 := (P5.out.cell 3).trans O3.h
          have HRM : Hid (Has y3 (.slice (some ⟨rb, 0, none⟩) (lB + 3) cr) (bB ++ marks)) := hide (rm_has Q5.out HRT.h HL3.h HRC.out)
          have HBY : Hid (Has y3 (.slice aB lB cB) bB) := hide (HB.out.below X5.out.be)
          have RBB : Hid (w.heap.size ≤ rb ∧ rb ≠ p ∧ ∀ j, j < 3 → rb ≠ hs.getD j 0) := hide ⟨by have := RB3.out.1; have := X2.out.be.size; omega, by have := RB3.out.1; have := X2.out.tb.lt; omega, fun j hj => by have := RB3.out.1; have := Blk.lt (X2.out.hh j hj); omega⟩
          go_wp2_with (first
            | (go_at_call 29; refine (kept_yes (.slice (some ⟨rb, 0, none⟩) (lB + 3) cr) (.slice aB lB cB) bB _ HRM.out HBY.out (by rw [HLB.h]; omega)).mono ?_; rintro e y4 ⟨rfl, hb4⟩; have X6 := hide (X5.out.below hb4); have Q6 := hide (Q5.out.below hb4 Q5.out.lt); clear hb4)
            | fail)
          clear c3 HRM HBY X5 Q5 P5 HUB
          obtain ⟨vs', hvs'⟩ : ∃ q, vs.set n (Value.slice a7 (ln + lB) q7) = q := ⟨_, rfl⟩
          obtain ⟨ms', hms'⟩ : ∃ q, ms.set n (mn ++ bB) = q := ⟨_, rfl⟩
          rw [hvs'] at NVR X6
          rw [hms'] at X6
          have HMS' : Lk (ms.set n (mn ++ bB)) ms' := ⟨hms'⟩
          clear hvs' hms'
          go_loopw [9] (fun i wr => ∃ k : Nat, k ≤ lB + 3 ∧ i = .int .i64 (k : Int) ∧ ∃ CS', Hid (Blk wr rb CS' 5 ∧ lB + 3 ≤ CS'.length) ∧ Hid (Tb w wr p hs vs' ms' ms')) (fun i _ => lB + 3 - (intOf i).toNat)
          case atStart => exact ⟨0, by omega, rfl, CS, hide ⟨Q6.out, HRL.out⟩, X6⟩
          case round =>
            obtain ⟨k, hk, rfl, CS', hq, hy⟩ := hrel
            by_cases hlt : k < lB + 3
            · have hlz : (k : Int) < ((lB + 3 : Nat) : Int) := by omega
              have hlz2 : (k : Int) < (lB : Int) + 3 := by omega
              have hc : ∃ v, wr.cell? ⟨rb, k, none⟩ = some v := ⟨_, by rw [hq.out.1.cell, List.getElem?_eq_getElem (by have := hq.out.2; omega)]⟩
              obtain ⟨v2, hc⟩ := hc
              have hfz := hq.out.1.frozen k
              have N1 : Hid (Blk (wr.setCell ⟨rb, k, none⟩ (.int .u8 85)) rb (CS'.set k (.int .u8 85)) 5 ∧ lB + 3 ≤ (CS'.set k (.int .u8 85)).length) := hide ⟨hq.out.1.set k _, by rw [List.length_set]; exact hq.out.2⟩
              have N2 : Hid (Tb w (wr.setCell ⟨rb, k, none⟩ (.int .u8 85)) p hs vs' ms' ms') := hide (hy.out.fx rb (Fx.setCell wr rb k _ rfl) RBB.out.1 RBB.out.2.1 RBB.out.2.2 NVR.out)
              go_wp2
              go_roundw
              case rel => exact ⟨k + 1, by omega, by go_num, _, N1, N2⟩
              case measure => simp [intOf]; omega
            · obtain rfl : k = lB + 3 := by omega
              go_wp2
              go_ret
              refine ⟨rfl, _, _, _, hy.out, by rw [← HMS'.h, List.length_set]; exact HMS.out, fun i hi => ?_⟩
              rw [← HMS'.h]
              exact len_set ms n (mn ++ bB) L bB.length (by rw [List.length_append]; have := LMN.out; omega) HL.out HMS.out i hi
        · by_cases k5 : kind = 5
          · subst k5
            have pa := X2.out.ptrAt n hn3
            unfold ptr at pa
            obtain ⟨gn, hgn⟩ : ∃ g, hs.getD n 0 = g := ⟨_, rfl⟩
            obtain ⟨mn, hmn⟩ : ∃ q, ms.getD n [] = q := ⟨_, rfl⟩
            obtain ⟨av, cv, hav⟩ := (X2.out.hv n hn3).slice
            have hh0 := X2.out.hh n hn3
            have hv0 := X2.out.hv n hn3
            have va := X2.out.valAt n hn3
            have lm := HL.out n hn3
            rw [hav] at hv0 va
            rw [hmn] at hh0 hv0 va lm
            rw [hgn] at hh0 pa
            obtain ⟨ln, hln⟩ : ∃ l, mn.length = l := ⟨_, rfl⟩
            obtain ⟨D, hD⟩ : ∃ D, sumOf mn = D := ⟨_, rfl⟩
            have DL : D.length = 32 := by rw [← hD]; exact sumOf_length mn
            have hEQ : ∀ W : World, (Op.equalIn 10000 42 (.agg (D.map byt).toArray) (.agg (D.map byt).toArray)).run Tryd.prog W = .ok true W := fun W => eq42 D DL W
            have hGD := guard24
            rw [hln] at hv0 va
            have hl14 : mn.length ≤ 100000000000000 := by have := HLL.out; omega
            have HH0 := hide hh0
            have HV0 := hide hv0
            have HD : Lk (sumOf mn) D := ⟨hD⟩
            have HLN : Lk mn.length ln := ⟨hln⟩
            have HL14 := hide hl14
            clear hh0 hv0 hD hl14 lm hgn hmn hav DL
            go_upto_region 17 with fail
            refine wp_region_noPanic ?_
            refine wp_region_held (S := fun y => y.cell? ⟨p, n, none⟩ = some (.pointer (some ⟨gn, 0, none⟩)) ∧ y.cell? ⟨p, 3 + n, none⟩ = some (.slice av ln cv)) (by kernel_rfl) ?_
            have Z0 : Below x2.heap.size x2 { x2 with drawn := x2.drawn + 1 } := (Below.refl _ _).drew
            have S0 : ∀ y, Below x2.heap.size x2 y → y.cell? ⟨p, n, none⟩ = some (.pointer (some ⟨gn, 0, none⟩)) ∧ y.cell? ⟨p, 3 + n, none⟩ = some (.slice av ln cv) := fun y hy => ⟨(hy.cell (p := ⟨p, n, none⟩) X2.out.tb.lt).trans pa, (hy.cell (p := ⟨p, 3 + n, none⟩) X2.out.tb.lt).trans va⟩
            have S0H := hide S0
            clear S0 pa va hln
            generalize { x2 with drawn := x2.drawn + 1 } = z0 at Z0 ⊢
            refine takeH (i := 0) rfl (.move (.tmp 0)) rfl 79 rfl (v := (.pointer (some ⟨p, 0, none⟩))) (by kernel_rfl) (by kernel_rfl) (by kernel_rfl) (fun _ _ _ h => h) (by rfl) (fun o' ho W hW => by clear hW; go_simp) (S0H.out _ Z0) ?_
            simp only [Act.put, List.setIfInBounds_toArray, List.set_cons_zero, List.set_cons_succ]
            refine takeH (i := 1) rfl (.move (.tmp 5)) rfl 80 rfl (v := (.int .i64 (n : Int))) (by kernel_rfl) (by kernel_rfl) (by kernel_rfl) (fun _ _ _ h => h) (by rfl) (fun o' ho W hW => by clear hW; go_simp) (S0H.out _ Z0) ?_
            simp only [Act.put, List.setIfInBounds_toArray, List.set_cons_zero, List.set_cons_succ]
            refine takeH (i := 2) rfl (.nilCheck (.tmp 79)) rfl 81 rfl (v := (.pointer (some ⟨p, 0, none⟩))) (by kernel_rfl) (by kernel_rfl) (by kernel_rfl) (fun _ _ _ h => h) (by rfl) (fun o' ho W hW => by clear hW; go_simp) (S0H.out _ Z0) ?_
            simp only [Act.put, List.setIfInBounds_toArray, List.set_cons_zero, List.set_cons_succ]
            refine takeH (i := 3) rfl (.fieldAddr 30 (.tmp 81) 0) rfl 82 rfl (v := (.pointer (some ⟨p, 0, none⟩))) (by kernel_rfl) (by kernel_rfl) (by kernel_rfl) (fun _ _ _ h => h) (by rfl) (fun o' ho W hW => by clear hW; go_simp) (S0H.out _ Z0) ?_
            simp only [Act.put, List.setIfInBounds_toArray, List.set_cons_zero, List.set_cons_succ]
            refine takeH (i := 4) rfl (.indexAddr 26 (.tmp 82) (.tmp 80)) rfl 83 rfl (v := (.pointer (some ⟨p, n, none⟩))) (by kernel_rfl) (by kernel_rfl) (by kernel_rfl) (fun _ _ _ h => h) (by rfl) (fun o' ho W hW => by clear hW; go_simp) (S0H.out _ Z0) ?_
            simp only [Act.put, List.setIfInBounds_toArray, List.set_cons_zero, List.set_cons_succ]
            refine takeH (i := 5) rfl (.load 25 (.tmp 83)) rfl 84 rfl (v := (.pointer (some ⟨gn, 0, none⟩))) (by kernel_rfl) (by kernel_rfl) (by kernel_rfl) (fun _ _ _ h => h) (by rfl) (fun o' ho W hW => by obtain ⟨s1, s2⟩ := hW; go_simp) (S0H.out _ Z0) ?_
            simp only [Act.put, List.setIfInBounds_toArray, List.set_cons_zero, List.set_cons_succ]
            refine takeH (i := 7) rfl (.move (.tmp 0)) rfl 86 rfl (v := (.pointer (some ⟨p, 0, none⟩))) (by kernel_rfl) (by kernel_rfl) (by kernel_rfl) (fun _ _ _ h => h) (by rfl) (fun o' ho W hW => by clear hW; go_simp) (S0H.out _ Z0) ?_
            simp only [Act.put, List.setIfInBounds_toArray, List.set_cons_zero, List.set_cons_succ]
            refine takeH (i := 8) rfl (.move (.tmp 5)) rfl 87 rfl (v := (.int .i64 (n : Int))) (by kernel_rfl) (by kernel_rfl) (by kernel_rfl) (fun _ _ _ h => h) (by rfl) (fun o' ho W hW => by clear hW; go_simp) (S0H.out _ Z0) ?_
            simp only [Act.put, List.setIfInBounds_toArray, List.set_cons_zero, List.set_cons_succ]
            refine takeH (i := 9) rfl (.nilCheck (.tmp 86)) rfl 88 rfl (v := (.pointer (some ⟨p, 0, none⟩))) (by kernel_rfl) (by kernel_rfl) (by kernel_rfl) (fun _ _ _ h => h) (by rfl) (fun o' ho W hW => by clear hW; go_simp) (S0H.out _ Z0) ?_
            simp only [Act.put, List.setIfInBounds_toArray, List.set_cons_zero, List.set_cons_succ]
            refine takeH (i := 10) rfl (.fieldAddr 30 (.tmp 88) 1) rfl 89 rfl (v := (.pointer (some ⟨p, 3, none⟩))) (by kernel_rfl) (by kernel_rfl) (by kernel_rfl) (fun _ _ _ h => h) (by rfl) (fun o' ho W hW => by clear hW; go_simp) (S0H.out _ Z0) ?_
            simp only [Act.put, List.setIfInBounds_toArray, List.set_cons_zero, List.set_cons_succ]
            refine takeH (i := 11) rfl (.indexAddr 28 (.tmp 89) (.tmp 87)) rfl 90 rfl (v := (.pointer (some ⟨p, 3 + n, none⟩))) (by kernel_rfl) (by kernel_rfl) (by kernel_rfl) (fun _ _ _ h => h) (by rfl) (fun o' ho W hW => by clear hW; go_simp) (S0H.out _ Z0) ?_
            simp only [Act.put, List.setIfInBounds_toArray, List.set_cons_zero, List.set_cons_succ]
            refine takeH (i := 12) rfl (.load 27 (.tmp 90)) rfl 91 rfl (v := (.slice av ln cv)) (by kernel_rfl) (by kernel_rfl) (by kernel_rfl) (fun _ _ _ h => h) (by rfl) (fun o' ho W hW => by obtain ⟨s1, s2⟩ := hW; go_simp) (S0H.out _ Z0) ?_
            simp only [Act.put, List.setIfInBounds_toArray, List.set_cons_zero, List.set_cons_succ]
            refine takeH (i := 13) rfl (.call { callee := .builtin .len, args := #[.tmp 91], argTypes := #[27] }) rfl 92 rfl (v := (.int .i64 (ln : Int))) (by kernel_rfl) (by kernel_rfl) (by kernel_rfl) (fun _ _ _ h => h) (by rfl) (fun o' ho W hW => by clear hW; go_simp) (S0H.out _ Z0) ?_
            simp only [Act.put, List.setIfInBounds_toArray, List.set_cons_zero, List.set_cons_succ]
            refine onlyH (i := 6) (by kernel_rfl) ?_
            refine opG_call (R := fun v wz => v = .int .i64 (ln : Int) ∧ Below x2.heap.size x2 wz) rfl (by rfl) (.call { callee := .value (.func 25), args := #[.tmp 84], argTypes := #[25] }) rfl 85 rfl 25 #[.pointer (some ⟨gn, 0, none⟩)] (fun o' ho => by go_simp) ((len_any gn mn z0 (Blk.below HH0.out Z0 (Blk.lt HH0.out))).mono fun e wz ⟨h1, h2⟩ => ⟨_, h1, by rw [HLN.h], by rw [h2]; exact Z0⟩) ?_
            rintro v z1 ⟨rfl, Z1⟩
            refine ⟨S0H.out _ Z1, ?_⟩
            simp only [Act.put, List.setIfInBounds_toArray, List.set_cons_zero, List.set_cons_succ]
            refine takeH (i := 14) rfl (.binOp .eql 3 (.tmp 85) (.tmp 92) 3) rfl 93 rfl (v := (.bool true)) (by kernel_rfl) (by kernel_rfl) (by kernel_rfl) (fun _ _ _ h => h) (by rfl) (fun o' ho W hW => by clear hW; go_simp) (S0H.out _ Z1) ?_
            simp only [Act.put, List.setIfInBounds_toArray, List.set_cons_zero, List.set_cons_succ]
            refine takeH (i := 15) rfl (.move (.tmp 93)) rfl 94 rfl (v := (.bool true)) (by kernel_rfl) (by kernel_rfl) (by kernel_rfl) (fun _ _ _ h => h) (by rfl) (fun o' ho W hW => by clear hW; go_simp) (S0H.out _ Z1) ?_
            simp only [Act.put, List.setIfInBounds_toArray, List.set_cons_zero, List.set_cons_succ]
            refine takeH (i := 16) rfl (.move (.tmp 0)) rfl 95 rfl (v := (.pointer (some ⟨p, 0, none⟩))) (by kernel_rfl) (by kernel_rfl) (by kernel_rfl) (fun _ _ _ h => h) (by rfl) (fun o' ho W hW => by clear hW; go_simp) (S0H.out _ Z1) ?_
            simp only [Act.put, List.setIfInBounds_toArray, List.set_cons_zero, List.set_cons_succ]
            refine takeH (i := 17) rfl (.move (.tmp 5)) rfl 96 rfl (v := (.int .i64 (n : Int))) (by kernel_rfl) (by kernel_rfl) (by kernel_rfl) (fun _ _ _ h => h) (by rfl) (fun o' ho W hW => by clear hW; go_simp) (S0H.out _ Z1) ?_
            simp only [Act.put, List.setIfInBounds_toArray, List.set_cons_zero, List.set_cons_succ]
            refine takeH (i := 18) rfl (.nilCheck (.tmp 95)) rfl 97 rfl (v := (.pointer (some ⟨p, 0, none⟩))) (by kernel_rfl) (by kernel_rfl) (by kernel_rfl) (fun _ _ _ h => h) (by rfl) (fun o' ho W hW => by clear hW; go_simp) (S0H.out _ Z1) ?_
            simp only [Act.put, List.setIfInBounds_toArray, List.set_cons_zero, List.set_cons_succ]
            refine takeH (i := 19) rfl (.fieldAddr 30 (.tmp 97) 0) rfl 98 rfl (v := (.pointer (some ⟨p, 0, none⟩))) (by kernel_rfl) (by kernel_rfl) (by kernel_rfl) (fun _ _ _ h => h) (by rfl) (fun o' ho W hW => by clear hW; go_simp) (S0H.out _ Z1) ?_
            simp only [Act.put, List.setIfInBounds_toArray, List.set_cons_zero, List.set_cons_succ]
            refine takeH (i := 20) rfl (.indexAddr 26 (.tmp 98) (.tmp 96)) rfl 99 rfl (v := (.pointer (some ⟨p, n, none⟩))) (by kernel_rfl) (by kernel_rfl) (by kernel_rfl) (fun _ _ _ h => h) (by rfl) (fun o' ho W hW => by clear hW; go_simp) (S0H.out _ Z1) ?_
            simp only [Act.put, List.setIfInBounds_toArray, List.set_cons_zero, List.set_cons_succ]
            refine takeH (i := 21) rfl (.load 25 (.tmp 99)) rfl 100 rfl (v := (.pointer (some ⟨gn, 0, none⟩))) (by kernel_rfl) (by kernel_rfl) (by kernel_rfl) (fun _ _ _ h => h) (by rfl) (fun o' ho W hW => by obtain ⟨s1, s2⟩ := hW; go_simp) (S0H.out _ Z1) ?_
            simp only [Act.put, List.setIfInBounds_toArray, List.set_cons_zero, List.set_cons_succ]
            refine takeH (i := 23) rfl (.move (.tmp 0)) rfl 102 rfl (v := (.pointer (some ⟨p, 0, none⟩))) (by kernel_rfl) (by kernel_rfl) (by kernel_rfl) (fun _ _ _ h => h) (by rfl) (fun o' ho W hW => by clear hW; go_simp) (S0H.out _ Z1) ?_
            simp only [Act.put, List.setIfInBounds_toArray, List.set_cons_zero, List.set_cons_succ]
            refine takeH (i := 24) rfl (.move (.tmp 5)) rfl 103 rfl (v := (.int .i64 (n : Int))) (by kernel_rfl) (by kernel_rfl) (by kernel_rfl) (fun _ _ _ h => h) (by rfl) (fun o' ho W hW => by clear hW; go_simp) (S0H.out _ Z1) ?_
            simp only [Act.put, List.setIfInBounds_toArray, List.set_cons_zero, List.set_cons_succ]
            refine takeH (i := 25) rfl (.nilCheck (.tmp 102)) rfl 104 rfl (v := (.pointer (some ⟨p, 0, none⟩))) (by kernel_rfl) (by kernel_rfl) (by kernel_rfl) (fun _ _ _ h => h) (by rfl) (fun o' ho W hW => by clear hW; go_simp) (S0H.out _ Z1) ?_
            simp only [Act.put, List.setIfInBounds_toArray, List.set_cons_zero, List.set_cons_succ]
            refine takeH (i := 26) rfl (.fieldAddr 30 (.tmp 104) 1) rfl 105 rfl (v := (.pointer (some ⟨p, 3, none⟩))) (by kernel_rfl) (by kernel_rfl) (by kernel_rfl) (fun _ _ _ h => h) (by rfl) (fun o' ho W hW => by clear hW; go_simp) (S0H.out _ Z1) ?_
            simp only [Act.put, List.setIfInBounds_toArray, List.set_cons_zero, List.set_cons_succ]
            refine takeH (i := 27) rfl (.indexAddr 28 (.tmp 105) (.tmp 103)) rfl 106 rfl (v := (.pointer (some ⟨p, 3 + n, none⟩))) (by kernel_rfl) (by kernel_rfl) (by kernel_rfl) (fun _ _ _ h => h) (by rfl) (fun o' ho W hW => by clear hW; go_simp) (S0H.out _ Z1) ?_
            simp only [Act.put, List.setIfInBounds_toArray, List.set_cons_zero, List.set_cons_succ]
            refine takeH (i := 28) rfl (.load 27 (.tmp 106)) rfl 107 rfl (v := (.slice av ln cv)) (by kernel_rfl) (by kernel_rfl) (by kernel_rfl) (fun _ _ _ h => h) (by rfl) (fun o' ho W hW => by obtain ⟨s1, s2⟩ := hW; go_simp) (S0H.out _ Z1) ?_
            simp only [Act.put, List.setIfInBounds_toArray, List.set_cons_zero, List.set_cons_succ]
            refine onlyH (i := 22) (by kernel_rfl) ?_
            refine opG_call (R := fun v wz => v = .agg (D.map byt).toArray ∧ Below x2.heap.size x2 wz) rfl (by rfl) (.call { callee := .value (.func 33), args := #[.tmp 100], argTypes := #[25] }) rfl 101 rfl 33 #[.pointer (some ⟨gn, 0, none⟩)] (fun o' ho => by go_simp) ((hsum_is gn mn D HD.h z1 (Blk.below HH0.out Z1 (Blk.lt HH0.out)) ((HK.out.below X2.out.be HK.out.lt).below Z1 (by have := HK.out.lt; have := X2.out.be.size; omega)) (by have := HL14.out; omega)).mono fun e wz ⟨h1, h2⟩ => ⟨_, h1, rfl, Z1.trans (h2.mono Z1.size)⟩) ?_
            rintro v z2 ⟨rfl, Z2⟩
            refine ⟨S0H.out _ Z2, ?_⟩
            simp only [Act.put, List.setIfInBounds_toArray, List.set_cons_zero, List.set_cons_succ]
            refine onlyH (i := 29) (by kernel_rfl) ?_
            refine opG_call (R := fun v wz => v = .agg (D.map byt).toArray ∧ Below x2.heap.size x2 wz) rfl (by rfl) (.call { callee := .value (.func 28), args := #[.tmp 107], argTypes := #[27] }) rfl 108 rfl 28 #[.slice av ln cv] (fun o' ho => by go_simp) ((refsum_is (.slice av ln cv) mn D HD.h z2 (HV0.out.below Z2) HL14.out ((HR.out.below X2.out.be HR.out.lt).below Z2 (by have := HR.out.lt; have := X2.out.be.size; omega)) ((HS.out.below X2.out.be HS.out.lt).below Z2 (by have := HS.out.lt; have := X2.out.be.size; omega))).mono fun e wz ⟨h1, h2⟩ => ⟨_, h1, rfl, Z2.trans (h2.mono Z2.size)⟩) ?_
            rintro v z3 ⟨rfl, Z3⟩
            refine ⟨S0H.out _ Z3, ?_⟩
            simp only [Act.put, List.setIfInBounds_toArray, List.set_cons_zero, List.set_cons_succ]
            refine takeH (i := 30) rfl (.binOp .eql 42 (.tmp 101) (.tmp 108) 42) rfl 109 rfl (v := (.bool true)) (by kernel_rfl) (by kernel_rfl) (by kernel_rfl) (fun _ _ _ h => h) (by rfl) (fun o' ho W hW => by clear hW; go_simp) (S0H.out _ Z3) ?_
            simp only [Act.put, List.setIfInBounds_toArray, List.set_cons_zero, List.set_cons_succ]
            refine takeH (i := 31) rfl (.pick (.tmp 94) (.tmp 109) (.const (.bool false))) rfl 110 rfl (v := (.bool true)) (by kernel_rfl) (by kernel_rfl) (by kernel_rfl) (fun _ _ _ h => h) (by rfl) (fun o' ho W hW => by clear hW; go_simp) (S0H.out _ Z3) ?_
            simp only [Act.put, List.setIfInBounds_toArray, List.set_cons_zero, List.set_cons_succ]
            refine takeH (i := 32) rfl (.assign (.tmp 110)) rfl 4 rfl (v := (.bool true)) (by kernel_rfl) (by kernel_rfl) (by kernel_rfl) (fun _ _ _ h => h) (by rfl) (fun o' ho W hW => by clear hW; go_simp) (S0H.out _ Z3) ?_
            simp only [Act.put, List.setIfInBounds_toArray, List.set_cons_zero, List.set_cons_succ]
            refine wpAnyH_done (by kernel_rfl) (NoPanic.normal ?_) _
            have X9 := hide (X2.out.below Z3)
            clear Z0 Z1 Z2 Z3 S0H
            go_wp2
            go_ret
            exact ⟨rfl, _, _, _, X9.out, HMS.out, fun i hi => Nat.le_trans (HL.out i hi) (Nat.le_add_right _ _)⟩
          · have pa := X2.out.ptrAt n hn3
            have pb := X2.out.ptrAt m hm3
            unfold ptr at pa pb
            generalize hs.getD n 0 = ga at pa
            generalize hs.getD m 0 = gb at pb
            go_wp2
            go_ret
            exact ⟨rfl, _, _, _, X2.out, HMS.out, fun i hi => Nat.le_trans (HL.out i hi) (Nat.le_add_right _ _)⟩
end Go.Proofs.YtablmkijlpoaaaaDoor
