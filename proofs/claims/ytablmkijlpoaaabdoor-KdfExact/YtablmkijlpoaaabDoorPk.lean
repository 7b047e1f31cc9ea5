import Derived.Test.YtablmkijlpoaaabDoorLl
import Derived.Deep.CutBlock
namespace Go.Proofs.YtablmkijlpoaaabDoor
open Go.RowKit

theorem guard36 : Tryd.prog.eqGuardType Tryd.prog.depth 36 = false := by kernel_rfl

/-- A slice that came in: what 'short' makes of it. -/
theorem arg_is (v : Value) (bs : List UInt8) (w : World) (hv : Has w v bs) : ∃ ao n cap m S, v = .slice ao n cap ∧ S.length = m ∧ m ≤ 400 ∧ (∀ W, Calls Tryd.prog 7 #[.slice ao n cap] W fun e w' => e = .returned (.slice ao m cap) ∧ w' = W) ∧ ∀ W, Below w.heap.size w W → Has W (.slice ao m cap) S := by
  obtain ⟨ao, cap, rfl⟩ := hv.slice
  by_cases h : 400 < bs.length
  · have hz : (400 : Int) < (bs.length : Int) := by omega
    have hcap : 400 ≤ cap := by
      rcases hv with ⟨h1, h2⟩ | ⟨ad, c2, h1, h2, _⟩
      · rw [h2] at h; simp at h
      · simp at h1; omega
    have hcapz : (400 : Int) ≤ (cap : Int) := by omega
    refine ⟨ao, bs.length, cap, 400, bs.take 400, rfl, by simp; omega, Nat.le_refl _, fun W => ?_, fun W hW => take_slice (hv.below hW) rfl 400 (by omega)⟩
    clear hv
    go_enter Tryd.func7, Tryd.ntmps7
    go_wp2
    go_ret
    exact ⟨rfl, rfl⟩
  · have hz : ¬ (400 : Int) < (bs.length : Int) := by omega
    refine ⟨ao, bs.length, cap, bs.length, bs, rfl, rfl, by omega, fun W => ?_, fun W hW => hv.below hW⟩
    clear hv
    go_enter Tryd.func7, Tryd.ntmps7
    go_wp2
    go_ret
    exact ⟨rfl, rfl⟩

/-- The book as it stands behind a call. -/
def Out (w z : World) (p nl nk : Nat) : Prop := ∃ L V K M ls vs ks ms, Bc w z p L V K M ls vs ks ms ∧ Ent 5 1 z ls vs ∧ Ent 45 32 z ks ms ∧ ls.length ≤ nl ∧ ks.length ≤ nk
theorem Out.below {w z y : World} {p nl nk : Nat} (h : Out w z p nl nk) (hb : Below z.heap.size z y) : Out w y p nl nk := by
  obtain ⟨L, V, K, M, ls, vs, ks, ms, h1, h2, h3, h4⟩ := h
  exact ⟨L, V, K, M, ls, vs, ks, ms, h1.below hb, h2.below hb, h3.below hb, h4⟩
theorem Out.be {w z : World} {p nl nk : Nat} (h : Out w z p nl nk) : Below w.heap.size w z := by
  obtain ⟨L, V, K, M, ls, vs, ks, ms, h1, _⟩ := h
  exact h1.be
theorem Bc.lts {w x : World} {p : Nat} {L V K M : Value} {ls vs ks ms : List Value} (h : Bc w x p L V K M ls vs ks ms) (k : Nat) (hk : k = p ∨ L.ownBlock = some k ∨ V.ownBlock = some k ∨ K.ownBlock = some k ∨ M.ownBlock = some k) : k < x.heap.size := by
  rcases hk with rfl | hk | hk | hk | hk
  · exact h.bk.lt
  · exact (h.ol.lt k hk).2
  · exact (h.ov.lt k hk).2
  · exact (h.ok.lt k hk).2
  · exact (h.om.lt k hk).2

set_option maxRecDepth 100000 in
set_option maxHeartbeats 20000000 in
/-- 'plays'. -/
theorem plays_any (w x : World) (p : Nat) (L V K M : Value) (ls vs ks ms : List Value) (hB : Bc w x p L V K M ls vs ks ms) (hE : Ent 5 1 x ls vs) (hK : Ent 45 32 x ks ms) (hn : ls.length ≤ 1000) (hn2 : ks.length ≤ 1000) (kind : Int) (oK oA oB : Value) (key A B : List UInt8) (n : Int)
    (hk : Has w oK key) (ha : Has w oA A) (hb : Has w oB B) (cK : Kst w) (cR : Rst w) (cS : Bst w) :
    Calls Tryd.prog 4 #[.pointer (some ⟨p, 0, none⟩), .agg (opK kind oK oA oB n).toArray] x fun e z => e = .returned (.bool true) ∧ Out w z p (ls.length + 2) (ks.length + 2) := by
  obtain ⟨aK, nK, cQ, mK, KS, rfl, hLK, lK, sK, uK⟩ := arg_is oK key w hk
  obtain ⟨aA, nA, cA, mA, AS, rfl, hLA, lA, sA, uA⟩ := arg_is oA A w ha
  obtain ⟨aB, nB, cB, mB, BS, rfl, hLB, lB, sB, uB⟩ := arg_is oB B w hb
  have SHK := hide sK
  have SHA := hide sA
  have SHB := hide sB
  have UK := hide uK
  have UA := hide uA
  have UB := hide uB
  have HLK : Lk KS.length mK := ⟨hLK⟩
  have HLA : Lk AS.length mA := ⟨hLA⟩
  have HLB : Lk BS.length mB := ⟨hLB⟩
  have HCK := hide cK
  have HCR := hide cR
  have HCS := hide cS
  obtain ⟨M1, hM1⟩ : ∃ M, AS ++ (BS ++ AS) = M := ⟨_, rfl⟩
  have HM : Hid (∀ a b c : Value, [(a, AS), (b, BS), (c, AS)].flatMap (·.2) = M1) := hide (fun a b c => by rw [← hM1]; simp)
  have HLM : Lk M1.length (mA + (mB + mA)) := ⟨by rw [← hM1, List.length_append, List.length_append, hLA, hLB]⟩
  obtain ⟨D, hD⟩ : ∃ D, macOf KS M1 = D := ⟨_, rfl⟩
  have HD : Lk (macOf KS M1) D := ⟨hD⟩
  have DL : Lk D.length 32 := ⟨by rw [← hD]; exact macOf_length _ _⟩
  obtain ⟨D2, hD2⟩ : ∃ D, macOf KS AS = D := ⟨_, rfl⟩
  have HD2 : Lk (macOf KS AS) D2 := ⟨hD2⟩
  have DL2 : Lk D2.length 32 := ⟨by rw [← hD2]; exact macOf_length _ _⟩
  obtain ⟨oc, hoc⟩ : ∃ oc, opK kind (.slice aK nK cQ) (.slice aA nA cA) (.slice aB nB cB) n = oc := ⟨_, rfl⟩
  have O0 : Lk oc[0]? (some (.int .i64 kind)) := ⟨by rw [← hoc]; rfl⟩
  have O1 : Lk oc[1]? (some (.slice aK nK cQ)) := ⟨by rw [← hoc]; rfl⟩
  have O2 : Lk oc[2]? (some (.slice aA nA cA)) := ⟨by rw [← hoc]; rfl⟩
  have O3 : Lk oc[3]? (some (.slice aB nB cB)) := ⟨by rw [← hoc]; rfl⟩
  have O4 : Lk oc[4]? (some (.int .i64 n)) := ⟨by rw [← hoc]; rfl⟩
  have h31 : (Tryd.prog.info? 31).map (·.size) = some oc.toArray.size := by rw [← hoc]; kernel_rfl
  have LIS0 : Hid (∀ (y : World) (rk ra rb : Value), Below x.heap.size x y → Has y rk KS → Has y ra AS → Has y rb BS → Calls Tryd.prog 13 #[.pointer (some ⟨p, 0, none⟩), .agg oc.toArray, rk, ra, rb] y fun e z => e = .returned (.bool true) ∧ Fx (fun k => k < x.heap.size) y z ∧ Out w z p (ls.length + 2) (ks.length + 2)) := hide (fun y rk ra rb hy h1 h2 h3 => by
    have hBy := hB.below hy
    rw [← hoc]
    refine (lists_any w y p L V K M ls vs ks ms hBy (hE.below hy) (hK.below hy) hn kind _ _ _ rk ra rb KS AS BS n h1 h2 h3 (by omega) (by omega) (by omega) (cK.below hBy.be cK.lt) (cR.below hBy.be cR.lt) (cS.below hBy.be cS.lt)).mono fun e z ⟨q1, L', V', ls', vs', q2, q3, q4, q5, q6⟩ => ⟨q1, q6.mono (fun i _ s => ?_), L', V', K, M, ls', vs', ks, ms, q2, q3, q4, by omega, by omega⟩
    exact hB.lts i (by rcases s with s | s | s <;> simp [s]))
  have KEY0 : Hid (∀ (y : World) (rk ra rb : Value), Below x.heap.size x y → Has y rk KS → Has y ra AS → Has y rb BS → Calls Tryd.prog 14 #[.pointer (some ⟨p, 0, none⟩), rk, ra, rb, .int .i64 n] y fun e z => e = .returned (.bool true) ∧ Fx (fun k => k < x.heap.size) y z ∧ Out w z p (ls.length + 2) (ks.length + 2)) := hide (fun y rk ra rb hy h1 h2 h3 => by
    have hBy := hB.below hy
    refine (keyslaw_any w y p L V K M ls vs ks ms hBy (hE.below hy) (hK.below hy) hn2 rk ra rb KS AS BS n h1 h2 h3 (by omega) (by omega) (by omega) (cK.below hBy.be cK.lt) (cR.below hBy.be cR.lt) (cS.below hBy.be cS.lt)).mono fun e z ⟨q1, K', M', ks', ms', q2, q3, q4, q5, q6⟩ => ⟨q1, q6.mono (fun i _ s => ?_), L, V, K', M', ls, vs, ks', ms', q2, q3, q4, by omega, by omega⟩
    exact hB.lts i (by rcases s with s | s | s <;> simp [s]))
  have Y0 : Hid (Out w x p (ls.length + 2) (ks.length + 2)) := hide ⟨L, V, K, M, ls, vs, ks, ms, hB, hE, hK, by omega, by omega⟩
  rw [hoc]
  clear hoc hD hD2 hM1 hLK hLA hLB sK sA sB uK uA uB hk ha hb cK cR cS hB hE hK hn hn2
  go_enter Tryd.func4, Tryd.ntmps4
  go_upto_region 1 with (refine wpList_boxAt rfl 31 _ rfl oc rfl x.heap.size rfl ?_)
  have X0 : Hid (Below x.heap.size x (x.alloc (.cells oc.toArray 31))) := hide (below_new x _)
  have OB : Hid (Blk (x.alloc (.cells oc.toArray 31)) x.heap.size oc 31) := hide (Blk.new x _ _)
  have BX : Hid (x.heap.size < (x.alloc (.cells oc.toArray 31)).heap.size) := hide OB.out.lt
  generalize x.alloc (.cells oc.toArray 31) = x1 at X0 OB BX ⊢
  obtain ⟨bx, hbx⟩ : ∃ b, x.heap.size = b := ⟨_, rfl⟩
  have X0B := X0
  rw [hbx] at OB BX LIS0 KEY0 ⊢
  have HBX : Lk x.heap.size bx := ⟨hbx⟩
  clear hbx
  have S0H : Hid (∀ y, Below x1.heap.size x1 y → y.cell? ⟨bx, 1, none⟩ = some (.slice aK nK cQ) ∧ y.cell? ⟨bx, 2, none⟩ = some (.slice aA nA cA) ∧ y.cell? ⟨bx, 3, none⟩ = some (.slice aB nB cB)) := hide (fun y hy => ⟨((OB.out.below hy OB.out.lt).cell 1).trans O1.h, ((OB.out.below hy OB.out.lt).cell 2).trans O2.h, ((OB.out.below hy OB.out.lt).cell 3).trans O3.h⟩)
  have BW : Hid (∀ y, Below x1.heap.size x1 y → Below w.heap.size w y) := hide (fun y hy => ((Y0.out.below X0.out).be).trans (hy.mono (Nat.le_trans Y0.out.be.size X0.out.size)))
  refine wp_region_noPanic ?_
  refine wp_region_held (S := fun y => y.cell? ⟨bx, 1, none⟩ = some (.slice aK nK cQ) ∧ y.cell? ⟨bx, 2, none⟩ = some (.slice aA nA cA) ∧ y.cell? ⟨bx, 3, none⟩ = some (.slice aB nB cB)) (by kernel_rfl) ?_
  have Ez0 : Below x1.heap.size x1 { x1 with drawn := x1.drawn + 1 } := (Below.refl _ _).drew
  generalize { x1 with drawn := x1.drawn + 1 } = z0 at Ez0 ⊢
  refine takeH (i := 0) rfl (.fieldAddr 31 (.tmp 3) 1) rfl 12 rfl (v := (.pointer (some ⟨bx, 1, none⟩))) (by kernel_rfl) (by kernel_rfl) (by kernel_rfl) (fun _ _ _ h => h) (by rfl) (fun o' ho W hW => by clear hW; go_simp) (S0H.out _ Ez0) ?_
  simp only [Act.put, List.setIfInBounds_toArray, List.set_cons_zero, List.set_cons_succ]
  refine takeH (i := 1) rfl (.load 29 (.tmp 12)) rfl 13 rfl (v := (.slice aK nK cQ)) (by kernel_rfl) (by kernel_rfl) (by kernel_rfl) (fun _ _ _ h => h) (by rfl) (fun o' ho W hW => by obtain ⟨s1, s2, s3⟩ := hW; go_simp) (S0H.out _ Ez0) ?_
  simp only [Act.put, List.setIfInBounds_toArray, List.set_cons_zero, List.set_cons_succ]
  refine takeH (i := 4) rfl (.fieldAddr 31 (.tmp 3) 2) rfl 16 rfl (v := (.pointer (some ⟨bx, 2, none⟩))) (by kernel_rfl) (by kernel_rfl) (by kernel_rfl) (fun _ _ _ h => h) (by rfl) (fun o' ho W hW => by clear hW; go_simp) (S0H.out _ Ez0) ?_
  simp only [Act.put, List.setIfInBounds_toArray, List.set_cons_zero, List.set_cons_succ]
  refine takeH (i := 5) rfl (.load 29 (.tmp 16)) rfl 17 rfl (v := (.slice aA nA cA)) (by kernel_rfl) (by kernel_rfl) (by kernel_rfl) (fun _ _ _ h => h) (by rfl) (fun o' ho W hW => by obtain ⟨s1, s2, s3⟩ := hW; go_simp) (S0H.out _ Ez0) ?_
  simp only [Act.put, List.setIfInBounds_toArray, List.set_cons_zero, List.set_cons_succ]
  refine takeH (i := 8) rfl (.fieldAddr 31 (.tmp 3) 3) rfl 20 rfl (v := (.pointer (some ⟨bx, 3, none⟩))) (by kernel_rfl) (by kernel_rfl) (by kernel_rfl) (fun _ _ _ h => h) (by rfl) (fun o' ho W hW => by clear hW; go_simp) (S0H.out _ Ez0) ?_
  simp only [Act.put, List.setIfInBounds_toArray, List.set_cons_zero, List.set_cons_succ]
  refine takeH (i := 9) rfl (.load 29 (.tmp 20)) rfl 21 rfl (v := (.slice aB nB cB)) (by kernel_rfl) (by kernel_rfl) (by kernel_rfl) (fun _ _ _ h => h) (by rfl) (fun o' ho W hW => by obtain ⟨s1, s2, s3⟩ := hW; go_simp) (S0H.out _ Ez0) ?_
  simp only [Act.put, List.setIfInBounds_toArray, List.set_cons_zero, List.set_cons_succ]
  refine onlyH (i := 2) (by kernel_rfl) ?_
  refine opG_call (R := fun v wz => v = .slice aK mK cQ ∧ wz = z0) rfl (by rfl) (.call { callee := .value (.func 7), args := #[.tmp 13], argTypes := #[29] }) rfl 14 rfl 7 #[.slice aK nK cQ] (fun o' ho => by go_simp) (((SHK.out z0).mono fun e wz ⟨h1, h2⟩ => ⟨_, h1, rfl, h2⟩)) ?_
  rintro v wz' ⟨rfl, hwz⟩
  rw [hwz]
  clear hwz wz'
  refine ⟨S0H.out _ Ez0, ?_⟩
  simp only [Act.put, List.setIfInBounds_toArray, List.set_cons_zero, List.set_cons_succ]
  refine onlyH (i := 3) (by kernel_rfl) ?_
  refine opG_call (R := fun v wz => ∃ ar cr, v = .slice ar (mK + 3) cr ∧ Own wz z0.heap.size (.slice ar (mK + 3) cr) (KS ++ marks) ∧ Below z0.heap.size z0 wz) rfl (by rfl) (.call { callee := .value (.func 6), args := #[.tmp 14], argTypes := #[29] }) rfl 15 rfl 6 #[.slice aK mK cQ] (fun o' ho => by go_simp) (((room_any (.slice aK mK cQ) KS z0 (UK.out z0 (BW.out _ Ez0)) (by rw [HLK.h]; omega)).mono fun e wz ⟨ar, cr, h1, h2, h3⟩ => ⟨_, h1, ar, cr, by rw [HLK.h], by rw [HLK.h] at h2; exact h2, h3⟩)) ?_
  rintro v z1 ⟨rK, qK, rfl, hoK, hbz1⟩
  have Ez1 : Below x1.heap.size x1 z1 := Ez0.trans (hbz1.mono Ez0.size)
  refine ⟨S0H.out _ Ez1, ?_⟩
  simp only [Act.put, List.setIfInBounds_toArray, List.set_cons_zero, List.set_cons_succ]
  refine onlyH (i := 6) (by kernel_rfl) ?_
  refine opG_call (R := fun v wz => v = .slice aA mA cA ∧ wz = z1) rfl (by rfl) (.call { callee := .value (.func 7), args := #[.tmp 17], argTypes := #[29] }) rfl 18 rfl 7 #[.slice aA nA cA] (fun o' ho => by go_simp) (((SHA.out z1).mono fun e wz ⟨h1, h2⟩ => ⟨_, h1, rfl, h2⟩)) ?_
  rintro v wz' ⟨rfl, hwz⟩
  rw [hwz]
  clear hwz wz'
  refine ⟨S0H.out _ Ez1, ?_⟩
  simp only [Act.put, List.setIfInBounds_toArray, List.set_cons_zero, List.set_cons_succ]
  refine onlyH (i := 7) (by kernel_rfl) ?_
  refine opG_call (R := fun v wz => ∃ ar cr, v = .slice ar (mA + 3) cr ∧ Own wz z1.heap.size (.slice ar (mA + 3) cr) (AS ++ marks) ∧ Below z1.heap.size z1 wz) rfl (by rfl) (.call { callee := .value (.func 6), args := #[.tmp 18], argTypes := #[29] }) rfl 19 rfl 6 #[.slice aA mA cA] (fun o' ho => by go_simp) (((room_any (.slice aA mA cA) AS z1 (UA.out z1 (BW.out _ Ez1)) (by rw [HLA.h]; omega)).mono fun e wz ⟨ar, cr, h1, h2, h3⟩ => ⟨_, h1, ar, cr, by rw [HLA.h], by rw [HLA.h] at h2; exact h2, h3⟩)) ?_
  rintro v z2 ⟨rA, qA, rfl, hoA, hbz2⟩
  have Ez2 : Below x1.heap.size x1 z2 := Ez1.trans (hbz2.mono Ez1.size)
  refine ⟨S0H.out _ Ez2, ?_⟩
  simp only [Act.put, List.setIfInBounds_toArray, List.set_cons_zero, List.set_cons_succ]
  refine onlyH (i := 10) (by kernel_rfl) ?_
  refine opG_call (R := fun v wz => v = .slice aB mB cB ∧ wz = z2) rfl (by rfl) (.call { callee := .value (.func 7), args := #[.tmp 21], argTypes := #[29] }) rfl 22 rfl 7 #[.slice aB nB cB] (fun o' ho => by go_simp) (((SHB.out z2).mono fun e wz ⟨h1, h2⟩ => ⟨_, h1, rfl, h2⟩)) ?_
  rintro v wz' ⟨rfl, hwz⟩
  rw [hwz]
  clear hwz wz'
  refine ⟨S0H.out _ Ez2, ?_⟩
  simp only [Act.put, List.setIfInBounds_toArray, List.set_cons_zero, List.set_cons_succ]
  refine onlyH (i := 11) (by kernel_rfl) ?_
  refine opG_call (R := fun v wz => ∃ ar cr, v = .slice ar (mB + 3) cr ∧ Own wz z2.heap.size (.slice ar (mB + 3) cr) (BS ++ marks) ∧ Below z2.heap.size z2 wz) rfl (by rfl) (.call { callee := .value (.func 6), args := #[.tmp 22], argTypes := #[29] }) rfl 23 rfl 6 #[.slice aB mB cB] (fun o' ho => by go_simp) (((room_any (.slice aB mB cB) BS z2 (UB.out z2 (BW.out _ Ez2)) (by rw [HLB.h]; omega)).mono fun e wz ⟨ar, cr, h1, h2, h3⟩ => ⟨_, h1, ar, cr, by rw [HLB.h], by rw [HLB.h] at h2; exact h2, h3⟩)) ?_
  rintro v z3 ⟨rB, qB, rfl, hoB, hbz3⟩
  have Ez3 : Below x1.heap.size x1 z3 := Ez2.trans (hbz3.mono Ez2.size)
  refine ⟨S0H.out _ Ez3, ?_⟩
  simp only [Act.put, List.setIfInBounds_toArray, List.set_cons_zero, List.set_cons_succ]
  refine takeH (i := 12) rfl (.assign (.tmp 15)) rfl 5 rfl (v := (.slice rK (mK + 3) qK)) (by kernel_rfl) (by kernel_rfl) (by kernel_rfl) (fun _ _ _ h => h) (by rfl) (fun o' ho W hW => by clear hW; go_simp) (S0H.out _ Ez3) ?_
  simp only [Act.put, List.setIfInBounds_toArray, List.set_cons_zero, List.set_cons_succ]
  refine takeH (i := 13) rfl (.assign (.tmp 19)) rfl 6 rfl (v := (.slice rA (mA + 3) qA)) (by kernel_rfl) (by kernel_rfl) (by kernel_rfl) (fun _ _ _ h => h) (by rfl) (fun o' ho W hW => by clear hW; go_simp) (S0H.out _ Ez3) ?_
  simp only [Act.put, List.setIfInBounds_toArray, List.set_cons_zero, List.set_cons_succ]
  refine takeH (i := 14) rfl (.assign (.tmp 23)) rfl 7 rfl (v := (.slice rB (mB + 3) qB)) (by kernel_rfl) (by kernel_rfl) (by kernel_rfl) (fun _ _ _ h => h) (by rfl) (fun o' ho W hW => by clear hW; go_simp) (S0H.out _ Ez3) ?_
  simp only [Act.put, List.setIfInBounds_toArray, List.set_cons_zero, List.set_cons_succ]
  refine wpAnyH_done (by kernel_rfl) (NoPanic.normal ?_) _
  have OK3 : Hid (Own z3 bx (.slice rK (mK + 3) qK) (KS ++ marks)) := hide (((hoK.below hbz2).below hbz3).weaken (by have := BX.out; have := Ez0.size; omega))
  have OA3 : Hid (Own z3 bx (.slice rA (mA + 3) qA) (AS ++ marks)) := hide ((hoA.below hbz3).weaken (by have := BX.out; have := Ez1.size; omega))
  have OB3 : Hid (Own z3 bx (.slice rB (mB + 3) qB) (BS ++ marks)) := hide (hoB.weaken (by have := BX.out; have := Ez2.size; omega))
  have E3H := hide Ez3
  have kK0 := has_cap hoK.has
  have kA0 := has_cap hoA.has
  have kB0 := has_cap hoB.has
  have kK : mK ≤ qK := by omega
  have kA : mA ≤ qA := by omega
  have kB : mB ≤ qB := by omega
  have kKz : (mK : Int) ≤ (qK : Int) := by omega
  have kAz : (mA : Int) ≤ (qA : Int) := by omega
  have kBz : (mB : Int) ≤ (qB : Int) := by omega
  have wK : IntKind.i64.wrap (mK : Int) = (mK : Int) := by rw [IntKind.wrap_i64]; omega
  have wA : IntKind.i64.wrap (mA : Int) = (mA : Int) := by rw [IntKind.wrap_i64]; omega
  have wB : IntKind.i64.wrap (mB : Int) = (mB : Int) := by rw [IntKind.wrap_i64]; omega
  clear Ez0 Ez1 Ez2 Ez3 hoK hoA hoB hbz1 hbz2 hbz3 kK0 kA0 kB0
  go_upto_region 2 with fail
  refine wp_region_noPanic ?_
  refine wp_region_any (by kernel_rfl) ?_
  have E4 : Below z3.heap.size z3 { z3 with drawn := z3.drawn + 1 } := (Below.refl _ _).drew
  generalize { z3 with drawn := z3.drawn + 1 } = y0 at E4 ⊢
  refine take_any (i := 0) rfl rfl (.move (.tmp 5)) rfl 24 rfl (v := (.slice rK (mK + 3) qK)) (by kernel_rfl) (by kernel_rfl) (by kernel_rfl) (fun _ _ _ h => h) (fun o' ho w => by go_simp) ?_
  simp only [Act.put, List.setIfInBounds_toArray, List.set_cons_zero, List.set_cons_succ]
  refine take_any (i := 1) rfl rfl (.move (.tmp 5)) rfl 25 rfl (v := (.slice rK (mK + 3) qK)) (by kernel_rfl) (by kernel_rfl) (by kernel_rfl) (fun _ _ _ h => h) (fun o' ho w => by go_simp) ?_
  simp only [Act.put, List.setIfInBounds_toArray, List.set_cons_zero, List.set_cons_succ]
  refine take_any (i := 2) rfl rfl (.call { callee := .builtin .len, args := #[.tmp 25], argTypes := #[29] }) rfl 26 rfl (v := (.int .i64 ((mK : Int) + 3))) (by kernel_rfl) (by kernel_rfl) (by kernel_rfl) (fun _ _ _ h => h) (fun o' ho w => by go_simp) ?_
  simp only [Act.put, List.setIfInBounds_toArray, List.set_cons_zero, List.set_cons_succ]
  refine take_any (i := 3) rfl rfl (.binOp .sub 3 (.tmp 26) (.const (.int .i64 3)) 3) rfl 27 rfl (v := (.int .i64 (mK : Int))) (by kernel_rfl) (by kernel_rfl) (by kernel_rfl) (fun _ _ _ h => h) (fun o' ho w => by go_simp) ?_
  simp only [Act.put, List.setIfInBounds_toArray, List.set_cons_zero, List.set_cons_succ]
  refine take_any (i := 4) rfl rfl (.slice 29 (.tmp 24) none (some (.tmp 27)) none) rfl 28 rfl (v := (.slice rK mK qK)) (by kernel_rfl) (by kernel_rfl) (by kernel_rfl) (fun _ _ _ h => h) (fun o' ho w => by go_simp) ?_
  simp only [Act.put, List.setIfInBounds_toArray, List.set_cons_zero, List.set_cons_succ]
  refine take_any (i := 5) rfl rfl (.move (.tmp 6)) rfl 29 rfl (v := (.slice rA (mA + 3) qA)) (by kernel_rfl) (by kernel_rfl) (by kernel_rfl) (fun _ _ _ h => h) (fun o' ho w => by go_simp) ?_
  simp only [Act.put, List.setIfInBounds_toArray, List.set_cons_zero, List.set_cons_succ]
  refine take_any (i := 6) rfl rfl (.move (.tmp 6)) rfl 30 rfl (v := (.slice rA (mA + 3) qA)) (by kernel_rfl) (by kernel_rfl) (by kernel_rfl) (fun _ _ _ h => h) (fun o' ho w => by go_simp) ?_
  simp only [Act.put, List.setIfInBounds_toArray, List.set_cons_zero, List.set_cons_succ]
  refine take_any (i := 7) rfl rfl (.call { callee := .builtin .len, args := #[.tmp 30], argTypes := #[29] }) rfl 31 rfl (v := (.int .i64 ((mA : Int) + 3))) (by kernel_rfl) (by kernel_rfl) (by kernel_rfl) (fun _ _ _ h => h) (fun o' ho w => by go_simp) ?_
  simp only [Act.put, List.setIfInBounds_toArray, List.set_cons_zero, List.set_cons_succ]
  refine take_any (i := 8) rfl rfl (.binOp .sub 3 (.tmp 31) (.const (.int .i64 3)) 3) rfl 32 rfl (v := (.int .i64 (mA : Int))) (by kernel_rfl) (by kernel_rfl) (by kernel_rfl) (fun _ _ _ h => h) (fun o' ho w => by go_simp) ?_
  simp only [Act.put, List.setIfInBounds_toArray, List.set_cons_zero, List.set_cons_succ]
  refine take_any (i := 9) rfl rfl (.slice 29 (.tmp 29) none (some (.tmp 32)) none) rfl 33 rfl (v := (.slice rA mA qA)) (by kernel_rfl) (by kernel_rfl) (by kernel_rfl) (fun _ _ _ h => h) (fun o' ho w => by go_simp) ?_
  simp only [Act.put, List.setIfInBounds_toArray, List.set_cons_zero, List.set_cons_succ]
  refine take_any (i := 10) rfl rfl (.move (.tmp 7)) rfl 34 rfl (v := (.slice rB (mB + 3) qB)) (by kernel_rfl) (by kernel_rfl) (by kernel_rfl) (fun _ _ _ h => h) (fun o' ho w => by go_simp) ?_
  simp only [Act.put, List.setIfInBounds_toArray, List.set_cons_zero, List.set_cons_succ]
  refine take_any (i := 11) rfl rfl (.move (.tmp 7)) rfl 35 rfl (v := (.slice rB (mB + 3) qB)) (by kernel_rfl) (by kernel_rfl) (by kernel_rfl) (fun _ _ _ h => h) (fun o' ho w => by go_simp) ?_
  simp only [Act.put, List.setIfInBounds_toArray, List.set_cons_zero, List.set_cons_succ]
  refine take_any (i := 12) rfl rfl (.call { callee := .builtin .len, args := #[.tmp 35], argTypes := #[29] }) rfl 36 rfl (v := (.int .i64 ((mB : Int) + 3))) (by kernel_rfl) (by kernel_rfl) (by kernel_rfl) (fun _ _ _ h => h) (fun o' ho w => by go_simp) ?_
  simp only [Act.put, List.setIfInBounds_toArray, List.set_cons_zero, List.set_cons_succ]
  refine take_any (i := 13) rfl rfl (.binOp .sub 3 (.tmp 36) (.const (.int .i64 3)) 3) rfl 37 rfl (v := (.int .i64 (mB : Int))) (by kernel_rfl) (by kernel_rfl) (by kernel_rfl) (fun _ _ _ h => h) (fun o' ho w => by go_simp) ?_
  simp only [Act.put, List.setIfInBounds_toArray, List.set_cons_zero, List.set_cons_succ]
  refine take_any (i := 14) rfl rfl (.slice 29 (.tmp 34) none (some (.tmp 37)) none) rfl 38 rfl (v := (.slice rB mB qB)) (by kernel_rfl) (by kernel_rfl) (by kernel_rfl) (fun _ _ _ h => h) (fun o' ho w => by go_simp) ?_
  simp only [Act.put, List.setIfInBounds_toArray, List.set_cons_zero, List.set_cons_succ]
  refine take_any (i := 15) rfl rfl (.assign (.tmp 28)) rfl 8 rfl (v := (.slice rK mK qK)) (by kernel_rfl) (by kernel_rfl) (by kernel_rfl) (fun _ _ _ h => h) (fun o' ho w => by go_simp) ?_
  simp only [Act.put, List.setIfInBounds_toArray, List.set_cons_zero, List.set_cons_succ]
  refine take_any (i := 16) rfl rfl (.assign (.tmp 33)) rfl 9 rfl (v := (.slice rA mA qA)) (by kernel_rfl) (by kernel_rfl) (by kernel_rfl) (fun _ _ _ h => h) (fun o' ho w => by go_simp) ?_
  simp only [Act.put, List.setIfInBounds_toArray, List.set_cons_zero, List.set_cons_succ]
  refine take_any (i := 17) rfl rfl (.assign (.tmp 38)) rfl 10 rfl (v := (.slice rB mB qB)) (by kernel_rfl) (by kernel_rfl) (by kernel_rfl) (fun _ _ _ h => h) (fun o' ho w => by go_simp) ?_
  simp only [Act.put, List.setIfInBounds_toArray, List.set_cons_zero, List.set_cons_succ]
  refine wpAny_done (by kernel_rfl) (NoPanic.normal ?_) _
  have B4 : Below x1.heap.size x1 y0 := E3H.out.trans (E4.mono E3H.out.size)
  have B4x : Hid (Below x.heap.size x y0) := hide (X0.out.trans (B4.mono X0.out.size))
  have OB4 : Hid (Blk y0 bx oc 31) := hide (OB.out.below B4 OB.out.lt)
  have Y4 : Hid (Out w y0 p (ls.length + 2) (ks.length + 2)) := hide (Y0.out.below B4x.out)
  have OK4 : Hid (Own y0 bx (.slice rK (mK + 3) qK) (KS ++ marks)) := hide (OK3.out.below E4)
  have OA4 : Hid (Own y0 bx (.slice rA (mA + 3) qA) (AS ++ marks)) := hide (OA3.out.below E4)
  have OB5 : Hid (Own y0 bx (.slice rB (mB + 3) qB) (BS ++ marks)) := hide (OB3.out.below E4)
  have tk : ∀ (r : Option Addr) (m q : Nat) (S : List UInt8), S.length = m → Has y0 (.slice r (m + 3) q) (S ++ marks) → Has y0 (.slice r m q) S := fun r m q S h1 h2 => by
    have := take_slice h2 (by rw [List.length_append, h1]; rfl) m (by omega)
    rwa [List.take_append_of_le_length (by omega), List.take_of_length_le (by omega)] at this
  have PY : Hid (∀ y, Below y0.heap.size y0 y → Has y (.slice rK mK qK) KS ∧ Has y (.slice rA mA qA) AS ∧ Has y (.slice rB mB qB) BS) := hide (fun y hy => ⟨(tk _ _ _ _ HLK.h OK4.out.has).below hy, (tk _ _ _ _ HLA.h OA4.out.has).below hy, (tk _ _ _ _ HLB.h OB5.out.has).below hy⟩)
  have SY : Hid (∀ y, Below y0.heap.size y0 y → y.cell? ⟨bx, 1, none⟩ = some (.slice aK nK cQ) ∧ y.cell? ⟨bx, 2, none⟩ = some (.slice aA nA cA) ∧ y.cell? ⟨bx, 3, none⟩ = some (.slice aB nB cB)) := hide (fun y hy => ⟨((OB4.out.below hy OB4.out.lt).cell 1).trans O1.h, ((OB4.out.below hy OB4.out.lt).cell 2).trans O2.h, ((OB4.out.below hy OB4.out.lt).cell 3).trans O3.h⟩)
  have WY : ∀ y, Below y0.heap.size y0 y → Below w.heap.size w y := fun y hy => Y4.out.be.trans (hy.mono Y4.out.be.size)
  have UY : Hid (∀ y, Below y0.heap.size y0 y → Has y (.slice aK mK cQ) KS ∧ Has y (.slice aA mA cA) AS ∧ Has y (.slice aB mB cB) BS) := hide (fun y hy => ⟨UK.out y (WY y hy), UA.out y (WY y hy), UB.out y (WY y hy)⟩)
  have CY : Hid (∀ y, Below y0.heap.size y0 y → Kst y ∧ Rst y ∧ Bst y) := hide (fun y hy => ⟨HCK.out.below (WY y hy) HCK.out.lt, HCR.out.below (WY y hy) HCR.out.lt, HCS.out.below (WY y hy) HCS.out.lt⟩)
  have LIS : Hid (Calls Tryd.prog 13 #[.pointer (some ⟨p, 0, none⟩), .agg oc.toArray, .slice rK mK qK, .slice rA mA qA, .slice rB mB qB] y0 fun e z => e = .returned (.bool true) ∧ Fx (fun k => k < bx) y0 z ∧ Out w z p (ls.length + 2) (ks.length + 2)) := hide (LIS0.out y0 _ _ _ (HBX.h ▸ B4x.out) (PY.out y0 (Below.refl _ _)).1 (PY.out y0 (Below.refl _ _)).2.1 (PY.out y0 (Below.refl _ _)).2.2)
  have KEY : Hid (Calls Tryd.prog 14 #[.pointer (some ⟨p, 0, none⟩), .slice rK mK qK, .slice rA mA qA, .slice rB mB qB, .int .i64 n] y0 fun e z => e = .returned (.bool true) ∧ Fx (fun k => k < bx) y0 z ∧ Out w z p (ls.length + 2) (ks.length + 2)) := hide (KEY0.out y0 _ _ _ (HBX.h ▸ B4x.out) (PY.out y0 (Below.refl _ _)).1 (PY.out y0 (Below.refl _ _)).2.1 (PY.out y0 (Below.refl _ _)).2.2)
  have FIN : Hid (∀ z, Fx (fun k => k < bx) y0 z → Below w.heap.size w z → (∀ y, Below z.heap.size z y → y.cell? ⟨bx, 1, none⟩ = some (.slice aK nK cQ) ∧ y.cell? ⟨bx, 2, none⟩ = some (.slice aA nA cA) ∧ y.cell? ⟨bx, 3, none⟩ = some (.slice aB nB cB)) ∧ (∀ y, Below z.heap.size z y → Has y (.slice rK (mK + 3) qK) (KS ++ marks) ∧ Has y (.slice rA (mA + 3) qA) (AS ++ marks) ∧ Has y (.slice rB (mB + 3) qB) (BS ++ marks)) ∧ ∀ y, Below z.heap.size z y → Has y (.slice aK mK cQ) KS ∧ Has y (.slice aA mA cA) AS ∧ Has y (.slice aB mB cB) BS) := hide (fun z hz hw => by
    have ob := OB4.out.fx hz (Nat.lt_irrefl _)
    have g : ∀ v S, Own y0 bx v S → Has z v S := fun v S h => h.has.fx hz (fun k hk s => by have := h.ownBlock k hk; omega)
    exact ⟨fun y hy => ⟨((ob.below hy ob.lt).cell 1).trans O1.h, ((ob.below hy ob.lt).cell 2).trans O2.h, ((ob.below hy ob.lt).cell 3).trans O3.h⟩, fun y hy => ⟨(g _ _ OK4.out).below hy, (g _ _ OA4.out).below hy, (g _ _ OB5.out).below hy⟩, fun y hy => ⟨UK.out y (hw.trans (hy.mono hw.size)), UA.out y (hw.trans (hy.mono hw.size)), UB.out y (hw.trans (hy.mono hw.size))⟩⟩)
  have c0 := (OB4.out.cell 0).trans O0.h
  clear B4 B4x E4 E3H tk WY OK3 OA3 OB3 OK4 OA4 OB5 S0H BW X0 X0B OB LIS0 KEY0 Y0 HCK HCR HCS UK UA UB BX HBX kK kA kB kKz kAz kBz wK wA wB
  go_upto_block 0 with fail
  go_cut [11] (fun s wx => s = .bool true ∧ Hid (Fx (fun k => k < bx) y0 wx) ∧ Hid (Out w wx p (ls.length + 2) (ks.length + 2)))
  case rest =>
    obtain ⟨rfl, ZF, ZO⟩ := hcut
    obtain ⟨CC, RZ, UZ⟩ := FIN.out wc ZF.out ZO.out.be
    have CC := hide CC
    have RZ := hide RZ
    have UZ := hide UZ
    obtain ⟨e1, e2, e3⟩ := CC.out wc (Below.refl _ _)
    clear SY PY UY CY ZF O0 O1 O2 O3 O4 OB4 h31 LIS KEY FIN Y4 HM HD HD2 DL DL2 HLM
    go_wp2_with (first
      | (go_at_call 7; refine (SHK.out _).mono ?_; rintro e y7 ⟨rfl, hy7⟩; rw [hy7]; clear hy7 y7)
      | (go_at_call 7; refine (SHA.out _).mono ?_; rintro e y7 ⟨rfl, hy7⟩; rw [hy7]; clear hy7 y7)
      | (go_at_call 7; refine (SHB.out _).mono ?_; rintro e y7 ⟨rfl, hy7⟩; rw [hy7]; clear hy7 y7)
      | (go_at_call 15; refine (kept_yes (.slice rK (mK + 3) qK) (.slice aK mK cQ) KS wc (RZ.out wc (Below.refl _ _)).1 (UZ.out wc (Below.refl _ _)).1 (by rw [HLK.h]; omega)).mono ?_; rintro e t1 ⟨rfl, hb⟩; have Bt1 : Hid (Below wc.heap.size wc t1) := hide hb; clear hb; have ft1 := (CC.out t1 Bt1.out).2; obtain ⟨fat1, fbt1⟩ := ft1)
      | (go_at_call 15; refine (kept_yes (.slice rA (mA + 3) qA) (.slice aA mA cA) AS t1 (RZ.out t1 Bt1.out).2.1 (UZ.out t1 Bt1.out).2.1 (by rw [HLA.h]; omega)).mono ?_; rintro e t2 ⟨rfl, hb⟩; have Bt2 : Hid (Below wc.heap.size wc t2) := hide (Bt1.out.trans (hb.mono Bt1.out.size)); clear hb; have ft2 := (CC.out t2 Bt2.out).2; obtain ⟨fat2, fbt2⟩ := ft2)
      | (go_at_call 15; refine (kept_yes (.slice rB (mB + 3) qB) (.slice aB mB cB) BS t2 (RZ.out t2 Bt2.out).2.2 (UZ.out t2 Bt2.out).2.2 (by rw [HLB.h]; omega)).mono ?_; rintro e t3 ⟨rfl, hb⟩; have Bt3 : Hid (Below wc.heap.size wc t3) := hide (Bt2.out.trans (hb.mono Bt2.out.size)); clear hb; have ft3 := (CC.out t3 Bt3.out).2; obtain ⟨fat3, fbt3⟩ := ft3)
      | fail)
    go_ret
    exact ⟨rfl, ZO.out.below Bt3.out⟩
  by_cases k1 : kind = 1
  · subst k1
    have hEQ : ∀ W : World, (Op.equalIn 10000 36 (.agg (D.map byt).toArray) (.agg (D.map byt).toArray)).run Tryd.prog W = .ok true W := fun W => eq42 D DL.h W
    have hGD := guard36
    clear LIS KEY
    go_upto_region 6 with fail
    refine wp_region_noPanic ?_
    refine wp_region_held (S := fun y => y.cell? ⟨bx, 1, none⟩ = some (.slice aK nK cQ) ∧ y.cell? ⟨bx, 2, none⟩ = some (.slice aA nA cA) ∧ y.cell? ⟨bx, 3, none⟩ = some (.slice aB nB cB)) (by kernel_rfl) ?_
    have Eu0 : Below y0.heap.size y0 { y0 with drawn := y0.drawn + 1 } := (Below.refl _ _).drew
    generalize { y0 with drawn := y0.drawn + 1 } = u0 at Eu0 ⊢
    refine takeH (i := 0) rfl (.move (.tmp 8)) rfl 43 rfl (v := (.slice rK mK qK)) (by kernel_rfl) (by kernel_rfl) (by kernel_rfl) (fun _ _ _ h => h) (by rfl) (fun o' ho W hW => by clear hW; go_simp) (SY.out _ Eu0) ?_
    simp only [Act.put, List.setIfInBounds_toArray, List.set_cons_zero, List.set_cons_succ]
    refine takeH (i := 1) rfl (.move (.tmp 9)) rfl 44 rfl (v := (.slice rA mA qA)) (by kernel_rfl) (by kernel_rfl) (by kernel_rfl) (fun _ _ _ h => h) (by rfl) (fun o' ho W hW => by clear hW; go_simp) (SY.out _ Eu0) ?_
    simp only [Act.put, List.setIfInBounds_toArray, List.set_cons_zero, List.set_cons_succ]
    refine takeH (i := 2) rfl (.move (.tmp 10)) rfl 45 rfl (v := (.slice rB mB qB)) (by kernel_rfl) (by kernel_rfl) (by kernel_rfl) (fun _ _ _ h => h) (by rfl) (fun o' ho W hW => by clear hW; go_simp) (SY.out _ Eu0) ?_
    simp only [Act.put, List.setIfInBounds_toArray, List.set_cons_zero, List.set_cons_succ]
    refine takeH (i := 3) rfl (.move (.tmp 9)) rfl 46 rfl (v := (.slice rA mA qA)) (by kernel_rfl) (by kernel_rfl) (by kernel_rfl) (fun _ _ _ h => h) (by rfl) (fun o' ho W hW => by clear hW; go_simp) (SY.out _ Eu0) ?_
    simp only [Act.put, List.setIfInBounds_toArray, List.set_cons_zero, List.set_cons_succ]
    refine takeH (i := 6) rfl (.fieldAddr 31 (.tmp 3) 1) rfl 49 rfl (v := (.pointer (some ⟨bx, 1, none⟩))) (by kernel_rfl) (by kernel_rfl) (by kernel_rfl) (fun _ _ _ h => h) (by rfl) (fun o' ho W hW => by clear hW; go_simp) (SY.out _ Eu0) ?_
    simp only [Act.put, List.setIfInBounds_toArray, List.set_cons_zero, List.set_cons_succ]
    refine takeH (i := 7) rfl (.load 29 (.tmp 49)) rfl 50 rfl (v := (.slice aK nK cQ)) (by kernel_rfl) (by kernel_rfl) (by kernel_rfl) (fun _ _ _ h => h) (by rfl) (fun o' ho W hW => by obtain ⟨s1, s2, s3⟩ := hW; go_simp) (SY.out _ Eu0) ?_
    simp only [Act.put, List.setIfInBounds_toArray, List.set_cons_zero, List.set_cons_succ]
    refine takeH (i := 9) rfl (.fieldAddr 31 (.tmp 3) 2) rfl 52 rfl (v := (.pointer (some ⟨bx, 2, none⟩))) (by kernel_rfl) (by kernel_rfl) (by kernel_rfl) (fun _ _ _ h => h) (by rfl) (fun o' ho W hW => by clear hW; go_simp) (SY.out _ Eu0) ?_
    simp only [Act.put, List.setIfInBounds_toArray, List.set_cons_zero, List.set_cons_succ]
    refine takeH (i := 10) rfl (.load 29 (.tmp 52)) rfl 53 rfl (v := (.slice aA nA cA)) (by kernel_rfl) (by kernel_rfl) (by kernel_rfl) (fun _ _ _ h => h) (by rfl) (fun o' ho W hW => by obtain ⟨s1, s2, s3⟩ := hW; go_simp) (SY.out _ Eu0) ?_
    simp only [Act.put, List.setIfInBounds_toArray, List.set_cons_zero, List.set_cons_succ]
    refine takeH (i := 12) rfl (.fieldAddr 31 (.tmp 3) 3) rfl 55 rfl (v := (.pointer (some ⟨bx, 3, none⟩))) (by kernel_rfl) (by kernel_rfl) (by kernel_rfl) (fun _ _ _ h => h) (by rfl) (fun o' ho W hW => by clear hW; go_simp) (SY.out _ Eu0) ?_
    simp only [Act.put, List.setIfInBounds_toArray, List.set_cons_zero, List.set_cons_succ]
    refine takeH (i := 13) rfl (.load 29 (.tmp 55)) rfl 56 rfl (v := (.slice aB nB cB)) (by kernel_rfl) (by kernel_rfl) (by kernel_rfl) (fun _ _ _ h => h) (by rfl) (fun o' ho W hW => by obtain ⟨s1, s2, s3⟩ := hW; go_simp) (SY.out _ Eu0) ?_
    simp only [Act.put, List.setIfInBounds_toArray, List.set_cons_zero, List.set_cons_succ]
    refine takeH (i := 15) rfl (.fieldAddr 31 (.tmp 3) 2) rfl 58 rfl (v := (.pointer (some ⟨bx, 2, none⟩))) (by kernel_rfl) (by kernel_rfl) (by kernel_rfl) (fun _ _ _ h => h) (by rfl) (fun o' ho W hW => by clear hW; go_simp) (SY.out _ Eu0) ?_
    simp only [Act.put, List.setIfInBounds_toArray, List.set_cons_zero, List.set_cons_succ]
    refine takeH (i := 16) rfl (.load 29 (.tmp 58)) rfl 59 rfl (v := (.slice aA nA cA)) (by kernel_rfl) (by kernel_rfl) (by kernel_rfl) (fun _ _ _ h => h) (by rfl) (fun o' ho W hW => by obtain ⟨s1, s2, s3⟩ := hW; go_simp) (SY.out _ Eu0) ?_
    simp only [Act.put, List.setIfInBounds_toArray, List.set_cons_zero, List.set_cons_succ]
    have Pu1 : Parts (u0.alloc (.cells #[.slice rA mA qA, .slice rB mB qB, .slice rA mA qA] 29)) (.slice (some ⟨u0.heap.size, 0, none⟩) 3 3) [(.slice rA mA qA, AS), (.slice rB mB qB, BS), (.slice rA mA qA, AS)] := parts_new u0 [(.slice rA mA qA, AS), (.slice rB mB qB, BS), (.slice rA mA qA, AS)] (three_all (PY.out u0 Eu0).2.1 (PY.out u0 Eu0).2.2 (PY.out u0 Eu0).2.1)
    have Eu1 : Below y0.heap.size y0 (u0.alloc (.cells #[.slice rA mA qA, .slice rB mB qB, .slice rA mA qA] 29)) := Eu0.alloc Eu0.size _
    refine onlyH (i := 4) (by kernel_rfl) ?_
    refine opG_run rfl (by rfl) (.buildSlice 24 3 #[(0, .tmp 44), (1, .tmp 45), (2, .tmp 46)]) rfl 47 rfl (.slice (some ⟨u0.heap.size, 0, none⟩) 3 3) (u0.alloc (.cells #[.slice rA mA qA, .slice rB mB qB, .slice rA mA qA] 29)) (fun o' ho => by go_simp) ?_
    refine ⟨SY.out _ Eu1, ?_⟩
    generalize u0.alloc (.cells #[.slice rA mA qA, .slice rB mB qB, .slice rA mA qA] 29) = u1 at Pu1 Eu1 ⊢
    generalize u0.heap.size = s2 at Pu1 ⊢
    simp only [Act.put, List.setIfInBounds_toArray, List.set_cons_zero, List.set_cons_succ]
    refine onlyH (i := 5) (by kernel_rfl) ?_
    refine opG_call (R := fun v wz => v = .agg (D.map byt).toArray ∧ Below y0.heap.size y0 wz) rfl (by rfl) (.call { callee := .value (.func 8), args := #[.tmp 43, .tmp 47], argTypes := #[29, 24] }) rfl 48 rfl 8 #[.slice rK mK qK, .slice (some ⟨s2, 0, none⟩) 3 3] (fun o' ho => by go_simp) (((mac_gen (.slice rK mK qK) (.slice (some ⟨s2, 0, none⟩) 3 3) KS M1 D [(.slice rA mA qA, AS), (.slice rB mB qB, BS), (.slice rA mA qA, AS)] (HM.out _ _ _) HD.h u1 (PY.out u1 Eu1).1 Pu1 (CY.out u1 Eu1).1 (by rw [HLK.h]; omega) (by rw [HLM.h]; omega) (by simp)).mono fun e wz ⟨h1, h2⟩ => ⟨_, h1, rfl, Eu1.trans (h2.mono Eu1.size)⟩)) ?_
    rintro v u2 ⟨rfl, Eu2⟩
    refine ⟨SY.out _ Eu2, ?_⟩
    simp only [Act.put, List.setIfInBounds_toArray, List.set_cons_zero, List.set_cons_succ]
    refine onlyH (i := 8) (by kernel_rfl) ?_
    refine opG_call (R := fun v wz => v = .slice aK mK cQ ∧ wz = u2) rfl (by rfl) (.call { callee := .value (.func 7), args := #[.tmp 50], argTypes := #[29] }) rfl 51 rfl 7 #[.slice aK nK cQ] (fun o' ho => by go_simp) (((SHK.out u2).mono fun e wz ⟨h1, h2⟩ => ⟨_, h1, rfl, h2⟩)) ?_
    rintro v wz' ⟨rfl, hwz⟩
    rw [hwz]
    clear hwz wz'
    refine ⟨SY.out _ Eu2, ?_⟩
    simp only [Act.put, List.setIfInBounds_toArray, List.set_cons_zero, List.set_cons_succ]
    refine onlyH (i := 11) (by kernel_rfl) ?_
    refine opG_call (R := fun v wz => v = .slice aA mA cA ∧ wz = u2) rfl (by rfl) (.call { callee := .value (.func 7), args := #[.tmp 53], argTypes := #[29] }) rfl 54 rfl 7 #[.slice aA nA cA] (fun o' ho => by go_simp) (((SHA.out u2).mono fun e wz ⟨h1, h2⟩ => ⟨_, h1, rfl, h2⟩)) ?_
    rintro v wz' ⟨rfl, hwz⟩
    rw [hwz]
    clear hwz wz'
    refine ⟨SY.out _ Eu2, ?_⟩
    simp only [Act.put, List.setIfInBounds_toArray, List.set_cons_zero, List.set_cons_succ]
    refine onlyH (i := 14) (by kernel_rfl) ?_
    refine opG_call (R := fun v wz => v = .slice aB mB cB ∧ wz = u2) rfl (by rfl) (.call { callee := .value (.func 7), args := #[.tmp 56], argTypes := #[29] }) rfl 57 rfl 7 #[.slice aB nB cB] (fun o' ho => by go_simp) (((SHB.out u2).mono fun e wz ⟨h1, h2⟩ => ⟨_, h1, rfl, h2⟩)) ?_
    rintro v wz' ⟨rfl, hwz⟩
    rw [hwz]
    clear hwz wz'
    refine ⟨SY.out _ Eu2, ?_⟩
    simp only [Act.put, List.setIfInBounds_toArray, List.set_cons_zero, List.set_cons_succ]
    refine onlyH (i := 17) (by kernel_rfl) ?_
    refine opG_call (R := fun v wz => v = .slice aA mA cA ∧ wz = u2) rfl (by rfl) (.call { callee := .value (.func 7), args := #[.tmp 59], argTypes := #[29] }) rfl 60 rfl 7 #[.slice aA nA cA] (fun o' ho => by go_simp) (((SHA.out u2).mono fun e wz ⟨h1, h2⟩ => ⟨_, h1, rfl, h2⟩)) ?_
    rintro v wz' ⟨rfl, hwz⟩
    rw [hwz]
    clear hwz wz'
    refine ⟨SY.out _ Eu2, ?_⟩
    simp only [Act.put, List.setIfInBounds_toArray, List.set_cons_zero, List.set_cons_succ]
    refine onlyH (i := 18) (by kernel_rfl) ?_
    refine opG_run rfl (by rfl) (.buildSlice 24 3 #[(0, .tmp 54), (1, .tmp 57), (2, .tmp 60)]) rfl 61 rfl (.slice (some ⟨u2.heap.size, 0, none⟩) 3 3) (u2.alloc (.cells #[.slice aA mA cA, .slice aB mB cB, .slice aA mA cA] 29)) (fun o' ho => by go_simp) ?_
    refine ⟨SY.out _ (Eu2.alloc Eu2.size _), ?_⟩
    simp only [Act.put, List.setIfInBounds_toArray, List.set_cons_zero, List.set_cons_succ]
    refine onlyH (i := 19) (by kernel_rfl) ?_
    refine opG_call (R := fun v wz => Has wz v M1 ∧ Below u2.heap.size u2 wz) rfl (by rfl) (.call { callee := .value (.func 10), args := #[.tmp 61], argTypes := #[24] }) rfl 62 rfl 10 #[.slice (some ⟨u2.heap.size, 0, none⟩) 3 3] (fun o' ho => by go_simp) (((joined_at u2 u2.heap.size rfl [(.slice aA mA cA, AS), (.slice aB mB cB, BS), (.slice aA mA cA, AS)] M1 (HM.out _ _ _) (three_all (UY.out u2 Eu2).2.1 (UY.out u2 Eu2).2.2 (UY.out u2 Eu2).2.1) (by rw [HLM.h]; omega) (by simp)).mono fun e wz ⟨u, h1, h2, h3⟩ => ⟨u, h1, h2, h3⟩)) ?_
    rintro vj u3 ⟨hvj, hbu3⟩
    have Eu3 := Eu2.trans (hbu3.mono Eu2.size)
    refine ⟨SY.out _ Eu3, ?_⟩
    simp only [Act.put, List.setIfInBounds_toArray, List.set_cons_zero, List.set_cons_succ]
    refine onlyH (i := 20) (by kernel_rfl) ?_
    refine opG_call (R := fun v wz => v = .agg (D.map byt).toArray ∧ Below y0.heap.size y0 wz) rfl (by rfl) (.call { callee := .value (.func 9), args := #[.tmp 51, .tmp 62], argTypes := #[29, 29] }) rfl 63 rfl 9 #[.slice aK mK cQ, vj] (fun o' ho => by go_simp) (((rmac_any (.slice aK mK cQ) vj KS M1 D HD.h u3 (UY.out u3 Eu3).1 hvj (by rw [HLK.h]; omega) (by rw [HLM.h]; omega) (CY.out u3 Eu3).2.1 (CY.out u3 Eu3).2.2).mono fun e wz ⟨h1, h2⟩ => ⟨_, h1, rfl, Eu3.trans (h2.mono Eu3.size)⟩)) ?_
    rintro v u4 ⟨rfl, Eu4⟩
    refine ⟨SY.out _ Eu4, ?_⟩
    simp only [Act.put, List.setIfInBounds_toArray, List.set_cons_zero, List.set_cons_succ]
    refine takeH (i := 21) rfl (.binOp .eql 36 (.tmp 48) (.tmp 63) 36) rfl 64 rfl (v := (.bool true)) (by kernel_rfl) (by kernel_rfl) (by kernel_rfl) (fun _ _ _ h => h) (by rfl) (fun o' ho W hW => by clear hW; go_simp) (SY.out _ Eu4) ?_
    simp only [Act.put, List.setIfInBounds_toArray, List.set_cons_zero, List.set_cons_succ]
    refine takeH (i := 22) rfl (.assign (.tmp 64)) rfl 11 rfl (v := (.bool true)) (by kernel_rfl) (by kernel_rfl) (by kernel_rfl) (fun _ _ _ h => h) (by rfl) (fun o' ho W hW => by clear hW; go_simp) (SY.out _ Eu4) ?_
    simp only [Act.put, List.setIfInBounds_toArray, List.set_cons_zero, List.set_cons_succ]
    refine wpAnyH_done (by kernel_rfl) (NoPanic.normal ?_) _
    have ZF : Hid (Fx (fun k => k < bx) y0 u4) := hide (Fx.of_below Eu4)
    have ZO : Hid (Out w u4 p (ls.length + 2) (ks.length + 2)) := hide (Y4.out.below Eu4)
    clear Eu0 Eu1 Eu2 Eu3 Eu4 Pu1 hvj hbu3
    try go_wp2
    go_meet
    exact ⟨rfl, ZF, ZO⟩
  by_cases k2 : kind = 2
  · subst k2
    have hEQ : ∀ W : World, (Op.equalIn 10000 36 (.agg (D2.map byt).toArray) (.agg (D2.map byt).toArray)).run Tryd.prog W = .ok true W := fun W => eq42 D2 DL2.h W
    have hGD := guard36
    clear LIS KEY
    go_upto_region 8 with fail
    refine wp_region_noPanic ?_
    refine wp_region_held (S := fun y => y.cell? ⟨bx, 1, none⟩ = some (.slice aK nK cQ) ∧ y.cell? ⟨bx, 2, none⟩ = some (.slice aA nA cA) ∧ y.cell? ⟨bx, 3, none⟩ = some (.slice aB nB cB)) (by kernel_rfl) ?_
    have Eu0 : Below y0.heap.size y0 { y0 with drawn := y0.drawn + 1 } := (Below.refl _ _).drew
    generalize { y0 with drawn := y0.drawn + 1 } = u0 at Eu0 ⊢
    refine takeH (i := 0) rfl (.move (.tmp 8)) rfl 67 rfl (v := (.slice rK mK qK)) (by kernel_rfl) (by kernel_rfl) (by kernel_rfl) (fun _ _ _ h => h) (by rfl) (fun o' ho W hW => by clear hW; go_simp) (SY.out _ Eu0) ?_
    simp only [Act.put, List.setIfInBounds_toArray, List.set_cons_zero, List.set_cons_succ]
    refine takeH (i := 1) rfl (.move (.tmp 9)) rfl 68 rfl (v := (.slice rA mA qA)) (by kernel_rfl) (by kernel_rfl) (by kernel_rfl) (fun _ _ _ h => h) (by rfl) (fun o' ho W hW => by clear hW; go_simp) (SY.out _ Eu0) ?_
    simp only [Act.put, List.setIfInBounds_toArray, List.set_cons_zero, List.set_cons_succ]
    refine takeH (i := 3) rfl (.fieldAddr 31 (.tmp 3) 1) rfl 70 rfl (v := (.pointer (some ⟨bx, 1, none⟩))) (by kernel_rfl) (by kernel_rfl) (by kernel_rfl) (fun _ _ _ h => h) (by rfl) (fun o' ho W hW => by clear hW; go_simp) (SY.out _ Eu0) ?_
    simp only [Act.put, List.setIfInBounds_toArray, List.set_cons_zero, List.set_cons_succ]
    refine takeH (i := 4) rfl (.load 29 (.tmp 70)) rfl 71 rfl (v := (.slice aK nK cQ)) (by kernel_rfl) (by kernel_rfl) (by kernel_rfl) (fun _ _ _ h => h) (by rfl) (fun o' ho W hW => by obtain ⟨s1, s2, s3⟩ := hW; go_simp) (SY.out _ Eu0) ?_
    simp only [Act.put, List.setIfInBounds_toArray, List.set_cons_zero, List.set_cons_succ]
    refine takeH (i := 6) rfl (.fieldAddr 31 (.tmp 3) 2) rfl 73 rfl (v := (.pointer (some ⟨bx, 2, none⟩))) (by kernel_rfl) (by kernel_rfl) (by kernel_rfl) (fun _ _ _ h => h) (by rfl) (fun o' ho W hW => by clear hW; go_simp) (SY.out _ Eu0) ?_
    simp only [Act.put, List.setIfInBounds_toArray, List.set_cons_zero, List.set_cons_succ]
    refine takeH (i := 7) rfl (.load 29 (.tmp 73)) rfl 74 rfl (v := (.slice aA nA cA)) (by kernel_rfl) (by kernel_rfl) (by kernel_rfl) (fun _ _ _ h => h) (by rfl) (fun o' ho W hW => by obtain ⟨s1, s2, s3⟩ := hW; go_simp) (SY.out _ Eu0) ?_
    simp only [Act.put, List.setIfInBounds_toArray, List.set_cons_zero, List.set_cons_succ]
    refine onlyH (i := 2) (by kernel_rfl) ?_
    refine opG_call (R := fun v wz => v = .agg (D2.map byt).toArray ∧ Below y0.heap.size y0 wz) rfl (by rfl) (.call { callee := .value (.func 11), args := #[.tmp 67, .tmp 68], argTypes := #[29, 29] }) rfl 69 rfl 11 #[.slice rK mK qK, .slice rA mA qA] (fun o' ho => by go_simp) (((extract_is (.slice rK mK qK) (.slice rA mA qA) KS AS D2 HD2.h u0 (PY.out u0 Eu0).1 (PY.out u0 Eu0).2.1 (CY.out u0 Eu0).1 (by rw [HLK.h]; omega) (by rw [HLA.h]; omega)).mono fun e wz ⟨h1, h2⟩ => ⟨_, h1, rfl, Eu0.trans (h2.mono Eu0.size)⟩)) ?_
    rintro v u2 ⟨rfl, Eu2⟩
    refine ⟨SY.out _ Eu2, ?_⟩
    simp only [Act.put, List.setIfInBounds_toArray, List.set_cons_zero, List.set_cons_succ]
    refine onlyH (i := 5) (by kernel_rfl) ?_
    refine opG_call (R := fun v wz => v = .slice aK mK cQ ∧ wz = u2) rfl (by rfl) (.call { callee := .value (.func 7), args := #[.tmp 71], argTypes := #[29] }) rfl 72 rfl 7 #[.slice aK nK cQ] (fun o' ho => by go_simp) (((SHK.out u2).mono fun e wz ⟨h1, h2⟩ => ⟨_, h1, rfl, h2⟩)) ?_
    rintro v wz' ⟨rfl, hwz⟩
    rw [hwz]
    clear hwz wz'
    refine ⟨SY.out _ Eu2, ?_⟩
    simp only [Act.put, List.setIfInBounds_toArray, List.set_cons_zero, List.set_cons_succ]
    refine onlyH (i := 8) (by kernel_rfl) ?_
    refine opG_call (R := fun v wz => v = .slice aA mA cA ∧ wz = u2) rfl (by rfl) (.call { callee := .value (.func 7), args := #[.tmp 74], argTypes := #[29] }) rfl 75 rfl 7 #[.slice aA nA cA] (fun o' ho => by go_simp) (((SHA.out u2).mono fun e wz ⟨h1, h2⟩ => ⟨_, h1, rfl, h2⟩)) ?_
    rintro v wz' ⟨rfl, hwz⟩
    rw [hwz]
    clear hwz wz'
    refine ⟨SY.out _ Eu2, ?_⟩
    simp only [Act.put, List.setIfInBounds_toArray, List.set_cons_zero, List.set_cons_succ]
    refine onlyH (i := 9) (by kernel_rfl) ?_
    refine opG_call (R := fun v wz => v = .agg (D2.map byt).toArray ∧ Below y0.heap.size y0 wz) rfl (by rfl) (.call { callee := .value (.func 12), args := #[.tmp 72, .tmp 75], argTypes := #[29, 29] }) rfl 76 rfl 12 #[.slice aK mK cQ, .slice aA mA cA] (fun o' ho => by go_simp) (((rextract_any (.slice aK mK cQ) (.slice aA mA cA) KS AS D2 HD2.h u2 (UY.out u2 Eu2).1 (UY.out u2 Eu2).2.1 (by rw [HLK.h]; omega) (by rw [HLA.h]; omega) (CY.out u2 Eu2).2.1 (CY.out u2 Eu2).2.2).mono fun e wz ⟨h1, h2⟩ => ⟨_, h1, rfl, Eu2.trans (h2.mono Eu2.size)⟩)) ?_
    rintro v u4 ⟨rfl, Eu4⟩
    refine ⟨SY.out _ Eu4, ?_⟩
    simp only [Act.put, List.setIfInBounds_toArray, List.set_cons_zero, List.set_cons_succ]
    refine takeH (i := 10) rfl (.binOp .eql 36 (.tmp 69) (.tmp 76) 36) rfl 77 rfl (v := (.bool true)) (by kernel_rfl) (by kernel_rfl) (by kernel_rfl) (fun _ _ _ h => h) (by rfl) (fun o' ho W hW => by clear hW; go_simp) (SY.out _ Eu4) ?_
    simp only [Act.put, List.setIfInBounds_toArray, List.set_cons_zero, List.set_cons_succ]
    refine takeH (i := 11) rfl (.assign (.tmp 77)) rfl 11 rfl (v := (.bool true)) (by kernel_rfl) (by kernel_rfl) (by kernel_rfl) (fun _ _ _ h => h) (by rfl) (fun o' ho W hW => by clear hW; go_simp) (SY.out _ Eu4) ?_
    simp only [Act.put, List.setIfInBounds_toArray, List.set_cons_zero, List.set_cons_succ]
    refine wpAnyH_done (by kernel_rfl) (NoPanic.normal ?_) _
    have ZF : Hid (Fx (fun k => k < bx) y0 u4) := hide (Fx.of_below Eu4)
    have ZO : Hid (Out w u4 p (ls.length + 2) (ks.length + 2)) := hide (Y4.out.below Eu4)
    clear Eu0 Eu2 Eu4
    try go_wp2
    go_meet
    exact ⟨rfl, ZF, ZO⟩
  clear HD HD2 DL DL2 HM HLM
  by_cases k3 : kind = 3
  · subst k3
    clear KEY
    have CALL := hide (LIS.out)
    go_wp2_with (first
      | (refine wpList_load_row rfl 31 (.tmp 3) rfl bx rfl 31 oc.toArray (0, 0) _ OB4.out Tryd.underlying31 rfl h31 ?_)
      | (go_at_call 13; refine CALL.out.mono ?_; rintro e z ⟨rfl, hz⟩; obtain ⟨hz1, hz2⟩ := hz; have ZF := hide hz1; have ZO := hide hz2; clear hz1 hz2)
      | fail)
    try go_wp2
    go_meet
    exact ⟨rfl, ZF, ZO⟩
  by_cases k4 : kind = 4
  · subst k4
    clear KEY
    have CALL := hide (LIS.out)
    go_wp2_with (first
      | (refine wpList_load_row rfl 31 (.tmp 3) rfl bx rfl 31 oc.toArray (0, 0) _ OB4.out Tryd.underlying31 rfl h31 ?_)
      | (go_at_call 13; refine CALL.out.mono ?_; rintro e z ⟨rfl, hz⟩; obtain ⟨hz1, hz2⟩ := hz; have ZF := hide hz1; have ZO := hide hz2; clear hz1 hz2)
      | fail)
    try go_wp2
    go_meet
    exact ⟨rfl, ZF, ZO⟩
  by_cases k5 : kind = 5
  · subst k5
    clear LIS
    have CALL := hide (KEY.out)
    have c4 := (OB4.out.cell 4).trans O4.h
    go_wp2_with (first
      | (go_at_call 14; refine CALL.out.mono ?_; rintro e z ⟨rfl, hz⟩; obtain ⟨hz1, hz2⟩ := hz; have ZF := hide hz1; have ZO := hide hz2; clear hz1 hz2)
      | fail)
    clear c4
    try go_wp2
    go_meet
    exact ⟨rfl, ZF, ZO⟩
  clear LIS KEY
  have ZF : Hid (Fx (fun k => k < bx) y0 y0) := hide (Fx.refl _ _)
  have ZO := Y4
  try go_wp2
  go_meet
  exact ⟨rfl, ZF, ZO⟩
end Go.Proofs.YtablmkijlpoaaabDoor
