import Derived.Test.YtnakeieeopbeiaaGoG
set_option linter.unusedVariables false
set_option linter.unusedSimpArgs false
namespace Go.Proofs.Ytnakeieeopbeiaa
open Go.RowKit

theorem results_twoN {P : Program} {fn : Func} {p q : Tmp} {ty : TypeId} (h : fn.results = #[.cell p ty, .tmp q]) (tmps : Array Value) (w : World) (g : Nat) (t : TypeId) (cs : Array Value) (fr : Nat × Nat) (d : TypeDesc) (v : Value)
    (hp : tmps.getD p undef = .pointer (some ⟨g, 0, none⟩)) (hq : tmps.getD q undef = v) (hg : w.heap[g]? = some (.cells cs t fr))
    (hu : P.underlying ty = some d) (hd : (match d with | .struct _ | .array _ _ => true | _ => false) = true) (hi : (P.info? ty).map (·.size) = some cs.size) :
    (results fn tmps).run P w = .ok (.tuple #[.agg cs, v]) w := by
  have hp' : tmps[p]?.getD undef = .pointer (some ⟨g, 0, none⟩) := by simpa using hp
  have hq' : tmps[q]?.getD undef = v := by simpa using hq
  simp [results, h, hp', hq', asAddr, run_loadVar_row w g t ty cs fr d hg hu hd hi]
theorem EW.returnsCT {P : Program} {n : Nat} {e : List (Nat × Value)} {w : World} {fn : Func} {R : Ending → World → Prop} {t u : Nat} {ty ty' : TypeId} {g : Nat} {cs : List Value} {v : Value} {d : TypeDesc} (hres : fn.results = #[.cell t ty, .tmp u]) (hv : e.lookup t = some (.pointer (some ⟨g, 0, none⟩))) (hv' : e.lookup u = some v) (hg : Blk w g cs ty') (hu : P.underlying ty = some d) (hd : (match d with | .struct _ | .array _ _ => true | _ => false) = true) (hi : (P.info? ty).map (·.size) = some cs.length) (h : R (.returned (.tuple #[.agg cs.toArray, v])) w) : ∀ a, Env n a e → bodyPost P fn R .ret a w := fun a ha =>
  bodyPost_ret (v := .tuple #[.agg cs.toArray, v]) (results_twoN hres a.tmps w g ty' cs.toArray (0, 0) d v (ha.kn t _ hv) (ha.kn u _ hv') hg hu hd (by simpa using hi)) ha.df h
theorem WL.build0 {P : Program} {n : Nat} {ops : Array Oper} {i : Nat} {ty : TypeId} {ps : String} {af : Array Edge} {gd : Option (Nat × Bool)} {e : List (Nat × Value)} {w : World} {Q : Exit → Act → World → Prop} {r : List Oper} {t : TypeId} {v : Value} (hw : wantE ops e ⟨some i, .build t #[], ty, ps, af, gd⟩ = some true) (hi : decide (i < n) = true) (hr : (Instr.build t #[]).run P w = .ok v w) (k : WL P n ops Q r ((i, v) :: e) w) : WL P n ops Q (⟨some i, .build t #[], ty, ps, af, gd⟩ :: r) e w :=
  WL.op i v hw rfl hi (fun a ha => by
    simp only [execOp, List.map_toArray, List.map_nil, Sem.run_bind, hr, Result.andThen_ok, Sem.run_pure]) k
theorem build49 (W : World) : (Instr.build 49 #[]).run Try.prog W = .ok (.agg (dv z16).toArray) W := by kernel_rfl
def fF : List UInt8 := List.replicate 32 255
theorem fF_len : fF.length = 32 := by simp [fF]
theorem fF_getD (t : Nat) (h : t < 32) : fF.getD t 0 = UInt8.ofNat 255 := by
  rw [List.getD_eq_getElem?_getD, fF, List.getElem?_replicate, if_pos h]; rfl
def fK (u v : Nat) : List UInt8 := (fF.set 0 (UInt8.ofNat u)).set 31 (UInt8.ofNat v)
theorem fK_len (u v : Nat) : (fK u v).length = 32 := by simp [fK, fF]
def sqB (a : List Nat) (r : Nat) : Bool := decide (numD (r * r % PP) = a)
def sq0 (a : List Nat) : Nat := pN (dpre a 16) (fK 254 15) 256
def sq1 (a : List Nat) : Nat := if sqB a (sq0 a) = true then sq0 a else sq0 a * pN 2 (fK 251 31) 256 % PP
def negD (r : Nat) : List Nat := numD (dpre (minD primeD (numD r) 16) 16 % PP)
def sqR (a : List Nat) (r : Nat) : List Nat × Bool := if sqB a r = true then (if (numD r).getD 0 0 % 2 = 1 then negD r else numD r, true) else (z16, false)
theorem sq0_lt (a : List Nat) : sq0 a < PP := pN_lt _ _ _
theorem mul_of {r s : Nat} (hr : r < PP) (hs : s < PP) (W : World) : Calls Try.prog 41 #[.agg (dv (numD r)).toArray, .agg (dv (numD s)).toArray] W fun e w' => e = .returned (.agg (dv (numD (r * s % PP))).toArray) ∧ Below W.heap.size W w' := by
  have h := mul_num (numD r) (numD s) (numD_nm r) (numD_nm s) W
  rw [num_of hr, num_of hs] at h
  exact h
def s1E (n : Nat) (t : Nat) : List (Nat × Value) := [(1, .pointer (some ⟨n, 0, none⟩)), (2, .pointer (some ⟨n + 1, 0, none⟩)), (4, .pointer (some ⟨n + 2, 0, none⟩)), (5, .int .i64 (t : Int))]
def S1R (n : Nat) (a : List Nat) (w : World) (t : Nat) (w' : World) : Prop := t ≤ 32 ∧ Blk w' n (dv a) 49 ∧ Blk w' (n + 1) (dv z16) 49 ∧ Blk w' (n + 2) ((cpB fF t).map byt) 22 ∧ Below n w w'
def s2E (n g h : Nat) (t : Nat) : List (Nat × Value) := [(1, .pointer (some ⟨n, 0, none⟩)), (2, .pointer (some ⟨n + 1, 0, none⟩)), (6, .pointer (some ⟨g, 0, none⟩)), (7, .pointer (some ⟨h, 0, none⟩)), (8, .int .i64 (t : Int))]
def S2R (n g h : Nat) (a : List Nat) (r : Nat) (w : World) (t : Nat) (w' : World) : Prop := t ≤ 32 ∧ Blk w' n (dv a) 49 ∧ Blk w' (n + 1) (dv z16) 49 ∧ Blk w' g (dv (numD r)) 49 ∧ Blk w' h ((cpB fF t).map byt) 22 ∧ Below n w w'
theorem cpF_end : cpB fF 32 = fF := by unfold cpB; rw [List.take_of_length_le (by rw [fF_len]; exact Nat.le_refl _)]; simp
theorem fill {w : World} {g : Nat} (L : List UInt8) (hL : L.length = 32) (t v : Nat) (ht : t < 32) (hv : v < 256) (hb : Blk w g (L.map byt) 22) : (Instr.storeAt 5 (.pointer (some ⟨g, t, none⟩)) (.int .u8 (v : Int))).run Try.prog w = .ok () (w.setCell ⟨g, t, none⟩ (.int .u8 (v : Int))) ∧ Blk (w.setCell ⟨g, t, none⟩ (.int .u8 (v : Int))) g ((L.set t (UInt8.ofNat v)).map byt) 22 := by
  have h1 := (hb.cell t).trans (byt_at _ t (by omega))
  have h2 := hb.set t (.int .u8 (v : Int))
  rw [byt_setN _ _ _ hv] at h2
  exact ⟨st5 h1 (hb.frozen t), h2⟩
theorem below_cell {n : Nat} {w w' : World} (h : Below n w w') (g j : Nat) (v : Value) (hg : n ≤ g) (hs : n ≤ w'.heap.size) : Below n w (w'.setCell ⟨g, j, none⟩ v) := h.trans ((Fx.setCell (S := fun k => k = g) w' g j v rfl).below (B := n) (fun k hk e => by omega) hs)
set_option maxRecDepth 100000 in
set_option maxHeartbeats 1000000 in
theorem sqrt_num (a : List Nat) (ha : Nm a) (w : World) : Calls Try.prog 52 #[.agg (dv a).toArray] w fun e w' => e = .returned (.tuple #[.agg (dv (sqR a (sq1 a)).1).toArray, .bool (sqR a (sq1 a)).2]) ∧ Below w.heap.size w w' := by
  obtain ⟨w1, w2, r1, r2, ba, bz, hs2, be2⟩ := two49 (w := w) a
  obtain ⟨w3, hw3⟩ : ∃ w3, w2.alloc (.cells (z32.map byt).toArray 22) = w3 := ⟨_, rfl⟩
  have b3 : Blk w3 w2.heap.size (z32.map byt) 22 := by rw [← hw3]; exact Blk.new _ _ _
  have e3 : Below w2.heap.size w2 w3 := by rw [← hw3]; exact below_new _ _
  have r3 := new22 w2
  rw [hw3] at r3
  have ba3 := ba.on e3
  have bz3 := bz.on e3
  have be3 := be2.trans (e3.mono (by omega))
  obtain ⟨n, hn⟩ : ∃ n, w.heap.size = n := ⟨_, rfl⟩
  rw [hs2] at r3 b3
  rw [hn] at r1 r2 r3 ba3 bz3 b3 be3
  rw [hn]
  refine calls_of_args [.agg (dv a).toArray] Try.func52 rfl 51 Try.ntmps52 (by show 1 ≤ 51; decide) ?_
  refine EW.seq ?_
  refine EW.region ?_
  refine WL.box rfl rfl rfl r1 ?_
  refine WL.new rfl rfl r2 ?_
  first | refine WL.assign rfl rfl rfl ?_
  refine WL.done ?_
  refine EW.on ?_
  refine EW.seq ?_
  refine EW.region ?_
  refine WL.new rfl rfl r3 ?_
  refine WL.done ?_
  refine EW.on ?_
  refine EW.seq ?_
  refine EW.seq ?_
  refine EW.region ?_
  first | refine WL.assign rfl rfl rfl ?_
  refine WL.done ?_
  refine EW.on ?_
  refine EW.block ?_
  refine EW.loop (s1E n) (S1R n a w) (fun t => 32 - t) 0 [1, 2, 4, 5] rfl ⟨by decide, ba3, bz3, b3, be3⟩ ?_
  clear r1 r2 r3 ba bz ba3 bz3 b3 be3 be2 hs2 e3 hw3
  rintro t wr ⟨ht, ba, bz, bx, hbe⟩
  have hxl := bx.lt
  show EW _ _ _ _ [(1, .pointer (some ⟨n, 0, none⟩)), (2, .pointer (some ⟨n + 1, 0, none⟩)), (4, .pointer (some ⟨n + 2, 0, none⟩)), (5, .int .i64 (t : Int))] _
  by_cases h1 : t < 32
  · have z1 : (t : Int) < 32 := by omega
    have tn := tnD t (by omega)
    obtain ⟨hst, bx4⟩ := fill (cpB fF t) (cpB_length fF t fF_len ht) t 255 h1 (by decide) bx
    have hnx := cpB_next fF t fF_len h1
    rw [fF_getD t h1] at hnx
    rw [← hnx] at bx4
    refine EW.seq ?_
    refine EW.seq ?_
    refine EW.region ?_
    first | refine WL.move rfl rfl rfl ?_
    refine WL.bin rfl rfl rfl rfl (int_lt_t z1 _ _ _) ?_
    refine WL.done ?_
    refine EW.on ?_
    refine EW.cond_t rfl ?_
    refine EW.skip ?_
    refine EW.on ?_
    refine EW.seq ?_
    refine EW.block ?_
    refine EW.region ?_
    first | refine WL.move rfl rfl rfl ?_
    refine WL.index rfl rfl rfl rfl (idx22 (n + 2) t h1 _) ?_
    refine WL.store rfl rfl rfl hst ?_
    refine WL.done ?_
    refine pn_block ?_
    refine EW.on ?_
    refine EW.region ?_
    first | refine WL.move rfl rfl rfl ?_
    refine WL.bin rfl rfl rfl rfl (int_add tn _ _ _) ?_
    first | refine WL.assign rfl rfl rfl ?_
    refine WL.done ?_
    refine EW.again (E := s1E n) (R := S1R n a w) (m := fun t => 32 - t) (x := t) (t + 1) [1, 2, 4, 5] rfl ⟨by omega, ba.setOther _ _ _ (by omega), bz.setOther _ _ _ (by omega), bx4, below_cell hbe _ _ _ (by omega) (by omega)⟩ (by show 32 - (t + 1) < 32 - t; omega)
  · have z1 : ¬ (t : Int) < 32 := by omega
    obtain rfl : t = 32 := by omega
    rw [cpF_end] at bx
    obtain ⟨hst0, bx4⟩ := fill fF fF_len 0 254 (by decide) (by decide) bx
    have ba4 := ba.setOther (n + 2) 0 (.int .u8 ((254 : Nat) : Int)) (by omega)
    have bz4 := bz.setOther (n + 2) 0 (.int .u8 ((254 : Nat) : Int)) (by omega)
    have be4 := below_cell hbe (n + 2) 0 (.int .u8 ((254 : Nat) : Int)) (by omega) (by omega)
    obtain ⟨w4, hw4⟩ : ∃ w4, wr.setCell ⟨n + 2, 0, none⟩ (.int .u8 ((254 : Nat) : Int)) = w4 := ⟨_, rfl⟩
    rw [hw4] at hst0 bx4 ba4 bz4 be4
    have hx4 := bx4.lt
    obtain ⟨hst1, bx5⟩ := fill (fF.set 0 (UInt8.ofNat 254)) (by rw [List.length_set]; exact fF_len) 31 15 (by decide) (by decide) bx4
    have ba5 := ba4.setOther (n + 2) 31 (.int .u8 ((15 : Nat) : Int)) (by omega)
    have bz5 := bz4.setOther (n + 2) 31 (.int .u8 ((15 : Nat) : Int)) (by omega)
    have be5 := below_cell be4 (n + 2) 31 (.int .u8 ((15 : Nat) : Int)) (by omega) (by omega)
    obtain ⟨w5, hw5⟩ : ∃ w5, w4.setCell ⟨n + 2, 31, none⟩ (.int .u8 ((15 : Nat) : Int)) = w5 := ⟨_, rfl⟩
    rw [hw5] at hst1 bx5 ba5 bz5 be5
    have hx5 := bx5.lt
    have bx5 : Blk w5 (n + 2) ((fK 254 15).map byt) 22 := bx5
    have hpw := pow_num a (fK 254 15) ha (fK_len _ _) w5
    rw [show pN (dpre a 16) (fK 254 15) 256 = sq0 a from rfl] at hpw
    have hr0 := sq0_lt a
    have hs1 : sq1 a = if sqB a (sq0 a) = true then sq0 a else sq0 a * pN 2 (fK 251 31) 256 % PP := rfl
    obtain ⟨r0, hr0e⟩ : ∃ r0, sq0 a = r0 := ⟨_, rfl⟩
    rw [hr0e] at hpw hr0 hs1
    refine EW.seq ?_
    refine EW.seq ?_
    refine EW.region ?_
    first | refine WL.move rfl rfl rfl ?_
    refine WL.bin rfl rfl rfl rfl (int_lt_f z1 _ _ _) ?_
    refine WL.done ?_
    refine EW.on ?_
    refine EW.cond_f rfl ?_
    refine EW.exit ?_
    repeat refine px_then ?_
    refine px_block ?_
    refine EW.on ?_
    refine EW.seq ?_
    refine EW.region ?_
    refine WL.index rfl rfl rfl rfl (idx22 (n + 2) 0 (by decide) _) ?_
    refine WL.store rfl rfl rfl hst0 ?_
    refine WL.done ?_
    refine EW.on ?_
    refine EW.seq ?_
    refine EW.region ?_
    refine WL.index rfl rfl rfl rfl (idx22 (n + 2) 31 (by decide) _) ?_
    refine WL.store rfl rfl rfl hst1 ?_
    refine WL.done ?_
    refine EW.on ?_
    refine EW.seq ?_
    refine EW.region ?_
    refine WL.load rfl rfl rfl (ld49 ha.ln ba5) ?_
    refine WL.load rfl rfl rfl (ld22 (fK_len _ _) bx5) ?_
    refine WL.call [.agg (dv a).toArray, .agg ((fK 254 15).map byt).toArray] enter50 rfl rfl rfl hpw ?_
    rintro x w6 ⟨rfl, hb6⟩
    refine ⟨_, rfl, ?_⟩
    obtain ⟨g, hg⟩ : ∃ g, w6.heap.size = g := ⟨_, rfl⟩
    have hs6 := hb6.size
    have hnew := new49 w6
    have hbg := Blk.new w6 (dv z16) 49
    have e7 : Below w6.heap.size w6 (w6.alloc (.cells (dv z16).toArray 49)) := below_new _ _
    have hst := st49 z16_length (numD_length r0) hbg
    have ba7 := ((ba5.on hb6).on e7).setRowOther w6.heap.size (dv (numD r0)).toArray (by omega)
    have bz7 := ((bz5.on hb6).on e7).setRowOther w6.heap.size (dv (numD r0)).toArray (by omega)
    have bg7 := hbg.setRow (dv (numD r0))
    have be7 := below_setRow ((be5.trans (hb6.mono (by omega))).trans (e7.mono (by omega))) w6.heap.size (dv (numD r0)).toArray (by omega)
    rw [hg] at hnew hst ba7 bz7 bg7 be7
    refine WL.new rfl rfl hnew ?_
    refine WL.store rfl rfl rfl hst ?_
    refine WL.done ?_
    obtain ⟨w7, hw7⟩ : ∃ w7, (w6.alloc (.cells (dv z16).toArray 49)).setRow g (dv (numD r0)).toArray = w7 := ⟨_, rfl⟩
    rw [hw7] at ba7 bz7 bg7 be7
    rw [hw7]
    have hg7 := bg7.lt
    clear hnew hbg e7 hst hpw hst0 hst1 bx4 ba4 bz4 be4 bx5 ba5 bz5 be5 bx ba bz hbe
    refine EW.on ?_
    refine EW.seq ?_
    refine EW.seq ?_
    have hr0' := hr0
    refine EW.allT (by kernel_rfl) (by kernel_rfl) ?_
    refine LE.row rfl rfl (fun W hW => bg7.on hW) Try.underlying49 rfl (info49 (numD_length _)) ?_
    refine LE.row rfl rfl (fun W hW => bg7.on hW) Try.underlying49 rfl (info49 (numD_length _)) ?_
    refine LE.call [.agg (dv (numD r0)).toArray, .agg (dv (numD r0)).toArray] enter41 rfl rfl (fun W _ => mul_of hr0 hr0 W) ?_
    refine LE.row rfl rfl (fun W hW => ba7.on hW) Try.underlying49 rfl (info49 ha.ln) ?_
    refine LE.bin rfl rfl rfl (fun W => neq49 (numD (r0 * r0 % PP)) a (numD_length _) ha.ln (sqB a r0) rfl W _ _) ?_
    intro WA hWA
    have baA := ba7.on hWA
    have bzA := bz7.on hWA
    have bgA := bg7.on hWA
    have hsA := hWA.size
    have beA := be7.trans (hWA.mono (by omega))
    have hgA := bgA.lt
    cases hA : sqB a r0 with
    | true =>
      rw [hA, if_pos rfl] at hs1
      refine EW.on ?_
      refine EW.cond_f rfl ?_
      refine EW.skip ?_
      refine EW.on ?_
      refine EW.seq ?_
      refine EW.seq ?_
      refine EW.allT (by kernel_rfl) (by kernel_rfl) ?_
      refine LE.row rfl rfl (fun W hW => bgA.on hW) Try.underlying49 rfl (info49 (numD_length _)) ?_
      refine LE.row rfl rfl (fun W hW => bgA.on hW) Try.underlying49 rfl (info49 (numD_length _)) ?_
      refine LE.call [.agg (dv (numD r0)).toArray, .agg (dv (numD r0)).toArray] enter41 rfl rfl (fun W _ => mul_of hr0 hr0 W) ?_
      refine LE.row rfl rfl (fun W hW => baA.on hW) Try.underlying49 rfl (info49 ha.ln) ?_
      refine LE.bin rfl rfl rfl (fun W => neq49 (numD (r0 * r0 % PP)) a (numD_length _) ha.ln (sqB a r0) rfl W _ _) ?_
      intro W8 hW8
      have ba8 := baA.on hW8
      have bz8 := bzA.on hW8
      have bg8 := bgA.on hW8
      have hs8 := hW8.size
      have be8 := beA.trans (hW8.mono (by omega))
      rw [hs1]
      have hqR : sqR a r0 = if sqB a r0 = true then (if (numD r0).getD 0 0 % 2 = 1 then negD r0 else numD r0, true) else (z16, false) := rfl
      cases hB : sqB a r0 with
      | false =>
        rw [hB, if_neg (by decide)] at hqR
        refine EW.on ?_
        refine EW.cond_t rfl ?_
        refine EW.seq ?_
        refine EW.region ?_
        refine WL.build0 rfl rfl (build49 _) ?_
        refine WL.store rfl rfl rfl (st49 z16_length z16_length bz8) ?_
        first | refine WL.assign rfl rfl rfl ?_
        refine WL.done ?_
        refine EW.on ?_
        refine EW.ret ?_
        repeat (first | refine pr_then ?_ | refine pr_block ?_)
        exact EW.returnsCT Try.results52 rfl rfl (bz8.setRow (dv z16)) Try.underlying49 rfl (info49 z16_length) ⟨by rw [hqR], below_setRow be8 (n + 1) _ (by omega)⟩
      | true =>
        rw [hB, if_pos rfl] at hqR
        have hd0 := numD_dig r0 0
        have c0 : W8.cell? ⟨g, 0, none⟩ = some (.int .i64 (((numD r0).getD 0 0 : Nat) : Int)) := (bg8.cell 0).trans (dv_at _ 0 (by rw [numD_length]; decide))
        refine EW.on ?_
        refine EW.cond_f rfl ?_
        refine EW.skip ?_
        refine EW.on ?_
        refine EW.seq ?_
        refine EW.seq ?_
        by_cases hp : (numD r0).getD 0 0 % 2 = 1
        · rw [if_pos hp] at hqR
          have zp : (((numD r0).getD 0 0 % 2 : Nat) : Int) = 1 := by omega
          have hng := neg_num (numD r0) (numD_nm r0) W8
          refine EW.region ?_
          refine WL.index rfl rfl rfl rfl (idx49 g 0 (by decide) _) ?_
          refine WL.load rfl rfl rfl (ld3 c0) ?_
          refine WL.bin rfl rfl rfl rfl (remN _ 2 (by decide) _ _ _ (by decide)) ?_
          refine WL.bin rfl rfl rfl rfl (int_eq_t zp _ _ _) ?_
          refine WL.done ?_
          refine EW.on ?_
          refine EW.cond_t rfl ?_
          refine EW.region ?_
          refine WL.load rfl rfl rfl (ld49 (numD_length _) bg8) ?_
          refine WL.call [.agg (dv (numD r0)).toArray] enter49 rfl rfl rfl hng ?_
          rintro x w9 ⟨rfl, hb9⟩
          refine ⟨_, rfl, ?_⟩
          refine WL.store rfl rfl rfl (st49 (numD_length _) (numD_length _) (bg8.on hb9)) ?_
          refine WL.done ?_
          refine EW.on ?_
          have hs9 := hb9.size
          have bz9 := (bz8.on hb9).setRowOther g (dv (negD r0)).toArray (by omega)
          have bg9 := (bg8.on hb9).setRow (dv (negD r0))
          have be9 := below_setRow (be8.trans (hb9.mono (by omega))) g (dv (negD r0)).toArray (by omega)
          refine EW.seq ?_
          refine EW.region ?_
          refine WL.load rfl rfl rfl (ld49 (numD_length _) bg9) ?_
          refine WL.store rfl rfl rfl (st49 z16_length (numD_length _) bz9) ?_
          first | refine WL.assign rfl rfl rfl ?_
          refine WL.done ?_
          refine EW.on ?_
          refine EW.ret ?_
          repeat (first | refine pr_then ?_ | refine pr_block ?_)
          exact EW.returnsCT Try.results52 rfl rfl (bz9.setRow (dv (negD r0))) Try.underlying49 rfl (info49 (numD_length _)) ⟨by rw [hqR], below_setRow be9 (n + 1) _ (by omega)⟩
        · rw [if_neg hp] at hqR
          have zp : ¬ (((numD r0).getD 0 0 % 2 : Nat) : Int) = 1 := by omega
          refine EW.region ?_
          refine WL.index rfl rfl rfl rfl (idx49 g 0 (by decide) _) ?_
          refine WL.load rfl rfl rfl (ld3 c0) ?_
          refine WL.bin rfl rfl rfl rfl (remN _ 2 (by decide) _ _ _ (by decide)) ?_
          refine WL.bin rfl rfl rfl rfl (int_eq_f zp _ _ _) ?_
          refine WL.done ?_
          refine EW.on ?_
          refine EW.cond_f rfl ?_
          refine EW.skip ?_
          refine EW.on ?_
          refine EW.seq ?_
          refine EW.region ?_
          refine WL.load rfl rfl rfl (ld49 (numD_length _) bg8) ?_
          refine WL.store rfl rfl rfl (st49 z16_length (numD_length _) bz8) ?_
          first | refine WL.assign rfl rfl rfl ?_
          refine WL.done ?_
          refine EW.on ?_
          refine EW.ret ?_
          repeat (first | refine pr_then ?_ | refine pr_block ?_)
          exact EW.returnsCT Try.results52 rfl rfl (bz8.setRow (dv (numD r0))) Try.underlying49 rfl (info49 (numD_length _)) ⟨by rw [hqR], below_setRow be8 (n + 1) _ (by omega)⟩
    | false =>
      rw [hA, if_neg (by decide)] at hs1
      have r8 := new22 WA
      have bh := Blk.new WA (z32.map byt) 22
      have e8 : Below WA.heap.size WA (WA.alloc (.cells (z32.map byt).toArray 22)) := below_new _ _
      have baB := baA.on e8
      have bzB := bzA.on e8
      have bgB := bgA.on e8
      have beB := beA.trans (e8.mono (by omega))
      obtain ⟨h, hh⟩ : ∃ h, WA.heap.size = h := ⟨_, rfl⟩
      rw [hh] at r8 bh hgA
      refine EW.on ?_
      refine EW.cond_t rfl ?_
      refine EW.seq ?_
      refine EW.region ?_
      refine WL.new rfl rfl r8 ?_
      refine WL.done ?_
      refine EW.on ?_
      refine EW.seq ?_
      refine EW.seq ?_
      refine EW.region ?_
      first | refine WL.assign rfl rfl rfl ?_
      refine WL.done ?_
      refine EW.on ?_
      refine EW.block ?_
      refine EW.loop (s2E n g h) (S2R n g h a r0 w) (fun t => 32 - t) 0 [1, 2, 6, 7, 8] rfl ⟨by decide, baB, bzB, bgB, bh, beB⟩ ?_
      clear r8 bh e8 baB bzB bgB beB baA bzA bgA beA
      rintro t wr ⟨ht, ba, bz, bg, bx, hbe⟩
      have hxl := bx.lt
      show EW _ _ _ _ [(1, .pointer (some ⟨n, 0, none⟩)), (2, .pointer (some ⟨n + 1, 0, none⟩)), (6, .pointer (some ⟨g, 0, none⟩)), (7, .pointer (some ⟨h, 0, none⟩)), (8, .int .i64 (t : Int))] _
      by_cases h1 : t < 32
      · have z1 : (t : Int) < 32 := by omega
        have tn := tnD t (by omega)
        obtain ⟨hst, bx4⟩ := fill (cpB fF t) (cpB_length fF t fF_len ht) t 255 h1 (by decide) bx
        have hnx := cpB_next fF t fF_len h1
        rw [fF_getD t h1] at hnx
        rw [← hnx] at bx4
        refine EW.seq ?_
        refine EW.seq ?_
        refine EW.region ?_
        first | refine WL.move rfl rfl rfl ?_
        refine WL.bin rfl rfl rfl rfl (int_lt_t z1 _ _ _) ?_
        refine WL.done ?_
        refine EW.on ?_
        refine EW.cond_t rfl ?_
        refine EW.skip ?_
        refine EW.on ?_
        refine EW.seq ?_
        refine EW.block ?_
        refine EW.region ?_
        first | refine WL.move rfl rfl rfl ?_
        refine WL.index rfl rfl rfl rfl (idx22 h t h1 _) ?_
        refine WL.store rfl rfl rfl hst ?_
        refine WL.done ?_
        refine pn_block ?_
        refine EW.on ?_
        refine EW.region ?_
        first | refine WL.move rfl rfl rfl ?_
        refine WL.bin rfl rfl rfl rfl (int_add tn _ _ _) ?_
        first | refine WL.assign rfl rfl rfl ?_
        refine WL.done ?_
        refine EW.again (E := s2E n g h) (R := S2R n g h a r0 w) (m := fun t => 32 - t) (x := t) (t + 1) [1, 2, 6, 7, 8] rfl ⟨by omega, ba.setOther _ _ _ (by omega), bz.setOther _ _ _ (by omega), bg.setOther _ _ _ (by omega), bx4, below_cell hbe _ _ _ (by omega) (by omega)⟩ (by show 32 - (t + 1) < 32 - t; omega)
      · have z1 : ¬ (t : Int) < 32 := by omega
        obtain rfl : t = 32 := by omega
        rw [cpF_end] at bx
        obtain ⟨hst0, bx4⟩ := fill fF fF_len 0 251 (by decide) (by decide) bx
        have ba4 := ba.setOther h 0 (.int .u8 ((251 : Nat) : Int)) (by omega)
        have bz4 := bz.setOther h 0 (.int .u8 ((251 : Nat) : Int)) (by omega)
        have bg4 := bg.setOther h 0 (.int .u8 ((251 : Nat) : Int)) (by omega)
        have be4 := below_cell hbe h 0 (.int .u8 ((251 : Nat) : Int)) (by omega) (by omega)
        obtain ⟨w4, hw4⟩ : ∃ w4, wr.setCell ⟨h, 0, none⟩ (.int .u8 ((251 : Nat) : Int)) = w4 := ⟨_, rfl⟩
        rw [hw4] at hst0 bx4 ba4 bz4 bg4 be4
        have hx4 := bx4.lt
        obtain ⟨hst1, bx5⟩ := fill (fF.set 0 (UInt8.ofNat 251)) (by rw [List.length_set]; exact fF_len) 31 31 (by decide) (by decide) bx4
        have ba5 := ba4.setOther h 31 (.int .u8 ((31 : Nat) : Int)) (by omega)
        have bz5 := bz4.setOther h 31 (.int .u8 ((31 : Nat) : Int)) (by omega)
        have bg5 := bg4.setOther h 31 (.int .u8 ((31 : Nat) : Int)) (by omega)
        have be5 := below_cell be4 h 31 (.int .u8 ((31 : Nat) : Int)) (by omega) (by omega)
        obtain ⟨w5, hw5⟩ : ∃ w5, w4.setCell ⟨h, 31, none⟩ (.int .u8 ((31 : Nat) : Int)) = w5 := ⟨_, rfl⟩
        rw [hw5] at hst1 bx5 ba5 bz5 bg5 be5
        have hx5 := bx5.lt
        have bx5 : Blk w5 h ((fK 251 31).map byt) 22 := bx5
        have hpw : ∀ W, Calls Try.prog 50 #[.agg (dv (numD 2)).toArray, .agg ((fK 251 31).map byt).toArray] W fun e w' => e = .returned (.agg (dv (numD (pN 2 (fK 251 31) 256))).toArray) ∧ Below W.heap.size W w' := fun W => by
          have h := pow_num (numD 2) (fK 251 31) (numD_nm 2) (fK_len _ _) W
          rw [num_of (show 2 < PP by decide)] at h
          exact h
        have hp2 := pN_lt 2 (fK 251 31) 256
        obtain ⟨c, hc⟩ : ∃ c, pN 2 (fK 251 31) 256 = c := ⟨_, rfl⟩
        rw [hc] at hpw hp2 hs1
        obtain ⟨r1, hr1e⟩ : ∃ r1, r0 * c % PP = r1 := ⟨_, rfl⟩
        have hr1 : r1 < PP := by rw [← hr1e]; exact Nat.mod_lt _ PP_pos
        have hmu : ∀ W, Calls Try.prog 41 #[.agg (dv (numD r0)).toArray, .agg (dv (numD c)).toArray] W fun e w' => e = .returned (.agg (dv (numD r1)).toArray) ∧ Below W.heap.size W w' := fun W => by rw [← hr1e]; exact mul_of hr0 hp2 W
        rw [hr1e] at hs1
        refine EW.seq ?_
        refine EW.seq ?_
        refine EW.region ?_
        first | refine WL.move rfl rfl rfl ?_
        refine WL.bin rfl rfl rfl rfl (int_lt_f z1 _ _ _) ?_
        refine WL.done ?_
        refine EW.on ?_
        refine EW.cond_f rfl ?_
        refine EW.exit ?_
        repeat refine px_then ?_
        refine px_block ?_
        refine EW.on ?_
        refine EW.seq ?_
        refine EW.region ?_
        refine WL.index rfl rfl rfl rfl (idx22 h 0 (by decide) _) ?_
        refine WL.store rfl rfl rfl hst0 ?_
        refine WL.done ?_
        refine EW.on ?_
        refine EW.seq ?_
        refine EW.region ?_
        refine WL.index rfl rfl rfl rfl (idx22 h 31 (by decide) _) ?_
        refine WL.store rfl rfl rfl hst1 ?_
        refine WL.done ?_
        refine EW.on ?_
        refine EW.putT (by kernel_rfl) 5 rfl rfl (by kernel_rfl) rfl rfl 49 (.tmp 6) (.tmp 37) rfl ?_
        simp only [List.take_succ_cons, List.take_zero]
        refine LE.row rfl rfl (fun W hW => bg5.on hW) Try.underlying49 rfl (info49 (numD_length _)) ?_
        refine LE.call [.int .u64 2] enter38 rfl rfl (fun W _ => int_num 2 (by decide) W) ?_
        refine LE.row rfl rfl (fun W hW => bx5.on hW) Try.underlying22 rfl (info22 (fK_len _ _)) ?_
        refine LE.call [.agg (dv (numD 2)).toArray, .agg ((fK 251 31).map byt).toArray] enter50 rfl rfl (fun W _ => hpw W) ?_
        refine LE.call [.agg (dv (numD r0)).toArray, .agg (dv (numD c)).toArray] enter41 rfl rfl (fun W _ => hmu W) ?_
        refine ⟨g, _, dv (numD r0), 49, rfl, rfl, bg5, info49 (numD_length _), by rw [dv_length, dv_length, numD_length, numD_length], dv_one _, ?_⟩
        intro WC hWC
        have hsC := hWC.size
        have baC := (ba5.on hWC).setRowOther g (dv (numD r1)).toArray (by omega)
        have bzC := (bz5.on hWC).setRowOther g (dv (numD r1)).toArray (by omega)
        have bgC := (bg5.on hWC).setRow (dv (numD r1))
        have beC := below_setRow (be5.trans (hWC.mono (by omega))) g (dv (numD r1)).toArray (by omega)
        have hgC := bgC.lt
        refine EW.on ?_
        refine EW.seq ?_
        refine EW.seq ?_
        refine EW.allT (by kernel_rfl) (by kernel_rfl) ?_
        refine LE.row rfl rfl (fun W hW => bgC.on hW) Try.underlying49 rfl (info49 (numD_length _)) ?_
        refine LE.row rfl rfl (fun W hW => bgC.on hW) Try.underlying49 rfl (info49 (numD_length _)) ?_
        refine LE.call [.agg (dv (numD r1)).toArray, .agg (dv (numD r1)).toArray] enter41 rfl rfl (fun W _ => mul_of hr1 hr1 W) ?_
        refine LE.row rfl rfl (fun W hW => baC.on hW) Try.underlying49 rfl (info49 ha.ln) ?_
        refine LE.bin rfl rfl rfl (fun W => neq49 (numD (r1 * r1 % PP)) a (numD_length _) ha.ln (sqB a r1) rfl W _ _) ?_
        intro W8 hW8
        have ba8 := baC.on hW8
        have bz8 := bzC.on hW8
        have bg8 := bgC.on hW8
        have hs8 := hW8.size
        have be8 := beC.trans (hW8.mono (by omega))
        rw [hs1]
        have hqR : sqR a r1 = if sqB a r1 = true then (if (numD r1).getD 0 0 % 2 = 1 then negD r1 else numD r1, true) else (z16, false) := rfl
        cases hB : sqB a r1 with
        | false =>
          rw [hB, if_neg (by decide)] at hqR
          refine EW.on ?_
          refine EW.cond_t rfl ?_
          refine EW.seq ?_
          refine EW.region ?_
          refine WL.build0 rfl rfl (build49 _) ?_
          refine WL.store rfl rfl rfl (st49 z16_length z16_length bz8) ?_
          first | refine WL.assign rfl rfl rfl ?_
          refine WL.done ?_
          refine EW.on ?_
          refine EW.ret ?_
          repeat (first | refine pr_then ?_ | refine pr_block ?_)
          exact EW.returnsCT Try.results52 rfl rfl (bz8.setRow (dv z16)) Try.underlying49 rfl (info49 z16_length) ⟨by rw [hqR], below_setRow be8 (n + 1) _ (by omega)⟩
        | true =>
          rw [hB, if_pos rfl] at hqR
          have hd0 := numD_dig r1 0
          have c0 : W8.cell? ⟨g, 0, none⟩ = some (.int .i64 (((numD r1).getD 0 0 : Nat) : Int)) := (bg8.cell 0).trans (dv_at _ 0 (by rw [numD_length]; decide))
          refine EW.on ?_
          refine EW.cond_f rfl ?_
          refine EW.skip ?_
          refine EW.on ?_
          refine EW.seq ?_
          refine EW.seq ?_
          by_cases hp : (numD r1).getD 0 0 % 2 = 1
          · rw [if_pos hp] at hqR
            have zp : (((numD r1).getD 0 0 % 2 : Nat) : Int) = 1 := by omega
            have hng := neg_num (numD r1) (numD_nm r1) W8
            refine EW.region ?_
            refine WL.index rfl rfl rfl rfl (idx49 g 0 (by decide) _) ?_
            refine WL.load rfl rfl rfl (ld3 c0) ?_
            refine WL.bin rfl rfl rfl rfl (remN _ 2 (by decide) _ _ _ (by decide)) ?_
            refine WL.bin rfl rfl rfl rfl (int_eq_t zp _ _ _) ?_
            refine WL.done ?_
            refine EW.on ?_
            refine EW.cond_t rfl ?_
            refine EW.region ?_
            refine WL.load rfl rfl rfl (ld49 (numD_length _) bg8) ?_
            refine WL.call [.agg (dv (numD r1)).toArray] enter49 rfl rfl rfl hng ?_
            rintro x w9 ⟨rfl, hb9⟩
            refine ⟨_, rfl, ?_⟩
            refine WL.store rfl rfl rfl (st49 (numD_length _) (numD_length _) (bg8.on hb9)) ?_
            refine WL.done ?_
            refine EW.on ?_
            have hs9 := hb9.size
            have bz9 := (bz8.on hb9).setRowOther g (dv (negD r1)).toArray (by omega)
            have bg9 := (bg8.on hb9).setRow (dv (negD r1))
            have be9 := below_setRow (be8.trans (hb9.mono (by omega))) g (dv (negD r1)).toArray (by omega)
            refine EW.seq ?_
            refine EW.region ?_
            refine WL.load rfl rfl rfl (ld49 (numD_length _) bg9) ?_
            refine WL.store rfl rfl rfl (st49 z16_length (numD_length _) bz9) ?_
            first | refine WL.assign rfl rfl rfl ?_
            refine WL.done ?_
            refine EW.on ?_
            refine EW.ret ?_
            repeat (first | refine pr_then ?_ | refine pr_block ?_)
            exact EW.returnsCT Try.results52 rfl rfl (bz9.setRow (dv (negD r1))) Try.underlying49 rfl (info49 (numD_length _)) ⟨by rw [hqR], below_setRow be9 (n + 1) _ (by omega)⟩
          · rw [if_neg hp] at hqR
            have zp : ¬ (((numD r1).getD 0 0 % 2 : Nat) : Int) = 1 := by omega
            refine EW.region ?_
            refine WL.index rfl rfl rfl rfl (idx49 g 0 (by decide) _) ?_
            refine WL.load rfl rfl rfl (ld3 c0) ?_
            refine WL.bin rfl rfl rfl rfl (remN _ 2 (by decide) _ _ _ (by decide)) ?_
            refine WL.bin rfl rfl rfl rfl (int_eq_f zp _ _ _) ?_
            refine WL.done ?_
            refine EW.on ?_
            refine EW.cond_f rfl ?_
            refine EW.skip ?_
            refine EW.on ?_
            refine EW.seq ?_
            refine EW.region ?_
            refine WL.load rfl rfl rfl (ld49 (numD_length _) bg8) ?_
            refine WL.store rfl rfl rfl (st49 z16_length (numD_length _) bz8) ?_
            first | refine WL.assign rfl rfl rfl ?_
            refine WL.done ?_
            refine EW.on ?_
            refine EW.ret ?_
            repeat (first | refine pr_then ?_ | refine pr_block ?_)
            exact EW.returnsCT Try.results52 rfl rfl (bz8.setRow (dv (numD r1))) Try.underlying49 rfl (info49 (numD_length _)) ⟨by rw [hqR], below_setRow be8 (n + 1) _ (by omega)⟩
end Go.Proofs.Ytnakeieeopbeiaa
