import Derived.Test.YtacancfmgnmpiaaFix
set_option linter.unusedVariables false
set_option linter.unusedSimpArgs false
namespace Go.Proofs.Ytacancfmgnmpiaa
open Go.RowKit

/-- The bytes of the prime, but for the lowest. -/
def fullB (i : Nat) : UInt8 := if i = 31 then 127 else 255
theorem psum_full {k : List UInt8} (h : ∀ i, i < 31 → k.getD (1 + i) 0 = fullB (1 + i)) : psum k 1 31 = 226156424291633194186662080095093570025917938800079226639565593765455331327 := by
  have e : psum k 1 31 = psum ((List.range 32).map fullB) 1 31 := psum_eq 1 31 fun i hi => by
    rw [h i hi, List.getD_eq_getElem?_getD, List.getElem?_map, List.getElem?_range (by omega)]
    rfl
  rw [e]
  decide +kernel
theorem low_of_full {k : List UInt8} (h : ∀ i, i < 31 → k.getD (1 + i) 0 = fullB (1 + i)) (hk : kn k < Prm.P) : (k.getD 0 0).toNat < 237 := by
  have e : kn k = (k.getD 0 0).toNat + 256 * psum k 1 31 := by
    unfold kn
    have h := psum_add k 0 1 31
    rw [show 1 + 31 = 32 from rfl, show 0 + 1 = 1 from rfl] at h
    rw [h]
    simp [psum]
  rw [psum_full h] at e
  unfold Prm.P at hk
  omega

structure Rdc (n : Nat) (w wx : World) (k : List UInt8) : Prop where
  ke : Blk wx n (k.map byt) 24
  be : Below n w wx

set_option maxRecDepth 100000 in
set_option maxHeartbeats 4000000 in
theorem reduced_yes (k : List UInt8) (hk : k.length = 32) (hlt : kn k < Prm.P) (w : World) : Calls Try.prog 15 #[.agg (k.map byt).toArray] w fun e w' => e = .returned (.bool true) ∧ Below w.heap.size w w' := by
  have h31 : (k.getD 31 0).toNat < 128 := by
    have e := kn_ends k
    unfold Prm.P at hlt
    omega
  have hlow : (∀ i, i < 31 → k.getD (1 + i) 0 = fullB (1 + i)) → (k.getD 0 0).toNat < 237 := fun h => low_of_full h hlt
  have hcells : ∀ i, i < 32 → (k.map byt)[i]? = some (.int .u8 ((k.getD i 0).toNat : Int)) := fun i hi => byts_at k i (by omega)
  have HL := hide hlow
  have HC := hide hcells
  clear hlt hlow hcells
  go_enter Try.func15, Try.ntmps15
  go_upto_region 1 with (first | (refine wpList_boxAt rfl 24 (.tmp 0) rfl (k.map byt) rfl (w.heap.size) rfl ?_))
  have h0 : Hid (Rdc w.heap.size w (w.alloc (.cells (k.map byt).toArray 24)) k) := ⟨Blk.new w (k.map byt) 24, by go_grown⟩
  generalize w.alloc (.cells (k.map byt).toArray 24) = w1 at h0 ⊢
  obtain ⟨n, hn⟩ : ∃ n, w.heap.size = n := ⟨_, rfl⟩
  rw [hn] at h0 ⊢
  obtain ⟨t, ht⟩ : ∃ t, (k.getD 31 0).toNat = t := ⟨_, rfl⟩
  have hc31 : w1.cell? ⟨n, 31, none⟩ = some (.int .u8 (t : Int)) := by rw [h0.out.ke.cell, HC.out 31 (by omega), ht]
  have hnot : ¬ (128 : Int) ≤ (t : Int) := by omega
  have HK := hide hk
  clear hk h31 ht
  go_wp2
  clear hc31 hnot
  go_loopw [3] (fun i wr => ∃ j : Nat, j ≤ 31 ∧ i = .int .i64 (31 - (j : Int)) ∧ Hid ((∀ q, q < j → k.getD (31 - q) 0 = fullB (31 - q)) ∧ wr = w1)) (fun i _ => ((intOf i) + 1).toNat)
  case atStart => exact ⟨0, by omega, rfl, ⟨fun q hq => by omega, rfl⟩⟩
  case round =>
    obtain ⟨j, hj, rfl, hs⟩ := hrel
    obtain ⟨hf, hwr⟩ := hs.out
    subst hwr
    by_cases hlt : j < 31
    · obtain ⟨b, hb⟩ : ∃ b, b = 31 - j := ⟨_, rfl⟩
      have hbi : (31 : Int) - (j : Int) = (b : Int) := by omega
      rw [hbi]
      have hb0 : (0 : Int) < (b : Int) := by omega
      have hb32 : (b : Int) < 32 := by omega
      obtain ⟨y, hy⟩ : ∃ y, k.getD b 0 = y := ⟨_, rfl⟩
      have hcell : wr.cell? ⟨n, b, none⟩ = some (.int .u8 (y.toNat : Int)) := by rw [h0.out.ke.cell, HC.out b (by omega), hy]
      have HF := hide hf
      have HB := hide hb
      have HY := hide hy
      clear hf hb hy hbi
      by_cases h1 : b = 31
      · subst h1
        by_cases h2 : y.toNat = 127
        · have h2' : (y.toNat : Int) = 127 := by omega
          rw [h2'] at hcell
          go_wp2
          go_roundw
          case rel =>
            refine ⟨j + 1, by omega, by have hbb := HB.out; go_num, ⟨fun q hq => ?_, by first | rfl | trivial⟩⟩
            by_cases hqj : q = j
            · rw [hqj, ← HB.out, HY.out]
              exact UInt8.toNat_inj.1 h2
            · exact HF.out q (by omega)
          case measure => simp [intOf] <;> omega
        · have h2' : ¬ (y.toNat : Int) = 127 := by omega
          go_wp2
          go_ret
          exact ⟨rfl, by first | (rw [hn]; exact h0.out.be) | exact h0.out.be⟩
      · have h1' : ¬ (b : Int) = 31 := by omega
        by_cases h2 : y.toNat = 255
        · have h2' : (y.toNat : Int) = 255 := by omega
          rw [h2'] at hcell
          go_wp2
          go_roundw
          case rel =>
            refine ⟨j + 1, by omega, by have hbb := HB.out; go_num, ⟨fun q hq => ?_, by first | rfl | trivial⟩⟩
            by_cases hqj : q = j
            · rw [hqj, ← HB.out, HY.out]
              unfold fullB
              rw [if_neg h1]
              exact UInt8.toNat_inj.1 h2
            · exact HF.out q (by omega)
          case measure => simp [intOf] <;> omega
        · have h2' : ¬ (y.toNat : Int) = 255 := by omega
          go_wp2
          go_ret
          exact ⟨rfl, by first | (rw [hn]; exact h0.out.be) | exact h0.out.be⟩
    · obtain rfl : j = 31 := by omega
      have hl := HL.out (fun i hi => by
        have := hf (30 - i) (by omega)
        rwa [show 31 - (30 - i) = 1 + i by omega] at this)
      obtain ⟨z, hz⟩ : ∃ z, (k.getD 0 0).toNat = z := ⟨_, rfl⟩
      rw [hz] at hl
      have hc0 : wr.cell? ⟨n, 0, none⟩ = some (.int .u8 (z : Int)) := by rw [h0.out.ke.cell, HC.out 0 (by omega), hz]
      have hz2 : (z : Int) < 237 := by omega
      clear hf hz hl
      go_wp2
      go_ret
      exact ⟨rfl, by first | (rw [hn]; exact h0.out.be) | exact h0.out.be⟩
end Go.Proofs.Ytacancfmgnmpiaa

set_option linter.unusedVariables false
set_option linter.unusedSimpArgs false
namespace Go.Proofs.Ytacancfmgnmpiaa
open Go.RowKit

section
variable {P : Program} {ops : Array Oper} {Q : Exit → Act → World → Prop} {S : World → Prop}
/-- Operations of one value each, a row stored into a block that lies there, and a last one. -/
theorem reg_putV {id : Nat} {l : List Oper} {os ov : Oper} {a : Act} {w : World} (hm : P.follows .mixedOrders = true) (n : Nat) (hl' : l.length = n + 2)
    (hos : l[n]? = some os) (hov : l[n + 1]? = some ov)
    (h1 : Region.noSelect l.toArray = true) (h2 : lexOk .any l.toArray n n 0 (none_ (n + 2)) = true)
    (h3 : Region.ready .any l.toArray (firstN n 0 (none_ (n + 2))) = [n]) (h4 : full n (firstN n 0 (none_ (n + 2))) = true)
    (h5 : Region.ready .any l.toArray ((firstN n 0 (none_ (n + 2))).setIfInBounds n true) = [n + 1])
    (h6 : Region.ready .any l.toArray (((firstN n 0 (none_ (n + 2))).setIfInBounds n true).setIfInBounds (n + 1) true) = [])
    (hg : os.guard = none) (hd : os.dst = none) (t : TypeId) (x y : Operand) (ho : os.op = .store t x y) (hgv : ov.guard = none) (op : Op) (hop : ov.op = op)
    (h : wpLex P l.toArray (fun W => Below w.heap.size w W) (fun a' => ∃ g cs old t' v, a'.eval x = .pointer (some ⟨g, 0, none⟩) ∧ a'.eval y = .agg (List.toArray cs) ∧ Blk w g old t' ∧ (P.info? t).map (·.size) = some cs.length ∧ old.length = cs.length ∧ cs.toArray.all (·.oneCell') = true ∧
      (∀ o' : Oper, o'.op = op → ∀ W, (execOp a'.eval o').run P W = .ok (.value v) W) ∧ ∀ W, Below w.heap.size w W → Q .normal (a'.put ov.dst v) (W.setRow g cs.toArray)) (l.take n) a) : (Code.region id l.toArray true).wp P Q a w := by
  have hn : (l.take n).length = n := by simp; omega
  have hi : l.toArray[n]? = some os := by simpa using hos
  have hi' : l.toArray[n + 1]? = some ov := by simpa using hov
  refine wp_region_any hm ?_
  refine wpAny_of_R (S := fun W => Below w.heap.size w W) (T := n) _ _ _ (fun W => Below w.heap.size w W) (stable_below w) (fun _ h => h) ?_ _ (below_drawn w)
  have := wpAnyR_lex (P := P) (Q := Q) (T := n) (md := .any) (S := fun W => Below w.heap.size w W) (ops := l.toArray) h1 (by simp; omega) (fun W => Below w.heap.size w W) 2 (l.take n) 0 (none_ (n + 2)) a (by
      intro j hj
      rw [hn] at hj
      simp [List.getElem?_take, hj]) (by rw [hn]; exact h2) (closed_none _) (by simp [none_, hl']) ?_
  · rw [hn, Nat.add_comm] at this
    simpa [none_, hl'] using this
  · refine wpLex_mono ?_ (l.take n) a h
    rintro a' ⟨g, cs, old, t', v, e1, e2, hb, e3, e4, e5, hv, hk⟩
    rw [hn]
    unfold wpAnyR
    rw [if_pos h4]
    intro W hW
    refine only_one h3 ?_
    refine op_row hi (by simp [Region.wanted, hg]) hd t x y ho g cs old t' e1 e2 (hb.on hW) e3 e4 e5 ?_
    refine only_one h5 ?_
    refine op_wp hi' hgv ?_
    unfold Oper.wp
    rw [hv ov hop]
    simp only [Oper.upon]
    exact wpAny_done h6 (hk W hW) 0
end

theorem thirtytwo {α : Type} {L : List α} (h : L.length = 32) : ∃ a0 a1 a2 a3 a4 a5 a6 a7 a8 a9 a10 a11 a12 a13 a14 a15 a16 a17 a18 a19 a20 a21 a22 a23 a24 a25 a26 a27 a28 a29 a30 a31, L = [a0, a1, a2, a3, a4, a5, a6, a7, a8, a9, a10, a11, a12, a13, a14, a15, a16, a17, a18, a19, a20, a21, a22, a23, a24, a25, a26, a27, a28, a29, a30, a31] := by
  match L, h with
  | [a0, a1, a2, a3, a4, a5, a6, a7, a8, a9, a10, a11, a12, a13, a14, a15, a16, a17, a18, a19, a20, a21, a22, a23, a24, a25, a26, a27, a28, a29, a30, a31], _ => exact ⟨a0, a1, a2, a3, a4, a5, a6, a7, a8, a9, a10, a11, a12, a13, a14, a15, a16, a17, a18, a19, a20, a21, a22, a23, a24, a25, a26, a27, a28, a29, a30, a31, rfl⟩
theorem build29' (a0 a1 a2 a3 a4 a5 a6 a7 a8 a9 a10 a11 a12 a13 a14 a15 a16 a17 a18 a19 a20 a21 a22 a23 a24 a25 a26 a27 a28 a29 a30 a31 b0 b1 b2 b3 b4 b5 b6 b7 b8 b9 b10 b11 b12 b13 b14 b15 b16 b17 b18 b19 b20 b21 b22 b23 b24 b25 b26 b27 b28 b29 b30 b31 : UInt8) (W : World) : (Instr.build 29 #[(0, .agg ([a0, a1, a2, a3, a4, a5, a6, a7, a8, a9, a10, a11, a12, a13, a14, a15, a16, a17, a18, a19, a20, a21, a22, a23, a24, a25, a26, a27, a28, a29, a30, a31].map byt).toArray), (1, .agg ([b0, b1, b2, b3, b4, b5, b6, b7, b8, b9, b10, b11, b12, b13, b14, b15, b16, b17, b18, b19, b20, b21, b22, b23, b24, b25, b26, b27, b28, b29, b30, b31].map byt).toArray)]).run Try.prog W = .ok (.agg (([a0, a1, a2, a3, a4, a5, a6, a7, a8, a9, a10, a11, a12, a13, a14, a15, a16, a17, a18, a19, a20, a21, a22, a23, a24, a25, a26, a27, a28, a29, a30, a31] ++ [b0, b1, b2, b3, b4, b5, b6, b7, b8, b9, b10, b11, b12, b13, b14, b15, b16, b17, b18, b19, b20, b21, b22, b23, b24, b25, b26, b27, b28, b29, b30, b31]).map byt).toArray) W := by kernel_rfl
theorem build29 (k p : List UInt8) (hk : k.length = 32) (hp : p.length = 32) (W : World) : (Instr.build 29 #[(0, .agg (k.map byt).toArray), (1, .agg (p.map byt).toArray)]).run Try.prog W = .ok (.agg ((k ++ p).map byt).toArray) W := by
  obtain ⟨a0, a1, a2, a3, a4, a5, a6, a7, a8, a9, a10, a11, a12, a13, a14, a15, a16, a17, a18, a19, a20, a21, a22, a23, a24, a25, a26, a27, a28, a29, a30, a31, rfl⟩ := thirtytwo hk
  obtain ⟨b0, b1, b2, b3, b4, b5, b6, b7, b8, b9, b10, b11, b12, b13, b14, b15, b16, b17, b18, b19, b20, b21, b22, b23, b24, b25, b26, b27, b28, b29, b30, b31, rfl⟩ := thirtytwo hp
  exact build29' a0 a1 a2 a3 a4 a5 a6 a7 a8 a9 a10 a11 a12 a13 a14 a15 a16 a17 a18 a19 a20 a21 a22 a23 a24 a25 a26 a27 a28 a29 a30 a31 b0 b1 b2 b3 b4 b5 b6 b7 b8 b9 b10 b11 b12 b13 b14 b15 b16 b17 b18 b19 b20 b21 b22 b23 b24 b25 b26 b27 b28 b29 b30 b31 W
theorem arrayAt24 (g c : Nat) (W : World) : (Instr.arrayAt 24 (.slice (some ⟨g, 0, none⟩) 32 c)).run Try.prog W = .ok (.pointer (some ⟨g, 0, none⟩)) W := by
  simp [Instr.arrayAt, run_underlying Try.underlying24]
def z64 : List UInt8 := List.replicate 64 0
theorem zero29 (w : World) : (zeroValue 29).run Try.prog w = .ok (.agg (z64.map byt).toArray) w := by rw [Try.zeroValue29]; rfl
theorem pair_info {k : List UInt8} (h : k.length = 64) : (Try.prog.info? 29).map (·.size) = some (k.map byt).length := by rw [List.length_map, h]; kernel_rfl
theorem pair_infoA {k : List UInt8} (h : k.length = 64) : (Try.prog.info? 29).map (·.size) = some (k.map byt).toArray.size := by have := pair_info h; simpa using this
theorem pair_len {k : List UInt8} (h : k.length = 64) : (z64.map byt).length = (k.map byt).length := by simp [z64, h]
/-- A new pair of 32 bytes. -/
def pairL (k : List UInt8) : List UInt8 := clampL k ++ publicL (clampL k)
theorem pair_length (k : List UInt8) (hk : k.length = 32) : (pairL k).length = 64 := by
  unfold pairL
  rw [List.length_append, clamp_length, hk, public_length]

set_option maxRecDepth 100000 in
set_option maxHeartbeats 4000000 in
theorem newpair_walk (g c : Nat) (k C B PL : List UInt8) (lk : k.length = 32) (lC : C.length = 32) (lB : B.length = 32) (lP : PL.length = 64) (hPL : C ++ B = PL)
    (c1 : ∀ W, Calls Try.prog 11 #[.agg (k.map byt).toArray] W fun e w' => e = .returned (.agg (C.map byt).toArray) ∧ Below W.heap.size W w')
    (c2 : ∀ W, Calls Try.prog 14 #[.agg (C.map byt).toArray] W fun e w' => e = .returned (.agg (B.map byt).toArray) ∧ Below W.heap.size W w')
    (bd : ∀ W, (Instr.build 29 #[(0, .agg (C.map byt).toArray), (1, .agg (B.map byt).toArray)]).run Try.prog W = .ok (.agg (PL.map byt).toArray) W)
    (w : World) (hg : g < w.heap.size) (hr : w.rangeAt g 0 (k.map byt)) :
    Calls Try.prog 12 #[.slice (some ⟨g, 0, none⟩) 32 c] w fun e w' => e = .returned (.tuple #[.agg (PL.map byt).toArray, .int .i64 0]) ∧ Below w.heap.size w w' := by
  have hr1 : ∀ W, Below w.heap.size w W → W.rangeAt g 0 (k.map byt) := fun W hW j v hv => by
    rw [hW.cell hg]; exact hr j v hv
  have HG := hide hg
  have HR := hide hr1
  clear hr hr1 hg
  go_enter Try.func12, Try.ntmps12
  go_upto_region 1 with (refine wpList_newAt rfl 29 rfl (z64.map byt) zero29 w.heap.size rfl ?_)
  have b0 : Blk (w.alloc (.cells (z64.map byt).toArray 29)) w.heap.size (z64.map byt) 29 := Blk.new w (z64.map byt) 29
  have be : Below w.heap.size w (w.alloc (.cells (z64.map byt).toArray 29)) := by go_grown
  generalize w.alloc (.cells (z64.map byt).toArray 29) = w1 at b0 be ⊢
  obtain ⟨n, hn⟩ : ∃ n, w.heap.size = n := ⟨_, rfl⟩
  rw [hn] at b0 be HR ⊢
  go_upto_region 3 with fail
  have hlow := b0.lt
  refine lst_newT 4 rfl rfl rfl rfl 4 rfl 24 rfl (z32.map byt) zero23 rfl rfl (.tmp 12) rfl ?_
  simp only [List.take_succ_cons, List.take_zero]
  refine wpLex_cons2 _ (uni_val (by rfl) (Op.move (Operand.tmp 0)) rfl (.slice (some ⟨g, 0, none⟩) 32 c) (fun o' ho W _ => by go_simp)) (by simp only [Act.put, List.setIfInBounds_toArray, List.set_cons_zero, List.set_cons_succ]; rfl) ?_
  refine wpLex_cons2 _ (uni_val (by rfl) (Op.sliceToArrayPointer 24 (Operand.tmp 9)) rfl (.pointer (some ⟨g, 0, none⟩)) (fun o' ho W _ => by have ha := arrayAt24 g c W; go_simp)) (by simp only [Act.put, List.setIfInBounds_toArray, List.set_cons_zero, List.set_cons_succ]; rfl) ?_
  refine wpLex_cons2 _ (uni_mid rfl 24 (.tmp 10) rfl g 0 (k.map byt) rfl (fun W hW => HR.out W (be.trans (hW.mono (by have := be.size; omega)))) Try.underlying24 rfl (key_info lk)) (by simp only [Act.put, List.setIfInBounds_toArray, List.set_cons_zero, List.set_cons_succ]; rfl) ?_
  refine wpLex_cons2 _ (uni_callF (by rfl) 11 [Operand.tmp 11] #[24] rfl [.agg (k.map byt).toArray] (.agg (C.map byt).toArray) rfl enter11 (fun W hW => c1 W)) (by simp only [Act.put, List.setIfInBounds_toArray, List.set_cons_zero, List.set_cons_succ]; rfl) ?_
  refine ⟨C.map byt, rfl, by simp, by simp, key_info lC, key_len lC, byts_one _, fun gkc w2 lo hW kc => ?_⟩
  simp only [Act.put, List.setIfInBounds_toArray, List.set_cons_zero, List.set_cons_succ]
  replace b0 := b0.on hW
  replace be := be.trans (hW.mono (by have := be.size; omega))
  have lkc : n < gkc := Nat.lt_of_lt_of_le hlow lo
  clear hW lo hlow w1
  go_upto_region 4 with fail
  refine reg_putV (by kernel_rfl) 4 rfl rfl rfl (by kernel_rfl) (by kernel_rfl) (by kernel_rfl) (by kernel_rfl) (by kernel_rfl) (by kernel_rfl) rfl rfl 29 (.tmp 2) (.tmp 16) rfl rfl (.assign (.const (.int .i64 0))) rfl ?_
  simp only [List.take_succ_cons, List.take_zero]
  refine wpLex_cons2 _ (uni_row rfl 24 (.tmp 4) rfl (gkc) (C.map byt) 24 rfl (fun W hW => kc.on hW) Try.underlying24 rfl (key_info lC)) (by simp only [Act.put, List.setIfInBounds_toArray, List.set_cons_zero, List.set_cons_succ]; rfl) ?_
  refine wpLex_cons2 _ (uni_row rfl 24 (.tmp 4) rfl (gkc) (C.map byt) 24 rfl (fun W hW => kc.on hW) Try.underlying24 rfl (key_info lC)) (by simp only [Act.put, List.setIfInBounds_toArray, List.set_cons_zero, List.set_cons_succ]; rfl) ?_
  refine wpLex_cons2 _ (uni_callF (by rfl) 14 [Operand.tmp 14] #[24] rfl [.agg (C.map byt).toArray] (.agg (B.map byt).toArray) rfl enter14 (fun W hW => c2 W)) (by simp only [Act.put, List.setIfInBounds_toArray, List.set_cons_zero, List.set_cons_succ]; rfl) ?_
  refine wpLex_cons2 _ (uni_build2 (by rfl) 29 (.tmp 13) (.tmp 15) rfl (.agg (C.map byt).toArray) (.agg (B.map byt).toArray) (.agg (PL.map byt).toArray) rfl rfl bd) (by simp only [Act.put, List.setIfInBounds_toArray, List.set_cons_zero, List.set_cons_succ]; rfl) ?_
  refine ⟨n, PL.map byt, z64.map byt, 29, .int .i64 0, rfl, rfl, b0, pair_info lP, pair_len lP, byts_one _, (fun o' ho W => by go_simp), fun wz hW => ?_⟩
  simp only [Act.put, List.setIfInBounds_toArray, List.set_cons_zero, List.set_cons_succ]
  go_wp2
  refine bodyPost_ret (results_cellvar Try.results12 _ _ n 29 (PL.map byt).toArray _ (.int .i64 0) rfl rfl ((b0.on hW).setRow _) Try.underlying29 rfl (pair_infoA lP)) rfl ?_
  exact ⟨rfl, by first | (rw [hn]; exact below_setRow (be.trans (hW.mono (by have := be.size; omega))) _ _ (by omega)) | exact below_setRow (be.trans (hW.mono (by have := be.size; omega))) _ _ (by omega)⟩
theorem newpair_any (g c : Nat) (k : List UInt8) (lk : k.length = 32) (w : World) (hg : g < w.heap.size) (hr : w.rangeAt g 0 (k.map byt)) :
    Calls Try.prog 12 #[.slice (some ⟨g, 0, none⟩) 32 c] w fun e w' => e = .returned (.tuple #[.agg ((pairL k).map byt).toArray, .int .i64 0]) ∧ Below w.heap.size w w' := by
  have lC : (clampL k).length = 32 := by rw [clamp_length, lk]
  exact newpair_walk g c k (clampL k) (publicL (clampL k)) (pairL k) lk lC (public_length _) (pair_length k lk) rfl (fun W => clamp_any k lk W) (fun W => public_any _ lC W) (fun W => build29 _ _ lC (public_length _) W) w hg hr
end Go.Proofs.Ytacancfmgnmpiaa
