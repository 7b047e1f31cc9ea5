import Derived.Test.YtiefgmgjlhjjhaaDoorHk
import Derived.Laws.IdiomCopy
import Derived.Test.YtiefgmgjlhjjhaaDoorOz
import Derived.Test.YtiefgmgjlhjjhaaDoorSched
set_option linter.unusedVariables false
set_option linter.unusedSimpArgs false
namespace Go.Proofs.YtiefgmgjlhjjhaaDoor
open Go.RowKit

section
variable {P : Program} {n : Nat} {Q : Exit → Act → World → Prop} {e : List (Nat × Value)} {w : World}
end
def rS (c : List UInt8) (m : Nat) (s : Nat × Int) : Nat × Int := if s.2 = 0 then (if s.1 + m ≤ c.length then (s.1 + m, 0) else (s.1, 10)) else s
def rB (c : List UInt8) (m : Nat) (s : Nat × Int) : List UInt8 := if s.2 = 0 ∧ s.1 + m ≤ c.length then (c.drop s.1).take m else []
theorem rB_len (c : List UInt8) (m : Nat) (s : Nat × Int) : (rB c m s).length ≤ m := by
  unfold rB
  split
  · rw [List.length_take]; omega
  · exact Nat.zero_le _
theorem rfix_any (q m : Nat) (v : Value) (c : List UInt8) (s : Nat × Int) (w : World) (hr : Rd w q v c s.1 s.2) (hl : c.length ≤ 140737488355328) (hm : m ≤ 1000000) : Calls Tryd.prog 45 #[.pointer (some ⟨q, 0, none⟩), .int .i64 (m : Int)] w fun e w' => ∃ u, e = .returned u ∧ Ob w' w.heap.size u (rB c m s) ∧ Rd w' q v c (rS c m s).1 (rS c m s).2 ∧ Fx (fun k => k = q) w w' := by
  obtain ⟨at_, f⟩ := s
  dsimp only at hr
  unfold rB rS
  dsimp only
  by_cases hf : f = 0
  · subst hf
    by_cases h : at_ + m ≤ c.length
    · rw [if_pos rfl, if_pos h, if_pos ⟨rfl, h⟩]; exact rfix_ok q m v c at_ w hr hl h
    · rw [if_pos rfl, if_neg h, if_neg (fun e => h e.2)]
      exact (rfix_short q m v c at_ w hr hl (by omega) hm).mono fun e w' ⟨h1, h2, h3⟩ => ⟨_, h1, Ob.nil _ _, h2, h3⟩
  · rw [if_neg hf, if_neg (fun e => hf e.1)]
    exact (rfix_bad q m v c at_ f hf w hr).mono fun e w' ⟨h1, h2⟩ => ⟨_, h1, Ob.nil _ _, by rw [h2]; exact hr, by rw [h2]; exact Fx.refl _ _⟩
set_option maxRecDepth 100000 in
set_option maxHeartbeats 1000000 in
theorem rn1_any (q : Nat) (v : Value) (c : List UInt8) (s : Nat × Int) (w : World) (hr : Rd w q v c s.1 s.2) (hl : c.length ≤ 140737488355328) : Calls Tryd.prog 43 #[.pointer (some ⟨q, 0, none⟩)] w fun e w' => e = .returned (.int .i64 (numB (rB c 1 s) : Int)) ∧ Rd w' q v c (rS c 1 s).1 (rS c 1 s).2 ∧ Fx (fun k => k = q) w w' := by
  refine calls_of_args [.pointer (some ⟨q, 0, none⟩)] Tryd.func43 rfl 7 Tryd.ntmps43 (by show 1 ≤ 7; decide) ?_
  refine EW.seq ?_
  refine EW.region ?_
  first | refine WL.assign rfl rfl rfl ?_
  refine WL.done ?_
  refine EW.on ?_
  refine EW.seq ?_
  refine EW.region ?_
  first | refine WL.move rfl rfl rfl ?_
  refine WL.call [.pointer (some ⟨q, 0, none⟩), .int .i64 1] enter45 rfl rfl rfl (rfix_any q 1 v c s _ hr hl (by decide)) ?_
  rintro _ w1 ⟨u, rfl, g1, g3, g4⟩
  refine ⟨_, rfl, ?_⟩
  refine WL.call [u] enter62 rfl rfl rfl (number_any u _ _ g1.has (by have := rB_len c 1 s; omega)) ?_
  rintro _ w2 ⟨rfl, hz2⟩
  rw [hz2]
  refine ⟨_, rfl, ?_⟩
  refine WL.conv rfl rfl rfl (conv_n (numB_lt _ (by have := rB_len c 1 s; omega)) _) ?_
  first | refine WL.assign rfl rfl rfl ?_
  refine WL.done ?_
  refine EW.on ?_
  refine EW.ret ?_
  exact EW.returns Tryd.results43 rfl ⟨rfl, g3, g4⟩
set_option maxRecDepth 100000 in
set_option maxHeartbeats 1000000 in
theorem rn4_any (q : Nat) (v : Value) (c : List UInt8) (s : Nat × Int) (w : World) (hr : Rd w q v c s.1 s.2) (hl : c.length ≤ 140737488355328) : Calls Tryd.prog 44 #[.pointer (some ⟨q, 0, none⟩)] w fun e w' => e = .returned (u32v (numB (rB c 4 s))) ∧ Rd w' q v c (rS c 4 s).1 (rS c 4 s).2 ∧ Fx (fun k => k = q) w w' := by
  refine calls_of_args [.pointer (some ⟨q, 0, none⟩)] Tryd.func44 rfl 6 Tryd.ntmps44 (by show 1 ≤ 6; decide) ?_
  refine EW.seq ?_
  refine EW.region ?_
  first | refine WL.assign rfl rfl rfl ?_
  refine WL.done ?_
  refine EW.on ?_
  refine EW.seq ?_
  refine EW.region ?_
  first | refine WL.move rfl rfl rfl ?_
  refine WL.call [.pointer (some ⟨q, 0, none⟩), .int .i64 4] enter45 rfl rfl rfl (rfix_any q 4 v c s _ hr hl (by decide)) ?_
  rintro _ w1 ⟨u, rfl, g1, g3, g4⟩
  refine ⟨_, rfl, ?_⟩
  refine WL.call [u] enter62 rfl rfl rfl (number_any u _ _ g1.has (by have := rB_len c 4 s; omega)) ?_
  rintro _ w2 ⟨rfl, hz2⟩
  rw [hz2]
  refine ⟨_, rfl, ?_⟩
  first | refine WL.assign rfl rfl rfl ?_
  refine WL.done ?_
  refine EW.on ?_
  refine EW.ret ?_
  exact EW.returns Tryd.results44 rfl ⟨rfl, g3, g4⟩
theorem bld99 (a : Value) (ha : ∃ ao n c, a = .slice ao n c) (W : World) : (Instr.build 128 [(0, a)].toArray).run Tryd.prog W = .ok (.agg [a, .int .i64 0, .int .i64 0].toArray) W := by
  obtain ⟨_, _, _, rfl⟩ := ha
  kernel_rfl
theorem box99 (a : Value) (ha : ∃ ao n c, a = .slice ao n c) (w : World) : ∃ w1 q, (Instr.box 128 (.agg [a, .int .i64 0, .int .i64 0].toArray)).run Tryd.prog w = .ok (.pointer (some ⟨q, 0, none⟩)) w1 ∧ Blk w1 q [a, .int .i64 0, .int .i64 0] 128 ∧ Below w.heap.size w w1 ∧ q = w.heap.size := by
  obtain ⟨_, _, _, rfl⟩ := ha
  exact ⟨_, _, run_boxR 128 _ w _ rfl, Blk.new _ _ _, below_new _ _, rfl⟩

set_option maxRecDepth 100000 in
set_option maxHeartbeats 1000000 in
theorem newR_any (v : Value) (c : List UInt8) (w : World) (hb : Has w v c) (hl : c.length ≤ 140737488355328) : Calls Tryd.prog 42 #[v] w fun e w' => ∃ u q, e = .returned (.pointer (some ⟨q, 0, none⟩)) ∧ Rd w' q u c 0 0 ∧ w.heap.size ≤ q ∧ Below w.heap.size w w' ∧ (∀ k, u.ownBlock = some k → w.heap.size ≤ k) := by
  refine calls_of_args [v] Tryd.func42 rfl 7 Tryd.ntmps42 (by show 1 ≤ 7; decide) ?_
  refine EW.seq ?_
  refine EW.region ?_
  first | refine WL.assign rfl rfl rfl ?_
  refine WL.done ?_
  refine EW.on ?_
  refine EW.seq ?_
  refine EW.region ?_
  first | refine WL.move rfl rfl rfl ?_
  refine WL.call [v] enter61 rfl rfl rfl (clone_ob v c _ hb hl) ?_
  rintro _ w1 ⟨u, rfl, g1, g3⟩
  obtain ⟨w2, q, r2, b2, e2, hq⟩ := box99 u g1.has.sl w1
  refine ⟨_, rfl, ?_⟩
  refine WL.buildN [(0, u)] rfl rfl rfl (bld99 _ g1.has.sl _) ?_
  refine WL.box rfl rfl rfl r2 ?_
  first | refine WL.assign rfl rfl rfl ?_
  refine WL.done ?_
  refine EW.on ?_
  refine EW.ret ?_
  exact EW.returns Tryd.results42 rfl ⟨u, q, rfl, ⟨b2, g1.has.below e2, Nat.zero_le _⟩, by have := g3.size; omega, g3.trans (e2.mono g3.size), g1.base⟩
theorem ext_3 (a b c : Value) (W : World) : (Instr.extract (.tuple #[a, b, c]) 0).run Tryd.prog W = .ok a W ∧ (Instr.extract (.tuple #[a, b, c]) 1).run Tryd.prog W = .ok b W ∧ (Instr.extract (.tuple #[a, b, c]) 2).run Tryd.prog W = .ok c W := by refine ⟨?_, ?_, ?_⟩ <;> go_simp
section
variable {P : Program} {ops : Array Oper} {Q : Exit → Act → World → Prop} {md : Region.Mode} {lev : Nat → Nat}
def okS (md : Region.Mode) (ops : Array Oper) (lev : Nat → Nat) : List Zk → Array Bool → Bool
  | [], _ => true
  | (k, c, l) :: r, listed => bif c == 1 then (Region.ready md ops listed == [k]) && decide (k < ops.size) && !full ops.size listed && (lev k == l) && (l != 99) && okS md ops lev r (listed.setIfInBounds k true)
    else (Region.ready md ops listed).contains k && Region.free md ops listed k && lastOk md ops ops.size k && decide (k < ops.size) && (List.range ops.size).all (fun j => j == k || listed.getD j true || (lev j == 99) || (c != 2 && decide (l ≤ lev j)) || reach md ops 8 j k) && okS md ops lev r (listed.setIfInBounds k true)
def lstd : List Zk → Array Bool → Array Bool
  | [], listed => listed
  | (k, _) :: r, listed => lstd r (listed.setIfInBounds k true)
theorem wpAnyZ_seg {l : List Oper} {S : Nat → World → Prop} (hs : Region.noSelect l.toArray = true) (hA : ∀ (m n : Nat) w, m ≤ n → S n w → S m w) (m : Nat) : ∀ (ks : List Zk) (listed : Array Bool) (a : Act) (C : World → Prop), okS md l.toArray lev ks listed = true → Closed md l.toArray listed → listed.size = l.toArray.size →
    wpZ P l.toArray S (fun a' C' => Closed md l.toArray (lstd ks listed) → (lstd ks listed).size = l.toArray.size → wpAnyZ P md l.toArray Q S lev m (lstd ks listed) a' C') (opsZ l ks) a C → wpAnyZ P md l.toArray Q S lev (m + ks.length) listed a C
  | [], listed, a, C, hB, hcl, hsz, h => h hcl hsz
  | (k, c, lv) :: r, listed, a, C, hB, hcl, hsz, h => by
    have hk0 : ∀ (hkT : k < l.toArray.size), l.toArray[k]? = some (l.getD k default) := fun hkT => by
      have hk : k < l.length := by simpa using hkT
      have e0 : l.getD k default = l[k] := by simp [List.getD_eq_getElem?_getD, hk]
      rw [e0]; simp [hk]
    by_cases hc : c = 1
    · subst hc
      simp only [okS, beq_self_eq_true, cond_true, Bool.and_eq_true, decide_eq_true_eq, beq_iff_eq, Bool.not_eq_true', bne_iff_ne] at hB
      obtain ⟨⟨⟨⟨⟨hr, hkT⟩, hf⟩, hlv⟩, h99⟩, hB'⟩ := hB
      simp only [opsZ, wpZ, if_true] at h
      obtain ⟨hg, C', h1, h3, h⟩ := h
      have hr' : k ∈ Region.ready md l.toArray listed := by rw [hr]; simp
      show wpAnyZ P md l.toArray Q S lev ((m + r.length) + 1) listed a C
      unfold wpAnyZ
      rw [if_neg (by rw [hf]; simp)]
      refine ⟨by rw [hr]; simp, fun i hi => ?_⟩
      obtain rfl : i = k := by rw [hr] at hi; simpa using hi
      exact ⟨_, hk0 hkT, .inr ⟨by rw [hlv]; exact h99, hg, C', fun v w hw => by rw [hlv]; exact h1 v w hw, h3, fun v hv => wpAnyZ_seg hs hA m r (listed.setIfInBounds i true) _ (C' v) hB' (hcl.set hr') (by simpa using hsz) (h v hv)⟩⟩
    · have hcb : (c == 1) = false := by simpa using hc
      simp only [okS, hcb, cond_false, Bool.and_eq_true, decide_eq_true_eq] at hB
      obtain ⟨⟨⟨⟨⟨hr, hf⟩, hok⟩, hkT⟩, hlv⟩, hB'⟩ := hB
      simp only [opsZ, wpZ, if_neg hc] at h
      obtain ⟨v, hv, hCS, h⟩ := h
      have hr' : k ∈ Region.ready md l.toArray listed := by simpa using hr
      refine wpAnyZ_first (hk0 hkT) (Region.noSelect_spec hs) hkT hok (m + r.length) listed a C hCS ?_ (Region.free_spec (hk0 hkT) hf) hr' hcl hsz hv (wpAnyZ_seg hs hA m r _ _ C hB' (hcl.set hr') (by simpa using hsz) h)
      intro j oj hj hjk hun hno
      rw [List.all_eq_true] at hlv
      have hjl : j < l.toArray.size := (Array.getElem?_eq_some_iff.1 hj).1
      have h3 := hlv j (List.mem_range.2 hjl)
      rw [hno, hun, Bool.or_false, Bool.or_false] at h3
      simp only [Bool.or_eq_true, beq_iff_eq, Bool.and_eq_true, bne_iff_ne, decide_eq_true_eq] at h3
      rcases h3 with (h3 | h3) | h3
      · exact absurd h3 hjk
      · exact .inl h3
      · refine .inr fun w hw => ?_
        unfold SZ
        rw [if_neg h3.1]
        exact hA _ _ w h3.2 hw
end
section
variable {P : Program} {n : Nat} {Q : Exit → Act → World → Prop} {lev : Nat → Nat} {e : List (Nat × Value)} {C : World → Prop} {l : List Oper} {S : Nat → World → Prop} {listed : Array Bool}
/-- A region that draws, from a point on: in whatever order the rest is done. -/
def AZ (P : Program) (n : Nat) (l : List Oper) (Q : Exit → Act → World → Prop) (S : Nat → World → Prop) (lev : Nat → Nat) (m : Nat) (listed : Array Bool) (e : List (Nat × Value)) (C : World → Prop) : Prop :=
  Closed .any l.toArray listed → listed.size = l.toArray.size → ∀ a, Env n a e → wpAnyZ P .any l.toArray Q S lev m listed a C
/-- Operations in a given order, and then the rest. -/
theorem AZ.seg {M : Nat} (ks : List Zk) (m : Nat) (hM : M = m + ks.length) (hs : Region.noSelect l.toArray = true) (hA : ∀ (m n : Nat) w, m ≤ n → S n w → S m w) (hB : okS .any l.toArray lev ks listed = true) (h : wpZE P n l.toArray S (fun e' C' => AZ P n l Q S lev m (lstd ks listed) e' C') (opsZ l ks) e C) : AZ P n l Q S lev M listed e C := fun hcl hsz a ha => by
  rw [hM]
  exact wpAnyZ_seg hs hA m ks listed a C hB hcl hsz (wpZ_of_E (K' := fun e' C' => AZ P n l Q S lev m (lstd ks listed) e' C') (fun e' C' hk a' ha' hc hz => hk hc hz a' ha') _ e _ a ha h)
theorem AZ.done (hf : (full l.toArray.size listed && (Region.ready .any l.toArray listed).isEmpty) = true) (h : ∀ W, C W → ∀ a, Env n a e → Q .normal a W) : AZ P n l Q S lev 0 listed e C := fun hcl hsz a ha => by
  simp only [Bool.and_eq_true] at hf
  exact ⟨hf.1, fun w hw => wpAny_done (by simpa using hf.2) (h w hw a ha) 0⟩
theorem turn_of_E {k lk : Nat} {m : Nat} {o : Oper} (ho : l.toArray[k]? = some o) (hr : k ∈ Region.ready .any l.toArray listed) (hlv : lev k = lk) (h99 : lk ≠ 99) (hcl : Closed .any l.toArray listed) (hsz : listed.size = l.toArray.size) {a : Act} (ha : Env n a e) (h : wpZE P n l.toArray S (fun e' C' => AZ P n l Q S lev m (listed.setIfInBounds k true) e' C') [(o, 1, lk)] e C) : opZ P l.toArray S lev k (fun a' C' => wpAnyZ P .any l.toArray Q S lev m (listed.setIfInBounds k true) a' C') a C := by
  simp only [wpZE, if_true] at h
  obtain ⟨hw, hd, C', h1, h3, h⟩ := h
  exact ⟨o, ho, .inr ⟨by rw [hlv]; exact h99, wantE_spec ha hw, C', fun v w hw => by rw [hlv]; exact h1 v w hw, fun w hw => h3 w hw a ha, fun v hv => h v hv (hcl.set hr) (by simpa using hsz) _ (ha.ins o.dst v hd)⟩⟩
/-- Two that turn the world are ready: whichever is first. -/
theorem AZ.two {M : Nat} (m k1 l1 k2 l2 : Nat) (hM : M = m + 1) (hB : (Region.ready .any l.toArray listed == [k1, k2] && !full l.toArray.size listed && decide (k1 < l.length) && decide (k2 < l.length) && lev k1 == l1 && lev k2 == l2 && l1 != 99 && l2 != 99) = true)
    (h1 : wpZE P n l.toArray S (fun e' C' => AZ P n l Q S lev m (listed.setIfInBounds k1 true) e' C') [(l.getD k1 default, 1, l1)] e C)
    (h2 : wpZE P n l.toArray S (fun e' C' => AZ P n l Q S lev m (listed.setIfInBounds k2 true) e' C') [(l.getD k2 default, 1, l2)] e C) : AZ P n l Q S lev M listed e C := fun hcl hsz a ha => by
  simp only [Bool.and_eq_true, beq_iff_eq, Bool.not_eq_true', decide_eq_true_eq, bne_iff_ne] at hB
  obtain ⟨⟨⟨⟨⟨⟨⟨hr, hf⟩, g1⟩, g2⟩, v1⟩, v2⟩, n1⟩, n2⟩ := hB
  have hk0 : ∀ k, k < l.length → l.toArray[k]? = some (l.getD k default) := fun k hk => by
    have e0 : l.getD k default = l[k] := by simp [List.getD_eq_getElem?_getD, hk]
    rw [e0]; simp [hk]
  rw [hM]
  unfold wpAnyZ
  rw [if_neg (by rw [hf]; simp)]
  refine ⟨by rw [hr]; simp, fun i hi => ?_⟩
  have hi' : i = k1 ∨ i = k2 := by rw [hr] at hi; simpa using hi
  rcases hi' with rfl | rfl
  · exact turn_of_E (hk0 _ g1) hi v1 n1 hcl hsz ha h1
  · exact turn_of_E (hk0 _ g2) hi v2 n2 hcl hsz ha h2
theorem EW.az {id : Nat} {w : World} (S : Nat → World → Prop) (lev : Nat → Nat) (C0 : World → Prop) (M : Nat) (hm : P.follows .mixedOrders = true) (hM : l.length = M) (hC : C0 { w with drawn := w.drawn + 1 }) (h : AZ P n l Q S lev M (none_ M) e C0) : EW P n (Code.region id l.toArray true) Q e w := fun a ha => by
  refine wp_region_any hm ?_
  rw [show l.toArray.size = M by simpa using hM]
  exact wpAny_of_Z (S := S) (lev := lev) _ _ _ C0 (h (closed_none _) (by simp [none_, hM]) a ha) _ hC
end
section
variable {P : Program} {n : Nat} {Q : Exit → Act → World → Prop} {l : List Oper} {e : List (Nat × Value)}
def left (l : List Oper) (listed : Array Bool) : Nat := ((List.range l.length).filter fun i => !listed.getD i false).length
end
end Go.Proofs.YtiefgmgjlhjjhaaDoor
namespace Go.Proofs.YtiefgmgjlhjjhaaDoor
open Go.RowKit

/-! The document's turn and move: a word is a number below 2^32, halved n times. -/
theorem rot_get (n : Nat) (hn : n < 32) (x : BitVec 32) (i : Nat) (hi : i < 32) : (rot n x).getLsbD i = if i + n < 32 then x.getLsbD (i + n) else x.getLsbD (i + n - 32) := by
  unfold rot
  rw [BitVec.getLsbD_or, BitVec.getLsbD_shiftLeft, BitVec.getLsbD_ushiftRight]
  by_cases h : i + n < 32
  · have h1 : i < 32 - n := by omega
    rw [if_pos h, Nat.add_comm n i]
    simp [h1]
  · have h1 : ¬ i < 32 - n := by omega
    have h2 : i - (32 - n) = i + n - 32 := by omega
    have h3 : x.getLsbD (n + i) = false := BitVec.getLsbD_of_ge x (n + i) (by omega)
    rw [if_neg h, h3, h2]
    simp [h1, hi]
theorem rot_zero (x : BitVec 32) : rot 0 x = x := by
  apply BitVec.eq_of_getLsbD_eq
  intro i hi
  rw [rot_get 0 (by omega) x i hi, if_pos (by omega)]
  rfl
theorem rot_succ (n : Nat) (hn : n + 1 < 32) (x : BitVec 32) : rot (n + 1) x = rot 1 (rot n x) := by
  apply BitVec.eq_of_getLsbD_eq
  intro i hi
  rw [rot_get (n + 1) hn x i hi, rot_get 1 (by omega) _ i hi]
  by_cases h : i + 1 < 32
  · rw [if_pos h, rot_get n (by omega) x (i + 1) h, show i + 1 + n = i + (n + 1) by omega]
  · rw [if_neg h, rot_get n (by omega) x _ (by omega), if_neg (by omega), if_pos (by omega), show i + (n + 1) - 32 = i + 1 - 32 + n by omega]
theorem rot_one (x : BitVec 32) : wn (rot 1 x) = wn x / 2 + wn x % 2 * 2147483648 := by
  have hx := x.isLt
  unfold wn
  have : (rot 1 x).toNat = x.toNat / 2 + x.toNat % 2 * 2147483648 := by
    show ((x <<< (32 - 1)) ||| (x >>> 1)).toNat = _
    rw [BitVec.toNat_or, BitVec.toNat_shiftLeft, BitVec.toNat_ushiftRight, Nat.shiftLeft_eq, Nat.shiftRight_eq_div_pow]
    rw [nat_join 31 _ _ (by show x.toNat * 2 ^ 31 % 4294967296 % 2 ^ 31 = 0; omega) (by show x.toNat / 2 ^ 1 < 2 ^ 31; omega)]
    show x.toNat * 2 ^ 31 % 4294967296 + x.toNat / 2 ^ 1 = _
    omega
  rw [this]
  omega
theorem rot_next (n : Nat) (hn : n + 1 < 32) (x : BitVec 32) : wn (rot n x) / 2 + wn (rot n x) % 2 * 2147483648 = wn (rot (n + 1) x) := by
  rw [rot_succ n hn, rot_one]
theorem shr_next (n : Nat) (x : BitVec 32) : wn (x >>> n) / 2 = wn (x >>> (n + 1)) := by
  rw [← wshr, ← wshr, Int.pow_succ, Int.ediv_ediv_of_nonneg (by exact_mod_cast Nat.zero_le (2 ^ n))]

set_option maxRecDepth 100000 in
theorem turn_any (x : BitVec 32) (n : Nat) (hn : n < 32) (w : World) :
    Calls Tryd.prog 76 #[.int .i64 (n : Int), .int .u64 (wn x)] w fun e w' => e = .returned (.int .u64 (wn (rot n x))) ∧ w' = w := by
  go_enter Tryd.func76, Tryd.ntmps76
  go_wp2
  go_loopw [1, 5] (fun a i wr => ∃ k : Nat, k ≤ n ∧ i = .int .i64 k ∧ a = .int .u64 (wn (rot k x)) ∧ wr = w) (fun _ i _ => n - (intOf i).toNat)
  case atStart => exact ⟨0, by omega, rfl, by rw [rot_zero], rfl⟩
  case round =>
    obtain ⟨k, hk, rfl, rfl, rfl⟩ := hrel
    by_cases hlt : k < n
    · have hz : (k : Int) < (n : Int) := by omega
      have e := rot_next k (by omega) x
      have h0 := wn_nonneg (rot k x)
      have h1 := wn_lt (rot k x)
      obtain ⟨y, hy⟩ : ∃ y, y = wn (rot k x) := ⟨_, rfl⟩
      rw [← hy] at e h0 h1
      rw [← hy]
      have HE := hide e
      clear hy e
      go_wp2
      go_roundw
      case rel => exact ⟨k + 1, by omega, by go_num, by rw [← HE.out], trivial⟩
      case measure => simp [intOf]; omega
    · obtain rfl : k = n := by omega
      go_wp2
      go_ret
      exact ⟨rfl, rfl⟩

set_option maxRecDepth 100000 in
theorem move_any (x : BitVec 32) (n : Nat) (hn : n < 32) (w : World) :
    Calls Tryd.prog 78 #[.int .i64 (n : Int), .int .u64 (wn x)] w fun e w' => e = .returned (.int .u64 (wn (x >>> n))) ∧ w' = w := by
  go_enter Tryd.func78, Tryd.ntmps78
  go_wp2
  go_loopw [1, 5] (fun a i wr => ∃ k : Nat, k ≤ n ∧ i = .int .i64 k ∧ a = .int .u64 (wn (x >>> k)) ∧ wr = w) (fun _ i _ => n - (intOf i).toNat)
  case atStart => exact ⟨0, by omega, rfl, by simp, rfl⟩
  case round =>
    obtain ⟨k, hk, rfl, rfl, rfl⟩ := hrel
    by_cases hlt : k < n
    · have hz : (k : Int) < (n : Int) := by omega
      have e := shr_next k x
      have h0 := wn_nonneg (x >>> k)
      have h1 := wn_lt (x >>> k)
      obtain ⟨y, hy⟩ : ∃ y, y = wn (x >>> k) := ⟨_, rfl⟩
      rw [← hy] at e h0 h1
      rw [← hy]
      have HE := hide e
      clear hy e
      go_wp2
      go_roundw
      case rel => exact ⟨k + 1, by omega, by go_num, by rw [← HE.out], trivial⟩
      case measure => simp [intOf]; omega
    · obtain rfl : k = n := by omega
      go_wp2
      go_ret
      exact ⟨rfl, rfl⟩
end Go.Proofs.YtiefgmgjlhjjhaaDoor
