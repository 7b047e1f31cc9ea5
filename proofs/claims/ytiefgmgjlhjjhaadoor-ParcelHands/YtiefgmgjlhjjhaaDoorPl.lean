import Derived.Test.YtiefgmgjlhjjhaaDoorPk
set_option linter.unusedVariables false
set_option linter.unusedSimpArgs false
namespace Go.Proofs.YtiefgmgjlhjjhaaDoor
open Go.RowKit

def apE (c : List UInt8) : Int := if okP c then 0 else 260
theorem apart2 (v : Value) (c : List UInt8) (w : World) (hv : Has w v c) (hl : c.length ≤ 140737488355328) : Calls Tryd.prog 22 #[v] w fun e w' => ∃ x : Pi, e = .returned (.tuple #[x.val, .int .i64 (apE c)]) ∧ x.sh ∧ (okP c = true → ∃ u, x = ⟨pI c, pN c, pA c, pS c, u⟩ ∧ Ob w' w.heap.size u (pC c)) ∧ Below w.heap.size w w' := by
  refine (apart_any v c w hv hl).mono ?_
  rintro e w' (⟨h, rfl, l⟩ | ⟨h, u, rfl, o, l⟩)
  · exact ⟨Pi.z, by unfold apE; rw [h]; rfl, Pi.z_sh, fun h' => (by rw [h] at h'; cases h'), l⟩
  · refine ⟨⟨pI c, pN c, pA c, pS c, u⟩, by unfold apE; rw [h]; rfl, ⟨?_, o.has.sl⟩, fun _ => ⟨u, rfl, o⟩, l⟩
    have : 15 ≤ c.length := by unfold okP at h; simp only [Bool.and_eq_true, decide_eq_true_eq] at h; omega
    show (pS c).length = 8
    simp [pS]; omega
theorem ok_is {c : List UInt8} (h : okP c = true) : 15 ≤ c.length ∧ c.length ≤ 512 ∧ 1 ≤ pN c ∧ pN c ≤ 64 ∧ pA c < pN c ∧ (pS c).length = 8 ∧ (pC c).length ≤ 497 := by
  unfold okP at h; simp only [Bool.and_eq_true, decide_eq_true_eq] at h
  refine ⟨by omega, by omega, by omega, by omega, by omega, ?_, ?_⟩
  · simp [pS]; omega
  · simp [pC]; omega
theorem ah_ok {w : World} {p r most : Nat} {E : List Me} {c0 : Nat} (ht : Tr w p r most E c0) (a : List UInt8) (x : Pi) (hx : x.sh) (hn : x.n ≤ 64) (h1 : 1 ≤ x.n) : (ahR E most a x).1.sh ∧ (ahR E most a x).1.hs w ∧ ((ahR E most a x).2 = 0 → 1 ≤ (ahR E most a x).1.n) := by
  unfold ahR
  cases hk : lkE E a x.id with
  | none =>
    dsimp only
    split
    · exact ⟨Pc.z_sh, Pc.hs0 _ _ _, fun h => by cases h⟩
    · exact ⟨Pc.sh0 hn hx.s, Pc.hs0 _ _ _, fun _ => h1⟩
  | some c =>
    obtain ⟨h2, h3, h4⟩ := lk_sh ht hk
    dsimp only
    split
    · exact ⟨Pc.z_sh, Pc.hs0 _ _ _, fun h => by cases h⟩
    · split
      · exact ⟨Pc.z_sh, Pc.hs0 _ _ _, fun h => by cases h⟩
      · exact ⟨h2, h3, fun _ => h4⟩
theorem ah_off {E : List Me} {k : Nat} (h : TrB E k) (most : Nat) (a : List UInt8) (x : Pi) : ∀ (i : Nat) v b, (ahR E most a x).1.v[i]? = some v → (ahR E most a x).1.t[i]? = some b → Off v b k := by
  have hz : ∀ (n : Nat) (s : List UInt8) (i : Nat) v b, (Pc.mk0 n s).v[i]? = some v → (Pc.mk0 n s).t[i]? = some b → Off v b k := fun n s i v b _ hb => .inl (List.eq_of_mem_replicate (show b ∈ List.replicate 64 [] from List.mem_of_getElem? hb))
  unfold ahR
  cases hk : lkE E a x.id with
  | none =>
    dsimp only
    split
    · exact hz _ _
    · exact hz _ _
  | some c =>
    obtain ⟨m, hm, hmc, _, _⟩ := lk_mem hk
    dsimp only
    split
    · exact hz _ _
    · split
      · exact hz _ _
      · exact hmc ▸ h m hm
def u0 : Value := .slice none 0 0
def adX (c : List UInt8) (u : Value) : Pi := ⟨pI c, pN c, pA c, pS c, u⟩
/-- What the parcel would be with a part. -/
def adQ (E : List Me) (most : Nat) (a c : List UInt8) (u : Value) : Pc := (ahR E most a (adX c u)).1.put (pA c) u (pC c)
def adH (E : List Me) (most : Nat) (a c : List UInt8) : Int := (ahR E most a (adX c u0)).2
def adA (E : List Me) (most : Nat) (a c : List UInt8) : Bool := (adQ E most a c u0).all
/-- What Add answers: the error. -/
def adE (E : List Me) (most : Nat) (a c : List UInt8) : Int :=
  if nmB a = false then 212 else if okP c = false then 260 else if ¬ adH E most a c = 0 then adH E most a c else if adA E most a c = true ∧ ¬ sm (adQ E most a c u0).txt = (adQ E most a c u0).s then 101 else 0
def adI (E : List Me) (most : Nat) (a c : List UInt8) : Nat := if adE E most a c = 0 then pI c else 0
def adW (E : List Me) (most : Nat) (a c : List UInt8) : Bool := if adE E most a c = 0 then adA E most a c else false
def upE (E : List Me) (a : List UInt8) (n : Nat) (K : Pc) (c : Nat) : List Me := if (lkE E a n).isSome then setE E a n K else E ++ [⟨a, n, K, c⟩]
def adL (E : List Me) (most : Nat) (a c : List UInt8) (u : Value) (c0 : Nat) : List Me := if adE E most a c = 0 then upE E a (pI c) (adQ E most a c u) c0 else E
theorem run_upE {w : World} {r : Nat} {E : List Me} {c : Nat} (h : Mp w r E c) (a : List UInt8) (n : Nat) (K : Pc) (hok : K.sh) : ∃ w' c', (Instr.mapUpdate 59 (.map (some r)) (plV a n) K.val).run Tryd.prog w = .ok () w' ∧ Mp w' r (upE E a n K c) c' ∧ Fx (fun k => k = r) w w' := by
  unfold upE
  cases hk : lkE E a n with
  | none =>
    obtain ⟨w', r1, r2, r3⟩ := run_up h a n K hok hk
    exact ⟨w', c + 1, r1, by simpa using r2, r3⟩
  | some x =>
    obtain ⟨w', r1, r2, r3⟩ := run_set h a n K hok (by rw [hk]; rfl)
    exact ⟨w', c, r1, by simpa using r2, r3⟩
theorem upE_mem {E : List Me} {a : List UInt8} {n : Nat} {K : Pc} {c : Nat} {m : Me} (h : m ∈ upE E a n K c) : m.c = K ∨ m ∈ E := by
  unfold upE at h
  split at h
  · exact setE_mem h
  · rcases List.mem_append.1 h with h | h
    · exact .inr h
    · rw [List.mem_singleton.1 h]; exact .inl rfl
theorem Tr.ne {w : World} {p r most : Nat} {E : List Me} {c : Nat} (ht : Tr w p r most E c) : p ≠ r := fun e => by
  have h1 := ht.bl
  have h2 := ht.mp.hp
  rw [← e] at h2
  unfold Blk at h1
  rw [h1] at h2; cases h2
theorem Tr.up {w w' : World} {p r most : Nat} {E : List Me} {c c' : Nat} (ht : Tr w p r most E c) {a : List UInt8} {n : Nat} {K : Pc} (hK : K.hs w) (h1 : 1 ≤ K.n) (hm : Mp w' r (upE E a n K c) c') (hf : Fx (fun k => k = r) w w') : Tr w' p r most (upE E a n K c) c' := by
  have hB : ∀ q : Pc, q.hs w → q.hs w' := fun q hq => hq.fx hf (fun k hk i v b hv hb => by
    have e : k = r := hk
    subst e
    exact (hq.has i v b hv hb).offM ht.mp.hp)
  refine ⟨ht.bl.fx hf ht.ne, hm, fun m hm' => ?_, fun m hm' => ?_⟩
  · rcases upE_mem hm' with e | e
    · rw [e]; exact hB _ hK
    · exact hB _ (ht.hs m e)
  · rcases upE_mem hm' with e | e
    · rw [e]; exact h1
    · exact ht.n1 m e
theorem adL_off {E : List Me} {k : Nat} (h : TrB E k) (most : Nat) (a c : List UInt8) (u : Value) (c0 : Nat) (hp : (ahR E most a (adX c u)).1.sh) (hi : pA c < 64) (hu : u.ownBlock ≠ some k) : TrB (upE E a (pI c) (adQ E most a c u) c0) k := fun m hm => by
  rcases upE_mem hm with e | e
  · rw [e]
    intro i v b hv hb
    simp only [adQ, Pc.put, List.getElem?_set] at hv hb
    by_cases ei : pA c = i
    · rw [if_pos ei, if_pos (by rw [hp.v, ]; omega)] at hv
      cases hv; exact .inr hu
    · rw [if_neg ei] at hv hb
      exact ah_off h most a (adX c u) i v b hv hb
  · exact h m e
/-- A new variable that is stored to at once. -/
theorem ns71 (w : World) {c : Pc} (hc : c.sh) : ∃ w1 w2 q, (Instr.alloc 71 true (.tuple #[])).run Tryd.prog w = .ok (.pointer (some ⟨q, 0, none⟩)) w1 ∧ (Instr.storeAt 71 (.pointer (some ⟨q, 0, none⟩)) c.val).run Tryd.prog w1 = .ok () w2 ∧ Blk w2 q c.cs 71 ∧ Below w.heap.size w w2 ∧ w.heap.size ≤ q := by
  obtain ⟨w1, q, r1, b1, l1, hq⟩ := newB (cs := Pc.z.cs) zv71 w
  obtain ⟨w2, s2, b2, f2⟩ := st71 hc Pc.z_sh b1
  exact ⟨w1, w2, q, r1, s2, b2, l1.trans (f2.below (fun k hk e => by have e' : k = q := e; omega) l1.size), by omega⟩
theorem ns58 (w : World) {c : Pi} (hc : c.sh) : ∃ w1 w2 q, (Instr.alloc 58 true (.tuple #[])).run Tryd.prog w = .ok (.pointer (some ⟨q, 0, none⟩)) w1 ∧ (Instr.storeAt 58 (.pointer (some ⟨q, 0, none⟩)) c.val).run Tryd.prog w1 = .ok () w2 ∧ Blk w2 q c.cs 58 ∧ Below w.heap.size w w2 ∧ w.heap.size ≤ q := by
  obtain ⟨w1, q, r1, b1, l1, hq⟩ := newB (cs := Pi.z.cs) zv58 w
  obtain ⟨w2, s2, b2, f2⟩ := st58 hc Pi.z_sh b1
  exact ⟨w1, w2, q, r1, s2, b2, l1.trans (f2.below (fun k hk e => by have e' : k = q := e; omega) l1.size), by omega⟩
def SQ (q : World → Prop) (l : Nat) (W : World) : Prop := l = 0 ∨ q W
theorem sq_anti (q : World → Prop) (m n : Nat) (W : World) (h : m ≤ n) (k : SQ q n W) : SQ q m W := by
  rcases k with k | k
  · exact .inl (by omega)
  · exact .inr k
theorem sq_of {q : World → Prop} {W : World} {l : Nat} {C : World → Prop} (h : SZ (SQ q) 0 (l + 1) C W) : q W := by
  rcases h with h | h
  · cases h
  · exact h
theorem sq0 {q : World → Prop} {C : World → Prop} : ∀ W, C W → SZ (SQ q) 0 0 C W := fun _ _ => .inl rfl
theorem sq1 {q : World → Prop} {l : Nat} {C : World → Prop} : ∀ W, q W → SZ (SQ q) 0 l C W := fun _ h => .inr h

set_option maxRecDepth 100000 in
set_option maxHeartbeats 8000000 in
theorem add_any (p r most : Nat) (E : List Me) (c0 : Nat) (a : List UInt8) (v : Value) (c : List UInt8) (w : World) (ht : Tr w p r most E c0) (hv : Has w v c) (hl : c.length ≤ 140737488355328) (hK : Kst w) : Calls Tryd.prog 10 #[.pointer (some ⟨p, 0, none⟩), sv a, v] w fun e w' => ∃ u c1, e = .returned (.tuple #[u32v (adI E most a c), .bool (adW E most a c), .int .i64 (adE E most a c)]) ∧ Tr w' p r most (adL E most a c u c0) c1 ∧ Fx (fun k => k = r) w w' ∧ (∀ k, k < w.heap.size → TrB E k → TrB (adL E most a c u c0) k) := by
  refine calls_of_args [.pointer (some ⟨p, 0, none⟩), sv a, v] Tryd.func10 rfl 62 Tryd.ntmps10 (by show 3 ≤ 62; decide) ?_
  refine EW.seq ?_
  refine EW.region ?_
  first | refine WL.assign rfl rfl rfl ?_
  first | refine WL.assign rfl rfl rfl ?_
  first | refine WL.assign rfl rfl rfl ?_
  refine WL.done ?_
  refine EW.on ?_
  refine EW.seq ?_
  refine EW.seq ?_
  refine EW.region ?_
  first | refine WL.move rfl rfl rfl ?_
  refine WL.call [sv a] enter21 rfl rfl rfl (name_any a _) ?_
  rintro _ wN ⟨rfl, hwN⟩
  refine ⟨_, rfl, ?_⟩
  rw [hwN]
  first | refine WL.un rfl rfl rfl (not_t _ _) ?_
  refine WL.done ?_
  refine EW.on ?_
  refine EW.cond_b rfl (fun h15 => ?_) (fun h15 => ?_)
  · replace h15 : nmB a = false := by simpa using h15
    refine EW.seq ?_
    refine EW.region ?_
    first | refine WL.assign rfl rfl rfl ?_
    first | refine WL.assign rfl rfl rfl ?_
    first | refine WL.assign rfl rfl rfl ?_
    refine WL.done ?_
    refine EW.on ?_
    refine EW.ret ?_
    refine pr_then ?_
    refine EW.returns3 Tryd.results10 rfl rfl rfl ?_
    have er : adE E most a c = 212 := by unfold adE; rw [if_pos h15]
    have ne : ¬ adE E most a c = 0 := by rw [er]; exact (by decide)
    refine ⟨u0, c0, ?_, ?_, Fx.of_below (Below.refl _ _), fun k _ hk => ?_⟩
    · unfold adI adW; rw [if_neg ne, if_neg ne, er]; rfl
    · unfold adL; rw [if_neg ne]; exact ht.on (Below.refl _ _)
    · unfold adL; rw [if_neg ne]; exact hk
  · replace h15 : nmB a = true := by simpa using h15
    refine EW.skip ?_
    refine EW.on ?_
    refine EW.seq ?_
    refine EW.region ?_
    first | refine WL.move rfl rfl rfl ?_
    refine WL.call [v] enter22 rfl rfl rfl (apart2 v c w hv hl) ?_
    rintro _ w1 ⟨x, rfl, hx, hok, l1⟩
    refine ⟨_, rfl, ?_⟩
    first | refine WL.move rfl rfl rfl ?_
    first | refine WL.extract rfl rfl rfl (ext_2 _ _ _).1 ?_
    first | refine WL.extract rfl rfl rfl (ext_2 _ _ _).2 ?_
    obtain ⟨w2, w3, q9, rn9, s9, b9, l3, hq9⟩ := ns58 w1 hx
    refine WL.new rfl rfl rn9 ?_
    refine WL.store rfl rfl rfl s9 ?_
    have L3 := bt l1 l3
    first | refine WL.assign rfl rfl rfl ?_
    refine WL.done ?_
    refine EW.on ?_
    refine EW.seq ?_
    refine EW.seq ?_
    refine EW.region ?_
    first | refine WL.move rfl rfl rfl ?_
    refine WL.bin rfl rfl rfl rfl (int_ne_d _ _ _ _ _) ?_
    refine WL.done ?_
    refine EW.on ?_
    refine EW.cond_d rfl (fun h22 => ?_) (fun h22 => ?_)
    · replace h22 : okP c = false := by
        cases ho : okP c with
        | false => rfl
        | true => exact absurd (by unfold apE; rw [ho]; rfl) h22
      refine EW.seq ?_
      refine EW.region ?_
      first | refine WL.move rfl rfl rfl ?_
      first | refine WL.assign rfl rfl rfl ?_
      first | refine WL.assign rfl rfl rfl ?_
      first | refine WL.assign rfl rfl rfl ?_
      refine WL.done ?_
      refine EW.on ?_
      refine EW.ret ?_
      refine pr_then ?_
      refine EW.returns3 Tryd.results10 rfl rfl rfl ?_
      have er : adE E most a c = 260 := by unfold adE; rw [if_neg (by rw [h15]; decide), if_pos h22]
      have ne : ¬ adE E most a c = 0 := by rw [er]; exact (by decide)
      refine ⟨u0, c0, ?_, ?_, Fx.of_below L3, fun k _ hk => ?_⟩
      · unfold adI adW; rw [if_neg ne, if_neg ne, er]; rw [apE, h22]; rfl
      · unfold adL; rw [if_neg ne]; exact ht.on L3
      · unfold adL; rw [if_neg ne]; exact hk
    · have okt : okP c = true := by
        cases ho : okP c with
        | true => rfl
        | false => exact absurd (by unfold apE; rw [ho]; decide) h22
      obtain ⟨u, rfl, ob1⟩ := hok okt
      obtain ⟨K1, K2, K3, K4, K5, K6, K7⟩ := ok_is okt
      replace hx : (adX c u).sh := hx
      replace b9 : Blk w3 q9 (adX c u).cs 58 := b9
      refine EW.skip ?_
      refine EW.on ?_
      refine EW.seq ?_
      refine EW.az (SQ (fun W => Below w3.heap.size w3 W)) (levZ [(3, 0, 1), (1, 1, 1), (5, 1, 1), (6, 1, 1)]) (fun W => Below w3.heap.size w3 W) 7 (by kernel_rfl) rfl (below_drawn w3) ?_
      refine AZ.seg [(0, 0, 0), (2, 0, 0), (3, 0, 1)] 4 rfl (by kernel_rfl) (sq_anti _) (by kernel_rfl) ?_
      simp only [opsZ, List.getD_cons_zero, List.getD_cons_succ]
      first | refine ZE.move rfl rfl rfl rfl sq0 ?_
      refine ZE.field rfl rfl rfl rfl sq0 (fun W => f58_0 _ W) ?_
      refine ZE.load rfl rfl rfl rfl sq1 (fun W hW => ldU2 (b9.on (sq_of hW)) (Pi.c0 _)) ?_
      refine AZ.two 3 1 1 5 1 rfl (by kernel_rfl) ?_ ?_
      · simp only [List.getD_cons_zero, List.getD_cons_succ]
        refine ZE.callV [sv a] (sv a) (fun W => Below w3.heap.size w3 W) enter23 rfl rfl rfl (fun _ h => .inr h) (fun W hW => (clone23 a (by have := nmB_t.1 h15; omega) W).mono fun e w' ⟨h1, h2⟩ => ⟨h1, bt hW h2⟩) ?_
        refine AZ.seg [(4, 0, 0), (5, 1, 1), (6, 1, 1)] 0 rfl (by kernel_rfl) (sq_anti _) (by kernel_rfl) ?_
        simp only [opsZ, List.getD_cons_zero, List.getD_cons_succ]
        refine ZE.buildN [(0, sv a), (1, u32v (pI c))] rfl rfl rfl rfl sq0 (fun W => bd67 _ _ W) ?_
        refine ZE.newR (fun v W => ∃ q8, v = .pointer (some ⟨q8, 0, none⟩) ∧ Blk W q8 [sv [], u32v 0] 67 ∧ w3.heap.size ≤ q8 ∧ Below w3.heap.size w3 W) rfl rfl (fun _ _ ⟨_, _, _, _, h⟩ => .inr h) (fun W hW => ?_) ?_
        · obtain ⟨W2, q, r, b, l, hq⟩ := newB (cs := [sv [], u32v 0]) zv67 W
          exact ⟨_, W2, r, q, rfl, b, by have := hW.size; omega, hW.trans (l.mono hW.size)⟩
        rintro _ ⟨_, q10, rfl, _, hq10, _⟩
        refine ZE.store (fun W => Blk W q10 [sv a, u32v (pI c)] 67 ∧ Below w3.heap.size w3 W) rfl rfl rfl (fun _ h => .inr h.2) (fun W hW => ?_) ?_
        · obtain ⟨q, e, b, _, l⟩ := hW
          cases e
          obtain ⟨W2, s1, s2, s3⟩ := st67 b a (pI c)
          exact ⟨W2, s1, s2, l.trans (s3.below (fun k hk e => by have e' : k = q10 := e; omega) l.size)⟩
        refine AZ.done (by kernel_rfl) ?_
        rintro w4 ⟨B10, L4⟩
        refine EW.on ?_
        refine EW.seq ?_
        refine EW.region ?_
        first | refine WL.move rfl rfl rfl ?_
        refine WL.load rfl rfl rfl (ld67 B10) ?_
        refine WL.load rfl rfl rfl (ld58 hx (b9.on L4)) ?_
        refine WL.call [.pointer (some ⟨p, 0, none⟩), plV a (pI c), (adX c u).val] enter24 rfl rfl rfl (ahead_any p r most E c0 a (adX c u) hx (by show pA c < 64; omega) K4 _ (ht.on (bt L3 L4))) ?_
        rintro _ w5 ⟨rfl, l5⟩
        refine ⟨_, rfl, ?_⟩
        obtain ⟨ah1, ah2, ah3⟩ := ah_ok (ht.on (bt (bt L3 L4) l5)) a (adX c u) hx K4 K3
        first | refine WL.move rfl rfl rfl ?_
        first | refine WL.extract rfl rfl rfl (ext_2 _ _ _).1 ?_
        first | refine WL.extract rfl rfl rfl (ext_2 _ _ _).2 ?_
        obtain ⟨w6, w7, q11, rn11, s11, b11, l7, hq11⟩ := ns71 w5 ah1
        refine WL.new rfl rfl rn11 ?_
        refine WL.store rfl rfl rfl s11 ?_
        have L7 := bt (bt (bt L3 L4) l5) l7
        first | refine WL.assign rfl rfl rfl ?_
        refine WL.done ?_
        refine EW.on ?_
        refine EW.seq ?_
        refine EW.seq ?_
        refine EW.region ?_
        first | refine WL.move rfl rfl rfl ?_
        refine WL.bin rfl rfl rfl rfl (int_ne_d _ _ _ _ _) ?_
        refine WL.done ?_
        refine EW.on ?_
        refine EW.cond_d rfl (fun h37 => ?_) (fun h37 => ?_)
        · replace h37 : ¬ adH E most a c = 0 := h37
          refine EW.seq ?_
          refine EW.region ?_
          first | refine WL.move rfl rfl rfl ?_
          first | refine WL.assign rfl rfl rfl ?_
          first | refine WL.assign rfl rfl rfl ?_
          first | refine WL.assign rfl rfl rfl ?_
          refine WL.done ?_
          refine EW.on ?_
          refine EW.ret ?_
          refine pr_then ?_
          refine EW.returns3 Tryd.results10 rfl rfl rfl ?_
          have er : adE E most a c = adH E most a c := by unfold adE; rw [if_neg (by rw [h15]; decide), if_neg (by rw [okt]; decide), if_pos h37]
          have ne : ¬ adE E most a c = 0 := by rw [er]; exact h37
          refine ⟨u0, c0, ?_, ?_, Fx.of_below L7, fun k _ hk => ?_⟩
          · unfold adI adW; rw [if_neg ne, if_neg ne, er]; rfl
          · unfold adL; rw [if_neg ne]; exact ht.on L7
          · unfold adL; rw [if_neg ne]; exact hk
        · replace h37 : adH E most a c = 0 := Decidable.of_not_not h37
          have a0 : (ahR E most a (adX c u)).2 = 0 := h37
          have hQ : (adQ E most a c u).sh := Pc.put_sh ah1 _ hx.sl _
          refine EW.skip ?_
          refine EW.on ?_
          refine EW.seq ?_
          refine EW.region ?_
          refine WL.load rfl rfl rfl (ld71 ah1 b11) ?_
          refine WL.load rfl rfl rfl (ld58 hx (((b9.on L4).on l5).on l7)) ?_
          refine WL.call [(ahR E most a (adX c u)).1.val, (adX c u).val] enter25 rfl rfl rfl (with_any _ ah1 (adX c u) hx (by show pA c < 64; omega) (pC c) _) ?_
          rintro _ w8 ⟨rfl, l8⟩
          refine ⟨_, rfl, ?_⟩
          obtain ⟨w9, w10, q12, rn12, s12, b12, l10, hq12⟩ := ns71 w8 hQ
          refine WL.new rfl rfl rn12 ?_
          refine WL.store rfl rfl rfl s12 ?_
          have L10 := bt (bt L7 l8) l10
          refine WL.done ?_
          refine EW.on ?_
          refine EW.seq ?_
          refine EW.region ?_
          refine WL.load rfl rfl rfl (ld71 hQ b12) ?_
          refine WL.call [(adQ E most a c u).val] enter26 rfl rfl rfl (all_any _ hQ _) ?_
          rintro _ w11 ⟨rfl, l11⟩
          refine ⟨_, rfl, ?_⟩
          have L11 := bt L10 l11
          have b12' := b12.on l11
          have obW := ob1.below (bt (bt (bt (bt (bt (bt (bt l3 L4) l5) l7) l8) l10) l11) (Below.refl _ _))
          have hQs : (adQ E most a c u).hs w11 := Pc.put_hs ah1 (ah2.on (bt (bt (bt l7 l8) l10) l11)) (pA c) (by omega) obW.has K7
          have T11 := ht.on L11
          first | refine WL.assign rfl rfl rfl ?_
          refine WL.done ?_
          refine EW.on ?_
          refine EW.seq ?_
          refine EW.seq ?_
          rcases Bool.eq_false_or_eq_true (adQ E most a c u).all with hA12 | hA12
          all_goals rw [hA12]
          · refine EW.ordB [(0, 0, 0), (1, 0, 0), (2, 0, 1), (5, 0, 0), (6, 0, 1), (3, 1, 1), (4, 1, 1), (7, 0, 0), (8, 0, 0)] (by kernel_rfl) rfl (by kernel_rfl) ?_
            simp only [opsZ, List.getD_cons_zero, List.getD_cons_succ]
            first | refine ZE.move rfl rfl rfl rfl sq0 ?_
            first | refine ZE.move rfl rfl rfl rfl sq0 ?_
            first | refine ZE.load rfl rfl rfl rfl sz1 (fun W hW => ld71 hQ (b12'.on (hW.resolve_left (by decide)))) ?_ | refine ZE.skip rfl rfl rfl sz1 ?_
            first | refine ZE.field rfl rfl rfl rfl sz0 (fun W => f71_1 _ W) ?_ | refine ZE.skip rfl rfl rfl sz0 ?_
            first | refine ZE.load rfl rfl rfl rfl sz1 (fun W hW => ld54 hQ (b12'.on (hW.resolve_left (by decide)))) ?_ | refine ZE.skip rfl rfl rfl sz1 ?_
            refine ZE.callR [(adQ E most a c u).val] (fun v W => Parts W v (adQ E most a c u).ps ∧ Below w11.heap.size w11 W) enter27 rfl rfl rfl (fun _ _ h => .inr h.2) (fun W hW => (ord_any _ hQ W (hQs.on hW)).mono fun e w' ⟨v, h1, h2, h3⟩ => ⟨v, h1, h2, bt hW h3⟩) ?_
            rintro v27 ⟨_, _, _⟩
            refine ZE.callV [v27] (kv (sm (adQ E most a c u).txt)) (fun W => Below w11.heap.size w11 W) enter19 rfl rfl rfl (fun _ h => .inr h) (fun W hW => (sm_any v27 _ _ (Pc.ps_txt hQ) W hW.1 (hK.below (bt L11 hW.2) hK.lt) (by have := Pc.txt_len hQ hQs; omega) (by rw [Pc.ps_len hQ]; have := hQ.n2; omega)).mono fun e w' ⟨h1, h2⟩ => ⟨h1, bt hW.2 h2⟩) ?_
            first | refine ZE.bin rfl rfl rfl rfl rfl sz0 (fun W => neq54 _ _ (sm_len _) hQ.s W _ _) ?_ | refine ZE.skip rfl rfl rfl sz0 ?_
            first | refine ZE.pick rfl rfl rfl rfl rfl sq0 ?_
            rintro w12 l12
            have T12 := T11.on l12
            have B12 := ((((((B10.on l5).on l7).on l8).on l10).on l11).on l12)
            have b12'' := b12'.on l12
            have B9 := (((((((b9.on L4).on l5).on l7).on l8).on l10).on l11).on l12)
            refine EW.on ?_
            refine EW.cond_d rfl (fun h52 => ?_) (fun h52 => ?_)
            · have hWh : adA E most a c = true := hA12
              refine EW.seq ?_
              refine EW.region ?_
              first | refine WL.assign rfl rfl rfl ?_
              first | refine WL.assign rfl rfl rfl ?_
              first | refine WL.assign rfl rfl rfl ?_
              refine WL.done ?_
              refine EW.on ?_
              refine EW.ret ?_
              refine pr_then ?_
              refine EW.returns3 Tryd.results10 rfl rfl rfl ?_
              have er : adE E most a c = 101 := by unfold adE; rw [if_neg (by rw [h15]; decide), if_neg (by rw [okt]; decide), if_neg (fun h => h h37), if_pos ⟨hWh, h52⟩]
              have ne : ¬ adE E most a c = 0 := by rw [er]; exact (by decide)
              refine ⟨u0, c0, ?_, ?_, Fx.of_below (bt L11 l12), fun k _ hk => ?_⟩
              · unfold adI adW; rw [if_neg ne, if_neg ne, er]; rfl
              · unfold adL; rw [if_neg ne]; exact ht.on (bt L11 l12)
              · unfold adL; rw [if_neg ne]; exact hk
            · have hno : adA E most a c = true → ¬ ¬ sm (adQ E most a c u0).txt = (adQ E most a c u0).s := fun _ => h52
              refine EW.skip ?_
              refine EW.on ?_
              refine EW.seq ?_
              refine EW.ordB [(0, 0, 0), (1, 0, 0), (2, 0, 0), (3, 0, 1), (4, 0, 1), (5, 0, 1), (6, 1, 0)] (by kernel_rfl) rfl (by kernel_rfl) ?_
              simp only [opsZ, List.getD_cons_zero, List.getD_cons_succ]
              first | refine ZE.move rfl rfl rfl rfl sq0 ?_
              first | refine ZE.nilc rfl rfl rfl rfl sq0 ?_
              refine ZE.field rfl rfl rfl rfl sz0 (fun W => f61_1 _ W) ?_
              refine ZE.load rfl rfl rfl rfl sz1 (fun W hW => ldM (T12.on (hW.resolve_left (by decide))).bl rfl) ?_
              refine ZE.load rfl rfl rfl rfl sz1 (fun W hW => ld67 (B12.on (hW.resolve_left (by decide)))) ?_
              refine ZE.load rfl rfl rfl rfl sz1 (fun W hW => ld71 hQ (b12''.on (hW.resolve_left (by decide)))) ?_
              refine ZE.mup (fun W => ∃ c1, Tr W p r most (upE E a (pI c) (adQ E most a c u) c0) c1 ∧ Blk W q9 (adX c u).cs 58 ∧ Fx (fun k => k = r) w12 W) rfl rfl rfl rfl (fun _ _ => .inl rfl) (fun W hW => ?_) ?_
              · obtain ⟨W2, c1, m1, m2, m3⟩ := run_upE (T12.on hW).mp a (pI c) (adQ E most a c u) hQ
                exact ⟨W2, m1, c1, (T12.on hW).up (hQs.on (bt l12 hW)) (ah3 a0) m2 m3, (B9.on hW).fx m3 (fun e => by have := ht.mp.ltb; have := l1.size; omega), (Fx.of_below hW).and m3⟩
              rintro w13 ⟨c1, T15, b15, F15⟩
              refine EW.on ?_
              refine EW.seq ?_
              refine EW.region ?_
              refine WL.field rfl rfl rfl (f58_0 _ _) ?_
              refine WL.load rfl rfl rfl (ldU2 b15 (Pi.c0 _)) ?_
              first | refine WL.move rfl rfl rfl ?_
              first | refine WL.assign rfl rfl rfl ?_
              first | refine WL.assign rfl rfl rfl ?_
              first | refine WL.assign rfl rfl rfl ?_
              refine WL.done ?_
              refine EW.on ?_
              refine EW.ret ?_
              refine EW.returns3 Tryd.results10 rfl rfl rfl ?_
              have er : adE E most a c = 0 := by
                unfold adE
                rw [if_neg (by rw [h15]; decide), if_neg (by rw [okt]; decide), if_neg (fun h => h h37), if_neg (fun h => hno h.1 h.2)]
              refine ⟨u, c1, ?_, ?_, (Fx.of_below (bt L11 l12)).and F15, fun k hlt hk => ?_⟩
              · unfold adI adW; rw [if_pos er, if_pos er, er, show adA E most a c = _ from hA12]; rfl
              · unfold adL; rw [if_pos er]; exact T15
              · unfold adL; rw [if_pos er]; exact adL_off hk most a c u c0 ah1 (by omega) (fun e => by have := ob1.base k e; omega)
          · refine EW.ordB [(0, 0, 0), (1, 0, 0), (2, 0, 1), (3, 0, 0), (4, 0, 0), (5, 0, 0), (6, 0, 1), (7, 0, 0), (8, 0, 0)] (by kernel_rfl) rfl (by kernel_rfl) ?_
            simp only [opsZ, List.getD_cons_zero, List.getD_cons_succ]
            first | refine ZE.move rfl rfl rfl rfl sq0 ?_
            first | refine ZE.move rfl rfl rfl rfl sq0 ?_
            first | refine ZE.load rfl rfl rfl rfl sz1 (fun W hW => ld71 hQ (b12'.on (hW.resolve_left (by decide)))) ?_ | refine ZE.skip rfl rfl rfl sz1 ?_
            refine ZE.skip rfl rfl rfl sz0 ?_
            refine ZE.skip rfl rfl rfl sz0 ?_
            first | refine ZE.field rfl rfl rfl rfl sz0 (fun W => f71_1 _ W) ?_ | refine ZE.skip rfl rfl rfl sz0 ?_
            first | refine ZE.load rfl rfl rfl rfl sz1 (fun W hW => ld54 hQ (b12'.on (hW.resolve_left (by decide)))) ?_ | refine ZE.skip rfl rfl rfl sz1 ?_
            first | refine ZE.bin rfl rfl rfl rfl rfl sz0 (fun W => neq54 _ _ (sm_len _) hQ.s W _ _) ?_ | refine ZE.skip rfl rfl rfl sz0 ?_
            first | refine ZE.pick rfl rfl rfl rfl rfl sq0 ?_
            rintro w12 l12
            have T12 := T11.on l12
            have B12 := ((((((B10.on l5).on l7).on l8).on l10).on l11).on l12)
            have b12'' := b12'.on l12
            have B9 := (((((((b9.on L4).on l5).on l7).on l8).on l10).on l11).on l12)
            refine EW.on ?_
            refine EW.cond_f rfl ?_
            refine EW.skip ?_
            refine EW.on ?_
            refine EW.seq ?_
            have hno : adA E most a c = true → ¬ ¬ sm (adQ E most a c u0).txt = (adQ E most a c u0).s := fun h => by rw [show adA E most a c = false from hA12] at h; cases h
            refine EW.ordB [(0, 0, 0), (1, 0, 0), (2, 0, 0), (3, 0, 1), (4, 0, 1), (5, 0, 1), (6, 1, 0)] (by kernel_rfl) rfl (by kernel_rfl) ?_
            simp only [opsZ, List.getD_cons_zero, List.getD_cons_succ]
            first | refine ZE.move rfl rfl rfl rfl sq0 ?_
            first | refine ZE.nilc rfl rfl rfl rfl sq0 ?_
            refine ZE.field rfl rfl rfl rfl sz0 (fun W => f61_1 _ W) ?_
            refine ZE.load rfl rfl rfl rfl sz1 (fun W hW => ldM (T12.on (hW.resolve_left (by decide))).bl rfl) ?_
            refine ZE.load rfl rfl rfl rfl sz1 (fun W hW => ld67 (B12.on (hW.resolve_left (by decide)))) ?_
            refine ZE.load rfl rfl rfl rfl sz1 (fun W hW => ld71 hQ (b12''.on (hW.resolve_left (by decide)))) ?_
            refine ZE.mup (fun W => ∃ c1, Tr W p r most (upE E a (pI c) (adQ E most a c u) c0) c1 ∧ Blk W q9 (adX c u).cs 58 ∧ Fx (fun k => k = r) w12 W) rfl rfl rfl rfl (fun _ _ => .inl rfl) (fun W hW => ?_) ?_
            · obtain ⟨W2, c1, m1, m2, m3⟩ := run_upE (T12.on hW).mp a (pI c) (adQ E most a c u) hQ
              exact ⟨W2, m1, c1, (T12.on hW).up (hQs.on (bt l12 hW)) (ah3 a0) m2 m3, (B9.on hW).fx m3 (fun e => by have := ht.mp.ltb; have := l1.size; omega), (Fx.of_below hW).and m3⟩
            rintro w13 ⟨c1, T15, b15, F15⟩
            refine EW.on ?_
            refine EW.seq ?_
            refine EW.region ?_
            refine WL.field rfl rfl rfl (f58_0 _ _) ?_
            refine WL.load rfl rfl rfl (ldU2 b15 (Pi.c0 _)) ?_
            first | refine WL.move rfl rfl rfl ?_
            first | refine WL.assign rfl rfl rfl ?_
            first | refine WL.assign rfl rfl rfl ?_
            first | refine WL.assign rfl rfl rfl ?_
            refine WL.done ?_
            refine EW.on ?_
            refine EW.ret ?_
            refine EW.returns3 Tryd.results10 rfl rfl rfl ?_
            have er : adE E most a c = 0 := by
              unfold adE
              rw [if_neg (by rw [h15]; decide), if_neg (by rw [okt]; decide), if_neg (fun h => h h37), if_neg (fun h => hno h.1 h.2)]
            refine ⟨u, c1, ?_, ?_, (Fx.of_below (bt L11 l12)).and F15, fun k hlt hk => ?_⟩
            · unfold adI adW; rw [if_pos er, if_pos er, er, show adA E most a c = _ from hA12]; rfl
            · unfold adL; rw [if_pos er]; exact T15
            · unfold adL; rw [if_pos er]; exact adL_off hk most a c u c0 ah1 (by omega) (fun e => by have := ob1.base k e; omega)
      · simp only [List.getD_cons_zero, List.getD_cons_succ]
        refine ZE.newR (fun v W => ∃ q8, v = .pointer (some ⟨q8, 0, none⟩) ∧ Blk W q8 [sv [], u32v 0] 67 ∧ w3.heap.size ≤ q8 ∧ Below w3.heap.size w3 W) rfl rfl (fun _ _ ⟨_, _, _, _, h⟩ => .inr h) (fun W hW => ?_) ?_
        · obtain ⟨W2, q, r, b, l, hq⟩ := newB (cs := [sv [], u32v 0]) zv67 W
          exact ⟨_, W2, r, q, rfl, b, by have := hW.size; omega, hW.trans (l.mono hW.size)⟩
        rintro _ ⟨_, q10, rfl, _, hq10, _⟩
        refine AZ.seg [(1, 1, 1), (4, 0, 0), (6, 1, 1)] 0 rfl (by kernel_rfl) (sq_anti _) (by kernel_rfl) ?_
        simp only [opsZ, List.getD_cons_zero, List.getD_cons_succ]
        refine ZE.callV [sv a] (sv a) (fun W => Blk W q10 [sv [], u32v 0] 67 ∧ Below w3.heap.size w3 W) enter23 rfl rfl rfl (fun _ h => .inr h.2) (fun W hW => ?_) ?_
        · obtain ⟨q, e, b, _, l⟩ := hW
          cases e
          exact (clone23 a (by have := nmB_t.1 h15; omega) W).mono fun e w' ⟨h1, h2⟩ => ⟨h1, b.on h2, bt l h2⟩
        refine ZE.buildN [(0, sv a), (1, u32v (pI c))] rfl rfl rfl rfl sq0 (fun W => bd67 _ _ W) ?_
        refine ZE.store (fun W => Blk W q10 [sv a, u32v (pI c)] 67 ∧ Below w3.heap.size w3 W) rfl rfl rfl (fun _ h => .inr h.2) (fun W hW => ?_) ?_
        · obtain ⟨b, l⟩ := hW
          obtain ⟨W2, s1, s2, s3⟩ := st67 b a (pI c)
          exact ⟨W2, s1, s2, l.trans (s3.below (fun k hk e => by have e' : k = q10 := e; omega) l.size)⟩
        refine AZ.done (by kernel_rfl) ?_
        rintro w4 ⟨B10, L4⟩
        refine EW.on ?_
        refine EW.seq ?_
        refine EW.region ?_
        first | refine WL.move rfl rfl rfl ?_
        refine WL.load rfl rfl rfl (ld67 B10) ?_
        refine WL.load rfl rfl rfl (ld58 hx (b9.on L4)) ?_
        refine WL.call [.pointer (some ⟨p, 0, none⟩), plV a (pI c), (adX c u).val] enter24 rfl rfl rfl (ahead_any p r most E c0 a (adX c u) hx (by show pA c < 64; omega) K4 _ (ht.on (bt L3 L4))) ?_
        rintro _ w5 ⟨rfl, l5⟩
        refine ⟨_, rfl, ?_⟩
        obtain ⟨ah1, ah2, ah3⟩ := ah_ok (ht.on (bt (bt L3 L4) l5)) a (adX c u) hx K4 K3
        first | refine WL.move rfl rfl rfl ?_
        first | refine WL.extract rfl rfl rfl (ext_2 _ _ _).1 ?_
        first | refine WL.extract rfl rfl rfl (ext_2 _ _ _).2 ?_
        obtain ⟨w6, w7, q11, rn11, s11, b11, l7, hq11⟩ := ns71 w5 ah1
        refine WL.new rfl rfl rn11 ?_
        refine WL.store rfl rfl rfl s11 ?_
        have L7 := bt (bt (bt L3 L4) l5) l7
        first | refine WL.assign rfl rfl rfl ?_
        refine WL.done ?_
        refine EW.on ?_
        refine EW.seq ?_
        refine EW.seq ?_
        refine EW.region ?_
        first | refine WL.move rfl rfl rfl ?_
        refine WL.bin rfl rfl rfl rfl (int_ne_d _ _ _ _ _) ?_
        refine WL.done ?_
        refine EW.on ?_
        refine EW.cond_d rfl (fun h37 => ?_) (fun h37 => ?_)
        · replace h37 : ¬ adH E most a c = 0 := h37
          refine EW.seq ?_
          refine EW.region ?_
          first | refine WL.move rfl rfl rfl ?_
          first | refine WL.assign rfl rfl rfl ?_
          first | refine WL.assign rfl rfl rfl ?_
          first | refine WL.assign rfl rfl rfl ?_
          refine WL.done ?_
          refine EW.on ?_
          refine EW.ret ?_
          refine pr_then ?_
          refine EW.returns3 Tryd.results10 rfl rfl rfl ?_
          have er : adE E most a c = adH E most a c := by unfold adE; rw [if_neg (by rw [h15]; decide), if_neg (by rw [okt]; decide), if_pos h37]
          have ne : ¬ adE E most a c = 0 := by rw [er]; exact h37
          refine ⟨u0, c0, ?_, ?_, Fx.of_below L7, fun k _ hk => ?_⟩
          · unfold adI adW; rw [if_neg ne, if_neg ne, er]; rfl
          · unfold adL; rw [if_neg ne]; exact ht.on L7
          · unfold adL; rw [if_neg ne]; exact hk
        · replace h37 : adH E most a c = 0 := Decidable.of_not_not h37
          have a0 : (ahR E most a (adX c u)).2 = 0 := h37
          have hQ : (adQ E most a c u).sh := Pc.put_sh ah1 _ hx.sl _
          refine EW.skip ?_
          refine EW.on ?_
          refine EW.seq ?_
          refine EW.region ?_
          refine WL.load rfl rfl rfl (ld71 ah1 b11) ?_
          refine WL.load rfl rfl rfl (ld58 hx (((b9.on L4).on l5).on l7)) ?_
          refine WL.call [(ahR E most a (adX c u)).1.val, (adX c u).val] enter25 rfl rfl rfl (with_any _ ah1 (adX c u) hx (by show pA c < 64; omega) (pC c) _) ?_
          rintro _ w8 ⟨rfl, l8⟩
          refine ⟨_, rfl, ?_⟩
          obtain ⟨w9, w10, q12, rn12, s12, b12, l10, hq12⟩ := ns71 w8 hQ
          refine WL.new rfl rfl rn12 ?_
          refine WL.store rfl rfl rfl s12 ?_
          have L10 := bt (bt L7 l8) l10
          refine WL.done ?_
          refine EW.on ?_
          refine EW.seq ?_
          refine EW.region ?_
          refine WL.load rfl rfl rfl (ld71 hQ b12) ?_
          refine WL.call [(adQ E most a c u).val] enter26 rfl rfl rfl (all_any _ hQ _) ?_
          rintro _ w11 ⟨rfl, l11⟩
          refine ⟨_, rfl, ?_⟩
          have L11 := bt L10 l11
          have b12' := b12.on l11
          have obW := ob1.below (bt (bt (bt (bt (bt (bt (bt l3 L4) l5) l7) l8) l10) l11) (Below.refl _ _))
          have hQs : (adQ E most a c u).hs w11 := Pc.put_hs ah1 (ah2.on (bt (bt (bt l7 l8) l10) l11)) (pA c) (by omega) obW.has K7
          have T11 := ht.on L11
          first | refine WL.assign rfl rfl rfl ?_
          refine WL.done ?_
          refine EW.on ?_
          refine EW.seq ?_
          refine EW.seq ?_
          rcases Bool.eq_false_or_eq_true (adQ E most a c u).all with hA12 | hA12
          all_goals rw [hA12]
          · refine EW.ordB [(0, 0, 0), (1, 0, 0), (2, 0, 1), (5, 0, 0), (6, 0, 1), (3, 1, 1), (4, 1, 1), (7, 0, 0), (8, 0, 0)] (by kernel_rfl) rfl (by kernel_rfl) ?_
            simp only [opsZ, List.getD_cons_zero, List.getD_cons_succ]
            first | refine ZE.move rfl rfl rfl rfl sq0 ?_
            first | refine ZE.move rfl rfl rfl rfl sq0 ?_
            first | refine ZE.load rfl rfl rfl rfl sz1 (fun W hW => ld71 hQ (b12'.on (hW.resolve_left (by decide)))) ?_ | refine ZE.skip rfl rfl rfl sz1 ?_
            first | refine ZE.field rfl rfl rfl rfl sz0 (fun W => f71_1 _ W) ?_ | refine ZE.skip rfl rfl rfl sz0 ?_
            first | refine ZE.load rfl rfl rfl rfl sz1 (fun W hW => ld54 hQ (b12'.on (hW.resolve_left (by decide)))) ?_ | refine ZE.skip rfl rfl rfl sz1 ?_
            refine ZE.callR [(adQ E most a c u).val] (fun v W => Parts W v (adQ E most a c u).ps ∧ Below w11.heap.size w11 W) enter27 rfl rfl rfl (fun _ _ h => .inr h.2) (fun W hW => (ord_any _ hQ W (hQs.on hW)).mono fun e w' ⟨v, h1, h2, h3⟩ => ⟨v, h1, h2, bt hW h3⟩) ?_
            rintro v27 ⟨_, _, _⟩
            refine ZE.callV [v27] (kv (sm (adQ E most a c u).txt)) (fun W => Below w11.heap.size w11 W) enter19 rfl rfl rfl (fun _ h => .inr h) (fun W hW => (sm_any v27 _ _ (Pc.ps_txt hQ) W hW.1 (hK.below (bt L11 hW.2) hK.lt) (by have := Pc.txt_len hQ hQs; omega) (by rw [Pc.ps_len hQ]; have := hQ.n2; omega)).mono fun e w' ⟨h1, h2⟩ => ⟨h1, bt hW.2 h2⟩) ?_
            first | refine ZE.bin rfl rfl rfl rfl rfl sz0 (fun W => neq54 _ _ (sm_len _) hQ.s W _ _) ?_ | refine ZE.skip rfl rfl rfl sz0 ?_
            first | refine ZE.pick rfl rfl rfl rfl rfl sq0 ?_
            rintro w12 l12
            have T12 := T11.on l12
            have B12 := ((((((B10.on l5).on l7).on l8).on l10).on l11).on l12)
            have b12'' := b12'.on l12
            have B9 := (((((((b9.on L4).on l5).on l7).on l8).on l10).on l11).on l12)
            refine EW.on ?_
            refine EW.cond_d rfl (fun h52 => ?_) (fun h52 => ?_)
            · have hWh : adA E most a c = true := hA12
              refine EW.seq ?_
              refine EW.region ?_
              first | refine WL.assign rfl rfl rfl ?_
              first | refine WL.assign rfl rfl rfl ?_
              first | refine WL.assign rfl rfl rfl ?_
              refine WL.done ?_
              refine EW.on ?_
              refine EW.ret ?_
              refine pr_then ?_
              refine EW.returns3 Tryd.results10 rfl rfl rfl ?_
              have er : adE E most a c = 101 := by unfold adE; rw [if_neg (by rw [h15]; decide), if_neg (by rw [okt]; decide), if_neg (fun h => h h37), if_pos ⟨hWh, h52⟩]
              have ne : ¬ adE E most a c = 0 := by rw [er]; exact (by decide)
              refine ⟨u0, c0, ?_, ?_, Fx.of_below (bt L11 l12), fun k _ hk => ?_⟩
              · unfold adI adW; rw [if_neg ne, if_neg ne, er]; rfl
              · unfold adL; rw [if_neg ne]; exact ht.on (bt L11 l12)
              · unfold adL; rw [if_neg ne]; exact hk
            · have hno : adA E most a c = true → ¬ ¬ sm (adQ E most a c u0).txt = (adQ E most a c u0).s := fun _ => h52
              refine EW.skip ?_
              refine EW.on ?_
              refine EW.seq ?_
              refine EW.ordB [(0, 0, 0), (1, 0, 0), (2, 0, 0), (3, 0, 1), (4, 0, 1), (5, 0, 1), (6, 1, 0)] (by kernel_rfl) rfl (by kernel_rfl) ?_
              simp only [opsZ, List.getD_cons_zero, List.getD_cons_succ]
              first | refine ZE.move rfl rfl rfl rfl sq0 ?_
              first | refine ZE.nilc rfl rfl rfl rfl sq0 ?_
              refine ZE.field rfl rfl rfl rfl sz0 (fun W => f61_1 _ W) ?_
              refine ZE.load rfl rfl rfl rfl sz1 (fun W hW => ldM (T12.on (hW.resolve_left (by decide))).bl rfl) ?_
              refine ZE.load rfl rfl rfl rfl sz1 (fun W hW => ld67 (B12.on (hW.resolve_left (by decide)))) ?_
              refine ZE.load rfl rfl rfl rfl sz1 (fun W hW => ld71 hQ (b12''.on (hW.resolve_left (by decide)))) ?_
              refine ZE.mup (fun W => ∃ c1, Tr W p r most (upE E a (pI c) (adQ E most a c u) c0) c1 ∧ Blk W q9 (adX c u).cs 58 ∧ Fx (fun k => k = r) w12 W) rfl rfl rfl rfl (fun _ _ => .inl rfl) (fun W hW => ?_) ?_
              · obtain ⟨W2, c1, m1, m2, m3⟩ := run_upE (T12.on hW).mp a (pI c) (adQ E most a c u) hQ
                exact ⟨W2, m1, c1, (T12.on hW).up (hQs.on (bt l12 hW)) (ah3 a0) m2 m3, (B9.on hW).fx m3 (fun e => by have := ht.mp.ltb; have := l1.size; omega), (Fx.of_below hW).and m3⟩
              rintro w13 ⟨c1, T15, b15, F15⟩
              refine EW.on ?_
              refine EW.seq ?_
              refine EW.region ?_
              refine WL.field rfl rfl rfl (f58_0 _ _) ?_
              refine WL.load rfl rfl rfl (ldU2 b15 (Pi.c0 _)) ?_
              first | refine WL.move rfl rfl rfl ?_
              first | refine WL.assign rfl rfl rfl ?_
              first | refine WL.assign rfl rfl rfl ?_
              first | refine WL.assign rfl rfl rfl ?_
              refine WL.done ?_
              refine EW.on ?_
              refine EW.ret ?_
              refine EW.returns3 Tryd.results10 rfl rfl rfl ?_
              have er : adE E most a c = 0 := by
                unfold adE
                rw [if_neg (by rw [h15]; decide), if_neg (by rw [okt]; decide), if_neg (fun h => h h37), if_neg (fun h => hno h.1 h.2)]
              refine ⟨u, c1, ?_, ?_, (Fx.of_below (bt L11 l12)).and F15, fun k hlt hk => ?_⟩
              · unfold adI adW; rw [if_pos er, if_pos er, er, show adA E most a c = _ from hA12]; rfl
              · unfold adL; rw [if_pos er]; exact T15
              · unfold adL; rw [if_pos er]; exact adL_off hk most a c u c0 ah1 (by omega) (fun e => by have := ob1.base k e; omega)
          · refine EW.ordB [(0, 0, 0), (1, 0, 0), (2, 0, 1), (3, 0, 0), (4, 0, 0), (5, 0, 0), (6, 0, 1), (7, 0, 0), (8, 0, 0)] (by kernel_rfl) rfl (by kernel_rfl) ?_
            simp only [opsZ, List.getD_cons_zero, List.getD_cons_succ]
            first | refine ZE.move rfl rfl rfl rfl sq0 ?_
            first | refine ZE.move rfl rfl rfl rfl sq0 ?_
            first | refine ZE.load rfl rfl rfl rfl sz1 (fun W hW => ld71 hQ (b12'.on (hW.resolve_left (by decide)))) ?_ | refine ZE.skip rfl rfl rfl sz1 ?_
            refine ZE.skip rfl rfl rfl sz0 ?_
            refine ZE.skip rfl rfl rfl sz0 ?_
            first | refine ZE.field rfl rfl rfl rfl sz0 (fun W => f71_1 _ W) ?_ | refine ZE.skip rfl rfl rfl sz0 ?_
            first | refine ZE.load rfl rfl rfl rfl sz1 (fun W hW => ld54 hQ (b12'.on (hW.resolve_left (by decide)))) ?_ | refine ZE.skip rfl rfl rfl sz1 ?_
            first | refine ZE.bin rfl rfl rfl rfl rfl sz0 (fun W => neq54 _ _ (sm_len _) hQ.s W _ _) ?_ | refine ZE.skip rfl rfl rfl sz0 ?_
            first | refine ZE.pick rfl rfl rfl rfl rfl sq0 ?_
            rintro w12 l12
            have T12 := T11.on l12
            have B12 := ((((((B10.on l5).on l7).on l8).on l10).on l11).on l12)
            have b12'' := b12'.on l12
            have B9 := (((((((b9.on L4).on l5).on l7).on l8).on l10).on l11).on l12)
            refine EW.on ?_
            refine EW.cond_f rfl ?_
            refine EW.skip ?_
            refine EW.on ?_
            refine EW.seq ?_
            have hno : adA E most a c = true → ¬ ¬ sm (adQ E most a c u0).txt = (adQ E most a c u0).s := fun h => by rw [show adA E most a c = false from hA12] at h; cases h
            refine EW.ordB [(0, 0, 0), (1, 0, 0), (2, 0, 0), (3, 0, 1), (4, 0, 1), (5, 0, 1), (6, 1, 0)] (by kernel_rfl) rfl (by kernel_rfl) ?_
            simp only [opsZ, List.getD_cons_zero, List.getD_cons_succ]
            first | refine ZE.move rfl rfl rfl rfl sq0 ?_
            first | refine ZE.nilc rfl rfl rfl rfl sq0 ?_
            refine ZE.field rfl rfl rfl rfl sz0 (fun W => f61_1 _ W) ?_
            refine ZE.load rfl rfl rfl rfl sz1 (fun W hW => ldM (T12.on (hW.resolve_left (by decide))).bl rfl) ?_
            refine ZE.load rfl rfl rfl rfl sz1 (fun W hW => ld67 (B12.on (hW.resolve_left (by decide)))) ?_
            refine ZE.load rfl rfl rfl rfl sz1 (fun W hW => ld71 hQ (b12''.on (hW.resolve_left (by decide)))) ?_
            refine ZE.mup (fun W => ∃ c1, Tr W p r most (upE E a (pI c) (adQ E most a c u) c0) c1 ∧ Blk W q9 (adX c u).cs 58 ∧ Fx (fun k => k = r) w12 W) rfl rfl rfl rfl (fun _ _ => .inl rfl) (fun W hW => ?_) ?_
            · obtain ⟨W2, c1, m1, m2, m3⟩ := run_upE (T12.on hW).mp a (pI c) (adQ E most a c u) hQ
              exact ⟨W2, m1, c1, (T12.on hW).up (hQs.on (bt l12 hW)) (ah3 a0) m2 m3, (B9.on hW).fx m3 (fun e => by have := ht.mp.ltb; have := l1.size; omega), (Fx.of_below hW).and m3⟩
            rintro w13 ⟨c1, T15, b15, F15⟩
            refine EW.on ?_
            refine EW.seq ?_
            refine EW.region ?_
            refine WL.field rfl rfl rfl (f58_0 _ _) ?_
            refine WL.load rfl rfl rfl (ldU2 b15 (Pi.c0 _)) ?_
            first | refine WL.move rfl rfl rfl ?_
            first | refine WL.assign rfl rfl rfl ?_
            first | refine WL.assign rfl rfl rfl ?_
            first | refine WL.assign rfl rfl rfl ?_
            refine WL.done ?_
            refine EW.on ?_
            refine EW.ret ?_
            refine EW.returns3 Tryd.results10 rfl rfl rfl ?_
            have er : adE E most a c = 0 := by
              unfold adE
              rw [if_neg (by rw [h15]; decide), if_neg (by rw [okt]; decide), if_neg (fun h => h h37), if_neg (fun h => hno h.1 h.2)]
            refine ⟨u, c1, ?_, ?_, (Fx.of_below (bt L11 l12)).and F15, fun k hlt hk => ?_⟩
            · unfold adI adW; rw [if_pos er, if_pos er, er, show adA E most a c = _ from hA12]; rfl
            · unfold adL; rw [if_pos er]; exact T15
            · unfold adL; rw [if_pos er]; exact adL_off hk most a c u c0 ah1 (by omega) (fun e => by have := ob1.base k e; omega)
end Go.Proofs.YtiefgmgjlhjjhaaDoor
