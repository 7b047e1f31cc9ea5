import Derived.Test.YtmbgeojjklboeaaGreatDoorQfG
import Derived.Test.YtmbgeojjklboeaaGreatDoorWoG
set_option linter.unusedVariables false
set_option linter.unusedSimpArgs false
namespace Go.Proofs.YtmbgeojjklboeaaGreatDoor
open Go.RowKit

theorem wpAny_of_ZK {P : Program} {ops : Array Oper} {Q : Exit → Act → World → Prop} {md : Region.Mode} {Rp : List PanicEntry → World → Prop} {S : Nat → World → Prop} {lev : Nat → Nat} {G : Act → Prop} (hG : ∀ (i : Nat) (o : Oper), ops[i]? = some o → ∀ a v, G a → G (a.put o.dst v)) (hR : ∀ ch w a, G a → Rp ch w → Q (.panic ch) a w) : ∀ (n : Nat) (listed : Array Bool) (a : Act) (C : World → Prop), G a → wpAnyZ P md ops Q Rp S lev n listed a C → ∀ w, C w → wpAny P md ops Q n listed a w
  | 0, _, _, _, _, h, w, hw => h.2 w hw
  | n + 1, listed, a, C, hg0, h, w, hw => by
    unfold wpAnyZ at h
    split at h
    · exact h w hw
    · refine ⟨fun h0 => absurd h0 h.1, fun i hi => ?_⟩
      obtain ⟨o, ho, ⟨v, hv, hk⟩ | ⟨hl, hg, C', h1, h2, hk⟩⟩ := h.2 i hi
      · unfold wpOp
        simp only [ho]
        rcases hv with ⟨hwa, hv⟩ | ⟨hwa, rfl⟩
        · simp only [hwa, if_true, Oper.wp, hv w hw, Oper.upon]
          exact .inl (wpAny_of_ZK hG hR n _ _ C (hG i o ho _ _ hg0) hk w hw)
        · simp only [hwa, Bool.false_eq_true, if_false]
          exact wpAny_of_ZK hG hR n _ _ C (hG i o ho _ _ hg0) hk w hw
      · unfold wpOp
        simp only [ho, hg, if_true]
        exact .inl ((h2 w hw).wp (fun ch w' hc => hR ch w' a hg0 hc) fun v w' hw' => wpAny_of_ZK hG hR n _ _ (C' v) (hG i o ho _ _ hg0) (hk v ⟨w', hw'⟩) w' hw')
theorem keepE_none {e : List (Nat × Value)} {i : Nat} : ∀ {ls : List Nat}, ls.contains i = false → (keepE e ls).lookup i = none
  | [], _ => rfl
  | j :: r, h => by
    simp only [List.contains_cons, Bool.or_eq_false_iff] at h
    unfold keepE
    split
    · rw [List.lookup_cons]
      have : (i == j) = false := h.1
      rw [this]
      exact keepE_none h.2
    · exact keepE_none h.2
theorem keep_put {n : Fm} {e : List (Nat × Value)} {ls : List Nat} {l : List Oper} {a : Act} {o : Oper} {v : Value} (h : Env n a (keepE e ls)) (hl : (l.all fun o => o.dst.all fun i => decide (i < n.k) && !ls.contains i) = true) (ho : o ∈ l) : Env n (a.put o.dst v) (keepE e ls) := by
  have h1 := List.all_eq_true.1 hl o ho
  cases hd : o.dst with
  | none => exact h
  | some i =>
    rw [hd] at h1
    simp only [Option.all_some, Bool.and_eq_true, decide_eq_true_eq, Bool.not_eq_true'] at h1
    refine (h.put i v h1.1).less fun j u hj => ?_
    rw [List.lookup_cons]
    by_cases hji : j = i
    · subst hji
      rw [keepE_none h1.2] at hj
      cases hj
    · have : (j == i) = false := by simpa using hji
      rw [this]
      exact hj
theorem EW.ordPK {P : Program} {n : Fm} {Q : Exit → Act → World → Prop} {Rp : List PanicEntry → World → Prop} {id : Nat} {l : List Oper} {e : List (Nat × Value)} {w : World} (ks : List Zk) (S : Nat → World → Prop) (C0 : World → Prop) (ls : List Nat) (hls : (l.all fun o => o.dst.all fun i => decide (i < n.k) && !ls.contains i) = true) (hR : ∀ ch W, Rp ch W → ∀ a, Env n a (keepE e ls) → Q (.panic ch) a W) (hm : P.follows .mixedOrders = true) (hl : l.length = ks.length)
    (hB : (Region.noSelect l.toArray && okZ .any l.toArray (levZ ks) ks (none_ ks.length)) = true) (hA : ∀ (m n : Nat) w, m ≤ n → S n w → S m w) (hC : C0 { w with drawn := w.drawn + 1 })
    (h : wpZE P n l.toArray Rp S (fun e' C' => ∀ W, C' W → ∀ a', Env n a' e' → Q .normal a' W) (opsZ l ks) e C0) : EW P n (Code.region id l.toArray true) Q e w := fun a ha => by
  simp only [Bool.and_eq_true] at hB
  refine wp_region_any hm ?_
  rw [show l.toArray.size = ks.length by simpa using hl]
  exact wpAny_of_ZK (Rp := Rp) (S := S) (lev := levZ ks) (G := fun a => Env n a (keepE e ls)) (fun i o ho a v h => keep_put h hls (by rw [List.getElem?_toArray] at ho; exact List.mem_of_getElem? ho)) (fun ch w a h hc => hR ch w hc a h) _ _ _ C0 (ha.less (keepE_sub e ls)) (wpAnyZ_ord hB.1 hA ks (none_ ks.length) a _ hB.2 (closed_none _) (by simp [none_, hl]) (wpZ_of_E (K' := fun e' C' => ∀ W, C' W → ∀ a', Env n a' e' → Q .normal a' W) (fun e' C' hk a' ha' W hW => hk W hW a' ha') _ e _ a ha h)) _ hC
set_option maxRecDepth 100000 in
set_option maxHeartbeats 1000000 in
theorem aover {w : World} {L : Lay} {N : Nat} {d s : Nat → List UInt8} {ps : List Nat} {left c : Nat} (h : Da w L N d s ps left c) (hN : N ≤ 1000000) (p : Nat) (hr : roomD (N : Int) = (p : Int)) (hp : ¬ (p : Int) = 0) : Calls Tryz.prog 31 #[.pointer (some ⟨L.p, 0, none⟩)] w fun e w' => e = .returned (dkV L.p p) ∧ Below w.heap.size w w' := by
  obtain ⟨D, h0, hdn, _, hDn, _⟩ := h.ex
  have h1 := h0.below (below_new w (.cells [Value.pointer none, .int .i64 0].toArray 76))
  refine calls_of_args [.pointer (some ⟨L.p, 0, none⟩)] Tryz.func31 rfl 19 Tryz.ntmps31 (by show 1 ≤ 19; decide) ?_; refine EW.seq ?_; refine EW.region ?_; refine WL.new rfl rfl (new55 w) ?_; refine WL.done ?_; refine EW.on ?_; refine EW.seq ?_; refine EW.seq ?_; refine EW.region ?_; refine WL.move rfl rfl rfl ?_; refine WL.bin rfl rfl rfl rfl (eq41s L.p _ _ _) ?_; refine WL.done ?_; refine EW.on ?_; refine EW.cond_f rfl ?_; refine EW.skip ?_; refine EW.on ?_; refine EW.seq ?_; refine EW.seq ?_; refine EW.region ?_; refine WL.move rfl rfl rfl ?_; refine WL.call [.pointer (some ⟨L.p, 0, none⟩)] enter23 rfl rfl rfl (down_any h1) ?_
  rintro _ w3 ⟨rfl, hz3⟩
  rw [hz3, hdn]
  refine ⟨_, rfl, ?_⟩; refine WL.done ?_; refine EW.on ?_; refine EW.cond_f rfl ?_; refine EW.skip ?_; refine EW.on ?_; refine EW.seq ?_; refine EW.region ?_; refine WL.move rfl rfl rfl ?_; refine WL.call [.pointer (some ⟨L.p, 0, none⟩)] enter56 rfl rfl rfl (sectors_any h1) ?_
  rintro _ w4 ⟨rfl, hz4⟩
  rw [hz4]
  refine ⟨_, rfl, ?_⟩; refine WL.call [.int .i64 (D.n : Int)] enter55 rfl rfl rfl (room_any (D.n : Int) (by omega) _) ?_
  rintro _ w5 ⟨rfl, hz5⟩
  rw [hz5, hDn, hr]
  refine ⟨_, rfl, ?_⟩; refine WL.assign rfl rfl rfl ?_; refine WL.done ?_; refine EW.on ?_; refine EW.seq ?_; refine EW.seq ?_; refine EW.region ?_; refine WL.move rfl rfl rfl ?_
  first | refine WL.bin rfl rfl rfl rfl (int_eq_t rfl _ _ _) ?_ | refine WL.bin rfl rfl rfl rfl (int_eq_t ‹_› _ _ _) ?_ | refine WL.bin rfl rfl rfl rfl (int_eq_f ‹_› _ _ _) ?_ | refine WL.bin rfl rfl rfl rfl (int_eq_d _ _ _ _ _) ?_
  refine WL.done ?_; refine EW.on ?_; refine EW.cond_f rfl ?_; refine EW.skip ?_; refine EW.on ?_; refine EW.seq ?_; refine EW.region ?_; refine WL.move rfl rfl rfl ?_; refine WL.move rfl rfl rfl ?_; refine WL.buildN [(0, .pointer (some ⟨L.p, 0, none⟩)), (1, .int .i64 (p : Int))] rfl rfl rfl (bld55 _ _ _) ?_
  obtain ⟨w2, s2, b2, x2⟩ := st55 (p := L.p) (n := p) (Blk.new w [Value.pointer none, .int .i64 0] 76) rfl
  refine WL.store rfl rfl rfl s2 ?_; refine WL.done ?_; refine EW.on ?_; refine EW.ret ?_
  exact EW.returnsC Tryz.results31 rfl b2 Tryz.underlying76 rfl (info55 _ _) ⟨rfl, (below_new w _).trans (x2.below (fun k hk e => by omega) (below_new w _).size)⟩
theorem akcache {w : World} {L : Lay} {N : Nat} {d s : Nat → List UInt8} {ps : List Nat} {left c : Nat} (h : Da w L N d s ps left c) : Calls Tryz.prog 40 #[.pointer (some ⟨L.p, 0, none⟩)] w fun e w' => (∃ ao, e = .returned (.slice ao ps.length ps.length)) ∧ Below w.heap.size w w' := by
  obtain ⟨D, h1, h2, h3, h4, h5, h6, h7, h8⟩ := h.ex
  refine (cache_any h1).mono ?_
  rintro e w' ⟨g1, g2, _⟩
  have : D.pen.length = ps.length := by rw [← h7, List.length_map]
  exact ⟨⟨_, by rw [g1, this]⟩, g2⟩
set_option maxRecDepth 100000 in
set_option maxHeartbeats 1000000 in
theorem asettle {w : World} {L : Lay} {N : Nat} {d s : Nat → List UInt8} {ps : List Nat} {left c : Nat} (n : Nat) (h : Da w L N d s ps left c) (hm : ¬ (0 : Int) < (ps.length : Int)) : Calls Tryz.prog 32 #[dkV L.p n] w fun e w' => e = .returned (.tuple #[]) ∧ Below w.heap.size w w' := by
  refine calls_of_args [dkV L.p n] Tryz.func32 rfl 9 Tryz.ntmps32 (by show 1 ≤ 9; decide) ?_; refine EW.seq ?_; refine EW.region ?_
  obtain ⟨w1, q, r1, b1, e1, hq⟩ := box55 L.p n w
  have h1 := h.below e1
  refine WL.box rfl rfl rfl r1 ?_; refine WL.done ?_; refine EW.on ?_; refine EW.seq ?_; refine EW.region ?_; refine WL.field rfl rfl rfl (fld55_0 q _) ?_; refine WL.load rfl rfl rfl (ldP41 b1) ?_; refine WL.call [.pointer (some ⟨L.p, 0, none⟩)] enter40 rfl rfl rfl (akcache h1) ?_
  rintro _ w2 ⟨⟨ao, rfl⟩, e2⟩
  refine ⟨_, rfl, ?_⟩; refine WL.len rfl rfl rfl (len49 _ _ _ _ _) ?_
  first | refine WL.bin rfl rfl rfl rfl (int_gt_t ‹_› _ _ _) ?_ | refine WL.bin rfl rfl rfl rfl (int_gt_f ‹_› _ _ _) ?_ | refine WL.bin rfl rfl rfl rfl (int_gt_d _ _ _ _ _) ?_
  refine WL.done ?_; refine EW.on ?_; refine EW.cond_f rfl ?_; refine EW.skip ?_
  exact EW.falls Tryz.results32 ⟨rfl, e1.trans (e2.mono e1.size)⟩
theorem Gone.end {w w1 w2 w3 : World} {L : Lay} {N c c2 : Nat} {X Y : (Nat → List UInt8) → Prop} {S : Nat → Prop} (go : Gone w1 L N c X w2) (hb : Below w.heap.size w w1) (x : Fx S w2 w3) (hS : ∀ k, S k → w.heap.size ≤ k ∧ k < w1.heap.size ∧ ¬ L.F k) (hc : c ≤ c2) (hX : ∀ d', (∀ i, i < N → (d' i).length = 512) → X d' → Y d') : Gone w L N c2 Y w3 := by
  obtain ⟨L', d', c', t, dz, h3, h4, h5⟩ := go
  obtain ⟨D, k1, k2⟩ := dz.ex
  refine ⟨L', d', c', ⟨(t.pre hb).fx.trans x (fun k hk hs => by have := (hS k hs).1; omega), (t.pre hb).own, t.p⟩, ⟨D, k1.fx x (fun k hk hs => ?_), k2⟩, by omega, h4, hX d' h4 h5⟩
  rcases t.own k hk with h | h
  · exact (hS k hs).2.2 h
  · have := (hS k hs).2.1; omega
/-- A fault of Open's. -/
def OpF (w : World) (e : Ending) : Prop := ∃ u q, e = .returned (.tuple #[.pointer none, .bool false, u]) ∧ u = .iface 109 (.pointer (some ⟨q, 0, none⟩)) ∧ Blk w q (fltC sOpen 0 80) 111
set_option maxRecDepth 100000 in
set_option maxHeartbeats 4000000 in
theorem aopen_zero {w : World} {L : Lay} {N : Nat} {d : Nat → List UInt8} {left c : Nat} (h : Da w L N d d [] left c) (n : Nat) (hN : N ≤ 4096) (hr : roomD (N : Int) = (n : Int)) (hn : 1 ≤ n) (hnN : 4 * n + 1 ≤ N) (hcal : c ≤ 900000) (h0 : bAt (d 0) 511 = 0) : Calls Tryz.prog 11 #[.pointer (some ⟨L.p, 0, none⟩)] w fun e w' => (∃ vg L' left' c', e = .returned (.tuple #[vg, .bool false, .nilIface]) ∧ Lg w' w.heap.size L.p n vg .nilIface ∧ (∀ k, w.heap.size ≤ k → (∃ q, vg = .pointer (some ⟨q, 0, none⟩) ∧ k = q) → ¬ L'.F k) ∧ Turn w w' L L' ∧ Da w' L' N (wipS [(0, 1 + 2 * n)] d) (wipS [(0, 1 + 2 * n)] d) [] left' c' ∧ c' ≤ c + 2000 ∧ (left = 0 → left' = 0)) ∨ (left ≠ 0 ∧ OpF w' e ∧ Gone w L N (c + 2000) (fun d' => WiX N (1 + 2 * n) d d') w') := by
  have hn2 : n ≤ 1000 := by
    have : roomD (N : Int) ≤ 250 := by unfold roomD; split <;> omega
    omega
  have hn250 : n ≤ 250 := by
    have : roomD (N : Int) ≤ 250 := by unfold roomD; split <;> omega
    omega
  have hl0 := h.lenS 0 (by omega)
  refine calls_of_argsD [.pointer (some ⟨L.p, 0, none⟩)] Tryz.func11 rfl 35 Tryz.ntmps11 (by show 1 ≤ 35; decide) ?_; refine EW.seq ?_; refine EW.region ?_
  obtain ⟨w1, ql, r1, b1, e1, hq1, z1⟩ := new22 w
  refine WL.new rfl rfl r1 ?_
  obtain ⟨w2, qa, r2, b2, e2, hq2, z2⟩ := new4 w1
  refine WL.new rfl rfl r2 ?_
  obtain ⟨w3, qe, r3, b3, e3, hq3, z3⟩ := new24 w2
  have e03 := (e1.trans (e2.mono e1.size)).trans (e3.mono (Nat.le_trans e1.size e2.size))
  have h3 := h.below e03
  refine WL.new rfl rfl r3 ?_; refine WL.done ?_; refine EW.on ?_; refine EW.seq ?_; refine EW.region ?_; refine WL.mkf [.pointer (some ⟨ql, 0, none⟩), .pointer (some ⟨qa, 0, none⟩), .pointer (some ⟨qe, 0, none⟩)] rfl rfl rfl ?_; refine WL.defer rfl rfl ?_; refine WL.done ?_; refine EW.on ?_; refine EW.seq ?_; refine EW.region ?_; refine WL.move rfl rfl rfl ?_; refine WL.call [.pointer (some ⟨L.p, 0, none⟩)] enter31 rfl rfl rfl (aover h3 (by omega) n hr (by omega)) ?_
  rintro _ w4 ⟨rfl, e4⟩
  have e04 := e03.trans (e4.mono e03.size)
  refine ⟨_, rfl, ?_⟩; refine WL.new rfl rfl (new55 w4) ?_
  have e5 := below_new w4 (.cells [Value.pointer none, .int .i64 0].toArray 76)
  obtain ⟨w6, s6, b6, x6⟩ := st55 (p := L.p) (n := n) (Blk.new w4 [Value.pointer none, .int .i64 0] 76) rfl
  have e46 : Below w4.heap.size w4 w6 := below_of_new e5 x6 (fun k hk => by omega)
  have e06 := e04.trans (e46.mono e04.size)
  have e36 := e4.trans (e46.mono e4.size)
  have h6 := h.below e06
  have l6 := ((b1.on e2).on e3).on e36
  have a6 := (b2.on e3).on e36
  have t6 := b3.on e36
  obtain ⟨q5, hq5⟩ : ∃ q5, w4.heap.size = q5 := ⟨_, rfl⟩
  rw [hq5] at s6 b6 x6 ⊢
  refine WL.store rfl rfl rfl s6 ?_; refine WL.done ?_; refine EW.on ?_; refine EW.seq ?_; refine EW.region ?_; refine WL.load rfl rfl rfl (ld55 b6) ?_; refine WL.call [dkV L.p n] enter32 rfl rfl rfl (asettle n h6 (by simp)) ?_
  rintro _ w7 ⟨rfl, e7⟩
  have e07 := e06.trans (e7.mono e06.size)
  refine ⟨_, rfl, ?_⟩; refine WL.done ?_; refine EW.on ?_; refine EW.seq ?_; refine EW.region ?_; refine WL.load rfl rfl rfl (ld55 (b6.on e7)) ?_; refine WL.call [dkV L.p n, .int .i64 ((0 : Nat) : Int)] enter33 rfl rfl rfl (areadO n (h.below e07) 0 (by omega)) ?_
  rintro _ w8 ⟨mv, rfl, o8, e8⟩
  have e08 := e07.trans (e8.mono e07.size)
  have e68 := e7.trans (e8.mono e7.size)
  refine ⟨_, rfl, ?_⟩; refine WL.assign rfl rfl rfl ?_; refine WL.done ?_; refine EW.on ?_; refine EW.seq ?_; refine EW.seq ?_; refine EW.region ?_; refine WL.move rfl rfl rfl ?_; refine WL.field rfl rfl rfl (fld55_1 q5 _) ?_; refine WL.load rfl rfl rfl (ldI3 (b6.on e68)) ?_; refine WL.call [mv, .int .i64 (n : Int)] enter34 rfl rfl rfl (sense_zero mv (d 0) n w8 o8.has hl0 h0) ?_
  rintro _ w9 ⟨rfl, hz9⟩
  have e9 : Below w8.heap.size w8 w9 := by rw [hz9]; exact Below.refl _ _
  refine ⟨_, rfl, ?_⟩
  have e69 := e68.trans (e9.mono e68.size)
  have e09 := e08.trans (e9.mono e08.size)
  have o9 := o8.below e9
  refine WL.un rfl rfl rfl (not_t _ _) ?_; refine WL.done ?_; refine EW.on ?_; refine EW.cond_f rfl ?_; refine EW.skip ?_; refine EW.on ?_; refine EW.seq ?_; refine EW.region ?_; refine WL.move rfl rfl rfl ?_; refine WL.call [mv] enter36 rfl rfl rfl (stands_any mv (d 0) w9 o9.has hl0) ?_
  rintro _ w10 ⟨rfl, hz10⟩
  rw [hz10, show decide (bAt (d 0) 511 = 1) = false from decide_eq_false (by omega)]
  refine ⟨_, rfl, ?_⟩
  obtain ⟨w11, s11, a11, x11⟩ := st4c false (a6.on e69)
  have hqa : w.heap.size ≤ qa := by have := e1.size; omega
  have e011 : Below w.heap.size w w11 := below_of_new e09 x11 (fun k hk => by omega)
  have h11 := h.below e011
  have l11 := (l6.on e69).fx x11 (by omega)
  have t11 := (t6.on e69).fx x11 (by omega)
  have b11 := (b6.on e69).fx x11 (by have := e03.size; have := e4.size; have := b3.lt; omega)
  have o11 := o9.fx x11 (fun k hk hv => by have := o9.base k hv; have := a6.lt; have := e7.size; omega)
  have hF : ∀ k, w.heap.size ≤ k → ¬ L.F k := fun k hk hF => by have := h.F _ hF; omega
  refine WL.store rfl rfl rfl s11 ?_; refine WL.done ?_; refine EW.on ?_; refine EW.seq ?_; refine EW.seq ?_; refine EW.region ?_; refine WL.load rfl rfl rfl (ld4c a11) ?_; refine WL.done ?_; refine EW.on ?_; refine EW.cond_f rfl ?_; refine EW.skip ?_; refine EW.on ?_; refine EW.seq ?_
  obtain ⟨w12, hw12⟩ : ∃ w12, w11 = w12 := ⟨_, rfl⟩
  obtain ⟨L2, hL2⟩ : ∃ L2, L = L2 := ⟨_, rfl⟩
  have u2 : Turn w11 w12 L L2 := by rw [← hw12, ← hL2]; exact Turn.refl _ _
  obtain ⟨c2, hc2⟩ : ∃ c2, c2 ≤ c + 1000 ∧ c2 = c := ⟨c, by omega, rfl⟩
  obtain ⟨f2, hf2⟩ : ∃ f2, f2 = left := ⟨_, rfl⟩
  have d2 : Da w12 L2 N d d [] f2 c2 := by rw [hc2.2, hf2, ← hw12, ← hL2]; exact h11
  have hcc := hc2.2
  replace hc2 := hc2.1
  obtain ⟨S2, hS2⟩ : ∃ S2, d = S2 := ⟨_, rfl⟩
  rw [hS2] at d2
  have hg5 : w.heap.size ≤ q5 := by have := e04.size; omega
  have b12 := b11.fx u2.fx (hF q5 hg5)
  have l12 := l11.fx u2.fx (hF ql (by omega))
  have a12 := a11.fx u2.fx (hF qa hqa)
  have t12 := t11.fx u2.fx (hF qe (by omega))
  have u012 := u2.pre e011
  rw [hw12]
  refine EW.ordPK [(0, 0, 1), (1, 0, 1), (2, 1, 1), (3, 1, 1), (4, 1, 0)] (SB w12) (fun W => Below w12.heap.size w12 W) [2, 3, 4] rfl (Rp := fun ch W => ch = sur ∧ f2 ≠ 0 ∧ Gone w12 L2 N (c2 + (1 + 2 * n) + 1) (WiX N (1 + 2 * n) S2) W) (fun ch W h => by
    obtain ⟨rfl, hf0, go⟩ := h
    have hln : left ≠ 0 := by omega
    repeat (first | refine pp_then ?_ | refine pp_block ?_)
    replace go := go.from u2
    obtain ⟨Lz, dz, cz, tz, _⟩ := id go
    refine EW.caught enter28 (open1_some 80 (by decide) (l11.fx tz.fx (hF ql (by omega))) (a11.fx tz.fx (hF qa hqa)) (t11.fx tz.fx (hF qe (by omega))) (by omega) (by omega) (by omega)) ?_
    rintro w5 ⟨x5, k1, k2, uu, qq, hu, hq, k3, f5⟩ a ha
    refine ⟨_, results_c3 Tryz.results11 a.tmps w5 (ha.kn 2 _ rfl) (ha.kn 3 _ rfl) (ha.kn 4 _ rfl) (ld22c k1) (ld4c k2) (ld24c k3), .inr ⟨hln, ⟨uu, qq, rfl, hu, f5⟩, go.end e011 x5 (fun k hk => by rcases hk with e | e | e <;> (subst e; exact ⟨by omega, by first | exact l11.lt | exact a11.lt | exact t11.lt, hF _ (by omega)⟩)) (by omega) (fun d' _ hx => by rw [hS2]; exact hx)⟩⟩) (by kernel_rfl) rfl (by kernel_rfl) (sb_anti w12) (below_drawn w12) ?_
  simp only [opsZ, List.getD_cons_zero, List.getD_cons_succ]; refine ZE.load rfl rfl rfl rfl sz1 (fun W hW => ld55 (b12.on (sb_of hW))) ?_; refine ZE.load rfl rfl rfl rfl sz1 (fun W hW => ld55 (b12.on (sb_of hW))) ?_; refine ZE.callR [dkV L.p n] (fun v W => v = .agg (spC 0 (1 + 2 * n)).toArray ∧ Below w12.heap.size w12 W) enter39 rfl rfl rfl (fun _ _ h => .inr h.2) (fun W hW => (log_any L.p n W hn2).mono fun e w' ⟨g1, g2⟩ => ⟨_, g1, rfl, hW.trans (g2.mono hW.size)⟩) ?_
  rintro _ ⟨_, rfl, _⟩
  refine ZE.bsl [(0, .agg (spC 0 (1 + 2 * n)).toArray)] (fun v W => (∃ q, v = .slice (some ⟨q, 0, none⟩) 1 1 ∧ w12.heap.size ≤ q ∧ Blk W q ([(0, 1 + 2 * n)].flatMap fun x => spC x.1 x.2) 85) ∧ Below w12.heap.size w12 W) rfl rfl rfl (fun _ _ h => .inr h.2) (fun W hW => ⟨_, _, bsl99_1 _ _ W, ⟨_, rfl, hW.2.size, Blk.new _ _ _⟩, hW.2.trans ((below_new W _).mono hW.2.size)⟩) ?_
  rintro _ ⟨_, ⟨qs, rfl, _, _⟩, _⟩
  refine ZE.callRP [dkV L.p n, .slice (some ⟨qs, 0, none⟩) 1 1] (fun v W => v = .tuple #[] ∧ ∃ L3 f3 c3, Turn w12 W L2 L3 ∧ Da W L3 N (wipS [(0, 1 + 2 * n)] S2) (wipS [(0, 1 + 2 * n)] S2) [] f3 c3 ∧ c3 ≤ c2 + (1 + 2 * n) + 1 ∧ (f2 = 0 → f3 = 0)) enter38 rfl rfl rfl (fun _ _ _ => .inl rfl) (fun W hW => by
        obtain ⟨⟨q', hv', hq', bq'⟩, eW⟩ := hW
        injection hv' with hv1 _ _
        injection hv1 with hv2
        injection hv2 with hv3 _ _
        subst hv3
        rw [← u2.p]
        refine (awipe n (d2.below eW) (by omega) qs (1 + 2 * n) bq' (fun hh => by have := d2.F _ hh; omega) (by omega) (by omega) (by omega)).mono fun e w' h => ?_
        rcases h with ⟨g1, L3, f3, c3, g2, g3, g4, g5⟩ | ⟨g0, g1, g2⟩
        · exact .inl ⟨_, g1, rfl, L3, f3, c3, g2.pre eW, g3, g4, g5⟩
        · exact .inr ⟨_, g1, rfl, g0, g2.pre eW⟩) ?_
  rintro _ ⟨_, rfl, _⟩
  rintro w13 ⟨_, L3, f3, c3, u3, d3, hc3, hf3⟩
  have u03 := (u2.pre e011).trans u3
  have u13 := u2.trans u3
  have b13 := b11.fx u13.fx (hF q5 hg5)
  have l13 := l11.fx u13.fx (hF ql (by omega))
  have a13 := a11.fx u13.fx (hF qa hqa)
  have t13 := t11.fx u13.fx (hF qe (by omega))
  have hb5 : qe < q5 := by have := b3.lt; have := e4.size; omega
  refine EW.on ?_; refine EW.seq ?_; refine EW.ordZ [(0, 0, 1), (1, 0, 0), (3, 0, 1), (2, 1, 1), (4, 1, 1), (5, 1, 0), (6, 1, 0)] (SQ (fun W => Blk W q5 (dkC L.p n) 76 ∧ Blk W qa [.bool false] 4)) (fun W => Below w13.heap.size w13 W) (by kernel_rfl) rfl (by kernel_rfl) (sq_anti _) (below_drawn w13) ?_; simp only [opsZ, List.getD_cons_zero, List.getD_cons_succ]; refine ZE.load rfl rfl rfl rfl (fun W hW => .inr ⟨b13.on hW, a13.on hW⟩) (fun W hW => ld55 (sq_of hW).1) ?_; refine ZE.buildN [(0, dkV L.p n)] rfl rfl rfl rfl (fun W hW => .inl rfl) (fun W => bld66 _ _ W) ?_; refine ZE.load rfl rfl rfl rfl (fun W hW => .inr ⟨b13.on hW, a13.on hW⟩) (fun W hW => ld4c (sq_of hW).2) ?_; refine ZE.box (fun v W => Lg W w13.heap.size L.p n v .nilIface ∧ Below w13.heap.size w13 W) rfl rfl rfl (fun _ W h => .inr ⟨b13.on h.2, a13.on h.2⟩) (fun W hW => ⟨_, _, run_boxR 88 _ W _ rfl, ⟨_, rfl, hW.size, Blk.new _ _ _⟩, hW.trans ((below_new W _).mono hW.size)⟩) ?_
  rintro vg ⟨_, ⟨qg, hvg, _, _⟩, _⟩
  refine ZE.store (fun W => Lg W w13.heap.size L.p n vg .nilIface ∧ Fx (fun k => k = ql) w13 W ∧ Blk W ql [vg] 37) rfl rfl rfl (fun W h => .inr ⟨b13.fx h.2.1 (by omega), a13.fx h.2.1 (by omega)⟩) (fun W hW => by
        obtain ⟨w', g1, g2, g3⟩ := st22c (some ⟨qg, 0, none⟩) (l13.on hW.2)
        rw [← hvg] at g1 g2
        exact ⟨w', g1, hW.1.fx g3 (fun k hk e => by have := l13.lt; omega), (Fx.of_below hW.2).trans g3 (fun _ _ h => h), g2⟩) ?_
  refine ZE.store (fun W => Lg W w13.heap.size L.p n vg .nilIface ∧ Fx (fun k => k = ql ∨ k = qa) w13 W ∧ Blk W ql [vg] 37 ∧ Blk W qa [.bool false] 4) rfl rfl rfl (fun W h => .inl rfl) (fun W hW => by
        obtain ⟨w', g1, g2, g3⟩ := st4c false (a13.fx hW.2.1 (by omega))
        exact ⟨w', g1, hW.1.fx g3 (fun k hk e => by have := a13.lt; omega), hW.2.1.mono (fun _ _ h => .inl h) |>.trans g3 (fun _ _ h => .inr h), hW.2.2.fx g3 (by omega), g2⟩) ?_
  refine ZE.store (fun W => Lg W w13.heap.size L.p n vg .nilIface ∧ Fx (fun k => k = ql ∨ k = qa ∨ k = qe) w13 W ∧ Blk W ql [vg] 37 ∧ Blk W qa [.bool false] 4 ∧ Blk W qe [.nilIface] 46) rfl rfl rfl (fun W h => .inl rfl) (fun W hW => by
        obtain ⟨w', g1, g2, g3⟩ := st24n (t13.fx hW.2.1 (by omega))
        exact ⟨w', g1, hW.1.fx g3 (fun k hk e => by have := t13.lt; omega), hW.2.1.mono (fun _ _ h => h.elim .inl (fun h => .inr (.inl h))) |>.trans g3 (fun _ _ h => .inr (.inr h)), hW.2.2.1.fx g3 (by omega), hW.2.2.2.fx g3 (by omega), g2⟩) ?_
  rintro w14 ⟨g14, x14, l14, a14, t14⟩
  refine EW.on ?_; refine EW.ret ?_; refine EW.leaves enter28 (open1_none _ _ _ _) ?_
  rintro u w' ⟨hu, hw⟩
  subst hu
  rw [hw]
  refine ⟨rfl, fun a ha => ⟨_, results_c3 Tryz.results11 a.tmps w14 (ha.kn 2 _ rfl) (ha.kn 3 _ rfl) (ha.kn 4 _ rfl) (ld22c l14) (ld4c a14) (ld24c t14), .inl ?_⟩⟩
  rw [hS2]
  have hx3 : ∀ k, L3.F k → k < w13.heap.size := fun k hk => d3.F k hk
  have h3F : ∀ k, L3.F k → ¬ (k = ql ∨ k = qa ∨ k = qe) := fun k hk hh => (u13.own k hk).elim (hF k (by omega)) (fun h2 => by have := t11.lt; have := l11.lt; have := a11.lt; omega)
  obtain ⟨q, g1, g2, g3⟩ := g14
  refine ⟨vg, L3, f3, c3, rfl, ⟨q, g1, Nat.le_trans u03.fx.size g2, g3⟩, ?_, ⟨u03.fx.trans x14 (fun k hk hh => by omega), u03.own, u03.p⟩, ?_, by omega, fun h0 => hf3 (by omega)⟩
  · rintro k _ ⟨q', hq', rfl⟩ hk
    rw [g1] at hq'
    injection hq' with hv1
    injection hv1 with hv2
    injection hv2 with hv3 _ _
    have := hx3 k hk
    omega
  · obtain ⟨D, k1, k2⟩ := d3.ex
    exact ⟨⟨D, k1.fx x14 h3F, k2⟩, d3.nd, d3.lt⟩
set_option maxRecDepth 100000 in
set_option maxHeartbeats 4000000 in
theorem aopen_stands {w : World} {L : Lay} {N : Nat} {d : Nat → List UInt8} {left c : Nat} (h : Da w L N d d [] left c) (n : Nat) (hN : N ≤ 4096) (hr : roomD (N : Int) = (n : Int)) (hn : 1 ≤ n) (hnN : 4 * n + 1 ≤ N) (hcal : c ≤ 900000) (x : Nat) (h1 : bAt (d 0) 511 = 1) (hz : zB (((d 0).drop 32).take (511 - 32)) = true) (hlast : (numsT (d 0) 256)[(numsT (d 0) 256).length - 1]? = some x) (hx : x < n) (hnum : ∀ x ∈ numsT (d 0) 256, x < n) : Calls Tryz.prog 11 #[.pointer (some ⟨L.p, 0, none⟩)] w fun e w' => (∃ vg L' left' c', e = .returned (.tuple #[vg, .bool true, .nilIface]) ∧ Lg w' w.heap.size L.p n vg .nilIface ∧ (∀ k, w.heap.size ≤ k → (∃ q, vg = .pointer (some ⟨q, 0, none⟩) ∧ k = q) → ¬ L'.F k) ∧ Turn w w' L L' ∧ Da w' L' N (wipS [(0, 1 + 2 * n)] (setS (homT n d (numsT (d 0) 256)) 0 ((d 0).set 511 0))) (wipS [(0, 1 + 2 * n)] (setS (homT n d (numsT (d 0) 256)) 0 ((d 0).set 511 0))) [] left' c' ∧ c' ≤ c + 2000 ∧ (left = 0 → left' = 0)) ∨ (left ≠ 0 ∧ OpF w' e ∧ Gone w L N (c + 2000) (fun d' => RpX n N d (numsT (d 0) 256) (d 0) d' ∨ WiX N (1 + 2 * n) (setS (homT n d (numsT (d 0) 256)) 0 ((d 0).set 511 0)) d') w') := by
  have hn2 : n ≤ 1000 := by
    have : roomD (N : Int) ≤ 250 := by unfold roomD; split <;> omega
    omega
  have hn250 : n ≤ 250 := by
    have : roomD (N : Int) ≤ 250 := by unfold roomD; split <;> omega
    omega
  have hl0 := h.lenS 0 (by omega)
  refine calls_of_argsD [.pointer (some ⟨L.p, 0, none⟩)] Tryz.func11 rfl 35 Tryz.ntmps11 (by show 1 ≤ 35; decide) ?_; refine EW.seq ?_; refine EW.region ?_
  obtain ⟨w1, ql, r1, b1, e1, hq1, z1⟩ := new22 w
  refine WL.new rfl rfl r1 ?_
  obtain ⟨w2, qa, r2, b2, e2, hq2, z2⟩ := new4 w1
  refine WL.new rfl rfl r2 ?_
  obtain ⟨w3, qe, r3, b3, e3, hq3, z3⟩ := new24 w2
  have e03 := (e1.trans (e2.mono e1.size)).trans (e3.mono (Nat.le_trans e1.size e2.size))
  have h3 := h.below e03
  refine WL.new rfl rfl r3 ?_; refine WL.done ?_; refine EW.on ?_; refine EW.seq ?_; refine EW.region ?_; refine WL.mkf [.pointer (some ⟨ql, 0, none⟩), .pointer (some ⟨qa, 0, none⟩), .pointer (some ⟨qe, 0, none⟩)] rfl rfl rfl ?_; refine WL.defer rfl rfl ?_; refine WL.done ?_; refine EW.on ?_; refine EW.seq ?_; refine EW.region ?_; refine WL.move rfl rfl rfl ?_; refine WL.call [.pointer (some ⟨L.p, 0, none⟩)] enter31 rfl rfl rfl (aover h3 (by omega) n hr (by omega)) ?_
  rintro _ w4 ⟨rfl, e4⟩
  have e04 := e03.trans (e4.mono e03.size)
  refine ⟨_, rfl, ?_⟩; refine WL.new rfl rfl (new55 w4) ?_
  have e5 := below_new w4 (.cells [Value.pointer none, .int .i64 0].toArray 76)
  obtain ⟨w6, s6, b6, x6⟩ := st55 (p := L.p) (n := n) (Blk.new w4 [Value.pointer none, .int .i64 0] 76) rfl
  have e46 : Below w4.heap.size w4 w6 := below_of_new e5 x6 (fun k hk => by omega)
  have e06 := e04.trans (e46.mono e04.size)
  have e36 := e4.trans (e46.mono e4.size)
  have h6 := h.below e06
  have l6 := ((b1.on e2).on e3).on e36
  have a6 := (b2.on e3).on e36
  have t6 := b3.on e36
  obtain ⟨q5, hq5⟩ : ∃ q5, w4.heap.size = q5 := ⟨_, rfl⟩
  rw [hq5] at s6 b6 x6 ⊢
  refine WL.store rfl rfl rfl s6 ?_; refine WL.done ?_; refine EW.on ?_; refine EW.seq ?_; refine EW.region ?_; refine WL.load rfl rfl rfl (ld55 b6) ?_; refine WL.call [dkV L.p n] enter32 rfl rfl rfl (asettle n h6 (by simp)) ?_
  rintro _ w7 ⟨rfl, e7⟩
  have e07 := e06.trans (e7.mono e06.size)
  refine ⟨_, rfl, ?_⟩; refine WL.done ?_; refine EW.on ?_; refine EW.seq ?_; refine EW.region ?_; refine WL.load rfl rfl rfl (ld55 (b6.on e7)) ?_; refine WL.call [dkV L.p n, .int .i64 ((0 : Nat) : Int)] enter33 rfl rfl rfl (areadO n (h.below e07) 0 (by omega)) ?_
  rintro _ w8 ⟨mv, rfl, o8, e8⟩
  have e08 := e07.trans (e8.mono e07.size)
  have e68 := e7.trans (e8.mono e7.size)
  refine ⟨_, rfl, ?_⟩; refine WL.assign rfl rfl rfl ?_; refine WL.done ?_; refine EW.on ?_; refine EW.seq ?_; refine EW.seq ?_; refine EW.region ?_; refine WL.move rfl rfl rfl ?_; refine WL.field rfl rfl rfl (fld55_1 q5 _) ?_; refine WL.load rfl rfl rfl (ldI3 (b6.on e68)) ?_; refine WL.call [mv, .int .i64 (n : Int)] enter34 rfl rfl rfl (sense_ok mv (d 0) n x w8 o8.has hl0 h1 hz hlast hx) ?_
  rintro _ w9 ⟨rfl, e9⟩
  refine ⟨_, rfl, ?_⟩
  have e69 := e68.trans (e9.mono e68.size)
  have e09 := e08.trans (e9.mono e08.size)
  have o9 := o8.below e9
  refine WL.un rfl rfl rfl (not_t _ _) ?_; refine WL.done ?_; refine EW.on ?_; refine EW.cond_f rfl ?_; refine EW.skip ?_; refine EW.on ?_; refine EW.seq ?_; refine EW.region ?_; refine WL.move rfl rfl rfl ?_; refine WL.call [mv] enter36 rfl rfl rfl (stands_any mv (d 0) w9 o9.has hl0) ?_
  rintro _ w10 ⟨rfl, hz10⟩
  rw [hz10, decide_eq_true h1]
  refine ⟨_, rfl, ?_⟩
  obtain ⟨w11, s11, a11, x11⟩ := st4c true (a6.on e69)
  have hqa : w.heap.size ≤ qa := by have := e1.size; omega
  have e011 : Below w.heap.size w w11 := below_of_new e09 x11 (fun k hk => by omega)
  have h11 := h.below e011
  have l11 := (l6.on e69).fx x11 (by omega)
  have t11 := (t6.on e69).fx x11 (by omega)
  have b11 := (b6.on e69).fx x11 (by have := e03.size; have := e4.size; have := b3.lt; omega)
  have o11 := o9.fx x11 (fun k hk hv => by have := o9.base k hv; have := a6.lt; have := e7.size; omega)
  have hF : ∀ k, w.heap.size ≤ k → ¬ L.F k := fun k hk hF => by have := h.F _ hF; omega
  refine WL.store rfl rfl rfl s11 ?_; refine WL.done ?_; refine EW.on ?_; refine EW.seq ?_; refine EW.seq ?_; refine EW.region ?_; refine WL.load rfl rfl rfl (ld4c a11) ?_; refine WL.done ?_; refine EW.on ?_; refine EW.cond_t rfl ?_; refine EW.region ?_; refine WL.load rfl rfl rfl (ld55 b11) ?_; refine WL.move rfl rfl rfl ?_; refine WL.callP [dkV L.p n, mv] enter37 rfl rfl rfl (arepeat n h11 hnN (by omega) mv (d 0) o11.has (fun k hk => hF k (Nat.le_trans e07.size (o11.base k hk))) hl0 hnum (by omega)) ?_
  rintro _ w12 (⟨rfl, L2, f2, c2, u2, d2, hc2, hf2⟩ | ⟨hln, rfl, go⟩)
  rotate_left
  · refine .inr ⟨_, rfl, ?_⟩
    repeat (first | refine pp_then ?_ | refine pp_block ?_)
    obtain ⟨Lz, dz, cz, tz, _⟩ := id go
    refine EW.caught enter28 (open1_some 80 (by decide) (l11.fx tz.fx (hF ql (by omega))) (a11.fx tz.fx (hF qa hqa)) (t11.fx tz.fx (hF qe (by omega))) (by omega) (by omega) (by omega)) ?_
    rintro w5 ⟨x5, k1, k2, uu, qq, hu, hq, k3, f5⟩ a ha
    refine ⟨_, results_c3 Tryz.results11 a.tmps w5 (ha.kn 2 _ rfl) (ha.kn 3 _ rfl) (ha.kn 4 _ rfl) (ld22c k1) (ld4c k2) (ld24c k3), .inr ⟨hln, ⟨uu, qq, rfl, hu, f5⟩, go.end e011 x5 (fun k hk => by rcases hk with e | e | e <;> (subst e; exact ⟨by omega, by first | exact l11.lt | exact a11.lt | exact t11.lt, hF _ (by omega)⟩)) (by omega) (fun d' _ hx => .inl hx)⟩⟩
  refine .inl ⟨_, rfl, ?_⟩; refine WL.done ?_; refine EW.on ?_; refine EW.seq ?_
  obtain ⟨S2, hS2⟩ : ∃ S2, (setS (homT n d (numsT (d 0) 256)) 0 ((d 0).set 511 0)) = S2 := ⟨_, rfl⟩
  rw [hS2] at d2
  have hg5 : w.heap.size ≤ q5 := by have := e04.size; omega
  have b12 := b11.fx u2.fx (hF q5 hg5)
  have l12 := l11.fx u2.fx (hF ql (by omega))
  have a12 := a11.fx u2.fx (hF qa hqa)
  have t12 := t11.fx u2.fx (hF qe (by omega))
  have u012 := u2.pre e011
  refine EW.ordPK [(0, 0, 1), (1, 0, 1), (2, 1, 1), (3, 1, 1), (4, 1, 0)] (SB w12) (fun W => Below w12.heap.size w12 W) [2, 3, 4] rfl (Rp := fun ch W => ch = sur ∧ f2 ≠ 0 ∧ Gone w12 L2 N (c2 + (1 + 2 * n) + 1) (WiX N (1 + 2 * n) S2) W) (fun ch W h => by
    obtain ⟨rfl, hf0, go⟩ := h
    have hln : left ≠ 0 := fun e => hf0 (hf2 e)
    repeat (first | refine pp_then ?_ | refine pp_block ?_)
    replace go := go.from u2
    obtain ⟨Lz, dz, cz, tz, _⟩ := id go
    refine EW.caught enter28 (open1_some 80 (by decide) (l11.fx tz.fx (hF ql (by omega))) (a11.fx tz.fx (hF qa hqa)) (t11.fx tz.fx (hF qe (by omega))) (by omega) (by omega) (by omega)) ?_
    rintro w5 ⟨x5, k1, k2, uu, qq, hu, hq, k3, f5⟩ a ha
    refine ⟨_, results_c3 Tryz.results11 a.tmps w5 (ha.kn 2 _ rfl) (ha.kn 3 _ rfl) (ha.kn 4 _ rfl) (ld22c k1) (ld4c k2) (ld24c k3), .inr ⟨hln, ⟨uu, qq, rfl, hu, f5⟩, go.end e011 x5 (fun k hk => by rcases hk with e | e | e <;> (subst e; exact ⟨by omega, by first | exact l11.lt | exact a11.lt | exact t11.lt, hF _ (by omega)⟩)) (by omega) (fun d' _ hx => by rw [hS2]; exact .inr hx)⟩⟩) (by kernel_rfl) rfl (by kernel_rfl) (sb_anti w12) (below_drawn w12) ?_
  simp only [opsZ, List.getD_cons_zero, List.getD_cons_succ]; refine ZE.load rfl rfl rfl rfl sz1 (fun W hW => ld55 (b12.on (sb_of hW))) ?_; refine ZE.load rfl rfl rfl rfl sz1 (fun W hW => ld55 (b12.on (sb_of hW))) ?_; refine ZE.callR [dkV L.p n] (fun v W => v = .agg (spC 0 (1 + 2 * n)).toArray ∧ Below w12.heap.size w12 W) enter39 rfl rfl rfl (fun _ _ h => .inr h.2) (fun W hW => (log_any L.p n W hn2).mono fun e w' ⟨g1, g2⟩ => ⟨_, g1, rfl, hW.trans (g2.mono hW.size)⟩) ?_
  rintro _ ⟨_, rfl, _⟩
  refine ZE.bsl [(0, .agg (spC 0 (1 + 2 * n)).toArray)] (fun v W => (∃ q, v = .slice (some ⟨q, 0, none⟩) 1 1 ∧ w12.heap.size ≤ q ∧ Blk W q ([(0, 1 + 2 * n)].flatMap fun x => spC x.1 x.2) 85) ∧ Below w12.heap.size w12 W) rfl rfl rfl (fun _ _ h => .inr h.2) (fun W hW => ⟨_, _, bsl99_1 _ _ W, ⟨_, rfl, hW.2.size, Blk.new _ _ _⟩, hW.2.trans ((below_new W _).mono hW.2.size)⟩) ?_
  rintro _ ⟨_, ⟨qs, rfl, _, _⟩, _⟩
  refine ZE.callRP [dkV L.p n, .slice (some ⟨qs, 0, none⟩) 1 1] (fun v W => v = .tuple #[] ∧ ∃ L3 f3 c3, Turn w12 W L2 L3 ∧ Da W L3 N (wipS [(0, 1 + 2 * n)] S2) (wipS [(0, 1 + 2 * n)] S2) [] f3 c3 ∧ c3 ≤ c2 + (1 + 2 * n) + 1 ∧ (f2 = 0 → f3 = 0)) enter38 rfl rfl rfl (fun _ _ _ => .inl rfl) (fun W hW => by
        obtain ⟨⟨q', hv', hq', bq'⟩, eW⟩ := hW
        injection hv' with hv1 _ _
        injection hv1 with hv2
        injection hv2 with hv3 _ _
        subst hv3
        rw [← u2.p]
        refine (awipe n (d2.below eW) (by omega) qs (1 + 2 * n) bq' (fun hh => by have := d2.F _ hh; omega) (by omega) (by omega) (by omega)).mono fun e w' h => ?_
        rcases h with ⟨g1, L3, f3, c3, g2, g3, g4, g5⟩ | ⟨g0, g1, g2⟩
        · exact .inl ⟨_, g1, rfl, L3, f3, c3, g2.pre eW, g3, g4, g5⟩
        · exact .inr ⟨_, g1, rfl, g0, g2.pre eW⟩) ?_
  rintro _ ⟨_, rfl, _⟩
  rintro w13 ⟨_, L3, f3, c3, u3, d3, hc3, hf3⟩
  have u03 := (u2.pre e011).trans u3
  have u13 := u2.trans u3
  have b13 := b11.fx u13.fx (hF q5 hg5)
  have l13 := l11.fx u13.fx (hF ql (by omega))
  have a13 := a11.fx u13.fx (hF qa hqa)
  have t13 := t11.fx u13.fx (hF qe (by omega))
  have hb5 : qe < q5 := by have := b3.lt; have := e4.size; omega
  refine EW.on ?_; refine EW.seq ?_; refine EW.ordZ [(0, 0, 1), (1, 0, 0), (3, 0, 1), (2, 1, 1), (4, 1, 1), (5, 1, 0), (6, 1, 0)] (SQ (fun W => Blk W q5 (dkC L.p n) 76 ∧ Blk W qa [.bool true] 4)) (fun W => Below w13.heap.size w13 W) (by kernel_rfl) rfl (by kernel_rfl) (sq_anti _) (below_drawn w13) ?_; simp only [opsZ, List.getD_cons_zero, List.getD_cons_succ]; refine ZE.load rfl rfl rfl rfl (fun W hW => .inr ⟨b13.on hW, a13.on hW⟩) (fun W hW => ld55 (sq_of hW).1) ?_; refine ZE.buildN [(0, dkV L.p n)] rfl rfl rfl rfl (fun W hW => .inl rfl) (fun W => bld66 _ _ W) ?_; refine ZE.load rfl rfl rfl rfl (fun W hW => .inr ⟨b13.on hW, a13.on hW⟩) (fun W hW => ld4c (sq_of hW).2) ?_; refine ZE.box (fun v W => Lg W w13.heap.size L.p n v .nilIface ∧ Below w13.heap.size w13 W) rfl rfl rfl (fun _ W h => .inr ⟨b13.on h.2, a13.on h.2⟩) (fun W hW => ⟨_, _, run_boxR 88 _ W _ rfl, ⟨_, rfl, hW.size, Blk.new _ _ _⟩, hW.trans ((below_new W _).mono hW.size)⟩) ?_
  rintro vg ⟨_, ⟨qg, hvg, _, _⟩, _⟩
  refine ZE.store (fun W => Lg W w13.heap.size L.p n vg .nilIface ∧ Fx (fun k => k = ql) w13 W ∧ Blk W ql [vg] 37) rfl rfl rfl (fun W h => .inr ⟨b13.fx h.2.1 (by omega), a13.fx h.2.1 (by omega)⟩) (fun W hW => by
        obtain ⟨w', g1, g2, g3⟩ := st22c (some ⟨qg, 0, none⟩) (l13.on hW.2)
        rw [← hvg] at g1 g2
        exact ⟨w', g1, hW.1.fx g3 (fun k hk e => by have := l13.lt; omega), (Fx.of_below hW.2).trans g3 (fun _ _ h => h), g2⟩) ?_
  refine ZE.store (fun W => Lg W w13.heap.size L.p n vg .nilIface ∧ Fx (fun k => k = ql ∨ k = qa) w13 W ∧ Blk W ql [vg] 37 ∧ Blk W qa [.bool true] 4) rfl rfl rfl (fun W h => .inl rfl) (fun W hW => by
        obtain ⟨w', g1, g2, g3⟩ := st4c true (a13.fx hW.2.1 (by omega))
        exact ⟨w', g1, hW.1.fx g3 (fun k hk e => by have := a13.lt; omega), hW.2.1.mono (fun _ _ h => .inl h) |>.trans g3 (fun _ _ h => .inr h), hW.2.2.fx g3 (by omega), g2⟩) ?_
  refine ZE.store (fun W => Lg W w13.heap.size L.p n vg .nilIface ∧ Fx (fun k => k = ql ∨ k = qa ∨ k = qe) w13 W ∧ Blk W ql [vg] 37 ∧ Blk W qa [.bool true] 4 ∧ Blk W qe [.nilIface] 46) rfl rfl rfl (fun W h => .inl rfl) (fun W hW => by
        obtain ⟨w', g1, g2, g3⟩ := st24n (t13.fx hW.2.1 (by omega))
        exact ⟨w', g1, hW.1.fx g3 (fun k hk e => by have := t13.lt; omega), hW.2.1.mono (fun _ _ h => h.elim .inl (fun h => .inr (.inl h))) |>.trans g3 (fun _ _ h => .inr (.inr h)), hW.2.2.1.fx g3 (by omega), hW.2.2.2.fx g3 (by omega), g2⟩) ?_
  rintro w14 ⟨g14, x14, l14, a14, t14⟩
  refine EW.on ?_; refine EW.ret ?_; refine EW.leaves enter28 (open1_none _ _ _ _) ?_
  rintro u w' ⟨hu, hw⟩
  subst hu
  rw [hw]
  refine ⟨rfl, fun a ha => ⟨_, results_c3 Tryz.results11 a.tmps w14 (ha.kn 2 _ rfl) (ha.kn 3 _ rfl) (ha.kn 4 _ rfl) (ld22c l14) (ld4c a14) (ld24c t14), .inl ?_⟩⟩
  rw [hS2]
  have hx3 : ∀ k, L3.F k → k < w13.heap.size := fun k hk => d3.F k hk
  have h3F : ∀ k, L3.F k → ¬ (k = ql ∨ k = qa ∨ k = qe) := fun k hk hh => (u13.own k hk).elim (hF k (by omega)) (fun h2 => by have := t11.lt; have := l11.lt; have := a11.lt; omega)
  obtain ⟨q, g1, g2, g3⟩ := g14
  refine ⟨vg, L3, f3, c3, rfl, ⟨q, g1, Nat.le_trans u03.fx.size g2, g3⟩, ?_, ⟨u03.fx.trans x14 (fun k hk hh => by omega), u03.own, u03.p⟩, ?_, by omega, fun h0 => hf3 (hf2 h0)⟩
  · rintro k _ ⟨q', hq', rfl⟩ hk
    rw [g1] at hq'
    injection hq' with hv1
    injection hv1 with hv2
    injection hv2 with hv3 _ _
    have := hx3 k hk
    omega
  · obtain ⟨D, k1, k2⟩ := d3.ex
    exact ⟨⟨D, k1.fx x14 h3F, k2⟩, d3.nd, d3.lt⟩
end Go.Proofs.YtmbgeojjklboeaaGreatDoor
