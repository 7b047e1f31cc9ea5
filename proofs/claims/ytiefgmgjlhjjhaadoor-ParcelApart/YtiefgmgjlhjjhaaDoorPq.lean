import Derived.Test.YtiefgmgjlhjjhaaDoorPp
set_option linter.unusedVariables false
set_option linter.unusedSimpArgs false
namespace Go.Proofs.YtiefgmgjlhjjhaaDoor
open Go.RowKit

attribute [local irreducible] sm sumOf cnt chk partB ptB lgL
def bob : List UInt8 := [98, 111, 98]
theorem bob_nm : nmB bob = true := rfl
def jn (T : List UInt8) (i : Nat) : List UInt8 := ((List.range i).map (chk T)).flatten
theorem jn_succ (T : List UInt8) (i : Nat) : jn T (i + 1) = jn T i ++ chk T i := by simp [jn, List.range_succ]
theorem jn_len (T : List UInt8) (i : Nat) : (jn T i).length ≤ T.length := by unfold jn; rw [chks]; simp; omega
theorem sp_at {id : Nat} {T : List UInt8} {x : Nat} (h : x < cnt T) : (spP id T)[x]? = some (ptB id T x) := by
  unfold spP ptB
  rw [List.getElem?_map, List.getElem?_range h]; rfl
theorem pt_len {id : Nat} {T : List UInt8} (x : Nat) : (ptB id T x).length = 15 + (chk T x).length := by unfold ptB; exact partB_len _ _ _ _ _ (sm_len T)
theorem pt_cut {id : Nat} {T : List UInt8} (hid : id < 4294967296) (hT : T.length ≤ 31808) {x : Nat} (h : x < cnt T) : ((ptB id T x).drop 15).take ((ptB id T x).length - 15) = chk T x := by
  have hc := cnt_le hT
  have := (part_is id (cnt T) x (sm T) (chk T x) hid (by omega) (by omega) (sm_len T)).2.2.2.2.2
  unfold pC at this
  unfold ptB; exact this
theorem Spl.get {W : World} {b g : Nat} {vs : List Value} {id : Nat} {T : List UInt8} (h : Spl W b g vs (spP id T)) {x : Nat} (hx : x < cnt T) : ∃ v, vs[x]? = some v ∧ W.cell? ⟨g, x, none⟩ = some v ∧ Ob W b v (ptB id T x) := by
  have hl : x < vs.length := by rw [h.ln]; simp [spP]; exact hx
  refine ⟨vs[x], List.getElem?_eq_getElem hl, (h.bl.cell x).trans (List.getElem?_eq_getElem hl), h.ob x _ _ (List.getElem?_eq_getElem hl) (sp_at hx)⟩
theorem x26g (g n m : Nat) (h : m < n) (W : World) : (Instr.indexAt 26 (.slice (some ⟨g, 0, none⟩) n n) (.int .i64 (m : Int))).run Tryd.prog W = .ok (.pointer (some ⟨g, m, none⟩)) W := by
  rw [x26 _ _ _ _ h W, add_plain]
theorem Ob.slice' {w : World} {b : Nat} {v : Value} {bs : List UInt8} (h : Ob w b v bs) : ∃ ao c, v = .slice ao bs.length c ∧ bs.length ≤ c := by
  obtain ⟨ao, c, hv⟩ := h.has.slice
  have hh := h.has
  rw [hv] at hh
  exact ⟨ao, c, hv, hh.cap⟩
/-- The first loop. -/
def aE (id : Nat) (ov tv : Value) (g p : Nat) (T : List UInt8) (x : Nat × Value) : List (Nat × Value) := [(2, u32v id), (3, ov), (9, tv), (10, .slice (some ⟨g, 0, none⟩) (cnt T) (cnt T)), (12, .pointer (some ⟨p, 0, none⟩)), (14, sv (jn T x.1)), (15, x.2), (16, .int .i64 (x.1 : Int))]
structure AR (w : World) (T : List UInt8) (x : Nat × Value) (W : World) : Prop where
  le : x.1 ≤ cnt T
  oi : Oi W w.heap.size x.2 (nI (List.range x.1))
  be : Below w.heap.size w W
/-- The last loop's state. -/
structure Cd where
  i : Nat
  v : Value
  L : List Nat
  E : List Me
  c : Nat
def cE (id : Nat) (ov tv : Value) (g p : Nat) (T : List UInt8) (y : Cd) : List (Nat × Value) := [(2, u32v id), (3, ov), (9, tv), (10, .slice (some ⟨g, 0, none⟩) (cnt T) (cnt T)), (12, .pointer (some ⟨p, 0, none⟩)), (15, y.v), (17, .int .i64 (y.i : Int))]
structure CR (w0 : World) (id : Nat) (ov tv : Value) (os : List Int) (b g p r : Nat) (vs : List Value) (T : List UInt8) (y : Cd) (W : World) : Prop where
  tr : Tr W p r 1 y.E y.c
  lc : Lc y.E 1 bob id T (lfF (cnt T) y.L)
  nd : y.L.Nodup
  lt : ∀ x ∈ y.L, x < cnt T
  oi : Oi W 0 y.v (nI y.L)
  sp : Spl W b g vs (spP id T)
  tx : Has W tv T
  hi : Hi W ov os
  ks : Kst W
  il : y.i + y.L.length = cnt T
  ek : ∀ m ∈ y.E, m.p = bob ∧ m.id = id
  be : Below w0.heap.size w0 W
theorem fxBe {w W W' : World} {r : Nat} (h : Below w.heap.size w W) (hf : Fx (fun k => k = r) W W') (hr : w.heap.size ≤ r) : Below w.heap.size w W' := h.trans (hf.below (fun k hk e => by have e' : k = r := e; omega) h.size)
theorem CR.on {w0 : World} {id : Nat} {ov tv : Value} {os : List Int} {b g p r : Nat} {vs : List Value} {T : List UInt8} {y : Cd} {W W' : World} (h : CR w0 id ov tv os b g p r vs T y W) (hb : Below W.heap.size W W') : CR w0 id ov tv os b g p r vs T y W' := ⟨h.tr.on hb, h.lc, h.nd, h.lt, h.oi.on hb, h.sp.on hb, h.tx.below hb, h.hi.on hb, h.ks.below hb h.ks.lt, h.il, h.ek, bt h.be hb⟩
theorem up_ek {E : List Me} {a : List UInt8} {id : Nat} (h : ∀ m ∈ E, m.p = a ∧ m.id = id) (K : Pc) (c : Nat) : ∀ m ∈ upE E a id K c, m.p = a ∧ m.id = id := fun m hm => by
  unfold upE at hm
  split at hm
  · obtain ⟨x, hx, rfl⟩ := List.mem_map.1 hm
    have := h x hx
    split <;> exact this
  · rcases List.mem_append.1 hm with h' | h'
    · exact h m h'
    · rw [List.mem_singleton.1 h']; exact ⟨rfl, rfl⟩
theorem nI_len (l : List Nat) : (nI l).length = l.length := by simp [nI]
theorem nI_take (l : List Nat) (k : Nat) : (nI l).take k = nI (l.take k) := by simp [nI, List.map_take]
theorem nI_drop (l : List Nat) (k : Nat) : (nI l).drop k = nI (l.drop k) := by simp [nI, List.map_drop]
theorem nI_app (l m : List Nat) : nI (l ++ m) = nI l ++ nI m := by simp [nI]
theorem nI_at {l : List Nat} {k x : Nat} (h : l[k]? = some x) : (nI l)[k]? = some (x : Int) := by simp [nI, h]
theorem Oi.nil (w : World) (b : Nat) : Oi w b (.slice none 0 0) [] := Lb.nil 3 1 w b
theorem Oi.app {w : World} {b : Nat} {v u : Value} {l m : List Int} (h : Oi w b v l) (hbw : b ≤ w.heap.size) (hu : Hi w u m) (hl : l.length + m.length ≤ 1000000) (ty : TypeId) : ∃ v' w', (Builtin.append_ #[23, 23] ty #[v, u]).run Tryd.prog w = .ok v' w' ∧ Oi w' b v' (l ++ m) ∧ Below b w w' := by
  obtain ⟨v', w', r1, r2, r3, _⟩ := Lb.app el3 h hbw hu (ir_one m) (by rw [ir_len, ir_len]; omega) ty
  exact ⟨v', w', r1, by unfold Oi; rw [ir_app]; exact r2, r3⟩
theorem Hi.getB {w : World} {v : Value} {zs : List Int} (h : Hi w v zs) {i : Nat} {z : Int} (hz : zs[i]? = some z) : ∃ ad, (∀ W, (Instr.indexAt 23 v (.int .i64 (i : Int))).run Tryd.prog W = .ok (.pointer (some ad)) W) ∧ ∀ W, Below w.heap.size w W → (Instr.loadAt 3 (.pointer (some ad))).run Tryd.prog W = .ok (.int .i64 z) W := by
  obtain ⟨ad, cap, rfl, ha⟩ := h.at_ i [.int .i64 z] (by unfold ir; rw [List.getElem?_map, hz]; rfl)
  have hi : i < zs.length := (List.getElem?_eq_some_iff.1 hz).1
  refine ⟨ad.add i, fun W => x23 _ _ _ _ (by rw [ir_len]; exact hi) W, fun W hW => ldZ ?_⟩
  have := ha 0 _ rfl
  rw [Nat.mul_one, addr_add, Nat.add_zero] at this
  exact (hW.cell (cell_lt this)).trans this
theorem ZE.max {P : Program} {n : Nat} {ops : Array Oper} {S : Nat → World → Prop} {K : List (Nat × Value) → (World → Prop) → Prop} {i c lv : Nat} {ty : TypeId} {ps : String} {af : Array Edge} {gd : Option (Nat × Bool)} {r : List (Oper × Nat × Nat)} {e : List (Nat × Value)} {C : World → Prop} {x y : Operand} {ts : Array TypeId} {u u' v : Value} (h1 : decide (c = 1) = false) (hw : wantE ops e ⟨some i, .call { callee := .builtin .max, args := #[x, y], argTypes := ts }, ty, ps, af, gd⟩ = some true) (hi : decide (i < n) = true) (hx : evE e x = some u) (hy : evE e y = some u') (hc : ∀ w, C w → SZ S c lv C w) (hr : ∀ w, (Builtin.max_ ts ty #[u, u']).run P w = .ok v w) (k : wpZE P n ops S K r ((i, v) :: e) C) : wpZE P n ops S K ((⟨some i, .call { callee := .builtin .max, args := #[x, y], argTypes := ts }, ty, ps, af, gd⟩, c, lv) :: r) e C :=
  ZE.val h1 hw hi hc (fun a ha W hW => by simp [execOp, resolve, invoke, builtin, ha.ev hx, ha.ev hy, hr W, Result.andThen]) k

set_option maxRecDepth 100000 in
set_option maxHeartbeats 16000000 in
theorem whole_any (n seed : Int) (id : Nat) (ov : Value) (os : List Int) (w : World) (hn1 : -9223372036854775808 ≤ n) (hn2 : n ≤ 9223372036854775807) (hid : id < 4294967296) (hos : ∀ z ∈ os, -9223372036854775808 ≤ z ∧ z ≤ 9223372036854775807) (ho : Hi w ov os) (hK : Kst w) : Calls Tryd.prog 3 #[.int .i64 n, .int .i64 seed, u32v id, ov] w fun e w' => e = .returned (.bool true) ∧ Below w.heap.size w w' := by
  obtain ⟨r0, hr0⟩ := abs_i n hn1 hn2
  refine calls_of_args [.int .i64 n, .int .i64 seed, u32v id, ov] Tryd.func3 rfl 274 Tryd.ntmps3 (by show 4 ≤ 274; decide) ?_
  refine EW.seq ?_
  refine EW.region ?_
  first | refine WL.assign rfl rfl rfl ?_
  refine WL.done ?_
  refine EW.on ?_
  refine EW.seq ?_
  refine EW.region ?_
  first | refine WL.move rfl rfl rfl ?_
  first | refine WL.move rfl rfl rfl ?_
  refine WL.bin rfl rfl rfl rfl (int_add rfl _ _ _) ?_
  refine WL.un rfl rfl rfl (neg_i _ rfl _) ?_
  refine WL.max rfl rfl rfl rfl (max_i _ _ _ _) ?_
  rw [hr0]
  refine WL.bin rfl rfl rfl rfl (rem_i _ _ (by decide) (mod_n r0 31809) _ _ _) ?_
  first | refine WL.assign rfl rfl rfl ?_
  refine WL.done ?_
  refine EW.on ?_
  refine EW.seq ?_
  refine EW.region ?_
  first | refine WL.move rfl rfl rfl ?_
  first | refine WL.move rfl rfl rfl ?_
  refine WL.call [.int .i64 ((r0 % 31809 : Nat) : Int), .int .i64 seed] enter7 rfl rfl rfl (long_any (r0 % 31809) seed (by omega) w) ?_
  rintro _ w1 ⟨tv, rfl, oT, l1⟩
  refine ⟨_, rfl, ?_⟩
  obtain ⟨T, hTe⟩ : ∃ T, T = lgL (r0 % 31809) seed := ⟨_, rfl⟩
  rw [← hTe] at oT
  have hT : T.length ≤ 31808 := by rw [hTe, lgL_len]; omega
  have hc64 := cnt_le hT
  have hc1 := cnt_pos T
  first | refine WL.assign rfl rfl rfl ?_
  refine WL.done ?_
  refine EW.on ?_
  refine EW.seq ?_
  refine EW.region ?_
  first | refine WL.move rfl rfl rfl ?_
  first | refine WL.move rfl rfl rfl ?_
  refine WL.call [u32v id, tv] enter8 rfl rfl rfl (split_ok id tv T w1 oT.has hT (hK.below l1 hK.lt)) ?_
  rintro _ w2 ⟨g, vs, rfl, sp2, l2⟩
  refine ⟨_, rfl, ?_⟩
  first | refine WL.move rfl rfl rfl ?_
  first | refine WL.extract rfl rfl rfl (ext_2 _ _ _).1 ?_
  first | refine WL.extract rfl rfl rfl (ext_2 _ _ _).2 ?_
  first | refine WL.assign rfl rfl rfl ?_
  first | refine WL.assign rfl rfl rfl ?_
  refine WL.done ?_
  refine EW.on ?_
  refine EW.seq ?_
  refine EW.region ?_
  refine WL.call [.int .i64 1] enter9 rfl rfl rfl (tnew_ok 1 w2 (by decide) (by decide)) ?_
  rintro _ w3 ⟨p, r, rfl, tr3, l3, _, hrw0⟩
  refine ⟨_, rfl, ?_⟩
  have hrw : w.heap.size ≤ r := by have := (bt l1 l2).size; omega
  replace tr3 : Tr w3 p r 1 [] 0 := tr3
  have L3 := bt (bt l1 l2) l3
  have sp3 := sp2.on l3
  have tx3 := (oT.has.below l2).below l3
  have hi3 := ho.on L3
  have ks3 := hK.below L3 hK.lt
  have nb : ¬ (cnt T : Int) = 0 := by omega
  have nc : ¬ (64 : Int) < (cnt T : Int) := by omega
  first | refine WL.move rfl rfl rfl ?_
  first | refine WL.extract rfl rfl rfl (ext_2 _ _ _).1 ?_
  first | refine WL.extract rfl rfl rfl (ext_2 _ _ _).2 ?_
  first | refine WL.assign rfl rfl rfl ?_
  first | refine WL.assign rfl rfl rfl ?_
  refine WL.done ?_
  refine EW.on ?_
  refine EW.seq ?_
  refine EW.seq ?_
  refine EW.region ?_
  first | refine WL.move rfl rfl rfl ?_
  first | refine WL.bin rfl rfl rfl rfl (int_ne_f rfl _ _ _) ?_ | refine WL.bin rfl rfl rfl rfl (int_ne_t ‹_› _ _ _) ?_ | refine WL.bin rfl rfl rfl rfl (int_ne_f ‹_› _ _ _) ?_ | refine WL.bin rfl rfl rfl rfl (int_ne_t (by decide) _ _ _) ?_ | refine WL.bin rfl rfl rfl rfl (int_ne_d _ _ _ _ _) ?_
  first | refine WL.move rfl rfl rfl ?_
  first | refine WL.move rfl rfl rfl ?_ | refine WL.skip _ rfl rfl rfl ?_
  first | refine WL.bin rfl rfl rfl rfl (int_ne_f rfl _ _ _) ?_ | refine WL.bin rfl rfl rfl rfl (int_ne_t ‹_› _ _ _) ?_ | refine WL.bin rfl rfl rfl rfl (int_ne_f ‹_› _ _ _) ?_ | refine WL.bin rfl rfl rfl rfl (int_ne_t (by decide) _ _ _) ?_ | refine WL.bin rfl rfl rfl rfl (int_ne_d _ _ _ _ _) ?_ | refine WL.skip _ rfl rfl rfl ?_
  first | refine WL.pick rfl rfl rfl rfl ?_
  first | refine WL.move rfl rfl rfl ?_
  first | refine WL.move rfl rfl rfl ?_ | refine WL.skip _ rfl rfl rfl ?_
  first | refine WL.bin rfl rfl rfl rfl (ptr_nn _ _ _ _) ?_ | refine WL.skip _ rfl rfl rfl ?_
  first | refine WL.pick rfl rfl rfl rfl ?_
  first | refine WL.move rfl rfl rfl ?_
  first | refine WL.move rfl rfl rfl ?_ | refine WL.skip _ rfl rfl rfl ?_
  first | refine WL.len rfl rfl rfl (len26 _ _ _ _ _) ?_ | refine WL.skip _ rfl rfl rfl ?_
  first | refine WL.bin rfl rfl rfl rfl (int_eq_t rfl _ _ _) ?_ | refine WL.bin rfl rfl rfl rfl (int_eq_t ‹_› _ _ _) ?_ | refine WL.bin rfl rfl rfl rfl (int_eq_f ‹_› _ _ _) ?_ | refine WL.bin rfl rfl rfl rfl (int_eq_d _ _ _ _ _) ?_ | refine WL.skip _ rfl rfl rfl ?_
  first | refine WL.pick rfl rfl rfl rfl ?_
  first | refine WL.move rfl rfl rfl ?_
  first | refine WL.move rfl rfl rfl ?_ | refine WL.skip _ rfl rfl rfl ?_
  first | refine WL.len rfl rfl rfl (len26 _ _ _ _ _) ?_ | refine WL.skip _ rfl rfl rfl ?_
  first | refine WL.bin rfl rfl rfl rfl (int_gt_t ‹_› _ _ _) ?_ | refine WL.bin rfl rfl rfl rfl (int_gt_f ‹_› _ _ _) ?_ | refine WL.bin rfl rfl rfl rfl (int_gt_d _ _ _ _ _) ?_ | refine WL.skip _ rfl rfl rfl ?_
  first | refine WL.pick rfl rfl rfl rfl ?_
  refine WL.done ?_
  refine EW.on ?_
  refine EW.cond_f rfl ?_
  refine EW.skip ?_
  refine EW.on ?_
  refine EW.seq ?_
  refine EW.region ?_
  first | refine WL.assign rfl rfl rfl ?_
  refine WL.done ?_
  refine EW.on ?_
  refine EW.seq ?_
  refine EW.region ?_
  first | refine WL.assign rfl rfl rfl ?_
  refine WL.done ?_
  refine EW.on ?_
  refine EW.seq ?_
  refine EW.seq ?_
  refine EW.region ?_
  first | refine WL.assign rfl rfl rfl ?_
  refine WL.done ?_
  refine EW.on ?_
  refine EW.block ?_
  refine EW.loop (aE id ov tv g p T) (AR w3 T) (fun x => cnt T - x.1) (0, .slice none 0 0) [2, 3, 9, 10, 12, 14, 15, 16] rfl ⟨Nat.zero_le _, (show Oi w3 _ (.slice none 0 0) [] from Lb.nil _ _ _ _), Below.refl _ _⟩ ?_
  rintro x WA hA
  show EW _ _ _ _ [(2, u32v id), (3, ov), (9, tv), (10, .slice (some ⟨g, 0, none⟩) (cnt T) (cnt T)), (12, .pointer (some ⟨p, 0, none⟩)), (14, sv (jn T x.1)), (15, x.2), (16, .int .i64 (x.1 : Int))] _
  have hle := hA.le
  have s1 : IntKind.i64.wrap ((x.1 : Int) + 1) = ((x.1 + 1 : Nat) : Int) := by rw [IntKind.wrap_i64]; omega
  have sM : IntKind.i64.wrap ((cnt T : Int) - 1) = ((cnt T - 1 : Nat) : Int) := by rw [IntKind.wrap_i64]; omega
  refine EW.seq ?_
  refine EW.seq ?_
  refine EW.region ?_
  first | refine WL.move rfl rfl rfl ?_
  first | refine WL.move rfl rfl rfl ?_
  refine WL.len rfl rfl rfl (len26 _ _ _ _ _) ?_
  refine WL.bin rfl rfl rfl rfl (int_lt_d _ _ _ _ _) ?_
  refine WL.done ?_
  refine EW.on ?_
  refine EW.cond_d rfl (fun h77 => ?_) (fun h77 => ?_)
  · have ht : x.1 < cnt T := by omega
    obtain ⟨pv, pv1, pv2, pv3⟩ := (sp3.on hA.be).get ht
    have hpc := pv2
    obtain ⟨pao, pcp, hpe, hpcp⟩ := pv3.slice'
    have p15 : ¬ ((ptB id T x.1).length : Int) < 15 := by rw [pt_len]; omega
    have p512 : ¬ (512 : Int) < ((ptB id T x.1).length : Int) := by rw [pt_len]; have := chk_le T x.1; omega
    have hcut := pv3.has.cut 15 (ptB id T x.1).length (by rw [pt_len]; omega) (Nat.le_refl _)
    rw [pt_cut hid hT ht] at hcut
    refine EW.skip ?_
    refine EW.on ?_
    refine EW.seq ?_
    refine EW.block ?_
    refine EW.seq ?_
    refine EW.seq ?_
    rcases (show x.1 < cnt T - 1 ∨ ¬ x.1 < cnt T - 1 by omega) with hq | hq
    · have q1 : (x.1 : Int) < ((cnt T - 1 : Nat) : Int) := by omega
      have q2 : ((ptB id T x.1).length : Int) = 512 := by rw [pt_len, (chk_len ht).1 (by omega)]; rfl
      refine EW.region ?_
      first | refine WL.move rfl rfl rfl ?_
      first | refine WL.move rfl rfl rfl ?_
      first | refine WL.index rfl rfl rfl rfl (x26g _ _ _ ht _) ?_ | refine WL.skip _ rfl rfl rfl ?_
      first | refine WL.load rfl rfl rfl (ldC hpc) ?_ | refine WL.skip _ rfl rfl rfl ?_
      rw [hpe]
      first | refine WL.len rfl rfl rfl (len24 _ _ _ _ _) ?_ | refine WL.skip _ rfl rfl rfl ?_
      rw [← hpe]
      first | refine WL.bin rfl rfl rfl rfl (int_lt_t ‹_› _ _ _) ?_ | refine WL.bin rfl rfl rfl rfl (int_lt_f ‹_› _ _ _) ?_ | refine WL.bin rfl rfl rfl rfl (int_lt_d _ _ _ _ _) ?_
      first | refine WL.move rfl rfl rfl ?_
      first | refine WL.move rfl rfl rfl ?_ | refine WL.skip _ rfl rfl rfl ?_
      first | refine WL.move rfl rfl rfl ?_ | refine WL.skip _ rfl rfl rfl ?_
      first | refine WL.index rfl rfl rfl rfl (x26g _ _ _ ht _) ?_ | refine WL.skip _ rfl rfl rfl ?_
      first | refine WL.load rfl rfl rfl (ldC hpc) ?_ | refine WL.skip _ rfl rfl rfl ?_
      rw [hpe]
      first | refine WL.len rfl rfl rfl (len24 _ _ _ _ _) ?_ | refine WL.skip _ rfl rfl rfl ?_
      rw [← hpe]
      first | refine WL.bin rfl rfl rfl rfl (int_gt_t ‹_› _ _ _) ?_ | refine WL.bin rfl rfl rfl rfl (int_gt_f ‹_› _ _ _) ?_ | refine WL.bin rfl rfl rfl rfl (int_gt_d _ _ _ _ _) ?_ | refine WL.skip _ rfl rfl rfl ?_
      first | refine WL.pick rfl rfl rfl rfl ?_
      first | refine WL.move rfl rfl rfl ?_
      first | refine WL.move rfl rfl rfl ?_ | refine WL.skip _ rfl rfl rfl ?_
      first | refine WL.move rfl rfl rfl ?_ | refine WL.skip _ rfl rfl rfl ?_
      first | refine WL.len rfl rfl rfl (len26 _ _ _ _ _) ?_ | refine WL.skip _ rfl rfl rfl ?_
      first | refine WL.bin rfl rfl rfl rfl (int_sub ‹_› _ _ _) ?_ | refine WL.skip _ rfl rfl rfl ?_
      first | refine WL.bin rfl rfl rfl rfl (int_lt_t ‹_› _ _ _) ?_ | refine WL.bin rfl rfl rfl rfl (int_lt_f ‹_› _ _ _) ?_ | refine WL.bin rfl rfl rfl rfl (int_lt_d _ _ _ _ _) ?_ | refine WL.skip _ rfl rfl rfl ?_
      first | refine WL.move rfl rfl rfl ?_ | refine WL.skip _ rfl rfl rfl ?_
      first | refine WL.move rfl rfl rfl ?_ | refine WL.skip _ rfl rfl rfl ?_
      first | refine WL.move rfl rfl rfl ?_ | refine WL.skip _ rfl rfl rfl ?_
      first | refine WL.index rfl rfl rfl rfl (x26g _ _ _ ht _) ?_ | refine WL.skip _ rfl rfl rfl ?_
      first | refine WL.load rfl rfl rfl (ldC hpc) ?_ | refine WL.skip _ rfl rfl rfl ?_
      rw [hpe]
      first | refine WL.len rfl rfl rfl (len24 _ _ _ _ _) ?_ | refine WL.skip _ rfl rfl rfl ?_
      rw [← hpe]
      first | refine WL.bin rfl rfl rfl rfl (int_ne_f rfl _ _ _) ?_ | refine WL.bin rfl rfl rfl rfl (int_ne_t ‹_› _ _ _) ?_ | refine WL.bin rfl rfl rfl rfl (int_ne_f ‹_› _ _ _) ?_ | refine WL.bin rfl rfl rfl rfl (int_ne_t (by decide) _ _ _) ?_ | refine WL.bin rfl rfl rfl rfl (int_ne_d _ _ _ _ _) ?_ | refine WL.skip _ rfl rfl rfl ?_
      first | refine WL.pick rfl rfl rfl rfl ?_ | refine WL.skip _ rfl rfl rfl ?_
      first | refine WL.pick rfl rfl rfl rfl ?_
      refine WL.done ?_
      refine EW.on ?_
      refine EW.cond_f rfl ?_
      refine EW.skip ?_
      refine EW.on ?_
      refine EW.seq ?_
      refine EW.region ?_
      first | refine WL.move rfl rfl rfl ?_
      first | refine WL.move rfl rfl rfl ?_
      first | refine WL.move rfl rfl rfl ?_
      refine WL.index rfl rfl rfl rfl (x26g _ _ _ ht _) ?_
      refine WL.load rfl rfl rfl (ldC hpc) ?_
      rw [hpe]
      refine WL.sliceL rfl rfl rfl rfl (c24L pao _ pcp 15 (by rw [pt_len]; omega) hpcp _) ?_
      rw [← hpe]
      refine WL.conv rfl rfl rfl (hcut.convert) ?_
      refine WL.bin rfl rfl rfl rfl (str_cat (jn T x.1) (chk T x.1) (by have := jn_len T x.1; have := chk_le T x.1; omega) _ _ _) ?_
      rw [← jn_succ]
      first | refine WL.assign rfl rfl rfl ?_
      refine WL.done ?_
      refine EW.on ?_
      refine EW.region ?_
      first | refine WL.move rfl rfl rfl ?_
      first | refine WL.move rfl rfl rfl ?_
      obtain ⟨s, W1, v2, W2, ra, rb, o2, be2, fx2, nw2⟩ := Oi.push hA.oi hA.be.size (x.1 : Int) (by rw [nI_len, List.length_range]; omega) 23
      refine WL.bslN [(0, .int .i64 (x.1 : Int))] rfl rfl rfl ra ?_
      refine WL.app rfl rfl rfl rfl rb ?_
      first | refine WL.assign rfl rfl rfl ?_
      refine WL.done ?_
      refine pn_block ?_
      refine EW.on ?_
      refine EW.region ?_
      first | refine WL.move rfl rfl rfl ?_
      first | refine WL.bin rfl rfl rfl rfl (int_add ‹_› _ _ _) ?_
      first | refine WL.assign rfl rfl rfl ?_
      refine WL.done ?_
      refine EW.again (x.1 + 1, v2) [2, 3, 9, 10, 12, 14, 15, 16] rfl ⟨by show x.1 + 1 ≤ cnt T; omega, by show Oi W2 _ v2 (nI (List.range (x.1 + 1))); rw [List.range_succ, nI_app]; exact o2, hA.be.trans be2⟩ (by show cnt T - (x.1 + 1) < cnt T - x.1; omega)
    · have q1 : ¬ (x.1 : Int) < ((cnt T - 1 : Nat) : Int) := by omega
      refine EW.region ?_
      first | refine WL.move rfl rfl rfl ?_
      first | refine WL.move rfl rfl rfl ?_
      first | refine WL.index rfl rfl rfl rfl (x26g _ _ _ ht _) ?_ | refine WL.skip _ rfl rfl rfl ?_
      first | refine WL.load rfl rfl rfl (ldC hpc) ?_ | refine WL.skip _ rfl rfl rfl ?_
      rw [hpe]
      first | refine WL.len rfl rfl rfl (len24 _ _ _ _ _) ?_ | refine WL.skip _ rfl rfl rfl ?_
      rw [← hpe]
      first | refine WL.bin rfl rfl rfl rfl (int_lt_t ‹_› _ _ _) ?_ | refine WL.bin rfl rfl rfl rfl (int_lt_f ‹_› _ _ _) ?_ | refine WL.bin rfl rfl rfl rfl (int_lt_d _ _ _ _ _) ?_
      first | refine WL.move rfl rfl rfl ?_
      first | refine WL.move rfl rfl rfl ?_ | refine WL.skip _ rfl rfl rfl ?_
      first | refine WL.move rfl rfl rfl ?_ | refine WL.skip _ rfl rfl rfl ?_
      first | refine WL.index rfl rfl rfl rfl (x26g _ _ _ ht _) ?_ | refine WL.skip _ rfl rfl rfl ?_
      first | refine WL.load rfl rfl rfl (ldC hpc) ?_ | refine WL.skip _ rfl rfl rfl ?_
      rw [hpe]
      first | refine WL.len rfl rfl rfl (len24 _ _ _ _ _) ?_ | refine WL.skip _ rfl rfl rfl ?_
      rw [← hpe]
      first | refine WL.bin rfl rfl rfl rfl (int_gt_t ‹_› _ _ _) ?_ | refine WL.bin rfl rfl rfl rfl (int_gt_f ‹_› _ _ _) ?_ | refine WL.bin rfl rfl rfl rfl (int_gt_d _ _ _ _ _) ?_ | refine WL.skip _ rfl rfl rfl ?_
      first | refine WL.pick rfl rfl rfl rfl ?_
      first | refine WL.move rfl rfl rfl ?_
      first | refine WL.move rfl rfl rfl ?_ | refine WL.skip _ rfl rfl rfl ?_
      first | refine WL.move rfl rfl rfl ?_ | refine WL.skip _ rfl rfl rfl ?_
      first | refine WL.len rfl rfl rfl (len26 _ _ _ _ _) ?_ | refine WL.skip _ rfl rfl rfl ?_
      first | refine WL.bin rfl rfl rfl rfl (int_sub ‹_› _ _ _) ?_ | refine WL.skip _ rfl rfl rfl ?_
      first | refine WL.bin rfl rfl rfl rfl (int_lt_t ‹_› _ _ _) ?_ | refine WL.bin rfl rfl rfl rfl (int_lt_f ‹_› _ _ _) ?_ | refine WL.bin rfl rfl rfl rfl (int_lt_d _ _ _ _ _) ?_ | refine WL.skip _ rfl rfl rfl ?_
      first | refine WL.move rfl rfl rfl ?_ | refine WL.skip _ rfl rfl rfl ?_
      first | refine WL.move rfl rfl rfl ?_ | refine WL.skip _ rfl rfl rfl ?_
      first | refine WL.move rfl rfl rfl ?_ | refine WL.skip _ rfl rfl rfl ?_
      first | refine WL.index rfl rfl rfl rfl (x26g _ _ _ ht _) ?_ | refine WL.skip _ rfl rfl rfl ?_
      first | refine WL.load rfl rfl rfl (ldC hpc) ?_ | refine WL.skip _ rfl rfl rfl ?_
      rw [hpe]
      first | refine WL.len rfl rfl rfl (len24 _ _ _ _ _) ?_ | refine WL.skip _ rfl rfl rfl ?_
      rw [← hpe]
      first | refine WL.bin rfl rfl rfl rfl (int_ne_f rfl _ _ _) ?_ | refine WL.bin rfl rfl rfl rfl (int_ne_t ‹_› _ _ _) ?_ | refine WL.bin rfl rfl rfl rfl (int_ne_f ‹_› _ _ _) ?_ | refine WL.bin rfl rfl rfl rfl (int_ne_t (by decide) _ _ _) ?_ | refine WL.bin rfl rfl rfl rfl (int_ne_d _ _ _ _ _) ?_ | refine WL.skip _ rfl rfl rfl ?_
      first | refine WL.pick rfl rfl rfl rfl ?_ | refine WL.skip _ rfl rfl rfl ?_
      first | refine WL.pick rfl rfl rfl rfl ?_
      refine WL.done ?_
      refine EW.on ?_
      refine EW.cond_f rfl ?_
      refine EW.skip ?_
      refine EW.on ?_
      refine EW.seq ?_
      refine EW.region ?_
      first | refine WL.move rfl rfl rfl ?_
      first | refine WL.move rfl rfl rfl ?_
      first | refine WL.move rfl rfl rfl ?_
      refine WL.index rfl rfl rfl rfl (x26g _ _ _ ht _) ?_
      refine WL.load rfl rfl rfl (ldC hpc) ?_
      rw [hpe]
      refine WL.sliceL rfl rfl rfl rfl (c24L pao _ pcp 15 (by rw [pt_len]; omega) hpcp _) ?_
      rw [← hpe]
      refine WL.conv rfl rfl rfl (hcut.convert) ?_
      refine WL.bin rfl rfl rfl rfl (str_cat (jn T x.1) (chk T x.1) (by have := jn_len T x.1; have := chk_le T x.1; omega) _ _ _) ?_
      rw [← jn_succ]
      first | refine WL.assign rfl rfl rfl ?_
      refine WL.done ?_
      refine EW.on ?_
      refine EW.region ?_
      first | refine WL.move rfl rfl rfl ?_
      first | refine WL.move rfl rfl rfl ?_
      obtain ⟨s, W1, v2, W2, ra, rb, o2, be2, fx2, nw2⟩ := Oi.push hA.oi hA.be.size (x.1 : Int) (by rw [nI_len, List.length_range]; omega) 23
      refine WL.bslN [(0, .int .i64 (x.1 : Int))] rfl rfl rfl ra ?_
      refine WL.app rfl rfl rfl rfl rb ?_
      first | refine WL.assign rfl rfl rfl ?_
      refine WL.done ?_
      refine pn_block ?_
      refine EW.on ?_
      refine EW.region ?_
      first | refine WL.move rfl rfl rfl ?_
      first | refine WL.bin rfl rfl rfl rfl (int_add ‹_› _ _ _) ?_
      first | refine WL.assign rfl rfl rfl ?_
      refine WL.done ?_
      refine EW.again (x.1 + 1, v2) [2, 3, 9, 10, 12, 14, 15, 16] rfl ⟨by show x.1 + 1 ≤ cnt T; omega, by show Oi W2 _ v2 (nI (List.range (x.1 + 1))); rw [List.range_succ, nI_app]; exact o2, hA.be.trans be2⟩ (by show cnt T - (x.1 + 1) < cnt T - x.1; omega)
  · have hxe : x.1 = cnt T := by omega
    have hjT : jn T x.1 = T := by rw [hxe]; exact chks_all T
    obtain ⟨zv, _, hzc, zv3⟩ := (sp3.on hA.be).get (x := cnt T - 1) (by omega)
    obtain ⟨zao, zcp, hze, _⟩ := zv3.slice'
    refine EW.exit ?_
    refine px_then ?_
    refine px_then ?_
    refine px_block ?_
    refine EW.on ?_
    refine EW.seq ?_
    refine EW.seq ?_
    rcases (show 1 < cnt T ∨ ¬ 1 < cnt T by omega) with hq | hq
    · have q1 : (1 : Int) < (cnt T : Int) := by omega
      have q2 : ¬ ((ptB id T (cnt T - 1)).length : Int) = 15 := by rw [pt_len]; have := (chk_len (T := T) (i := cnt T - 1) (by omega)).2.1 (by omega); omega
      refine EW.region ?_
      first | refine WL.move rfl rfl rfl ?_
      first | refine WL.move rfl rfl rfl ?_
      refine WL.conv rfl rfl rfl ((tx3.below hA.be).convert) ?_
      refine WL.bin rfl rfl rfl rfl (str_ne_d _ _ _ _ _) ?_
      rw [show decide (¬ jn T x.1 = T) = false by rw [decide_eq_false]; exact fun h => h hjT]
      first | refine WL.move rfl rfl rfl ?_
      first | refine WL.move rfl rfl rfl ?_ | refine WL.skip _ rfl rfl rfl ?_
      first | refine WL.len rfl rfl rfl (len26 _ _ _ _ _) ?_ | refine WL.skip _ rfl rfl rfl ?_
      first | refine WL.bin rfl rfl rfl rfl (int_gt_t ‹_› _ _ _) ?_ | refine WL.bin rfl rfl rfl rfl (int_gt_f ‹_› _ _ _) ?_ | refine WL.bin rfl rfl rfl rfl (int_gt_d _ _ _ _ _) ?_ | refine WL.skip _ rfl rfl rfl ?_
      first | refine WL.move rfl rfl rfl ?_ | refine WL.skip _ rfl rfl rfl ?_
      first | refine WL.move rfl rfl rfl ?_ | refine WL.skip _ rfl rfl rfl ?_
      first | refine WL.move rfl rfl rfl ?_ | refine WL.skip _ rfl rfl rfl ?_
      first | refine WL.len rfl rfl rfl (len26 _ _ _ _ _) ?_ | refine WL.skip _ rfl rfl rfl ?_
      first | refine WL.bin rfl rfl rfl rfl (int_sub sM _ _ _) ?_ | refine WL.skip _ rfl rfl rfl ?_
      first | refine WL.index rfl rfl rfl rfl (x26g _ _ (cnt T - 1) (by omega) _) ?_ | refine WL.skip _ rfl rfl rfl ?_
      first | refine WL.load rfl rfl rfl (ldC hzc) ?_ | refine WL.skip _ rfl rfl rfl ?_
      try rw [hze]
      first | refine WL.len rfl rfl rfl (len24 _ _ _ _ _) ?_ | refine WL.skip _ rfl rfl rfl ?_
      first | refine WL.bin rfl rfl rfl rfl (int_eq_t rfl _ _ _) ?_ | refine WL.bin rfl rfl rfl rfl (int_eq_t ‹_› _ _ _) ?_ | refine WL.bin rfl rfl rfl rfl (int_eq_f ‹_› _ _ _) ?_ | refine WL.bin rfl rfl rfl rfl (int_eq_d _ _ _ _ _) ?_ | refine WL.skip _ rfl rfl rfl ?_
      first | refine WL.pick rfl rfl rfl rfl ?_ | refine WL.skip _ rfl rfl rfl ?_
      first | refine WL.pick rfl rfl rfl rfl ?_
      refine WL.done ?_
      refine EW.on ?_
      refine EW.cond_f rfl ?_
      refine EW.skip ?_
      refine EW.on ?_
      refine EW.seq ?_
      refine EW.seq ?_
      refine EW.region ?_
      first | refine WL.assign rfl rfl rfl ?_
      refine WL.done ?_
      refine EW.on ?_
      refine EW.block ?_
      refine EW.loop (cE id ov tv g p T) (CR w id ov tv os w1.heap.size g p r vs T) (fun y => y.L.length) ⟨0, x.2, List.range (cnt T), [], 0⟩ [2, 3, 9, 10, 12, 15, 17] rfl ⟨tr3.on hA.be, .inl ⟨rfl, by show 0 < 1; decide, fun i => by unfold lfF; by_cases h : i < cnt T <;> simp [h]⟩, List.nodup_range, fun z hz => List.mem_range.1 hz, ⟨hxe ▸ hA.oi.ow, fun _ _ => Nat.zero_le _⟩, sp3.on hA.be, tx3.below hA.be, hi3.on hA.be, ks3.below hA.be ks3.lt, by show 0 + (List.range (cnt T)).length = cnt T; rw [List.length_range]; omega, (fun m hm => by cases hm), bt L3 hA.be⟩ ?_
      rintro y W hR
      show EW _ _ _ _ [(2, u32v id), (3, ov), (9, tv), (10, .slice (some ⟨g, 0, none⟩) (cnt T) (cnt T)), (12, .pointer (some ⟨p, 0, none⟩)), (15, y.v), (17, .int .i64 (y.i : Int))] _
      have hil := hR.il
      have s1 : IntKind.i64.wrap ((y.i : Int) + 1) = ((y.i + 1 : Nat) : Int) := by rw [IntKind.wrap_i64]; omega
      refine EW.seq ?_
      refine EW.seq ?_
      refine EW.region ?_
      first | refine WL.move rfl rfl rfl ?_
      refine WL.len rfl rfl rfl (hR.oi.hi.len _ _) ?_
      rw [nI_len]
      refine WL.bin rfl rfl rfl rfl (int_gt_d _ _ _ _ _) ?_
      refine WL.done ?_
      refine EW.on ?_
      refine EW.cond_d rfl (fun h142 => ?_) (fun h142 => ?_)
      · have hLp : 0 < y.L.length := by omega
        refine EW.skip ?_
        refine EW.on ?_
        refine EW.seq ?_
        refine EW.block ?_
        refine EW.seq ?_
        refine EW.region ?_
        first | refine WL.assign rfl rfl rfl ?_
        refine WL.done ?_
        refine EW.on ?_
        refine EW.join (fun k : Nat => [(2, u32v id), (3, ov), (9, tv), (10, .slice (some ⟨g, 0, none⟩) (cnt T) (cnt T)), (12, .pointer (some ⟨p, 0, none⟩)), (15, y.v), (17, .int .i64 (y.i : Int)), (18, .int .i64 (k : Int))]) (fun k W2 => k < y.L.length ∧ Below W.heap.size W W2) ?_ ?_
        · refine EW.seq ?_
          refine EW.region ?_
          first | refine WL.move rfl rfl rfl ?_
          first | refine WL.move rfl rfl rfl ?_
          refine WL.len rfl rfl rfl (hR.hi.len _ _) ?_
          refine WL.bin rfl rfl rfl rfl (int_lt_d _ _ _ _ _) ?_
          refine WL.done ?_
          refine EW.on ?_
          refine EW.cond_d rfl (fun h148 => ?_) (fun h148 => ?_)
          · have hio : y.i < os.length := by omega
            obtain ⟨z, hz⟩ : ∃ z, os[y.i]? = some z := ⟨_, List.getElem?_eq_getElem hio⟩
            obtain ⟨oad, oa1, oa2⟩ := hR.hi.getB hz
            obtain ⟨hz1, hz2⟩ := hos z (List.mem_of_getElem? hz)
            obtain ⟨r1, hr1⟩ := abs_i z hz1 hz2
            refine EW.ordB [(0, 0, 0), (1, 0, 0), (2, 0, 0), (3, 0, 1), (4, 0, 0), (5, 0, 0), (6, 0, 0), (7, 0, 1), (8, 0, 0), (9, 0, 0), (10, 0, 0), (11, 0, 0), (12, 0, 0), (13, 0, 0), (14, 0, 0)] (by kernel_rfl) rfl (by kernel_rfl) ?_
            simp only [opsZ, List.getD_cons_zero, List.getD_cons_succ]
            first | refine ZE.move rfl rfl rfl rfl sz0 ?_
            first | refine ZE.move rfl rfl rfl rfl sz0 ?_
            refine ZE.index rfl rfl rfl rfl rfl sz0 (fun W => oa1 W) ?_
            refine ZE.load rfl rfl rfl rfl sz1 (fun W hW => oa2 W (hW.resolve_left (by decide))) ?_
            first | refine ZE.move rfl rfl rfl rfl sz0 ?_
            first | refine ZE.move rfl rfl rfl rfl sz0 ?_
            refine ZE.index rfl rfl rfl rfl rfl sz0 (fun W => oa1 W) ?_
            refine ZE.load rfl rfl rfl rfl sz1 (fun W hW => oa2 W (hW.resolve_left (by decide))) ?_
            refine ZE.bin rfl rfl rfl rfl rfl sz0 (fun W => int_add rfl W _ _) ?_
            refine ZE.un rfl rfl rfl rfl sz0 (fun W => neg_i _ rfl W) ?_
            refine ZE.max rfl rfl rfl rfl rfl sz0 (fun W => max_i _ _ _ W) ?_
            rw [hr1]
            first | refine ZE.move rfl rfl rfl rfl sz0 ?_
            refine ZE.len rfl rfl rfl rfl sz0 (fun W => hR.oi.hi.len _ W) ?_
            rw [nI_len]
            refine ZE.bin rfl rfl rfl rfl rfl sz0 (fun W => rem_i _ _ (by omega) (mod_n r1 y.L.length) W _ _) ?_
            first | refine ZE.assign rfl rfl rfl rfl sz0 ?_
            rintro W23 l23
            exact EW.met (r1 % y.L.length) [2, 3, 9, 10, 12, 15, 17, 18] rfl ⟨Nat.mod_lt _ (by omega), l23⟩
          · skip
            refine EW.skip ?_
            exact EW.met 0 [2, 3, 9, 10, 12, 15, 17, 18] rfl ⟨by omega, Below.refl _ _⟩
        · rintro k Wk ⟨hk, lk⟩
          replace hR := hR.on lk
          show EW _ _ _ _ [(2, u32v id), (3, ov), (9, tv), (10, .slice (some ⟨g, 0, none⟩) (cnt T) (cnt T)), (12, .pointer (some ⟨p, 0, none⟩)), (15, y.v), (17, .int .i64 (y.i : Int)), (18, .int .i64 (k : Int))] _
          obtain ⟨x, hxk⟩ : ∃ x, y.L[k]? = some x := ⟨_, List.getElem?_eq_getElem hk⟩
          have hxm := hR.lt x (List.mem_of_getElem? hxk)
          obtain ⟨xad, xa1, xa2⟩ := hR.oi.hi.get (nI_at hxk)
          obtain ⟨chv, ch1, ch2⟩ := hR.oi.hi.cutH (k := k) (by rw [nI_len]; exact hk)
          obtain ⟨clv, cl1, cl2⟩ := hR.oi.hi.cutL (k := k) (by rw [nI_len]; exact hk)
          have sK : IntKind.i64.wrap ((k : Int) + 1) = ((k + 1 : Nat) : Int) := by rw [IntKind.wrap_i64]; omega
          refine EW.seq ?_
          refine EW.region ?_
          first | refine WL.move rfl rfl rfl ?_
          first | refine WL.move rfl rfl rfl ?_
          refine WL.index rfl rfl rfl rfl (xa1 _) ?_
          refine WL.load rfl rfl rfl xa2 ?_
          first | refine WL.assign rfl rfl rfl ?_
          refine WL.done ?_
          refine EW.on ?_
          refine EW.seq ?_
          refine EW.region ?_
          first | refine WL.assign rfl rfl rfl ?_
          refine WL.done ?_
          refine EW.on ?_
          refine EW.seq ?_
          refine EW.region ?_
          first | refine WL.move rfl rfl rfl ?_
          first | refine WL.move rfl rfl rfl ?_
          first | refine WL.move rfl rfl rfl ?_
          refine WL.sliceH rfl rfl rfl rfl (ch1 _) ?_
          obtain ⟨v1, W1, ra1, o1, be1⟩ := Oi.app (Oi.nil Wk Wk.heap.size) (Nat.le_refl _) ch2 (by have := hR.il; rw [List.length_take, nI_len, List.length_nil]; omega) 23
          refine WL.app rfl rfl rfl rfl ra1 ?_
          first | refine WL.assign rfl rfl rfl ?_
          refine WL.done ?_
          refine EW.on ?_
          refine EW.seq ?_
          refine EW.region ?_
          first | refine WL.move rfl rfl rfl ?_
          first | refine WL.move rfl rfl rfl ?_
          first | refine WL.move rfl rfl rfl ?_
          refine WL.bin rfl rfl rfl rfl (int_add sK _ _ _) ?_
          refine WL.sliceL rfl rfl rfl rfl (cl1 _) ?_
          obtain ⟨v2, W2, ra2, o2, be2⟩ := Oi.app o1 be1.size (cl2.on be1) (by have := hR.il; rw [List.nil_append, List.length_take, List.length_drop, nI_len]; omega) 23
          refine WL.app rfl rfl rfl rfl ra2 ?_
          rw [List.nil_append, nI_take, nI_drop, ← nI_app] at o2
          obtain ⟨L2, hL2⟩ : ∃ L2, L2 = y.L.take k ++ y.L.drop (k + 1) := ⟨_, rfl⟩
          rw [← hL2] at o2
          have be12 := be1.trans be2
          have R2 := hR.on be12
          obtain ⟨pv, pv1, pv2, pv3⟩ := R2.sp.get hxm
          have nd2 : L2.Nodup := hL2 ▸ lf_nd hR.nd k
          have lt2 : ∀ z ∈ L2, z < cnt T := fun z hz => hR.lt z (by rw [hL2] at hz; rcases List.mem_append.1 hz with h | h; exact List.mem_of_mem_take h; exact List.mem_of_mem_drop h)
          have ln2 : L2.length + 1 = y.L.length := by rw [hL2, List.length_append, List.length_take, List.length_drop]; omega
          have up2 : upd (lfF (cnt T) y.L) x = lfF (cnt T) L2 := by rw [hL2]; exact lf_upd hR.nd hR.lt hxk
          have fx0 : lfF (cnt T) y.L x = false := by unfold lfF; rw [decide_eq_true (List.mem_of_getElem? hxk)]; simp
          have fx1 : lfF (cnt T) L2 x = true := by rw [← up2]; unfold upd; rw [if_pos rfl]
          obtain ⟨a1, a2, a3, a4⟩ := add_new hR.lc bob_nm hid hT hxm fx0
          rw [up2, lf_all lt2] at a3
          first | refine WL.assign rfl rfl rfl ?_
          refine WL.done ?_
          refine EW.on ?_
          refine EW.seq ?_
          refine EW.region ?_
          first | refine WL.move rfl rfl rfl ?_
          first | refine WL.move rfl rfl rfl ?_
          first | refine WL.move rfl rfl rfl ?_
          refine WL.index rfl rfl rfl rfl (x26g _ _ _ hxm _) ?_
          refine WL.load rfl rfl rfl (ldC pv2) ?_
          refine WL.call [.pointer (some ⟨p, 0, none⟩), sv bob, pv] enter10 rfl rfl rfl (add_any p r 1 y.E y.c bob pv (ptB id T x) W2 R2.tr pv3.has (by rw [pt_len]; have := chk_le T x; omega) R2.ks) ?_
          rintro _ W3 ⟨u3, c3, rfl, tr3', fx3, _⟩
          refine ⟨_, rfl, ?_⟩
          rw [a1, a2, a3]
          rw [a4] at tr3'
          have lc3 := hR.lc.up hid hT hxm fx0 u3 y.c
          rw [up2] at lc3
          obtain ⟨E3, hE3⟩ : ∃ E3, E3 = upE y.E bob id (adQ y.E 1 bob (ptB id T x) u3) y.c := ⟨_, rfl⟩
          rw [← hE3] at tr3' lc3
          have ek3 : ∀ m ∈ E3, m.p = bob ∧ m.id = id := hE3 ▸ up_ek hR.ek _ _
          have m2 := R2.tr.mp.hp
          have R3 : CR w id ov tv os w1.heap.size g p r vs T ⟨y.i + 1, v2, L2, E3, c3⟩ W3 := ⟨tr3', lc3, nd2, lt2, (Oi.fxM (show Oi W2 0 v2 (nI L2) from ⟨o2.ow, fun _ _ => Nat.zero_le _⟩) m2 fx3), R2.sp.fxM m2 fx3, R2.tx.fxM m2 fx3, Li.fxM R2.hi m2 fx3, R2.ks.fxM m2 fx3, by show y.i + 1 + L2.length = cnt T; have := hR.il; omega, ek3, fxBe R2.be fx3 hrw⟩
          obtain ⟨pv', e1', pv2', pv3'⟩ := R3.sp.get hxm
          rw [pv1] at e1'
          cases e1'
          have b1 := add_old R3.lc bob_nm hid hT hxm fx1
          first | refine WL.move rfl rfl rfl ?_
          refine WL.extract rfl rfl rfl (ext_3 _ _ _ _).1 ?_
          refine WL.extract rfl rfl rfl (ext_3 _ _ _ _).2.1 ?_
          refine WL.extract rfl rfl rfl (ext_3 _ _ _ _).2.2 ?_
          first | refine WL.assign rfl rfl rfl ?_
          first | refine WL.assign rfl rfl rfl ?_
          first | refine WL.assign rfl rfl rfl ?_
          refine WL.done ?_
          refine EW.on ?_
          refine EW.seq ?_
          refine EW.region ?_
          first | refine WL.move rfl rfl rfl ?_
          first | refine WL.move rfl rfl rfl ?_
          first | refine WL.move rfl rfl rfl ?_
          refine WL.index rfl rfl rfl rfl (x26g _ _ _ hxm _) ?_
          refine WL.load rfl rfl rfl (ldC pv2') ?_
          refine WL.call [.pointer (some ⟨p, 0, none⟩), sv bob, pv] enter10 rfl rfl rfl (add_any p r 1 E3 c3 bob pv (ptB id T x) W3 R3.tr pv3'.has (by rw [pt_len]; have := chk_le T x; omega) R3.ks) ?_
          rintro _ W4 ⟨u4, c4, rfl, tr4, fx4, _⟩
          refine ⟨_, rfl, ?_⟩
          have nz : ¬ adE E3 1 bob (ptB id T x) = 0 := by rw [b1]; decide
          unfold adL at tr4
          rw [if_neg nz] at tr4
          rw [b1]
          have m3 := R3.tr.mp.hp
          have R4 : CR w id ov tv os w1.heap.size g p r vs T ⟨y.i + 1, v2, L2, E3, c4⟩ W4 := ⟨tr4, R3.lc, nd2, lt2, R3.oi.fxM m3 fx4, R3.sp.fxM m3 fx4, R3.tx.fxM m3 fx4, Li.fxM R3.hi m3 fx4, R3.ks.fxM m3 fx4, R3.il, ek3, fxBe R3.be fx4 hrw⟩
          obtain ⟨d1, d2⟩ := R4.lc.fd bob_nm fx1
          first | refine WL.move rfl rfl rfl ?_
          refine WL.extract rfl rfl rfl (ext_3 _ _ _ _).1 ?_
          refine WL.extract rfl rfl rfl (ext_3 _ _ _ _).2.1 ?_
          refine WL.extract rfl rfl rfl (ext_3 _ _ _ _).2.2 ?_
          first | refine WL.assign rfl rfl rfl ?_
          first | refine WL.assign rfl rfl rfl ?_
          first | refine WL.assign rfl rfl rfl ?_
          refine WL.done ?_
          refine EW.on ?_
          refine EW.seq ?_
          refine EW.region ?_
          first | refine WL.move rfl rfl rfl ?_
          first | refine WL.move rfl rfl rfl ?_
          refine WL.call [.pointer (some ⟨p, 0, none⟩), sv bob, u32v id] enter11 rfl rfl rfl (missing_any p r 1 E3 c4 bob id W4 R4.tr) ?_
          rintro _ W5 ⟨mv, rfl, om, _, l5⟩
          refine ⟨_, rfl, ?_⟩
          replace om := om d1
          rw [d1]
          rw [d2.mis hc64] at om
          have R5 := R4.on l5
          replace o2 := R5.oi
          have lm : (nI ((List.range (cnt T)).filter fun i => !(lfF (cnt T) L2 i))).length = L2.length := by rw [nI_len]; exact lf_len nd2 lt2
          first | refine WL.move rfl rfl rfl ?_
          first | refine WL.extract rfl rfl rfl (ext_2 _ _ _).1 ?_
          first | refine WL.extract rfl rfl rfl (ext_2 _ _ _).2 ?_
          first | refine WL.assign rfl rfl rfl ?_
          first | refine WL.assign rfl rfl rfl ?_
          refine WL.done ?_
          refine EW.on ?_
          refine EW.seq ?_
          refine EW.seq ?_
          refine EW.region ?_
          first | refine WL.move rfl rfl rfl ?_
          first | refine WL.move rfl rfl rfl ?_
          refine WL.bin rfl rfl rfl rfl (neqU _ _ _ _ _) ?_
          rw [show decide (¬ id = id) = false by simp]
          first | refine WL.move rfl rfl rfl ?_
          first | refine WL.move rfl rfl rfl ?_ | refine WL.skip _ rfl rfl rfl ?_
          first | refine WL.bin rfl rfl rfl rfl (int_ne_f rfl _ _ _) ?_ | refine WL.bin rfl rfl rfl rfl (int_ne_t ‹_› _ _ _) ?_ | refine WL.bin rfl rfl rfl rfl (int_ne_f ‹_› _ _ _) ?_ | refine WL.bin rfl rfl rfl rfl (int_ne_t (by decide) _ _ _) ?_ | refine WL.bin rfl rfl rfl rfl (int_ne_d _ _ _ _ _) ?_ | refine WL.skip _ rfl rfl rfl ?_
          first | refine WL.pick rfl rfl rfl rfl ?_
          first | refine WL.move rfl rfl rfl ?_
          first | refine WL.move rfl rfl rfl ?_ | refine WL.skip _ rfl rfl rfl ?_
          first | refine WL.move rfl rfl rfl ?_ | refine WL.skip _ rfl rfl rfl ?_
          first | refine WL.len rfl rfl rfl (o2.hi.len _ _) ?_ | refine WL.skip _ rfl rfl rfl ?_
          refine WL.bin rfl rfl rfl rfl (int_eq_d _ _ _ _ _) ?_
          rw [show decide (((nI L2).length : Int) = 0) = decide (L2.length = 0) by rw [nI_len, decide_eq_decide]; omega]
          refine WL.bin rfl rfl rfl rfl (bool_ne _ _ _ _ _) ?_
          rw [show (decide (L2.length = 0) != decide (L2.length = 0)) = false by simp]
          first | refine WL.pick rfl rfl rfl rfl ?_
          first | refine WL.move rfl rfl rfl ?_
          first | refine WL.move rfl rfl rfl ?_ | refine WL.skip _ rfl rfl rfl ?_
          first | refine WL.bin rfl rfl rfl rfl (int_ne_f rfl _ _ _) ?_ | refine WL.bin rfl rfl rfl rfl (int_ne_t ‹_› _ _ _) ?_ | refine WL.bin rfl rfl rfl rfl (int_ne_f ‹_› _ _ _) ?_ | refine WL.bin rfl rfl rfl rfl (int_ne_t (by decide) _ _ _) ?_ | refine WL.bin rfl rfl rfl rfl (int_ne_d _ _ _ _ _) ?_ | refine WL.skip _ rfl rfl rfl ?_
          first | refine WL.pick rfl rfl rfl rfl ?_
          first | refine WL.move rfl rfl rfl ?_
          first | refine WL.move rfl rfl rfl ?_ | refine WL.skip _ rfl rfl rfl ?_
          first | refine WL.bin rfl rfl rfl rfl (int_ne_f rfl _ _ _) ?_ | refine WL.bin rfl rfl rfl rfl (int_ne_t ‹_› _ _ _) ?_ | refine WL.bin rfl rfl rfl rfl (int_ne_f ‹_› _ _ _) ?_ | refine WL.bin rfl rfl rfl rfl (int_ne_t (by decide) _ _ _) ?_ | refine WL.bin rfl rfl rfl rfl (int_ne_d _ _ _ _ _) ?_ | refine WL.skip _ rfl rfl rfl ?_
          first | refine WL.pick rfl rfl rfl rfl ?_
          first | refine WL.move rfl rfl rfl ?_
          first | refine WL.move rfl rfl rfl ?_ | refine WL.skip _ rfl rfl rfl ?_
          first | refine WL.len rfl rfl rfl (om.hi.len _ _) ?_ | refine WL.skip _ rfl rfl rfl ?_
          first | refine WL.move rfl rfl rfl ?_ | refine WL.skip _ rfl rfl rfl ?_
          first | refine WL.len rfl rfl rfl (o2.hi.len _ _) ?_ | refine WL.skip _ rfl rfl rfl ?_
          refine WL.bin rfl rfl rfl rfl (int_ne_f (by rw [lm, nI_len]) _ _ _) ?_
          first | refine WL.pick rfl rfl rfl rfl ?_
          refine WL.done ?_
          refine EW.on ?_
          refine EW.cond_f rfl ?_
          refine EW.skip ?_
          refine EW.on ?_
          refine EW.seq ?_
          refine EW.region ?_
          first | refine WL.move rfl rfl rfl ?_
          refine WL.len rfl rfl rfl (o2.hi.len _ _) ?_
          refine WL.bin rfl rfl rfl rfl (int_gt_d _ _ _ _ _) ?_
          refine WL.done ?_
          refine EW.on ?_
          refine EW.cond_d rfl (fun h235 => ?_) (fun h235 => ?_)
          · have hL2n : ¬ L2.length = 0 := by
              have h0 := h235
              rw [nI_len] at h0
              have h1 : (0 : Int) < (L2.length : Int) := h0
              omega
            refine EW.seq ?_
            refine EW.region ?_
            first | refine WL.move rfl rfl rfl ?_
            first | refine WL.move rfl rfl rfl ?_
            refine WL.call [.pointer (some ⟨p, 0, none⟩), sv bob, u32v id] enter12 rfl rfl rfl (take_any' p r 1 E3 c4 bob id W5 R5.tr) ?_
            rintro _ W6 ⟨v6, rfl, tr6, o6, fx6⟩
            refine ⟨_, rfl, ?_⟩
            have k6 : tkE E3 bob id = 261 := by
              unfold tkE; rw [if_pos d1, d2.all hc64, lf_all lt2, if_neg]
              simpa using hL2n
            have nz6 : ¬ tkE E3 bob id = 0 := by rw [k6]; decide
            unfold tkL at tr6
            rw [if_neg nz6] at tr6
            rw [k6]
            have m5 := R5.tr.mp.hp
            have R6 : CR w id ov tv os w1.heap.size g p r vs T ⟨y.i + 1, v2, L2, E3, c4⟩ W6 := ⟨tr6, R5.lc, nd2, lt2, R5.oi.fxM m5 fx6, R5.sp.fxM m5 fx6, R5.tx.fxM m5 fx6, Li.fxM R5.hi m5 fx6, R5.ks.fxM m5 fx6, R5.il, ek3, fxBe R5.be fx6 hrw⟩
            first | refine WL.move rfl rfl rfl ?_
            first | refine WL.extract rfl rfl rfl (ext_2 _ _ _).1 ?_
            first | refine WL.extract rfl rfl rfl (ext_2 _ _ _).2 ?_
            first | refine WL.assign rfl rfl rfl ?_
            first | refine WL.assign rfl rfl rfl ?_
            refine WL.done ?_
            refine EW.on ?_
            refine EW.seq ?_
            refine EW.region ?_
            first | refine WL.move rfl rfl rfl ?_
            first | refine WL.bin rfl rfl rfl rfl (int_ne_f rfl _ _ _) ?_ | refine WL.bin rfl rfl rfl rfl (int_ne_t ‹_› _ _ _) ?_ | refine WL.bin rfl rfl rfl rfl (int_ne_f ‹_› _ _ _) ?_ | refine WL.bin rfl rfl rfl rfl (int_ne_t (by decide) _ _ _) ?_ | refine WL.bin rfl rfl rfl rfl (int_ne_d _ _ _ _ _) ?_
            refine WL.done ?_
            refine EW.on ?_
            refine EW.cond_f rfl ?_
            refine EW.skip ?_
            refine pn_block ?_
            refine EW.on ?_
            refine EW.region ?_
            first | refine WL.move rfl rfl rfl ?_
            first | refine WL.bin rfl rfl rfl rfl (int_add ‹_› _ _ _) ?_
            first | refine WL.assign rfl rfl rfl ?_
            refine WL.done ?_
            exact EW.again ⟨y.i + 1, v2, L2, E3, c4⟩ [2, 3, 9, 10, 12, 15, 17] rfl R6 (by show L2.length < y.L.length; omega)
          · skip
            refine EW.skip ?_
            refine pn_block ?_
            refine EW.on ?_
            refine EW.region ?_
            first | refine WL.move rfl rfl rfl ?_
            first | refine WL.bin rfl rfl rfl rfl (int_add ‹_› _ _ _) ?_
            first | refine WL.assign rfl rfl rfl ?_
            refine WL.done ?_
            exact EW.again ⟨y.i + 1, v2, L2, E3, c4⟩ [2, 3, 9, 10, 12, 15, 17] rfl R5 (by show L2.length < y.L.length; omega)
      · have hL0 : y.L = [] := List.length_eq_zero_iff.1 (by omega)
        have hal : ∀ i, i < cnt T → lfF (cnt T) y.L i = true := fun i hi => by rw [hL0]; simp [lfF, hi]
        obtain ⟨d1, d2⟩ := hR.lc.fd bob_nm (hal 0 (by omega))
        have k7 : tkE y.E bob id = 0 := by unfold tkE; rw [if_pos d1, d2.all hc64, decide_eq_true hal]; rfl
        refine EW.exit ?_
        refine px_then ?_
        refine px_then ?_
        refine px_block ?_
        refine EW.on ?_
        refine EW.seq ?_
        refine EW.region ?_
        first | refine WL.move rfl rfl rfl ?_
        first | refine WL.move rfl rfl rfl ?_
        refine WL.call [.pointer (some ⟨p, 0, none⟩), sv bob, u32v id] enter12 rfl rfl rfl (take_any' p r 1 y.E y.c bob id W hR.tr) ?_
        rintro _ W7 ⟨v7, rfl, tr7, o7, fx7⟩
        refine ⟨_, rfl, ?_⟩
        unfold tkL at tr7
        unfold tkT at o7
        rw [if_pos k7] at tr7 o7
        rw [k7]
        rw [d2.txt hc64 hal] at o7
        have tx7 := hR.tx.fxM hR.tr.mp.hp fx7
        have e0 : delE y.E bob id = [] := by
          unfold delE
          rw [List.filter_eq_nil_iff]
          intro m hm
          have := hR.ek m hm
          simp [this.1, this.2]
        rw [e0] at tr7
        have be7 := fxBe hR.be fx7 hrw
        have k8 : tkE [] bob id = 201 := rfl
        first | refine WL.move rfl rfl rfl ?_
        first | refine WL.extract rfl rfl rfl (ext_2 _ _ _).1 ?_
        first | refine WL.extract rfl rfl rfl (ext_2 _ _ _).2 ?_
        first | refine WL.assign rfl rfl rfl ?_
        first | refine WL.assign rfl rfl rfl ?_
        refine WL.done ?_
        refine EW.on ?_
        refine EW.seq ?_
        refine EW.region ?_
        first | refine WL.move rfl rfl rfl ?_
        first | refine WL.move rfl rfl rfl ?_
        refine WL.call [.pointer (some ⟨p, 0, none⟩), sv bob, u32v id] enter12 rfl rfl rfl (take_any' p r 1 [] y.c bob id W7 tr7) ?_
        rintro _ W8 ⟨v8, rfl, tr8, o8, fx8⟩
        refine ⟨_, rfl, ?_⟩
        unfold tkL at tr8
        rw [k8, if_neg (by decide)] at tr8
        rw [k8]
        have m7 := tr7.mp.hp
        have be8 := fxBe be7 fx8 hrw
        have tx8 := tx7.fxM m7 fx8
        have o9 := o7.fx fx8 (fun k hk e => by have e' : k = r := hk; rw [e'] at e; exact o7.neM m7 e)
        first | refine WL.move rfl rfl rfl ?_
        first | refine WL.extract rfl rfl rfl (ext_2 _ _ _).1 ?_
        first | refine WL.extract rfl rfl rfl (ext_2 _ _ _).2 ?_
        first | refine WL.assign rfl rfl rfl ?_
        first | refine WL.assign rfl rfl rfl ?_
        refine WL.done ?_
        refine EW.on ?_
        refine EW.seq ?_
        refine EW.region ?_
        first | refine WL.move rfl rfl rfl ?_
        first | refine WL.bin rfl rfl rfl rfl (int_eq_t rfl _ _ _) ?_ | refine WL.bin rfl rfl rfl rfl (int_eq_t ‹_› _ _ _) ?_ | refine WL.bin rfl rfl rfl rfl (int_eq_f ‹_› _ _ _) ?_ | refine WL.bin rfl rfl rfl rfl (int_eq_d _ _ _ _ _) ?_
        first | refine WL.move rfl rfl rfl ?_
        first | refine WL.move rfl rfl rfl ?_ | refine WL.skip _ rfl rfl rfl ?_
        refine WL.conv rfl rfl rfl (o9.has.convert) ?_
        first | refine WL.move rfl rfl rfl ?_ | refine WL.skip _ rfl rfl rfl ?_
        refine WL.conv rfl rfl rfl (tx8.convert) ?_
        refine WL.bin rfl rfl rfl rfl (str_eq_s _ _ _ _ _) ?_
        rw [show decide (T = T) = true by simp]
        first | refine WL.pick rfl rfl rfl rfl ?_
        first | refine WL.move rfl rfl rfl ?_
        first | refine WL.move rfl rfl rfl ?_ | refine WL.skip _ rfl rfl rfl ?_
        first | refine WL.bin rfl rfl rfl rfl (int_eq_t rfl _ _ _) ?_ | refine WL.bin rfl rfl rfl rfl (int_eq_t ‹_› _ _ _) ?_ | refine WL.bin rfl rfl rfl rfl (int_eq_f ‹_› _ _ _) ?_ | refine WL.bin rfl rfl rfl rfl (int_eq_d _ _ _ _ _) ?_ | refine WL.skip _ rfl rfl rfl ?_
        first | refine WL.pick rfl rfl rfl rfl ?_
        first | refine WL.move rfl rfl rfl ?_
        first | refine WL.move rfl rfl rfl ?_ | refine WL.skip _ rfl rfl rfl ?_
        refine WL.call [.pointer (some ⟨p, 0, none⟩)] enter13 rfl rfl rfl (tlen_any p r 1 [] y.c W8 tr8) ?_
        rintro _ W9 ⟨rfl, hw9⟩
        refine ⟨_, rfl, ?_⟩
        first | refine WL.bin rfl rfl rfl rfl (int_eq_t rfl _ _ _) ?_ | refine WL.bin rfl rfl rfl rfl (int_eq_t ‹_› _ _ _) ?_ | refine WL.bin rfl rfl rfl rfl (int_eq_f ‹_› _ _ _) ?_ | refine WL.bin rfl rfl rfl rfl (int_eq_d _ _ _ _ _) ?_ | refine WL.skip _ rfl rfl rfl ?_
        first | refine WL.pick rfl rfl rfl rfl ?_
        first | refine WL.assign rfl rfl rfl ?_
        refine WL.done ?_
        refine EW.on ?_
        refine EW.ret ?_
        exact EW.returns Tryd.results3 rfl ⟨rfl, hw9 ▸ be8⟩
    · have q1 : ¬ (1 : Int) < (cnt T : Int) := by omega
      refine EW.region ?_
      first | refine WL.move rfl rfl rfl ?_
      first | refine WL.move rfl rfl rfl ?_
      refine WL.conv rfl rfl rfl ((tx3.below hA.be).convert) ?_
      refine WL.bin rfl rfl rfl rfl (str_ne_d _ _ _ _ _) ?_
      rw [show decide (¬ jn T x.1 = T) = false by rw [decide_eq_false]; exact fun h => h hjT]
      first | refine WL.move rfl rfl rfl ?_
      first | refine WL.move rfl rfl rfl ?_ | refine WL.skip _ rfl rfl rfl ?_
      first | refine WL.len rfl rfl rfl (len26 _ _ _ _ _) ?_ | refine WL.skip _ rfl rfl rfl ?_
      first | refine WL.bin rfl rfl rfl rfl (int_gt_t ‹_› _ _ _) ?_ | refine WL.bin rfl rfl rfl rfl (int_gt_f ‹_› _ _ _) ?_ | refine WL.bin rfl rfl rfl rfl (int_gt_d _ _ _ _ _) ?_ | refine WL.skip _ rfl rfl rfl ?_
      first | refine WL.move rfl rfl rfl ?_ | refine WL.skip _ rfl rfl rfl ?_
      first | refine WL.move rfl rfl rfl ?_ | refine WL.skip _ rfl rfl rfl ?_
      first | refine WL.move rfl rfl rfl ?_ | refine WL.skip _ rfl rfl rfl ?_
      first | refine WL.len rfl rfl rfl (len26 _ _ _ _ _) ?_ | refine WL.skip _ rfl rfl rfl ?_
      first | refine WL.bin rfl rfl rfl rfl (int_sub sM _ _ _) ?_ | refine WL.skip _ rfl rfl rfl ?_
      first | refine WL.index rfl rfl rfl rfl (x26g _ _ (cnt T - 1) (by omega) _) ?_ | refine WL.skip _ rfl rfl rfl ?_
      first | refine WL.load rfl rfl rfl (ldC hzc) ?_ | refine WL.skip _ rfl rfl rfl ?_
      try rw [hze]
      first | refine WL.len rfl rfl rfl (len24 _ _ _ _ _) ?_ | refine WL.skip _ rfl rfl rfl ?_
      first | refine WL.bin rfl rfl rfl rfl (int_eq_t rfl _ _ _) ?_ | refine WL.bin rfl rfl rfl rfl (int_eq_t ‹_› _ _ _) ?_ | refine WL.bin rfl rfl rfl rfl (int_eq_f ‹_› _ _ _) ?_ | refine WL.bin rfl rfl rfl rfl (int_eq_d _ _ _ _ _) ?_ | refine WL.skip _ rfl rfl rfl ?_
      first | refine WL.pick rfl rfl rfl rfl ?_ | refine WL.skip _ rfl rfl rfl ?_
      first | refine WL.pick rfl rfl rfl rfl ?_
      refine WL.done ?_
      refine EW.on ?_
      refine EW.cond_f rfl ?_
      refine EW.skip ?_
      refine EW.on ?_
      refine EW.seq ?_
      refine EW.seq ?_
      refine EW.region ?_
      first | refine WL.assign rfl rfl rfl ?_
      refine WL.done ?_
      refine EW.on ?_
      refine EW.block ?_
      refine EW.loop (cE id ov tv g p T) (CR w id ov tv os w1.heap.size g p r vs T) (fun y => y.L.length) ⟨0, x.2, List.range (cnt T), [], 0⟩ [2, 3, 9, 10, 12, 15, 17] rfl ⟨tr3.on hA.be, .inl ⟨rfl, by show 0 < 1; decide, fun i => by unfold lfF; by_cases h : i < cnt T <;> simp [h]⟩, List.nodup_range, fun z hz => List.mem_range.1 hz, ⟨hxe ▸ hA.oi.ow, fun _ _ => Nat.zero_le _⟩, sp3.on hA.be, tx3.below hA.be, hi3.on hA.be, ks3.below hA.be ks3.lt, by show 0 + (List.range (cnt T)).length = cnt T; rw [List.length_range]; omega, (fun m hm => by cases hm), bt L3 hA.be⟩ ?_
      rintro y W hR
      show EW _ _ _ _ [(2, u32v id), (3, ov), (9, tv), (10, .slice (some ⟨g, 0, none⟩) (cnt T) (cnt T)), (12, .pointer (some ⟨p, 0, none⟩)), (15, y.v), (17, .int .i64 (y.i : Int))] _
      have hil := hR.il
      have s1 : IntKind.i64.wrap ((y.i : Int) + 1) = ((y.i + 1 : Nat) : Int) := by rw [IntKind.wrap_i64]; omega
      refine EW.seq ?_
      refine EW.seq ?_
      refine EW.region ?_
      first | refine WL.move rfl rfl rfl ?_
      refine WL.len rfl rfl rfl (hR.oi.hi.len _ _) ?_
      rw [nI_len]
      refine WL.bin rfl rfl rfl rfl (int_gt_d _ _ _ _ _) ?_
      refine WL.done ?_
      refine EW.on ?_
      refine EW.cond_d rfl (fun h142 => ?_) (fun h142 => ?_)
      · have hLp : 0 < y.L.length := by omega
        refine EW.skip ?_
        refine EW.on ?_
        refine EW.seq ?_
        refine EW.block ?_
        refine EW.seq ?_
        refine EW.region ?_
        first | refine WL.assign rfl rfl rfl ?_
        refine WL.done ?_
        refine EW.on ?_
        refine EW.join (fun k : Nat => [(2, u32v id), (3, ov), (9, tv), (10, .slice (some ⟨g, 0, none⟩) (cnt T) (cnt T)), (12, .pointer (some ⟨p, 0, none⟩)), (15, y.v), (17, .int .i64 (y.i : Int)), (18, .int .i64 (k : Int))]) (fun k W2 => k < y.L.length ∧ Below W.heap.size W W2) ?_ ?_
        · refine EW.seq ?_
          refine EW.region ?_
          first | refine WL.move rfl rfl rfl ?_
          first | refine WL.move rfl rfl rfl ?_
          refine WL.len rfl rfl rfl (hR.hi.len _ _) ?_
          refine WL.bin rfl rfl rfl rfl (int_lt_d _ _ _ _ _) ?_
          refine WL.done ?_
          refine EW.on ?_
          refine EW.cond_d rfl (fun h148 => ?_) (fun h148 => ?_)
          · have hio : y.i < os.length := by omega
            obtain ⟨z, hz⟩ : ∃ z, os[y.i]? = some z := ⟨_, List.getElem?_eq_getElem hio⟩
            obtain ⟨oad, oa1, oa2⟩ := hR.hi.getB hz
            obtain ⟨hz1, hz2⟩ := hos z (List.mem_of_getElem? hz)
            obtain ⟨r1, hr1⟩ := abs_i z hz1 hz2
            refine EW.ordB [(0, 0, 0), (1, 0, 0), (2, 0, 0), (3, 0, 1), (4, 0, 0), (5, 0, 0), (6, 0, 0), (7, 0, 1), (8, 0, 0), (9, 0, 0), (10, 0, 0), (11, 0, 0), (12, 0, 0), (13, 0, 0), (14, 0, 0)] (by kernel_rfl) rfl (by kernel_rfl) ?_
            simp only [opsZ, List.getD_cons_zero, List.getD_cons_succ]
            first | refine ZE.move rfl rfl rfl rfl sz0 ?_
            first | refine ZE.move rfl rfl rfl rfl sz0 ?_
            refine ZE.index rfl rfl rfl rfl rfl sz0 (fun W => oa1 W) ?_
            refine ZE.load rfl rfl rfl rfl sz1 (fun W hW => oa2 W (hW.resolve_left (by decide))) ?_
            first | refine ZE.move rfl rfl rfl rfl sz0 ?_
            first | refine ZE.move rfl rfl rfl rfl sz0 ?_
            refine ZE.index rfl rfl rfl rfl rfl sz0 (fun W => oa1 W) ?_
            refine ZE.load rfl rfl rfl rfl sz1 (fun W hW => oa2 W (hW.resolve_left (by decide))) ?_
            refine ZE.bin rfl rfl rfl rfl rfl sz0 (fun W => int_add rfl W _ _) ?_
            refine ZE.un rfl rfl rfl rfl sz0 (fun W => neg_i _ rfl W) ?_
            refine ZE.max rfl rfl rfl rfl rfl sz0 (fun W => max_i _ _ _ W) ?_
            rw [hr1]
            first | refine ZE.move rfl rfl rfl rfl sz0 ?_
            refine ZE.len rfl rfl rfl rfl sz0 (fun W => hR.oi.hi.len _ W) ?_
            rw [nI_len]
            refine ZE.bin rfl rfl rfl rfl rfl sz0 (fun W => rem_i _ _ (by omega) (mod_n r1 y.L.length) W _ _) ?_
            first | refine ZE.assign rfl rfl rfl rfl sz0 ?_
            rintro W23 l23
            exact EW.met (r1 % y.L.length) [2, 3, 9, 10, 12, 15, 17, 18] rfl ⟨Nat.mod_lt _ (by omega), l23⟩
          · skip
            refine EW.skip ?_
            exact EW.met 0 [2, 3, 9, 10, 12, 15, 17, 18] rfl ⟨by omega, Below.refl _ _⟩
        · rintro k Wk ⟨hk, lk⟩
          replace hR := hR.on lk
          show EW _ _ _ _ [(2, u32v id), (3, ov), (9, tv), (10, .slice (some ⟨g, 0, none⟩) (cnt T) (cnt T)), (12, .pointer (some ⟨p, 0, none⟩)), (15, y.v), (17, .int .i64 (y.i : Int)), (18, .int .i64 (k : Int))] _
          obtain ⟨x, hxk⟩ : ∃ x, y.L[k]? = some x := ⟨_, List.getElem?_eq_getElem hk⟩
          have hxm := hR.lt x (List.mem_of_getElem? hxk)
          obtain ⟨xad, xa1, xa2⟩ := hR.oi.hi.get (nI_at hxk)
          obtain ⟨chv, ch1, ch2⟩ := hR.oi.hi.cutH (k := k) (by rw [nI_len]; exact hk)
          obtain ⟨clv, cl1, cl2⟩ := hR.oi.hi.cutL (k := k) (by rw [nI_len]; exact hk)
          have sK : IntKind.i64.wrap ((k : Int) + 1) = ((k + 1 : Nat) : Int) := by rw [IntKind.wrap_i64]; omega
          refine EW.seq ?_
          refine EW.region ?_
          first | refine WL.move rfl rfl rfl ?_
          first | refine WL.move rfl rfl rfl ?_
          refine WL.index rfl rfl rfl rfl (xa1 _) ?_
          refine WL.load rfl rfl rfl xa2 ?_
          first | refine WL.assign rfl rfl rfl ?_
          refine WL.done ?_
          refine EW.on ?_
          refine EW.seq ?_
          refine EW.region ?_
          first | refine WL.assign rfl rfl rfl ?_
          refine WL.done ?_
          refine EW.on ?_
          refine EW.seq ?_
          refine EW.region ?_
          first | refine WL.move rfl rfl rfl ?_
          first | refine WL.move rfl rfl rfl ?_
          first | refine WL.move rfl rfl rfl ?_
          refine WL.sliceH rfl rfl rfl rfl (ch1 _) ?_
          obtain ⟨v1, W1, ra1, o1, be1⟩ := Oi.app (Oi.nil Wk Wk.heap.size) (Nat.le_refl _) ch2 (by have := hR.il; rw [List.length_take, nI_len, List.length_nil]; omega) 23
          refine WL.app rfl rfl rfl rfl ra1 ?_
          first | refine WL.assign rfl rfl rfl ?_
          refine WL.done ?_
          refine EW.on ?_
          refine EW.seq ?_
          refine EW.region ?_
          first | refine WL.move rfl rfl rfl ?_
          first | refine WL.move rfl rfl rfl ?_
          first | refine WL.move rfl rfl rfl ?_
          refine WL.bin rfl rfl rfl rfl (int_add sK _ _ _) ?_
          refine WL.sliceL rfl rfl rfl rfl (cl1 _) ?_
          obtain ⟨v2, W2, ra2, o2, be2⟩ := Oi.app o1 be1.size (cl2.on be1) (by have := hR.il; rw [List.nil_append, List.length_take, List.length_drop, nI_len]; omega) 23
          refine WL.app rfl rfl rfl rfl ra2 ?_
          rw [List.nil_append, nI_take, nI_drop, ← nI_app] at o2
          obtain ⟨L2, hL2⟩ : ∃ L2, L2 = y.L.take k ++ y.L.drop (k + 1) := ⟨_, rfl⟩
          rw [← hL2] at o2
          have be12 := be1.trans be2
          have R2 := hR.on be12
          obtain ⟨pv, pv1, pv2, pv3⟩ := R2.sp.get hxm
          have nd2 : L2.Nodup := hL2 ▸ lf_nd hR.nd k
          have lt2 : ∀ z ∈ L2, z < cnt T := fun z hz => hR.lt z (by rw [hL2] at hz; rcases List.mem_append.1 hz with h | h; exact List.mem_of_mem_take h; exact List.mem_of_mem_drop h)
          have ln2 : L2.length + 1 = y.L.length := by rw [hL2, List.length_append, List.length_take, List.length_drop]; omega
          have up2 : upd (lfF (cnt T) y.L) x = lfF (cnt T) L2 := by rw [hL2]; exact lf_upd hR.nd hR.lt hxk
          have fx0 : lfF (cnt T) y.L x = false := by unfold lfF; rw [decide_eq_true (List.mem_of_getElem? hxk)]; simp
          have fx1 : lfF (cnt T) L2 x = true := by rw [← up2]; unfold upd; rw [if_pos rfl]
          obtain ⟨a1, a2, a3, a4⟩ := add_new hR.lc bob_nm hid hT hxm fx0
          rw [up2, lf_all lt2] at a3
          first | refine WL.assign rfl rfl rfl ?_
          refine WL.done ?_
          refine EW.on ?_
          refine EW.seq ?_
          refine EW.region ?_
          first | refine WL.move rfl rfl rfl ?_
          first | refine WL.move rfl rfl rfl ?_
          first | refine WL.move rfl rfl rfl ?_
          refine WL.index rfl rfl rfl rfl (x26g _ _ _ hxm _) ?_
          refine WL.load rfl rfl rfl (ldC pv2) ?_
          refine WL.call [.pointer (some ⟨p, 0, none⟩), sv bob, pv] enter10 rfl rfl rfl (add_any p r 1 y.E y.c bob pv (ptB id T x) W2 R2.tr pv3.has (by rw [pt_len]; have := chk_le T x; omega) R2.ks) ?_
          rintro _ W3 ⟨u3, c3, rfl, tr3', fx3, _⟩
          refine ⟨_, rfl, ?_⟩
          rw [a1, a2, a3]
          rw [a4] at tr3'
          have lc3 := hR.lc.up hid hT hxm fx0 u3 y.c
          rw [up2] at lc3
          obtain ⟨E3, hE3⟩ : ∃ E3, E3 = upE y.E bob id (adQ y.E 1 bob (ptB id T x) u3) y.c := ⟨_, rfl⟩
          rw [← hE3] at tr3' lc3
          have ek3 : ∀ m ∈ E3, m.p = bob ∧ m.id = id := hE3 ▸ up_ek hR.ek _ _
          have m2 := R2.tr.mp.hp
          have R3 : CR w id ov tv os w1.heap.size g p r vs T ⟨y.i + 1, v2, L2, E3, c3⟩ W3 := ⟨tr3', lc3, nd2, lt2, (Oi.fxM (show Oi W2 0 v2 (nI L2) from ⟨o2.ow, fun _ _ => Nat.zero_le _⟩) m2 fx3), R2.sp.fxM m2 fx3, R2.tx.fxM m2 fx3, Li.fxM R2.hi m2 fx3, R2.ks.fxM m2 fx3, by show y.i + 1 + L2.length = cnt T; have := hR.il; omega, ek3, fxBe R2.be fx3 hrw⟩
          obtain ⟨pv', e1', pv2', pv3'⟩ := R3.sp.get hxm
          rw [pv1] at e1'
          cases e1'
          have b1 := add_old R3.lc bob_nm hid hT hxm fx1
          first | refine WL.move rfl rfl rfl ?_
          refine WL.extract rfl rfl rfl (ext_3 _ _ _ _).1 ?_
          refine WL.extract rfl rfl rfl (ext_3 _ _ _ _).2.1 ?_
          refine WL.extract rfl rfl rfl (ext_3 _ _ _ _).2.2 ?_
          first | refine WL.assign rfl rfl rfl ?_
          first | refine WL.assign rfl rfl rfl ?_
          first | refine WL.assign rfl rfl rfl ?_
          refine WL.done ?_
          refine EW.on ?_
          refine EW.seq ?_
          refine EW.region ?_
          first | refine WL.move rfl rfl rfl ?_
          first | refine WL.move rfl rfl rfl ?_
          first | refine WL.move rfl rfl rfl ?_
          refine WL.index rfl rfl rfl rfl (x26g _ _ _ hxm _) ?_
          refine WL.load rfl rfl rfl (ldC pv2') ?_
          refine WL.call [.pointer (some ⟨p, 0, none⟩), sv bob, pv] enter10 rfl rfl rfl (add_any p r 1 E3 c3 bob pv (ptB id T x) W3 R3.tr pv3'.has (by rw [pt_len]; have := chk_le T x; omega) R3.ks) ?_
          rintro _ W4 ⟨u4, c4, rfl, tr4, fx4, _⟩
          refine ⟨_, rfl, ?_⟩
          have nz : ¬ adE E3 1 bob (ptB id T x) = 0 := by rw [b1]; decide
          unfold adL at tr4
          rw [if_neg nz] at tr4
          rw [b1]
          have m3 := R3.tr.mp.hp
          have R4 : CR w id ov tv os w1.heap.size g p r vs T ⟨y.i + 1, v2, L2, E3, c4⟩ W4 := ⟨tr4, R3.lc, nd2, lt2, R3.oi.fxM m3 fx4, R3.sp.fxM m3 fx4, R3.tx.fxM m3 fx4, Li.fxM R3.hi m3 fx4, R3.ks.fxM m3 fx4, R3.il, ek3, fxBe R3.be fx4 hrw⟩
          obtain ⟨d1, d2⟩ := R4.lc.fd bob_nm fx1
          first | refine WL.move rfl rfl rfl ?_
          refine WL.extract rfl rfl rfl (ext_3 _ _ _ _).1 ?_
          refine WL.extract rfl rfl rfl (ext_3 _ _ _ _).2.1 ?_
          refine WL.extract rfl rfl rfl (ext_3 _ _ _ _).2.2 ?_
          first | refine WL.assign rfl rfl rfl ?_
          first | refine WL.assign rfl rfl rfl ?_
          first | refine WL.assign rfl rfl rfl ?_
          refine WL.done ?_
          refine EW.on ?_
          refine EW.seq ?_
          refine EW.region ?_
          first | refine WL.move rfl rfl rfl ?_
          first | refine WL.move rfl rfl rfl ?_
          refine WL.call [.pointer (some ⟨p, 0, none⟩), sv bob, u32v id] enter11 rfl rfl rfl (missing_any p r 1 E3 c4 bob id W4 R4.tr) ?_
          rintro _ W5 ⟨mv, rfl, om, _, l5⟩
          refine ⟨_, rfl, ?_⟩
          replace om := om d1
          rw [d1]
          rw [d2.mis hc64] at om
          have R5 := R4.on l5
          replace o2 := R5.oi
          have lm : (nI ((List.range (cnt T)).filter fun i => !(lfF (cnt T) L2 i))).length = L2.length := by rw [nI_len]; exact lf_len nd2 lt2
          first | refine WL.move rfl rfl rfl ?_
          first | refine WL.extract rfl rfl rfl (ext_2 _ _ _).1 ?_
          first | refine WL.extract rfl rfl rfl (ext_2 _ _ _).2 ?_
          first | refine WL.assign rfl rfl rfl ?_
          first | refine WL.assign rfl rfl rfl ?_
          refine WL.done ?_
          refine EW.on ?_
          refine EW.seq ?_
          refine EW.seq ?_
          refine EW.region ?_
          first | refine WL.move rfl rfl rfl ?_
          first | refine WL.move rfl rfl rfl ?_
          refine WL.bin rfl rfl rfl rfl (neqU _ _ _ _ _) ?_
          rw [show decide (¬ id = id) = false by simp]
          first | refine WL.move rfl rfl rfl ?_
          first | refine WL.move rfl rfl rfl ?_ | refine WL.skip _ rfl rfl rfl ?_
          first | refine WL.bin rfl rfl rfl rfl (int_ne_f rfl _ _ _) ?_ | refine WL.bin rfl rfl rfl rfl (int_ne_t ‹_› _ _ _) ?_ | refine WL.bin rfl rfl rfl rfl (int_ne_f ‹_› _ _ _) ?_ | refine WL.bin rfl rfl rfl rfl (int_ne_t (by decide) _ _ _) ?_ | refine WL.bin rfl rfl rfl rfl (int_ne_d _ _ _ _ _) ?_ | refine WL.skip _ rfl rfl rfl ?_
          first | refine WL.pick rfl rfl rfl rfl ?_
          first | refine WL.move rfl rfl rfl ?_
          first | refine WL.move rfl rfl rfl ?_ | refine WL.skip _ rfl rfl rfl ?_
          first | refine WL.move rfl rfl rfl ?_ | refine WL.skip _ rfl rfl rfl ?_
          first | refine WL.len rfl rfl rfl (o2.hi.len _ _) ?_ | refine WL.skip _ rfl rfl rfl ?_
          refine WL.bin rfl rfl rfl rfl (int_eq_d _ _ _ _ _) ?_
          rw [show decide (((nI L2).length : Int) = 0) = decide (L2.length = 0) by rw [nI_len, decide_eq_decide]; omega]
          refine WL.bin rfl rfl rfl rfl (bool_ne _ _ _ _ _) ?_
          rw [show (decide (L2.length = 0) != decide (L2.length = 0)) = false by simp]
          first | refine WL.pick rfl rfl rfl rfl ?_
          first | refine WL.move rfl rfl rfl ?_
          first | refine WL.move rfl rfl rfl ?_ | refine WL.skip _ rfl rfl rfl ?_
          first | refine WL.bin rfl rfl rfl rfl (int_ne_f rfl _ _ _) ?_ | refine WL.bin rfl rfl rfl rfl (int_ne_t ‹_› _ _ _) ?_ | refine WL.bin rfl rfl rfl rfl (int_ne_f ‹_› _ _ _) ?_ | refine WL.bin rfl rfl rfl rfl (int_ne_t (by decide) _ _ _) ?_ | refine WL.bin rfl rfl rfl rfl (int_ne_d _ _ _ _ _) ?_ | refine WL.skip _ rfl rfl rfl ?_
          first | refine WL.pick rfl rfl rfl rfl ?_
          first | refine WL.move rfl rfl rfl ?_
          first | refine WL.move rfl rfl rfl ?_ | refine WL.skip _ rfl rfl rfl ?_
          first | refine WL.bin rfl rfl rfl rfl (int_ne_f rfl _ _ _) ?_ | refine WL.bin rfl rfl rfl rfl (int_ne_t ‹_› _ _ _) ?_ | refine WL.bin rfl rfl rfl rfl (int_ne_f ‹_› _ _ _) ?_ | refine WL.bin rfl rfl rfl rfl (int_ne_t (by decide) _ _ _) ?_ | refine WL.bin rfl rfl rfl rfl (int_ne_d _ _ _ _ _) ?_ | refine WL.skip _ rfl rfl rfl ?_
          first | refine WL.pick rfl rfl rfl rfl ?_
          first | refine WL.move rfl rfl rfl ?_
          first | refine WL.move rfl rfl rfl ?_ | refine WL.skip _ rfl rfl rfl ?_
          first | refine WL.len rfl rfl rfl (om.hi.len _ _) ?_ | refine WL.skip _ rfl rfl rfl ?_
          first | refine WL.move rfl rfl rfl ?_ | refine WL.skip _ rfl rfl rfl ?_
          first | refine WL.len rfl rfl rfl (o2.hi.len _ _) ?_ | refine WL.skip _ rfl rfl rfl ?_
          refine WL.bin rfl rfl rfl rfl (int_ne_f (by rw [lm, nI_len]) _ _ _) ?_
          first | refine WL.pick rfl rfl rfl rfl ?_
          refine WL.done ?_
          refine EW.on ?_
          refine EW.cond_f rfl ?_
          refine EW.skip ?_
          refine EW.on ?_
          refine EW.seq ?_
          refine EW.region ?_
          first | refine WL.move rfl rfl rfl ?_
          refine WL.len rfl rfl rfl (o2.hi.len _ _) ?_
          refine WL.bin rfl rfl rfl rfl (int_gt_d _ _ _ _ _) ?_
          refine WL.done ?_
          refine EW.on ?_
          refine EW.cond_d rfl (fun h235 => ?_) (fun h235 => ?_)
          · have hL2n : ¬ L2.length = 0 := by
              have h0 := h235
              rw [nI_len] at h0
              have h1 : (0 : Int) < (L2.length : Int) := h0
              omega
            refine EW.seq ?_
            refine EW.region ?_
            first | refine WL.move rfl rfl rfl ?_
            first | refine WL.move rfl rfl rfl ?_
            refine WL.call [.pointer (some ⟨p, 0, none⟩), sv bob, u32v id] enter12 rfl rfl rfl (take_any' p r 1 E3 c4 bob id W5 R5.tr) ?_
            rintro _ W6 ⟨v6, rfl, tr6, o6, fx6⟩
            refine ⟨_, rfl, ?_⟩
            have k6 : tkE E3 bob id = 261 := by
              unfold tkE; rw [if_pos d1, d2.all hc64, lf_all lt2, if_neg]
              simpa using hL2n
            have nz6 : ¬ tkE E3 bob id = 0 := by rw [k6]; decide
            unfold tkL at tr6
            rw [if_neg nz6] at tr6
            rw [k6]
            have m5 := R5.tr.mp.hp
            have R6 : CR w id ov tv os w1.heap.size g p r vs T ⟨y.i + 1, v2, L2, E3, c4⟩ W6 := ⟨tr6, R5.lc, nd2, lt2, R5.oi.fxM m5 fx6, R5.sp.fxM m5 fx6, R5.tx.fxM m5 fx6, Li.fxM R5.hi m5 fx6, R5.ks.fxM m5 fx6, R5.il, ek3, fxBe R5.be fx6 hrw⟩
            first | refine WL.move rfl rfl rfl ?_
            first | refine WL.extract rfl rfl rfl (ext_2 _ _ _).1 ?_
            first | refine WL.extract rfl rfl rfl (ext_2 _ _ _).2 ?_
            first | refine WL.assign rfl rfl rfl ?_
            first | refine WL.assign rfl rfl rfl ?_
            refine WL.done ?_
            refine EW.on ?_
            refine EW.seq ?_
            refine EW.region ?_
            first | refine WL.move rfl rfl rfl ?_
            first | refine WL.bin rfl rfl rfl rfl (int_ne_f rfl _ _ _) ?_ | refine WL.bin rfl rfl rfl rfl (int_ne_t ‹_› _ _ _) ?_ | refine WL.bin rfl rfl rfl rfl (int_ne_f ‹_› _ _ _) ?_ | refine WL.bin rfl rfl rfl rfl (int_ne_t (by decide) _ _ _) ?_ | refine WL.bin rfl rfl rfl rfl (int_ne_d _ _ _ _ _) ?_
            refine WL.done ?_
            refine EW.on ?_
            refine EW.cond_f rfl ?_
            refine EW.skip ?_
            refine pn_block ?_
            refine EW.on ?_
            refine EW.region ?_
            first | refine WL.move rfl rfl rfl ?_
            first | refine WL.bin rfl rfl rfl rfl (int_add ‹_› _ _ _) ?_
            first | refine WL.assign rfl rfl rfl ?_
            refine WL.done ?_
            exact EW.again ⟨y.i + 1, v2, L2, E3, c4⟩ [2, 3, 9, 10, 12, 15, 17] rfl R6 (by show L2.length < y.L.length; omega)
          · skip
            refine EW.skip ?_
            refine pn_block ?_
            refine EW.on ?_
            refine EW.region ?_
            first | refine WL.move rfl rfl rfl ?_
            first | refine WL.bin rfl rfl rfl rfl (int_add ‹_› _ _ _) ?_
            first | refine WL.assign rfl rfl rfl ?_
            refine WL.done ?_
            exact EW.again ⟨y.i + 1, v2, L2, E3, c4⟩ [2, 3, 9, 10, 12, 15, 17] rfl R5 (by show L2.length < y.L.length; omega)
      · have hL0 : y.L = [] := List.length_eq_zero_iff.1 (by omega)
        have hal : ∀ i, i < cnt T → lfF (cnt T) y.L i = true := fun i hi => by rw [hL0]; simp [lfF, hi]
        obtain ⟨d1, d2⟩ := hR.lc.fd bob_nm (hal 0 (by omega))
        have k7 : tkE y.E bob id = 0 := by unfold tkE; rw [if_pos d1, d2.all hc64, decide_eq_true hal]; rfl
        refine EW.exit ?_
        refine px_then ?_
        refine px_then ?_
        refine px_block ?_
        refine EW.on ?_
        refine EW.seq ?_
        refine EW.region ?_
        first | refine WL.move rfl rfl rfl ?_
        first | refine WL.move rfl rfl rfl ?_
        refine WL.call [.pointer (some ⟨p, 0, none⟩), sv bob, u32v id] enter12 rfl rfl rfl (take_any' p r 1 y.E y.c bob id W hR.tr) ?_
        rintro _ W7 ⟨v7, rfl, tr7, o7, fx7⟩
        refine ⟨_, rfl, ?_⟩
        unfold tkL at tr7
        unfold tkT at o7
        rw [if_pos k7] at tr7 o7
        rw [k7]
        rw [d2.txt hc64 hal] at o7
        have tx7 := hR.tx.fxM hR.tr.mp.hp fx7
        have e0 : delE y.E bob id = [] := by
          unfold delE
          rw [List.filter_eq_nil_iff]
          intro m hm
          have := hR.ek m hm
          simp [this.1, this.2]
        rw [e0] at tr7
        have be7 := fxBe hR.be fx7 hrw
        have k8 : tkE [] bob id = 201 := rfl
        first | refine WL.move rfl rfl rfl ?_
        first | refine WL.extract rfl rfl rfl (ext_2 _ _ _).1 ?_
        first | refine WL.extract rfl rfl rfl (ext_2 _ _ _).2 ?_
        first | refine WL.assign rfl rfl rfl ?_
        first | refine WL.assign rfl rfl rfl ?_
        refine WL.done ?_
        refine EW.on ?_
        refine EW.seq ?_
        refine EW.region ?_
        first | refine WL.move rfl rfl rfl ?_
        first | refine WL.move rfl rfl rfl ?_
        refine WL.call [.pointer (some ⟨p, 0, none⟩), sv bob, u32v id] enter12 rfl rfl rfl (take_any' p r 1 [] y.c bob id W7 tr7) ?_
        rintro _ W8 ⟨v8, rfl, tr8, o8, fx8⟩
        refine ⟨_, rfl, ?_⟩
        unfold tkL at tr8
        rw [k8, if_neg (by decide)] at tr8
        rw [k8]
        have m7 := tr7.mp.hp
        have be8 := fxBe be7 fx8 hrw
        have tx8 := tx7.fxM m7 fx8
        have o9 := o7.fx fx8 (fun k hk e => by have e' : k = r := hk; rw [e'] at e; exact o7.neM m7 e)
        first | refine WL.move rfl rfl rfl ?_
        first | refine WL.extract rfl rfl rfl (ext_2 _ _ _).1 ?_
        first | refine WL.extract rfl rfl rfl (ext_2 _ _ _).2 ?_
        first | refine WL.assign rfl rfl rfl ?_
        first | refine WL.assign rfl rfl rfl ?_
        refine WL.done ?_
        refine EW.on ?_
        refine EW.seq ?_
        refine EW.region ?_
        first | refine WL.move rfl rfl rfl ?_
        first | refine WL.bin rfl rfl rfl rfl (int_eq_t rfl _ _ _) ?_ | refine WL.bin rfl rfl rfl rfl (int_eq_t ‹_› _ _ _) ?_ | refine WL.bin rfl rfl rfl rfl (int_eq_f ‹_› _ _ _) ?_ | refine WL.bin rfl rfl rfl rfl (int_eq_d _ _ _ _ _) ?_
        first | refine WL.move rfl rfl rfl ?_
        first | refine WL.move rfl rfl rfl ?_ | refine WL.skip _ rfl rfl rfl ?_
        refine WL.conv rfl rfl rfl (o9.has.convert) ?_
        first | refine WL.move rfl rfl rfl ?_ | refine WL.skip _ rfl rfl rfl ?_
        refine WL.conv rfl rfl rfl (tx8.convert) ?_
        refine WL.bin rfl rfl rfl rfl (str_eq_s _ _ _ _ _) ?_
        rw [show decide (T = T) = true by simp]
        first | refine WL.pick rfl rfl rfl rfl ?_
        first | refine WL.move rfl rfl rfl ?_
        first | refine WL.move rfl rfl rfl ?_ | refine WL.skip _ rfl rfl rfl ?_
        first | refine WL.bin rfl rfl rfl rfl (int_eq_t rfl _ _ _) ?_ | refine WL.bin rfl rfl rfl rfl (int_eq_t ‹_› _ _ _) ?_ | refine WL.bin rfl rfl rfl rfl (int_eq_f ‹_› _ _ _) ?_ | refine WL.bin rfl rfl rfl rfl (int_eq_d _ _ _ _ _) ?_ | refine WL.skip _ rfl rfl rfl ?_
        first | refine WL.pick rfl rfl rfl rfl ?_
        first | refine WL.move rfl rfl rfl ?_
        first | refine WL.move rfl rfl rfl ?_ | refine WL.skip _ rfl rfl rfl ?_
        refine WL.call [.pointer (some ⟨p, 0, none⟩)] enter13 rfl rfl rfl (tlen_any p r 1 [] y.c W8 tr8) ?_
        rintro _ W9 ⟨rfl, hw9⟩
        refine ⟨_, rfl, ?_⟩
        first | refine WL.bin rfl rfl rfl rfl (int_eq_t rfl _ _ _) ?_ | refine WL.bin rfl rfl rfl rfl (int_eq_t ‹_› _ _ _) ?_ | refine WL.bin rfl rfl rfl rfl (int_eq_f ‹_› _ _ _) ?_ | refine WL.bin rfl rfl rfl rfl (int_eq_d _ _ _ _ _) ?_ | refine WL.skip _ rfl rfl rfl ?_
        first | refine WL.pick rfl rfl rfl rfl ?_
        first | refine WL.assign rfl rfl rfl ?_
        refine WL.done ?_
        refine EW.on ?_
        refine EW.ret ?_
        exact EW.returns Tryd.results3 rfl ⟨rfl, hw9 ▸ be8⟩
end Go.Proofs.YtiefgmgjlhjjhaaDoor
