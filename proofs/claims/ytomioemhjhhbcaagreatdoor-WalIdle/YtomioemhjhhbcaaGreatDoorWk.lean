import Derived.Test.YtomioemhjhhbcaaGreatDoorWjG
set_option linter.unusedVariables false
set_option linter.unusedSimpArgs false
namespace Go.Proofs.YtomioemhjhhbcaaGreatDoor
open Go.RowKit

set_option maxRecDepth 100000 in
set_option maxHeartbeats 1000000 in
theorem dreadO_ok {w : World} {L : Lay} {D : Dv} (n : Nat) (h : Dev w L D) (hd : D.down = false) (i : Nat) (hi : i < D.n) : Calls Tryz.prog 39 #[dkV L.p n, .int .i64 (i : Int)] w fun e w' => ∃ u, e = .returned u ∧ Ob w' w.heap.size u (readB D i) ∧ Below w.heap.size w w' := by
  refine calls_of_args [dkV L.p n, .int .i64 (i : Int)] Tryz.func39 rfl 17 Tryz.ntmps39 (by show 2 ≤ 17; decide) ?_
  refine EW.seq ?_
  refine EW.region ?_
  obtain ⟨w1, q, r1, b1, e1, hq⟩ := box55 L.p n w
  have h1 := h.below e1
  refine WL.box rfl rfl rfl r1 ?_
  first | refine WL.assign rfl rfl rfl ?_
  refine WL.done ?_
  refine EW.on ?_
  refine EW.seq ?_
  refine EW.region ?_
  refine WL.field rfl rfl rfl (fld55_0 q _) ?_
  refine WL.load rfl rfl rfl (ldP41 b1) ?_
  first | refine WL.move rfl rfl rfl ?_
  refine WL.call [.pointer (some ⟨L.p, 0, none⟩), .int .i64 (i : Int)] enter70 rfl rfl rfl (read_ok h1 hd i hi) ?_
  rintro _ w2 ⟨rfl, hz⟩
  have e2 : Below w1.heap.size w1 w2 := by rw [hz]; exact below_new _ _
  have hh : Ob w2 w1.heap.size (.slice (some ⟨w1.heap.size, 0, none⟩) 512 512) (readB D i) := by rw [hz]; have := Ob.blk (bs := readB D i) (Blk.new w1 _ 5) (by rw [readB_length D h.ok i hi]; decide); rw [readB_length D h.ok i hi] at this; exact this
  refine ⟨_, rfl, ?_⟩
  first | refine WL.move rfl rfl rfl ?_
  first | refine WL.extract rfl rfl rfl (ext_2 _ _ _).1 ?_
  first | refine WL.extract rfl rfl rfl (ext_2 _ _ _).2 ?_
  first | refine WL.assign rfl rfl rfl ?_
  first | refine WL.assign rfl rfl rfl ?_
  refine WL.done ?_
  refine EW.on ?_
  refine EW.seq ?_
  refine EW.region ?_
  first | refine WL.move rfl rfl rfl ?_
  refine WL.call [.int .i64 0] enter71 rfl rfl rfl (must_ok _) ?_
  rintro _ w3 ⟨rfl, hz3⟩
  rw [hz3]
  refine ⟨_, rfl, ?_⟩
  refine WL.done ?_
  refine EW.on ?_
  refine EW.seq ?_
  refine EW.region ?_
  first | refine WL.move rfl rfl rfl ?_
  first | refine WL.assign rfl rfl rfl ?_
  refine WL.done ?_
  refine EW.on ?_
  refine EW.ret ?_
  exact EW.returns Tryz.results39 rfl ⟨_, rfl, hh.mono e1.size, e1.trans (e2.mono e1.size)⟩
theorem kreadO_ok {w : World} {L : Lay} {N : Nat} {s : Nat → List UInt8} {m c : Nat} (n : Nat) (h : Dk w L N s m c) (i : Nat) (hi : i < N) : Calls Tryz.prog 39 #[dkV L.p n, .int .i64 (i : Int)] w fun e w' => ∃ u, e = .returned u ∧ Ob w' w.heap.size u (s i) ∧ Below w.heap.size w w' := by
  obtain ⟨D, h1, h2, h3, h4, h5, _⟩ := h.ex
  rw [← h5 i hi]
  exact dreadO_ok n h1 h2 i (by omega)
set_option maxRecDepth 100000 in
set_option maxHeartbeats 1000000 in
theorem readPage_ok {w : World} {L : Lay} {N : Nat} {s : Nat → List UInt8} {m c : Nat} (n : Nat) (h : Dk w L N s m c) (i : Nat) (hi : i + 1 < N) (hN : N ≤ 1000000) : Calls Tryz.prog 48 #[dkV L.p n, .int .i64 (i : Int)] w fun e w' => ∃ u, e = .returned u ∧ Ob w' w.heap.size u (s i ++ s (i + 1)) ∧ Below w.heap.size w w' := by
  have a10 : IntKind.i64.wrap ((i : Int) + 1) = ((i + 1 : Nat) : Int) := by rw [IntKind.wrap_i64]; omega
  refine calls_of_args [dkV L.p n, .int .i64 (i : Int)] Tryz.func48 rfl 13 Tryz.ntmps48 (by show 2 ≤ 13; decide) ?_
  refine EW.seq ?_
  refine EW.region ?_
  obtain ⟨w1, q, r1, b1, e1, hq⟩ := box55 L.p n w
  have h1 := h.below e1
  refine WL.box rfl rfl rfl r1 ?_
  first | refine WL.assign rfl rfl rfl ?_
  refine WL.done ?_
  refine EW.on ?_
  refine EW.seq ?_
  refine EW.ordB [(0, 0, 1), (1, 0, 0), (3, 0, 1), (4, 0, 0), (5, 0, 0), (2, 1, 1), (6, 1, 1), (7, 1, 1), (8, 0, 0)] (by kernel_rfl) rfl (by kernel_rfl) ?_
  simp only [opsZ, List.getD_cons_zero, List.getD_cons_succ]
  refine ZE.load rfl rfl rfl rfl sz1 (fun W hW => ld55 (b1.on (sb_of hW))) ?_
  first | refine ZE.move rfl rfl rfl rfl sz0 ?_
  refine ZE.load rfl rfl rfl rfl sz1 (fun W hW => ld55 (b1.on (sb_of hW))) ?_
  first | refine ZE.move rfl rfl rfl rfl sz0 ?_
  refine ZE.bin rfl rfl rfl rfl rfl sz0 (fun W => int_add a10 W _ _) ?_
  refine ZE.callR [dkV L.p n, .int .i64 (i : Int)] (fun v W => Ob W w1.heap.size v (s i) ∧ Below w1.heap.size w1 W) enter39 rfl rfl rfl (fun _ _ h => .inr h.2) (fun W hW => (kreadO_ok n (h1.below hW) i (by omega)).mono fun e w' ⟨u, g1, g2, g3⟩ => ⟨u, g1, g2.mono hW.size, hW.trans (g3.mono hW.size)⟩) ?_
  rintro va ⟨_, _, _⟩
  refine ZE.callR [dkV L.p n, .int .i64 ((i + 1 : Nat) : Int)] (fun v W => (Has W v (s (i + 1)) ∧ Ob W w1.heap.size va (s i)) ∧ Below w1.heap.size w1 W) enter39 rfl rfl rfl (fun _ _ h => .inr h.2) (fun W hW => (kreadO_ok n (h1.below hW.2) (i + 1) hi).mono fun e w' ⟨u, g1, g2, g3⟩ => ⟨u, g1, ⟨g2.has, hW.1.below g3⟩, hW.2.trans (g3.mono hW.2.size)⟩) ?_
  rintro vb ⟨_, _, _⟩
  refine ZE.app (fun v W => Ob W w1.heap.size v (s i ++ s (i + 1)) ∧ Below w1.heap.size w1 W) rfl rfl rfl rfl (fun _ _ h => .inr h.2) (fun W hW => by
      obtain ⟨v', w', r1, r2, r3, r4⟩ := hW.1.2.push37 hW.2.size vb (s (i + 1)) hW.1.1 (by rw [h.len i (by omega), h.len (i + 1) hi]; decide) 50
      exact ⟨v', w', r1, r2, hW.2.trans (r3.below (fun k hk e => by have := hW.1.2.base k e; omega) hW.2.size)⟩) ?_
  rintro vr ⟨_, _, _⟩
  first | refine ZE.assign rfl rfl rfl rfl sz0 ?_
  rintro w2 ⟨o2, e2⟩
  refine EW.on ?_
  refine EW.ret ?_
  exact EW.returns Tryz.results48 rfl ⟨_, rfl, o2.mono e1.size, e1.trans (e2.mono e1.size)⟩
/-- Numbers of their own, that may grow. -/
structure Oi (w : World) (b : Nat) (v : Value) (xs : List Nat) : Prop where
  row : w.ownsRow 0 3 1 v xs.length (xs.map fun (x : Nat) => Value.int .i64 (x : Int))
  base : ∀ k, v.ownBlock = some k → b ≤ k
theorem Oi.nil (w : World) (b : Nat) : Oi w b (.slice none 0 0) [] := ⟨⟨rfl, .inl ⟨rfl, rfl⟩⟩, fun _ h => by cases h⟩
theorem Oi.fx {S : Nat → Prop} {w w' : World} {b : Nat} {v : Value} {xs : List Nat} (h : Oi w b v xs) (hf : Fx S w w') (ho : ∀ k, v.ownBlock = some k → ¬ S k) : Oi w' b v xs := ⟨ownsRow_fx h.row hf ho, h.base⟩
theorem Oi.below {w w' : World} {b : Nat} {v : Value} {xs : List Nat} (h : Oi w b v xs) (hb : Below w.heap.size w w') : Oi w' b v xs := h.fx (Fx.of_below (S := fun _ => False) hb) (fun _ _ s => s)
theorem info3f : (Tryz.prog.info? 3).map (fun i => (i.zero, i.size, i.bytes)) = some (some (.int .i64 0), 1, 8) := by kernel_rfl
theorem bsl85 (x : Nat) (w : World) : (Instr.buildSlice 79 1 [(0, .int .i64 (x : Int))].toArray).run Tryz.prog w = .ok (.slice (some ⟨w.heap.size, 0, none⟩) 1 1) (w.alloc (.cells [Value.int .i64 (x : Int)].toArray 3)) := by
  go_simp
  try rfl
theorem Oi.push {w : World} {b : Nat} {v : Value} {xs : List Nat} (h : Oi w b v xs) (hbw : b ≤ w.heap.size) (hl : xs.length ≤ 500000000) (x q c : Nat) (hq : Blk w q [.int .i64 (x : Int)] 3) (ty : TypeId) : ∃ v' w', (Builtin.append_ #[79, 79] ty #[v, .slice (some ⟨q, 0, none⟩) 1 c]).run Tryz.prog w = .ok v' w' ∧ Oi w' b v' (xs ++ [x]) ∧ Fx (fun k => v.ownBlock = some k) w w' := by
  obtain ⟨i, hi, hz⟩ := Option.map_eq_some_iff.1 info3f
  simp only [Prod.mk.injEq] at hz
  obtain ⟨v', w', r1, r2, r3, r4⟩ := run_appx w 79 ty 3 i _ 1 8 Tryz.underlying79 hi hz.1 hz.2.1 hz.2.2 rfl (by decide) v xs.length _ h.row ⟨q, 0, none⟩ 1 c [.int .i64 (x : Int)] rfl (fun j u hj => by rw [add_plain0, hq.cell]; exact hj) (fun u hu => by rw [List.mem_singleton.1 hu]; rfl) (by omega) (by decide)
  refine ⟨v', w', r1, ⟨by simpa using r2, fun k hk => ?_⟩, grown_fx r3⟩
  rcases r4 k hk with e | e
  · exact h.base k e
  · omega
theorem idx85 (ad : Addr) (n cap m : Nat) (h : m < n) (W : World) : (Instr.indexAt 79 (.slice (some ad) n cap) (.int .i64 (m : Int))).run Tryz.prog W = .ok (.pointer (some (ad.add m))) W := by
  have hm : (m : Int) < (n : Int) := by omega
  go_simp
theorem Oi.item {w : World} {b : Nat} {v : Value} {xs : List Nat} (h : Oi w b v xs) {i x : Nat} (hi : xs[i]? = some x) : ∃ ad, (∀ W, (Instr.indexAt 79 v (.int .i64 (i : Int))).run Tryz.prog W = .ok (.pointer (some ad)) W) ∧ (Instr.loadAt 3 (.pointer (some ad))).run Tryz.prog w = .ok (.int .i64 (x : Int)) w := by
  have hlt := (List.getElem?_eq_some_iff.1 hi).1
  obtain ⟨hx, ⟨rfl, h0⟩ | ⟨g, cp, cur, rfl, hg, hh2, hnc, hc, hs, htk⟩⟩ := h.row
  · simp only [h0] at hlt; omega
  · refine ⟨_, fun W => idx85 ⟨g, 0, none⟩ _ cp i hlt W, ?_⟩
    have hbl : Blk w g cur.toList 3 := by unfold Blk; simpa using hh2
    have hc : w.cell? ⟨g, i, none⟩ = some (.int .i64 (x : Int)) := by
      rw [hbl.cell i]
      have e1 : (List.take (xs.length * 1) cur.toList)[i]? = cur.toList[i]? := by rw [List.getElem?_take_of_lt (by omega)]
      rw [← e1, htk, List.getElem?_map, hi]
      rfl
    have hf := hbl.frozen i
    rw [add_plain0]
    go_simp
theorem Oi.len {w : World} {b : Nat} {v : Value} {xs : List Nat} (h : Oi w b v xs) (ty : TypeId) (W : World) : (Builtin.len_ #[79] ty #[v]).run Tryz.prog W = .ok (.int .i64 (xs.length : Int)) W := by
  obtain ⟨hx, ⟨rfl, h0⟩ | ⟨g, cp, cur, rfl, _⟩⟩ := h.row
  · rw [h0]; go_simp
  · go_simp
def bitB (bs : List UInt8) (n : Nat) : Bool := decide (bAt bs (n / 8) / 2 ^ (n % 8) % 2 = 1)
/-- The pages that a marker has a bit for. -/
def numsT (bs : List UInt8) (t : Nat) : List Nat := (List.range t).filter (bitB bs)
theorem numsT_len (bs : List UInt8) (t : Nat) : (numsT bs t).length ≤ t := by
  unfold numsT
  refine Nat.le_trans (List.length_filter_le _ _) ?_
  simp
theorem numsT_t {bs : List UInt8} {t : Nat} (h : bAt bs (t / 8) / 2 ^ (t % 8) % 2 = 1) : numsT bs (t + 1) = numsT bs t ++ [t] := by
  unfold numsT
  rw [List.range_succ, List.filter_append, List.filter_cons, if_pos (by unfold bitB; exact decide_eq_true h), List.filter_nil]
theorem numsT_f {bs : List UInt8} {t : Nat} (h : ¬ bAt bs (t / 8) / 2 ^ (t % 8) % 2 = 1) : numsT bs (t + 1) = numsT bs t := by
  unfold numsT
  rw [List.range_succ, List.filter_append, List.filter_cons, if_neg (by unfold bitB; simpa using h), List.filter_nil, List.append_nil]
def nmE (m : Value) (x : Nat × Value) : List (Nat × Value) := [(0, m), (3, x.2), (5, .int .i64 (x.1 : Int))]
def NmR (w : World) (bs : List UInt8) (x : Nat × Value) (W : World) : Prop := Oi W w.heap.size x.2 (numsT bs x.1) ∧ Below w.heap.size w W ∧ x.1 ≤ 256
set_option maxRecDepth 100000 in
set_option maxHeartbeats 1000000 in
theorem numbers_any (m : Value) (bs : List UInt8) (w : World) (hb : Has w m bs) (hl : bs.length = 512) : Calls Tryz.prog 72 #[m] w fun e w' => ∃ u, e = .returned u ∧ Oi w' w.heap.size u (numsT bs 256) ∧ Below w.heap.size w w' := by
  refine calls_of_args [m] Tryz.func72 rfl 24 Tryz.ntmps72 (by show 1 ≤ 24; decide) ?_
  refine EW.seq ?_
  refine EW.region ?_
  first | refine WL.assign rfl rfl rfl ?_
  refine WL.done ?_
  refine EW.on ?_
  refine EW.seq ?_
  refine EW.region ?_
  first | refine WL.assign rfl rfl rfl ?_
  refine WL.done ?_
  refine EW.on ?_
  refine EW.seq ?_
  refine EW.seq ?_
  refine EW.region ?_
  first | refine WL.move rfl rfl rfl ?_
  refine WL.done ?_
  refine EW.on ?_
  refine EW.block ?_
  refine EW.loop (nmE m) (NmR w bs) (fun x => 256 - x.1) (0, .slice none 0 0) [0, 3, 5] rfl ⟨Oi.nil _ _, Below.refl _ _, Nat.zero_le _⟩ ?_
  rintro ⟨t, v⟩ wi ⟨oi, ei, htl⟩
  show EW _ _ _ _ [(0, m), (3, v), (5, .int .i64 (t : Int))] _
  refine EW.seq ?_
  refine EW.region ?_
  first | refine WL.bin rfl rfl rfl rfl (int_lt_t ‹_› _ _ _) ?_ | refine WL.bin rfl rfl rfl rfl (int_lt_f ‹_› _ _ _) ?_ | refine WL.bin rfl rfl rfl rfl (int_lt_d _ _ _ _ _) ?_
  refine WL.done ?_
  refine EW.on ?_
  refine EW.seq ?_
  refine EW.cond_d rfl (fun h6 => ?_) (fun h6 => ?_)
  · refine EW.skip ?_
    refine EW.on ?_
    refine EW.seq ?_
    refine EW.block ?_
    refine EW.seq ?_
    simp only at oi ei htl
    have ht : t < 256 := by omega
    have tn : IntKind.i64.wrap ((t : Int) + 1) = ((t + 1 : Nat) : Int) := by rw [IntKind.wrap_i64]; omega
    obtain ⟨ad, ix, lx⟩ := (hb.below ei).at57 (i := t / 8) (by omega)
    refine EW.region ?_
    first | refine WL.move rfl rfl rfl ?_
    first | refine WL.assign rfl rfl rfl ?_
    refine WL.done ?_
    refine EW.on ?_
    refine EW.seq ?_
    refine EW.region ?_
    first | refine WL.move rfl rfl rfl ?_
    first | refine WL.move rfl rfl rfl ?_
    refine WL.bin rfl rfl rfl rfl (quo8 t (by omega) _ _ _) ?_
    refine WL.index rfl rfl rfl rfl (ix _) ?_
    refine WL.load rfl rfl rfl lx ?_
    first | refine WL.move rfl rfl rfl ?_
    refine WL.bin rfl rfl rfl rfl (rem8 t (by omega) _ _ _) ?_
    refine WL.bin rfl rfl rfl rfl (shr5 (bAt bs (t / 8)) (t % 8) (Nat.mod_lt _ (by decide)) _ _ _) ?_
    refine WL.bin rfl rfl rfl rfl (and1 (bAt bs (t / 8) / 2 ^ (t % 8)) (Nat.lt_of_le_of_lt (Nat.div_le_self _ _) (bAt_lt _ _)) _ _ _) ?_
    refine WL.bin rfl rfl rfl rfl (eq5 (bAt bs (t / 8) / 2 ^ (t % 8) % 2) 1 _ _ _) ?_
    refine WL.done ?_
    refine EW.on ?_
    refine EW.cond_d rfl (fun h17 => ?_) (fun h17 => ?_)
    · refine EW.region ?_
      first | refine WL.move rfl rfl rfl ?_
      first | refine WL.move rfl rfl rfl ?_
      refine WL.bslN [(0, .int .i64 (t : Int))] rfl rfl rfl (bsl85 t _) ?_
      have bn := below_new wi (.cells [Value.int .i64 (t : Int)].toArray 3)
      obtain ⟨v', w', r1, r2, r3⟩ := (oi.below bn).push (Nat.le_trans ei.size bn.size) (Nat.le_trans (numsT_len bs t) (by omega)) t _ 1 (Blk.new wi _ 3) 79
      refine WL.appR rfl rfl rfl rfl r1 ?_
      first | refine WL.assign rfl rfl rfl ?_
      refine WL.done ?_
      refine pn_block ?_
      refine EW.on ?_
      refine EW.region ?_
      first | refine WL.bin rfl rfl rfl rfl (int_add ‹_› _ _ _) ?_
      first | refine WL.move rfl rfl rfl ?_
      refine WL.done ?_
      refine EW.again (E := nmE m) (R := NmR w bs) (m := fun x => 256 - x.1) (x := (t, v)) (t + 1, v') [0, 3, 5] rfl ⟨by rw [numsT_t h17]; exact r2, (ei.trans (bn.mono ei.size)).trans (r3.below (fun k hk e => by have := oi.base k e; omega) (Nat.le_trans ei.size bn.size)), by show t + 1 ≤ 256; omega⟩ (by show 256 - (t + 1) < 256 - t; omega)
    · refine EW.skip ?_
      refine pn_block ?_
      refine EW.on ?_
      refine EW.region ?_
      first | refine WL.bin rfl rfl rfl rfl (int_add ‹_› _ _ _) ?_
      first | refine WL.move rfl rfl rfl ?_
      refine WL.done ?_
      refine EW.again (E := nmE m) (R := NmR w bs) (m := fun x => 256 - x.1) (x := (t, v)) (t + 1, v) [0, 3, 5] rfl ⟨by rw [numsT_f h17]; exact oi, ei, by show t + 1 ≤ 256; omega⟩ (by show 256 - (t + 1) < 256 - t; omega)
  · refine EW.exit ?_
    refine px_then ?_
    refine px_then ?_
    refine px_block ?_
    refine EW.on ?_
    refine EW.seq ?_
    refine EW.region ?_
    first | refine WL.move rfl rfl rfl ?_
    first | refine WL.assign rfl rfl rfl ?_
    refine WL.done ?_
    refine EW.on ?_
    refine EW.ret ?_
    exact EW.returns Tryz.results72 rfl ⟨v, rfl, (by rw [show t = 256 by simp only at htl; omega] at oi; exact oi), ei⟩
end Go.Proofs.YtomioemhjhhbcaaGreatDoor
