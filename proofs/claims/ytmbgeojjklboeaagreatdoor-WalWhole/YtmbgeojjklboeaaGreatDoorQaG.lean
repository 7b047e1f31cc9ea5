import Derived.Test.YtmbgeojjklboeaaGreatDoorWjG
import Derived.Test.YtmbgeojjklboeaaGreatDoorApxG
set_option linter.unusedVariables false
set_option linter.unusedSimpArgs false
namespace Go.Proofs.YtmbgeojjklboeaaGreatDoor
open Go.RowKit

set_option maxRecDepth 100000 in
set_option maxHeartbeats 1000000 in
theorem dreadO_ok {w : World} {L : Lay} {D : Dv} (n : Nat) (h : Dev w L D) (hd : D.down = false) (i : Nat) (hi : i < D.n) : Calls Tryz.prog 33 #[dkV L.p n, .int .i64 (i : Int)] w fun e w' => ∃ u, e = .returned u ∧ Ob w' w.heap.size u (readB D i) ∧ Below w.heap.size w w' := by
  refine calls_of_args [dkV L.p n, .int .i64 (i : Int)] Tryz.func33 rfl 17 Tryz.ntmps33 (by show 2 ≤ 17; decide) ?_; refine EW.seq ?_; refine EW.region ?_
  obtain ⟨w1, q, r1, b1, e1, hq⟩ := box55 L.p n w
  have h1 := h.below e1
  refine WL.box rfl rfl rfl r1 ?_; refine WL.assign rfl rfl rfl ?_; refine WL.done ?_; refine EW.on ?_; refine EW.seq ?_; refine EW.region ?_; refine WL.field rfl rfl rfl (fld55_0 q _) ?_; refine WL.load rfl rfl rfl (ldP41 b1) ?_; refine WL.move rfl rfl rfl ?_; refine WL.call [.pointer (some ⟨L.p, 0, none⟩), .int .i64 (i : Int)] enter58 rfl rfl rfl (read_ok h1 hd i hi) ?_
  rintro _ w2 ⟨rfl, hz⟩
  have e2 : Below w1.heap.size w1 w2 := by rw [hz]; exact below_new _ _
  have hh : Ob w2 w1.heap.size (.slice (some ⟨w1.heap.size, 0, none⟩) 512 512) (readB D i) := by rw [hz]; have := Ob.blk (bs := readB D i) (Blk.new w1 _ 5) (by rw [readB_length D h.ok i hi]; decide); rw [readB_length D h.ok i hi] at this; exact this
  refine ⟨_, rfl, ?_⟩; refine WL.move rfl rfl rfl ?_; refine WL.extract rfl rfl rfl (ext_2 _ _ _).1 ?_; refine WL.extract rfl rfl rfl (ext_2 _ _ _).2 ?_; refine WL.assign rfl rfl rfl ?_; refine WL.assign rfl rfl rfl ?_; refine WL.done ?_; refine EW.on ?_; refine EW.seq ?_; refine EW.region ?_; refine WL.move rfl rfl rfl ?_; refine WL.call [.int .i64 0] enter59 rfl rfl rfl (must_ok _) ?_
  rintro _ w3 ⟨rfl, hz3⟩
  rw [hz3]
  refine ⟨_, rfl, ?_⟩; refine WL.done ?_; refine EW.on ?_; refine EW.seq ?_; refine EW.region ?_; refine WL.move rfl rfl rfl ?_; refine WL.assign rfl rfl rfl ?_; refine WL.done ?_; refine EW.on ?_; refine EW.ret ?_
  exact EW.returns Tryz.results33 rfl ⟨_, rfl, hh.mono e1.size, e1.trans (e2.mono e1.size)⟩
theorem kreadO_ok {w : World} {L : Lay} {N : Nat} {s : Nat → List UInt8} {m c : Nat} (n : Nat) (h : Dk w L N s m c) (i : Nat) (hi : i < N) : Calls Tryz.prog 33 #[dkV L.p n, .int .i64 (i : Int)] w fun e w' => ∃ u, e = .returned u ∧ Ob w' w.heap.size u (s i) ∧ Below w.heap.size w w' := by
  obtain ⟨D, h1, h2, h3, h4, h5, _⟩ := h.ex
  rw [← h5 i hi]
  exact dreadO_ok n h1 h2 i (by omega)
set_option maxRecDepth 100000 in
set_option maxHeartbeats 1000000 in
theorem readPage_ok {w : World} {L : Lay} {N : Nat} {s : Nat → List UInt8} {m c : Nat} (n : Nat) (h : Dk w L N s m c) (i : Nat) (hi : i + 1 < N) (hN : N ≤ 1000000) : Calls Tryz.prog 49 #[dkV L.p n, .int .i64 (i : Int)] w fun e w' => ∃ u, e = .returned u ∧ Ob w' w.heap.size u (s i ++ s (i + 1)) ∧ Below w.heap.size w w' := by
  have a10 : IntKind.i64.wrap ((i : Int) + 1) = ((i + 1 : Nat) : Int) := by rw [IntKind.wrap_i64]; omega
  refine calls_of_args [dkV L.p n, .int .i64 (i : Int)] Tryz.func49 rfl 13 Tryz.ntmps49 (by show 2 ≤ 13; decide) ?_; refine EW.seq ?_; refine EW.region ?_
  obtain ⟨w1, q, r1, b1, e1, hq⟩ := box55 L.p n w
  have h1 := h.below e1
  refine WL.box rfl rfl rfl r1 ?_; refine WL.assign rfl rfl rfl ?_; refine WL.done ?_; refine EW.on ?_; refine EW.seq ?_; refine EW.ordB [(0, 0, 1), (1, 0, 0), (3, 0, 1), (4, 0, 0), (5, 0, 0), (2, 1, 1), (6, 1, 1), (7, 1, 1), (8, 0, 0)] (by kernel_rfl) rfl (by kernel_rfl) ?_; simp only [opsZ, List.getD_cons_zero, List.getD_cons_succ]; refine ZE.load rfl rfl rfl rfl sz1 (fun W hW => ld55 (b1.on (sb_of hW))) ?_; refine ZE.move rfl rfl rfl rfl sz0 ?_; refine ZE.load rfl rfl rfl rfl sz1 (fun W hW => ld55 (b1.on (sb_of hW))) ?_; refine ZE.move rfl rfl rfl rfl sz0 ?_; refine ZE.bin rfl rfl rfl rfl rfl sz0 (fun W => int_add a10 W _ _) ?_; refine ZE.callR [dkV L.p n, .int .i64 (i : Int)] (fun v W => Ob W w1.heap.size v (s i) ∧ Below w1.heap.size w1 W) enter33 rfl rfl rfl (fun _ _ h => .inr h.2) (fun W hW => (kreadO_ok n (h1.below hW) i (by omega)).mono fun e w' ⟨u, g1, g2, g3⟩ => ⟨u, g1, g2.mono hW.size, hW.trans (g3.mono hW.size)⟩) ?_
  rintro va ⟨_, _, _⟩
  refine ZE.callR [dkV L.p n, .int .i64 ((i + 1 : Nat) : Int)] (fun v W => (Has W v (s (i + 1)) ∧ Ob W w1.heap.size va (s i)) ∧ Below w1.heap.size w1 W) enter33 rfl rfl rfl (fun _ _ h => .inr h.2) (fun W hW => (kreadO_ok n (h1.below hW.2) (i + 1) hi).mono fun e w' ⟨u, g1, g2, g3⟩ => ⟨u, g1, ⟨g2.has, hW.1.below g3⟩, hW.2.trans (g3.mono hW.2.size)⟩) ?_
  rintro vb ⟨_, _, _⟩
  refine ZE.app (fun v W => Ob W w1.heap.size v (s i ++ s (i + 1)) ∧ Below w1.heap.size w1 W) rfl rfl rfl rfl (fun _ _ h => .inr h.2) (fun W hW => by
      obtain ⟨v', w', r1, r2, r3, r4⟩ := hW.1.2.push37 hW.2.size vb (s (i + 1)) hW.1.1 (by rw [h.len i (by omega), h.len (i + 1) hi]; decide) 49
      exact ⟨v', w', r1, r2, hW.2.trans (r3.below (fun k hk e => by have := hW.1.2.base k e; omega) hW.2.size)⟩) ?_
  rintro vr ⟨_, _, _⟩
  refine ZE.assign rfl rfl rfl rfl sz0 ?_
  rintro w2 ⟨o2, e2⟩
  refine EW.on ?_; refine EW.ret ?_
  exact EW.returns Tryz.results49 rfl ⟨_, rfl, o2.mono e1.size, e1.trans (e2.mono e1.size)⟩
/-- Numbers of their own, that may grow. -/
structure Oi (w : World) (b : Nat) (v : Value) (xs : List Nat) : Prop where
  row : w.ownsRow 0 3 1 v xs.length (xs.map fun (x : Nat) => Value.int .i64 (x : Int))
  base : ∀ k, v.ownBlock = some k → b ≤ k
theorem Oi.nil (w : World) (b : Nat) : Oi w b (.slice none 0 0) [] := ⟨⟨rfl, .inl ⟨rfl, rfl⟩⟩, fun _ h => by cases h⟩
theorem Oi.fx {S : Nat → Prop} {w w' : World} {b : Nat} {v : Value} {xs : List Nat} (h : Oi w b v xs) (hf : Fx S w w') (ho : ∀ k, v.ownBlock = some k → ¬ S k) : Oi w' b v xs := ⟨ownsRow_fx h.row hf ho, h.base⟩
theorem Oi.below {w w' : World} {b : Nat} {v : Value} {xs : List Nat} (h : Oi w b v xs) (hb : Below w.heap.size w w') : Oi w' b v xs := h.fx (Fx.of_below (S := fun _ => False) hb) (fun _ _ s => s)
theorem info3f : (Tryz.prog.info? 3).map (fun i => (i.zero, i.size, i.bytes)) = some (some (.int .i64 0), 1, 8) := by kernel_rfl
theorem bsl85 (x : Nat) (w : World) : (Instr.buildSlice 100 1 [(0, .int .i64 (x : Int))].toArray).run Tryz.prog w = .ok (.slice (some ⟨w.heap.size, 0, none⟩) 1 1) (w.alloc (.cells [Value.int .i64 (x : Int)].toArray 3)) := by
  go_simp
  try rfl
theorem Oi.push {w : World} {b : Nat} {v : Value} {xs : List Nat} (h : Oi w b v xs) (hbw : b ≤ w.heap.size) (hl : xs.length ≤ 500000000) (x q c : Nat) (hq : Blk w q [.int .i64 (x : Int)] 3) (ty : TypeId) : ∃ v' w', (Builtin.append_ #[100, 100] ty #[v, .slice (some ⟨q, 0, none⟩) 1 c]).run Tryz.prog w = .ok v' w' ∧ Oi w' b v' (xs ++ [x]) ∧ Fx (fun k => v.ownBlock = some k) w w' := by
  obtain ⟨i, hi, hz⟩ := Option.map_eq_some_iff.1 info3f
  simp only [Prod.mk.injEq] at hz
  obtain ⟨v', w', r1, r2, r3, r4⟩ := run_appx w 100 ty 3 i _ 1 8 Tryz.underlying100 hi hz.1 hz.2.1 hz.2.2 rfl (by decide) v xs.length _ h.row ⟨q, 0, none⟩ 1 c [.int .i64 (x : Int)] rfl (fun j u hj => by rw [add_plain0, hq.cell]; exact hj) (fun u hu => by rw [List.mem_singleton.1 hu]; rfl) (by omega) (by decide)
  refine ⟨v', w', r1, ⟨by simpa using r2, fun k hk => ?_⟩, grown_fx r3⟩
  rcases r4 k hk with e | e
  · exact h.base k e
  · omega
theorem idx85 (ad : Addr) (n cap m : Nat) (h : m < n) (W : World) : (Instr.indexAt 100 (.slice (some ad) n cap) (.int .i64 (m : Int))).run Tryz.prog W = .ok (.pointer (some (ad.add m))) W := by
  have hm : (m : Int) < (n : Int) := by omega
  go_simp
theorem Oi.item {w : World} {b : Nat} {v : Value} {xs : List Nat} (h : Oi w b v xs) {i x : Nat} (hi : xs[i]? = some x) : ∃ ad, (∀ W, (Instr.indexAt 100 v (.int .i64 (i : Int))).run Tryz.prog W = .ok (.pointer (some ad)) W) ∧ (Instr.loadAt 3 (.pointer (some ad))).run Tryz.prog w = .ok (.int .i64 (x : Int)) w := by
  have hlt := (List.getElem?_eq_some_iff.1 hi).1
  obtain ⟨hx, ⟨rfl, h0⟩ | ⟨g, cp, cur, rfl, hg, hh2, hnc, hc, hs, htk⟩⟩ := h.row
  · simp only [h0] at hlt; omega
  · refine ⟨_, fun W => idx85 ⟨g, 0, none⟩ _ cp i hlt W, ?_⟩
    have hbl : Blk w g cur.toList 3 := by unfold Blk; simpa using hh2
    have hc : w.cell? ⟨g, i, none⟩ = some (.int .i64 (x : Int)) := by
      rw [hbl.cell i]
      have e1 : (List.take (xs.length * 1) cur.toList)[i]? = cur.toList[i]? := by rw [List.getElem?_take_of_lt (by omega)]
      rw [← e1, htk, List.getElem?_map, hi]
      rfl
    have hf := hbl.frozen i
    rw [add_plain0]
    go_simp
theorem Oi.len {w : World} {b : Nat} {v : Value} {xs : List Nat} (h : Oi w b v xs) (ty : TypeId) (W : World) : (Builtin.len_ #[100] ty #[v]).run Tryz.prog W = .ok (.int .i64 (xs.length : Int)) W := by
  obtain ⟨hx, ⟨rfl, h0⟩ | ⟨g, cp, cur, rfl, _⟩⟩ := h.row
  · rw [h0]; go_simp
  · go_simp
def bitB (bs : List UInt8) (n : Nat) : Bool := decide (bAt bs (n / 8) / 2 ^ (n % 8) % 2 = 1)
/-- The pages that a marker has a bit for. -/
def numsT (bs : List UInt8) (t : Nat) : List Nat := (List.range t).filter (bitB bs)
theorem numsT_len (bs : List UInt8) (t : Nat) : (numsT bs t).length ≤ t := by
  unfold numsT
  refine Nat.le_trans (List.length_filter_le _ _) ?_
  simp
theorem numsT_t {bs : List UInt8} {t : Nat} (h : bAt bs (t / 8) / 2 ^ (t % 8) % 2 = 1) : numsT bs (t + 1) = numsT bs t ++ [t] := by
  unfold numsT
  rw [List.range_succ, List.filter_append, List.filter_cons, if_pos (by unfold bitB; exact decide_eq_true h), List.filter_nil]
theorem numsT_f {bs : List UInt8} {t : Nat} (h : ¬ bAt bs (t / 8) / 2 ^ (t % 8) % 2 = 1) : numsT bs (t + 1) = numsT bs t := by
  unfold numsT
  rw [List.range_succ, List.filter_append, List.filter_cons, if_neg (by unfold bitB; simpa using h), List.filter_nil, List.append_nil]
def nmE (m : Value) (x : Nat × Value) : List (Nat × Value) := [(0, m), (3, x.2), (5, .int .i64 (x.1 : Int))]
def NmR (w : World) (bs : List UInt8) (x : Nat × Value) (W : World) : Prop := Oi W w.heap.size x.2 (numsT bs x.1) ∧ Below w.heap.size w W ∧ x.1 ≤ 256
set_option maxRecDepth 100000 in
set_option maxHeartbeats 1000000 in
theorem numbers_any (m : Value) (bs : List UInt8) (w : World) (hb : Has w m bs) (hl : bs.length = 512) : Calls Tryz.prog 60 #[m] w fun e w' => ∃ u, e = .returned u ∧ Oi w' w.heap.size u (numsT bs 256) ∧ Below w.heap.size w w' := by
  refine calls_of_args [m] Tryz.func60 rfl 24 Tryz.ntmps60 (by show 1 ≤ 24; decide) ?_; refine EW.seq ?_; refine EW.region ?_; refine WL.assign rfl rfl rfl ?_; refine WL.done ?_; refine EW.on ?_; refine EW.seq ?_; refine EW.region ?_; refine WL.assign rfl rfl rfl ?_; refine WL.done ?_; refine EW.on ?_; refine EW.seq ?_; refine EW.seq ?_; refine EW.region ?_; refine WL.move rfl rfl rfl ?_; refine WL.done ?_; refine EW.on ?_; refine EW.block ?_; refine EW.loop (nmE m) (NmR w bs) (fun x => 256 - x.1) (0, .slice none 0 0) [0, 3, 5] rfl ⟨Oi.nil _ _, Below.refl _ _, Nat.zero_le _⟩ ?_
  rintro ⟨t, v⟩ wi ⟨oi, ei, htl⟩
  show EW _ _ _ _ [(0, m), (3, v), (5, .int .i64 (t : Int))] _
  refine EW.seq ?_; refine EW.region ?_
  first | refine WL.bin rfl rfl rfl rfl (int_lt_t ‹_› _ _ _) ?_ | refine WL.bin rfl rfl rfl rfl (int_lt_f ‹_› _ _ _) ?_ | refine WL.bin rfl rfl rfl rfl (int_lt_d _ _ _ _ _) ?_
  refine WL.done ?_; refine EW.on ?_; refine EW.seq ?_; refine EW.cond_d rfl (fun h6 => ?_) (fun h6 => ?_)
  · refine EW.skip ?_; refine EW.on ?_; refine EW.seq ?_; refine EW.block ?_; refine EW.seq ?_
    simp only at oi ei htl
    have ht : t < 256 := by omega
    have tn : IntKind.i64.wrap ((t : Int) + 1) = ((t + 1 : Nat) : Int) := by rw [IntKind.wrap_i64]; omega
    obtain ⟨ad, ix, lx⟩ := (hb.below ei).at57 (i := t / 8) (by omega)
    refine EW.region ?_; refine WL.move rfl rfl rfl ?_; refine WL.assign rfl rfl rfl ?_; refine WL.done ?_; refine EW.on ?_; refine EW.seq ?_; refine EW.region ?_; refine WL.move rfl rfl rfl ?_; refine WL.move rfl rfl rfl ?_; refine WL.bin rfl rfl rfl rfl (quo8 t (by omega) _ _ _) ?_; refine WL.index rfl rfl rfl rfl (ix _) ?_; refine WL.load rfl rfl rfl lx ?_; refine WL.move rfl rfl rfl ?_; refine WL.bin rfl rfl rfl rfl (rem8 t (by omega) _ _ _) ?_; refine WL.bin rfl rfl rfl rfl (shr5 (bAt bs (t / 8)) (t % 8) (Nat.mod_lt _ (by decide)) _ _ _) ?_; refine WL.bin rfl rfl rfl rfl (and1 (bAt bs (t / 8) / 2 ^ (t % 8)) (Nat.lt_of_le_of_lt (Nat.div_le_self _ _) (bAt_lt _ _)) _ _ _) ?_; refine WL.bin rfl rfl rfl rfl (eq5 (bAt bs (t / 8) / 2 ^ (t % 8) % 2) 1 _ _ _) ?_; refine WL.done ?_; refine EW.on ?_; refine EW.cond_d rfl (fun h17 => ?_) (fun h17 => ?_)
    · refine EW.region ?_; refine WL.move rfl rfl rfl ?_; refine WL.move rfl rfl rfl ?_; refine WL.bslN [(0, .int .i64 (t : Int))] rfl rfl rfl (bsl85 t _) ?_
      have bn := below_new wi (.cells [Value.int .i64 (t : Int)].toArray 3)
      obtain ⟨v', w', r1, r2, r3⟩ := (oi.below bn).push (Nat.le_trans ei.size bn.size) (Nat.le_trans (numsT_len bs t) (by omega)) t _ 1 (Blk.new wi _ 3) 100
      refine WL.appR rfl rfl rfl rfl r1 ?_; refine WL.assign rfl rfl rfl ?_; refine WL.done ?_; refine pn_block ?_; refine EW.on ?_; refine EW.region ?_; refine WL.bin rfl rfl rfl rfl (int_add ‹_› _ _ _) ?_; refine WL.move rfl rfl rfl ?_; refine WL.done ?_; refine EW.again (E := nmE m) (R := NmR w bs) (m := fun x => 256 - x.1) (x := (t, v)) (t + 1, v') [0, 3, 5] rfl ⟨by rw [numsT_t h17]; exact r2, (ei.trans (bn.mono ei.size)).trans (r3.below (fun k hk e => by have := oi.base k e; omega) (Nat.le_trans ei.size bn.size)), by show t + 1 ≤ 256; omega⟩ (by show 256 - (t + 1) < 256 - t; omega)
    · refine EW.skip ?_; refine pn_block ?_; refine EW.on ?_; refine EW.region ?_; refine WL.bin rfl rfl rfl rfl (int_add ‹_› _ _ _) ?_; refine WL.move rfl rfl rfl ?_; refine WL.done ?_; refine EW.again (E := nmE m) (R := NmR w bs) (m := fun x => 256 - x.1) (x := (t, v)) (t + 1, v) [0, 3, 5] rfl ⟨by rw [numsT_f h17]; exact oi, ei, by show t + 1 ≤ 256; omega⟩ (by show 256 - (t + 1) < 256 - t; omega)
  · refine EW.exit ?_; refine px_then ?_; refine px_then ?_; refine px_block ?_; refine EW.on ?_; refine EW.seq ?_; refine EW.region ?_; refine WL.move rfl rfl rfl ?_; refine WL.assign rfl rfl rfl ?_; refine WL.done ?_; refine EW.on ?_; refine EW.ret ?_
    exact EW.returns Tryz.results60 rfl ⟨v, rfl, (by rw [show t = 256 by simp only at htl; omega] at oi; exact oi), ei⟩
end Go.Proofs.YtmbgeojjklboeaaGreatDoor

set_option linter.unusedVariables false
set_option linter.unusedSimpArgs false
namespace Go.Proofs.YtmbgeojjklboeaaGreatDoor
open Go.RowKit

theorem WL.slice2 {P : Program} {n : Fm} {ops : Array Oper} {Q : Exit → Act → World → Prop} {i : Nat} {ty : TypeId} {ps : String} {af : Array Edge} {gd : Option (Nat × Bool)} {r : List Oper} {e : List (Nat × Value)} {w : World} {t : TypeId} {x lo hi' : Operand} {u ul uh v : Value} (hw : wantE ops e ⟨some i, .slice t x (some lo) (some hi') none, ty, ps, af, gd⟩ = some true) (hi : decide (i < n.k) = true) (hx : evE e x = some u) (hl : evE e lo = some ul) (hh : evE e hi' = some uh) (hr : (Instr.sliceAt t u (some ul) (some uh) none).run P w = .ok v w) (k : WL P n ops Q r ((i, v) :: e) w) : WL P n ops Q (⟨some i, .slice t x (some lo) (some hi') none, ty, ps, af, gd⟩ :: r) e w :=
  WL.op i v hw rfl hi (fun a ha => by simp [execOp, ha.ev hx, ha.ev hl, ha.ev hh, hr, Result.andThen]) k
theorem sl57 (t : Value) (a b c : Option Value) (W : World) : (Instr.sliceAt 78 t a b c).run Tryz.prog W = (Instr.slice 78 t a b c).run Tryz.prog W := by
  simp [Instr.sliceAt, run_underlying Tryz.underlying78]
theorem elem57 : Tryz.prog.elem 78 = 5 := by simp [Program.elem, Tryz.underlying78]
theorem Has.cut57 {w : World} {v : Value} {bs : List UInt8} (h : Has w v bs) (l k : Nat) (hlk : l ≤ k) (hk : k ≤ bs.length) (W : World) :
    (Instr.sliceAt 78 v (some (.int .i64 l)) (some (.int .i64 k)) none).run Tryz.prog W = .ok (cutV v l k) W := by
  rw [sl57]
  have ht : Tryz.prog.underlying 78 = some (.slice (Tryz.prog.elem 78)) := by rw [elem57]; exact Tryz.underlying78
  have hc : ∃ ao cap, v = .slice ao bs.length cap ∧ bs.length ≤ cap := by
    rcases h with ⟨rfl, rfl⟩ | ⟨ad, cap, rfl, h2, _⟩
    · exact ⟨_, _, rfl, Nat.le_refl _⟩
    · exact ⟨_, _, rfl, h2⟩
  obtain ⟨ao, cap, rfl, hc⟩ := hc
  rw [run_slice_lh W 78 ao _ cap ht .i64 .i64 l k (by omega) (by omega) (by omega), elem57, size5]
  simp [Result.andThen, cutV]
set_option maxRecDepth 100000 in
set_option maxHeartbeats 1000000 in
theorem sense_zero (m : Value) (bs : List UInt8) (p : Nat) (w : World) (hb : Has w m bs) (hl : bs.length = 512) (h0 : bAt bs 511 = 0) : Calls Tryz.prog 34 #[m, .int .i64 (p : Int)] w fun e w' => e = .returned (.bool true) ∧ w' = w := by
  obtain ⟨ad, ix, lx⟩ := hb.at57 (i := 511) (by omega)
  refine calls_of_args [m, .int .i64 (p : Int)] Tryz.func34 rfl 34 Tryz.ntmps34 (by show 2 ≤ 34; decide) ?_; refine EW.seq ?_; refine EW.region ?_; refine WL.assign rfl rfl rfl ?_; refine WL.done ?_; refine EW.on ?_; refine EW.seq ?_; refine EW.seq ?_; refine EW.region ?_; refine WL.move rfl rfl rfl ?_; refine WL.index rfl rfl rfl rfl (ix _) ?_; refine WL.load rfl rfl rfl lx ?_; refine WL.bin rfl rfl rfl rfl (eq5 (bAt bs 511) 0 _ _ _) ?_; refine WL.done ?_; refine EW.on ?_; refine EW.cond_d rfl (fun h9 => ?_) (fun h9 => ?_)
  · refine EW.seq ?_; refine EW.region ?_; refine WL.assign rfl rfl rfl ?_; refine WL.done ?_; refine EW.on ?_; refine EW.ret ?_; refine pr_then ?_
    exact EW.returns Tryz.results34 rfl ⟨rfl, rfl⟩
  · exact absurd h0 h9
set_option maxRecDepth 100000 in
set_option maxHeartbeats 1000000 in
theorem sense_ok (m : Value) (bs : List UInt8) (p x : Nat) (w : World) (hb : Has w m bs) (hl : bs.length = 512) (h1 : bAt bs 511 = 1) (hz : zB ((bs.drop 32).take (511 - 32)) = true) (hlast : (numsT bs 256)[(numsT bs 256).length - 1]? = some x) (hx : x < p) : Calls Tryz.prog 34 #[m, .int .i64 (p : Int)] w fun e w' => e = .returned (.bool true) ∧ Below w.heap.size w w' := by
  obtain ⟨ad, ix, lx⟩ := hb.at57 (i := 511) (by omega)
  have hp : 0 < (numsT bs 256).length := by have := (List.getElem?_eq_some_iff.1 hlast).1; omega
  have hle := numsT_len bs 256
  have hpos : (0 : Int) < ((numsT bs 256).length : Int) := by omega
  have s28 : IntKind.i64.wrap (((numsT bs 256).length : Int) - 1) = (((numsT bs 256).length - 1 : Nat) : Int) := by rw [IntKind.wrap_i64]; omega
  have hlt : (x : Int) < (p : Int) := by omega
  refine calls_of_args [m, .int .i64 (p : Int)] Tryz.func34 rfl 34 Tryz.ntmps34 (by show 2 ≤ 34; decide) ?_; refine EW.seq ?_; refine EW.region ?_; refine WL.assign rfl rfl rfl ?_; refine WL.done ?_; refine EW.on ?_; refine EW.seq ?_; refine EW.seq ?_; refine EW.region ?_; refine WL.move rfl rfl rfl ?_; refine WL.index rfl rfl rfl rfl (ix _) ?_; refine WL.load rfl rfl rfl lx ?_; refine WL.bin rfl rfl rfl rfl (eq5 (bAt bs 511) 0 _ _ _) ?_; refine WL.done ?_; refine EW.on ?_; refine EW.cond_d rfl (fun h9 => ?_) (fun h9 => ?_)
  · exact absurd (h1.symm.trans h9) (by decide)
  · refine EW.skip ?_; refine EW.on ?_; refine EW.seq ?_; refine EW.region ?_; refine WL.move rfl rfl rfl ?_; refine WL.call [m] enter60 rfl rfl rfl (numbers_any m bs w hb hl) ?_
    rintro _ w1 ⟨vl, rfl, oi, e1⟩
    refine ⟨_, rfl, ?_⟩; refine WL.assign rfl rfl rfl ?_; refine WL.done ?_; refine EW.on ?_; refine EW.seq ?_; refine EW.region ?_; refine WL.move rfl rfl rfl ?_; refine WL.call [m] enter36 rfl rfl rfl (stands_any m bs w1 (hb.below e1) hl) ?_
    rintro _ w2 ⟨rfl, hz2⟩
    rw [hz2, decide_eq_true h1]
    refine ⟨_, rfl, ?_⟩; refine WL.move rfl rfl rfl ?_
    first | refine WL.move rfl rfl rfl ?_ | refine WL.skip _ rfl rfl rfl ?_
    refine WL.slice2 rfl rfl rfl rfl rfl ((hb.below e1).cut57 32 511 (by decide) (by omega) _) ?_; refine WL.call [cutV m 32 511] enter61 rfl rfl rfl (zeros_any _ _ w1 ((hb.below e1).cut 32 511 (by decide) (by omega)) (by simp; omega)) ?_
    rintro _ w3 ⟨rfl, hz3⟩
    rw [hz3, hz]
    refine ⟨_, rfl, ?_⟩; refine WL.pick rfl rfl rfl rfl ?_; refine WL.move rfl rfl rfl ?_
    first | refine WL.move rfl rfl rfl ?_ | refine WL.skip _ rfl rfl rfl ?_
    refine WL.len rfl rfl rfl (oi.len _ _) ?_; refine WL.bin rfl rfl rfl rfl (int_gt_t hpos _ _ _) ?_; refine WL.pick rfl rfl rfl rfl ?_; refine WL.move rfl rfl rfl ?_
    first | refine WL.move rfl rfl rfl ?_ | refine WL.skip _ rfl rfl rfl ?_
    first | refine WL.move rfl rfl rfl ?_ | refine WL.skip _ rfl rfl rfl ?_
    refine WL.len rfl rfl rfl (oi.len _ _) ?_; refine WL.bin rfl rfl rfl rfl (int_sub s28 _ _ _) ?_
    obtain ⟨a2, i2, l2⟩ := oi.item hlast
    refine WL.index rfl rfl rfl rfl (i2 _) ?_; refine WL.load rfl rfl rfl l2 ?_
    first | refine WL.move rfl rfl rfl ?_ | refine WL.skip _ rfl rfl rfl ?_
    refine WL.bin rfl rfl rfl rfl (int_lt_t hlt _ _ _) ?_; refine WL.pick rfl rfl rfl rfl ?_; refine WL.assign rfl rfl rfl ?_; refine WL.done ?_; refine EW.on ?_; refine EW.ret ?_
    exact EW.returns Tryz.results34 rfl ⟨rfl, e1⟩
theorem Dk.congr {w : World} {L : Lay} {N : Nat} {s s' : Nat → List UInt8} {m c : Nat} (h : Dk w L N s m c) (hs : ∀ i, i < N → s i = s' i) : Dk w L N s' m c := by
  obtain ⟨D, h1, h2, h3, h4, h5, h6⟩ := h.ex
  exact ⟨D, h1, h2, h3, h4, fun i hi => (h5 i hi).trans (hs i hi), h6⟩
theorem add_plain2 (q o i : Nat) : (⟨q, o, none⟩ : Addr).add i = ⟨q, o + i, none⟩ := by
  simp [Addr.add]
  try omega
/-- Pages go home out of their slots. -/
def hom1 (n : Nat) (s : Nat → List UInt8) (k : Nat) : Nat → List UInt8 := setS (setS s (1 + 2 * (n + k)) (s (1 + 2 * k))) (1 + 2 * (n + k) + 1) (s (1 + 2 * k + 1))
def homT (n : Nat) (s : Nat → List UInt8) (l : List Nat) : Nat → List UInt8 := l.foldl (hom1 n) s
theorem homT_snoc (n : Nat) (s : Nat → List UInt8) (l : List Nat) (t x : Nat) (h : l[t]? = some x) : homT n s (l.take (t + 1)) = hom1 n (homT n s (l.take t)) x := by
  unfold homT
  rw [List.take_add_one, h]
  simp [List.foldl_append]
def rpE (q : Nat) (mv v : Value) (k : Nat) (x : Nat × Lay) : List (Nat × Value) := [(1, mv), (2, .pointer (some ⟨q, 0, none⟩)), (7, v), (8, .int .i64 (k : Int)), (9, .int .i64 (x.1 : Int))]
structure RpR (w2 : World) (L : Lay) (N n : Nat) (s : Nat → List UInt8) (m c : Nat) (l : List Nat) (x : Nat × Lay) (W : World) : Prop where
  t : Turn w2 W L x.2
  d : Dk W x.2 N (homT n s (l.take x.1)) (m + 2 * x.1) (c + 2 * x.1)
  le : x.1 ≤ l.length
end Go.Proofs.YtmbgeojjklboeaaGreatDoor

set_option linter.unusedVariables false
set_option linter.unusedSimpArgs false
namespace Go.Proofs.YtmbgeojjklboeaaGreatDoor
open Go.RowKit

theorem nwR_out (i : Nat) : ∀ l : List (Nat × List UInt8), i ∉ l.map Prod.fst → nwR l i = 0
  | [], _ => rfl
  | x :: r, h => by
    simp only [List.map_cons, List.mem_cons, not_or] at h
    rw [nwR, if_neg (fun e => h.1 e.symm)]
    exact nwR_out i r h.2
theorem nw_out (i : Nat) (l : List (Nat × List UInt8)) (h : i ∉ l.map Prod.fst) : nw l i = 0 := nwR_out i l.reverse (by simpa using h)
/-- What a sector is behind a crash: the first bytes of what it reads, and the rest of what is durable. -/
theorem sec_crashT (f : Nat → Nat) (hf : ∀ k, f k ≤ 512) (pen : List (Nat × List UInt8)) (img : List UInt8) (n i : Nat) (hl : img.length = n * 512) (hp : ∀ x ∈ pen, x.1 < n ∧ x.2.length = 512) (hi : i < n) (hnd : (pen.map Prod.fst).Nodup) : ∀ t, t ≤ pen.length → ∃ k, k ≤ 512 ∧ secB (imgT f pen img t) i = (if nw (pen.take t) i = 0 then secB img i else (pen.getD (nw (pen.take t) i - 1) (0, [])).2).take k ++ (secB img i).drop k
  | 0, _ => ⟨0, Nat.zero_le _, by simp [imgT]⟩
  | t + 1, ht => by
    obtain ⟨x, hx⟩ : ∃ x, pen[t]? = some x := ⟨pen[t]'(by omega), List.getElem?_eq_getElem _⟩
    have hge : pen.getD t (0, []) = x := by rw [List.getD_eq_getElem?_getD, hx]; rfl
    have hx2 := hp x (List.mem_of_getElem? hx)
    obtain ⟨k, hk, ih⟩ := sec_crashT f hf pen img n i hl hp hi hnd t (by omega)
    have htk : pen.take (t + 1) = pen.take t ++ [x] := by rw [List.take_add_one, hx]; rfl
    have htl : (pen.take t).length = t := by rw [List.length_take]; omega
    rw [imgT, hge, sec_settle _ n _ _ _ _ (imgT_length _ pen img n hl hf hp t (by omega)) hx2.1 hi (hf t) hx2.2, htk, nw_snoc]
    by_cases h : x.1 = i
    · rw [if_pos h, if_pos h, if_neg (by omega), htl, Nat.add_sub_cancel, hge]
      have h0 : nw (pen.take t) i = 0 := nw_out i _ (fun hm => by
        have e : pen.map Prod.fst = (pen.take t).map Prod.fst ++ (x.1 :: (pen.drop (t + 1)).map Prod.fst) := by
          rw [← List.map_cons, ← List.map_append, show x :: pen.drop (t + 1) = pen.drop t from by
            rw [List.drop_eq_getElem_cons (show t < pen.length by omega)]
            congr 1
            exact (Option.some.inj (hx.symm.trans (List.getElem?_eq_getElem _))), List.take_append_drop]
        rw [e, List.nodup_append] at hnd
        exact hnd.2.2 i hm x.1 (by simp) h.symm)
      rw [h0, if_pos rfl, List.take_append_drop] at ih
      exact ⟨f t, hf t, by rw [ih]⟩
    · rw [if_neg h, if_neg h]
      exact ⟨k, hk, ih⟩
/-- What may be behind a crash, out of what is durable (d) and what is read (s). -/
def Cr (N : Nat) (d s d' : Nat → List UInt8) : Prop := ∀ i, i < N → ∃ k, k ≤ 512 ∧ d' i = (s i).take k ++ (d i).drop k
/-- The armed device: durable sectors, read ones, those that are pending, how many changing calls are left. -/
structure Da (w : World) (L : Lay) (N : Nat) (d s : Nat → List UInt8) (ps : List Nat) (left c : Nat) : Prop where
  ex : ∃ D, Dev w L D ∧ D.down = false ∧ D.left = left ∧ D.n = N ∧ (∀ i, i < N → secB D.img i = d i) ∧ (∀ i, i < N → readB D i = s i) ∧ D.pen.map Prod.fst = ps ∧ D.calls = c
  nd : ps.Nodup
  lt : left ≤ 1000000
/-- The device that is down. -/
structure Dz (w : World) (L : Lay) (N : Nat) (d : Nat → List UInt8) (c : Nat) : Prop where
  ex : ∃ D, Dev w L D ∧ D.down = true ∧ D.n = N ∧ (∀ i, i < N → secB D.img i = d i) ∧ D.pen = [] ∧ D.calls = c
section
variable {w w' : World} {L : Lay} {N : Nat} {d s : Nat → List UInt8} {ps : List Nat} {left c : Nat}
theorem Da.below (h : Da w L N d s ps left c) (hb : Below w.heap.size w w') : Da w' L N d s ps left c := by
  obtain ⟨D, h1, h2⟩ := h.ex
  exact ⟨⟨D, h1.below hb, h2⟩, h.nd, h.lt⟩
theorem Dz.below (h : Dz w L N d c) (hb : Below w.heap.size w w') : Dz w' L N d c := by
  obtain ⟨D, h1, h2⟩ := h.ex
  exact ⟨⟨D, h1.below hb, h2⟩⟩
theorem Da.lenS (h : Da w L N d s ps left c) (i : Nat) (hi : i < N) : (s i).length = 512 := by
  obtain ⟨D, h1, _, _, h4, _, h5, _⟩ := h.ex
  rw [← h5 i hi]
  exact readB_length D h1.ok i (by omega)
theorem Da.F (h : Da w L N d s ps left c) (k : Nat) (hk : L.F k) : k < w.heap.size := by
  obtain ⟨D, h1, _⟩ := h.ex
  exact h1.lt k hk
end
/-- The sectors behind a crash of such a device. -/
theorem crash_cr {D : Dv} (hok : D.ok) (hnd : (D.pen.map Prod.fst).Nodup) (ks : List (BitVec 64)) (torn off : Int) (i : Nat) (hi : i < D.n) : ∃ k, k ≤ 512 ∧ secB (crashD D ks torn off).img i = (readB D i).take k ++ (secB D.img i).drop k := by
  have := sec_crashT (survN ks torn off) (surv_le ks torn off) D.pen D.img D.n i hok.len hok.sec hi hnd D.pen.length (Nat.le_refl _)
  rw [List.take_length] at this
  exact this
end Go.Proofs.YtmbgeojjklboeaaGreatDoor
