import Derived.Test.YtiefgmgjlhjjhaaDoorPe
set_option linter.unusedVariables false
set_option linter.unusedSimpArgs false
namespace Go.Proofs.YtiefgmgjlhjjhaaDoor
open Go.RowKit

theorem results_twoN {P : Program} {fn : Func} {p q : Tmp} {ty : TypeId} (h : fn.results = #[.cell p ty, .tmp q]) (tmps : Array Value) (w : World) (g : Nat) (t : TypeId) (cs : Array Value) (fr : Nat × Nat) (d : TypeDesc) (v : Value)
    (hp : tmps.getD p undef = .pointer (some ⟨g, 0, none⟩)) (hq : tmps.getD q undef = v) (hg : w.heap[g]? = some (.cells cs t fr))
    (hu : P.underlying ty = some d) (hd : (match d with | .struct _ | .array _ _ => true | _ => false) = true) (hi : (P.info? ty).map (·.size) = some cs.size) :
    (results fn tmps).run P w = .ok (.tuple #[.agg cs, v]) w := by
  have hp' : tmps[p]?.getD undef = .pointer (some ⟨g, 0, none⟩) := by simpa using hp
  have hq' : tmps[q]?.getD undef = v := by simpa using hq
  simp [results, h, hp', hq', asAddr, run_loadVar_row w g t ty cs fr d hg hu hd hi]
theorem EW.returnsCT {P : Program} {n : Nat} {e : List (Nat × Value)} {w : World} {fn : Func} {R : Ending → World → Prop} {t u : Nat} {ty ty' : TypeId} {g : Nat} {cs : List Value} {v : Value} {d : TypeDesc} (hres : fn.results = #[.cell t ty, .tmp u]) (hv : e.lookup t = some (.pointer (some ⟨g, 0, none⟩))) (hv' : e.lookup u = some v) (hg : Blk w g cs ty') (hu : P.underlying ty = some d) (hd : (match d with | .struct _ | .array _ _ => true | _ => false) = true) (hi : (P.info? ty).map (·.size) = some cs.length) (h : R (.returned (.tuple #[.agg cs.toArray, v])) w) : ∀ a, Env n a e → bodyPost P fn R .ret a w := fun a ha =>
  bodyPost_ret (v := .tuple #[.agg cs.toArray, v]) (results_twoN hres a.tmps w g ty' cs.toArray (0, 0) d v (ha.kn t _ hv) (ha.kn u _ hv') hg hu hd (by simpa using hi)) ha.df h
theorem WL.build0 {P : Program} {n : Nat} {ops : Array Oper} {i : Nat} {ty : TypeId} {ps : String} {af : Array Edge} {gd : Option (Nat × Bool)} {e : List (Nat × Value)} {w : World} {Q : Exit → Act → World → Prop} {r : List Oper} {t : TypeId} {v : Value} (hw : wantE ops e ⟨some i, .build t #[], ty, ps, af, gd⟩ = some true) (hi : decide (i < n) = true) (hr : (Instr.build t #[]).run P w = .ok v w) (k : WL P n ops Q r ((i, v) :: e) w) : WL P n ops Q (⟨some i, .build t #[], ty, ps, af, gd⟩ :: r) e w :=
  WL.op i v hw rfl hi (fun a ha => by
    simp only [execOp, List.map_toArray, List.map_nil, Sem.run_bind, hr, Result.andThen_ok, Sem.run_pure]) k
def pM (c : List UInt8) : Nat := numB ((c.drop 0).take 1)
def pI (c : List UInt8) : Nat := numB ((c.drop 1).take 4)
def pN (c : List UInt8) : Nat := numB ((c.drop 5).take 1)
def pA (c : List UInt8) : Nat := numB ((c.drop 6).take 1)
def pS (c : List UInt8) : List UInt8 := (c.drop 7).take 8
def pC (c : List UInt8) : List UInt8 := (c.drop 15).take (c.length - 15)
/-- Are the bytes a part? -/
def okP (c : List UInt8) : Bool := decide (15 ≤ c.length ∧ c.length ≤ 512 ∧ pM c = 5 ∧ 1 ≤ pN c ∧ pN c ≤ 64 ∧ pA c < pN c) && fitB (pN c) (pA c) (c.length - 15)
theorem rd1 (q : Nat) (v : Value) (c : List UInt8) (at_ : Nat) (w : World) (hr : Rd w q v c at_ 0) (hl : c.length ≤ 140737488355328) (h : at_ + 1 ≤ c.length) : Calls Tryd.prog 43 #[.pointer (some ⟨q, 0, none⟩)] w fun e w' => e = .returned (.int .i64 (numB ((c.drop at_).take 1) : Int)) ∧ Rd w' q v c (at_ + 1) 0 ∧ Fx (fun k => k = q) w w' := by
  have := rn1_any q v c (at_, 0) w hr hl
  simpa [rB, rS, h] using this
theorem rd4 (q : Nat) (v : Value) (c : List UInt8) (at_ : Nat) (w : World) (hr : Rd w q v c at_ 0) (hl : c.length ≤ 140737488355328) (h : at_ + 4 ≤ c.length) : Calls Tryd.prog 44 #[.pointer (some ⟨q, 0, none⟩)] w fun e w' => e = .returned (u32v (numB ((c.drop at_).take 4))) ∧ Rd w' q v c (at_ + 4) 0 ∧ Fx (fun k => k = q) w w' := by
  have := rn4_any q v c (at_, 0) w hr hl
  simpa [rB, rS, h] using this
/-- A part is being taken apart. -/
structure Ta (w0 W : World) (g2 g4 q : Nat) (u : Value) (c : List UInt8) (at_ : Nat) (p : Pi) : Prop where
  b2 : Blk W g2 Pi.z.cs 58
  b4 : Blk W g4 p.cs 58
  rd : Rd W q u c at_ 0
  be : Below w0.heap.size w0 W
  o2 : w0.heap.size ≤ g2
  o4 : w0.heap.size ≤ g4
  oq : w0.heap.size ≤ q
  n24 : g2 ≠ g4
  nq2 : g2 ≠ q
  nq4 : g4 ≠ q
  ou : ∀ k, u.ownBlock = some k → k ≠ g2 ∧ k ≠ g4
theorem Ta.on {w0 W W' : World} {g2 g4 q : Nat} {u : Value} {c : List UInt8} {a : Nat} {p : Pi} (h : Ta w0 W g2 g4 q u c a p) (hb : Below W.heap.size W W') : Ta w0 W' g2 g4 q u c a p := ⟨h.b2.on hb, h.b4.on hb, h.rd.below hb, bt h.be hb, h.o2, h.o4, h.oq, h.n24, h.nq2, h.nq4, h.ou⟩
theorem Ta.read {w0 W W' : World} {g2 g4 q : Nat} {u : Value} {c : List UInt8} {a a' : Nat} {p : Pi} (h : Ta w0 W g2 g4 q u c a p) (hr : Rd W' q u c a' 0) (hf : Fx (fun k => k = q) W W') : Ta w0 W' g2 g4 q u c a' p := ⟨h.b2.fx hf h.nq2, h.b4.fx hf h.nq4, hr, h.be.trans (hf.below (fun k hk e => by have := h.oq; have e' : k = q := e; omega) h.be.size), h.o2, h.o4, h.oq, h.n24, h.nq2, h.nq4, h.ou⟩
theorem Ta.put {w0 W W' : World} {g2 g4 q : Nat} {u : Value} {c : List UInt8} {a : Nat} {p p' : Pi} (h : Ta w0 W g2 g4 q u c a p) (hb : Blk W' g4 p'.cs 58) (hf : Fx (fun k => k = g4) W W') : Ta w0 W' g2 g4 q u c a p' := ⟨h.b2.fx hf h.n24, hb, ⟨h.rd.bl.fx hf (fun e => h.nq4 e.symm), h.rd.hs.fxo hf (fun k hk => .inr fun e => (h.ou k e).2 hk), h.rd.le⟩, h.be.trans (hf.below (fun k hk e => by have := h.o4; have e' : k = g4 := e; omega) h.be.size), h.o2, h.o4, h.oq, h.n24, h.nq2, h.nq4, h.ou⟩
theorem s2a54 (ad : Addr) (n c : Nat) (h : 8 ≤ n) (W : World) : (Instr.arrayAt 54 (.slice (some ad) n c)).run Tryd.prog W = .ok (.pointer (some ad)) W := by
  have hm : ¬ n < 8 := by omega
  simp only [Instr.arrayAt, Sem.run_bind, run_underlying u54, Result.andThen_ok, if_neg hm, Sem.run_pure]
theorem Ob.ld54 {W : World} {b : Nat} {v : Value} {K : List UInt8} (h : Ob W b v K) (hk : K.length = 8) : ∃ g c, v = .slice (some ⟨g, 0, none⟩) 8 c ∧ (Instr.loadAt 54 (.pointer (some ⟨g, 0, none⟩))).run Tryd.prog W = .ok (kv K) W := by
  obtain ⟨hx, ⟨rfl, hz⟩ | ⟨g, cp, cur, rfl, hg, hh2, hr⟩⟩ := h.row
  · omega
  · refine ⟨g, cp, by rw [hk], ?_⟩
    have hh := h.has
    rcases hh with ⟨e, _⟩ | ⟨ad, cap, e, h2, h3⟩
    · cases e
    · cases e
      refine run_loadAt_mid W g 0 54 (K.map byt) _ (fun j u hj => ?_) u54 rfl (i54 hk)
      rw [List.getElem?_map] at hj
      cases hq : K[j]? with
      | none => rw [hq] at hj; cases hj
      | some b =>
        rw [hq] at hj
        cases hj
        have := h3 j b hq
        rw [add_plain] at this
        rw [Nat.zero_add]; exact this
set_option maxRecDepth 100000 in
set_option maxHeartbeats 4000000 in
theorem apart_any (v : Value) (c : List UInt8) (w : World) (hv : Has w v c) (hl : c.length ≤ 140737488355328) : Calls Tryd.prog 22 #[v] w fun e w' => (okP c = false ∧ e = .returned (.tuple #[Pi.z.val, .int .i64 260]) ∧ Below w.heap.size w w') ∨ (okP c = true ∧ ∃ u, e = .returned (.tuple #[(Pi.mk (pI c) (pN c) (pA c) (pS c) u).val, .int .i64 0]) ∧ Ob w' w.heap.size u (pC c) ∧ Below w.heap.size w w') := by
  obtain ⟨ao, cp, rfl⟩ := hv.slice
  refine calls_of_args [.slice ao c.length cp] Tryd.func22 rfl 58 Tryd.ntmps22 (by show 1 ≤ 58; decide) ?_
  refine EW.seq ?_
  refine EW.region ?_
  obtain ⟨w1, g2, rn, b1, l1, hg2⟩ := newB (cs := Pi.z.cs) zv58 w
  refine WL.new rfl rfl rn ?_
  first | refine WL.assign rfl rfl rfl ?_
  refine WL.done ?_
  refine EW.on ?_
  refine EW.scope 0 [(2, .pointer (some ⟨g2, 0, none⟩))] (fun W => okP c = false ∧ Blk W g2 Pi.z.cs 58 ∧ Below w.heap.size w W) rfl ?_ ?_
  · refine EW.seq ?_
    refine EW.region ?_
    obtain ⟨w2, g4, rn2, b2, l2, hg4⟩ := newB (cs := Pi.z.cs) zv58 w1
    refine WL.new rfl rfl rn2 ?_
    refine WL.done ?_
    refine EW.on ?_
    refine EW.seq ?_
    refine EW.region ?_
    first | refine WL.assign rfl rfl rfl ?_
    refine WL.done ?_
    refine EW.on ?_
    refine EW.seq ?_
    refine EW.seq ?_
    rcases (show c.length < 15 ∨ (15 ≤ c.length ∧ 512 < c.length) ∨ (15 ≤ c.length ∧ c.length ≤ 512) by omega) with hA | ⟨hA, hB⟩ | ⟨hA, hB⟩
    · have xa : (c.length : Int) < 15 := by omega
      refine EW.region ?_
      first | refine WL.move rfl rfl rfl ?_
      first | refine WL.len rfl rfl rfl (len24 _ _ _ _ _) ?_ | refine WL.skip _ rfl rfl rfl ?_
      first | refine WL.bin rfl rfl rfl rfl (int_lt_t ‹_› _ _ _) ?_ | refine WL.bin rfl rfl rfl rfl (int_lt_f ‹_› _ _ _) ?_ | refine WL.bin rfl rfl rfl rfl (int_lt_d _ _ _ _ _) ?_
      first | refine WL.move rfl rfl rfl ?_
      first | refine WL.move rfl rfl rfl ?_ | refine WL.skip _ rfl rfl rfl ?_
      first | refine WL.len rfl rfl rfl (len24 _ _ _ _ _) ?_ | refine WL.skip _ rfl rfl rfl ?_
      first | refine WL.bin rfl rfl rfl rfl (int_gt_t ‹_› _ _ _) ?_ | refine WL.bin rfl rfl rfl rfl (int_gt_f ‹_› _ _ _) ?_ | refine WL.bin rfl rfl rfl rfl (int_gt_d _ _ _ _ _) ?_ | refine WL.skip _ rfl rfl rfl ?_
      first | refine WL.pick rfl rfl rfl rfl ?_
      refine WL.done ?_
      refine EW.on ?_
      refine EW.cond_t rfl ?_
      refine EW.goto ?_
      refine pg_then ?_
      exact EW.jumps [2] rfl ⟨by unfold okP; rw [decide_eq_false (by omega)]; rfl, b1.on l2, bt l1 l2⟩
    · have xa : ¬ (c.length : Int) < 15 := by omega
      have xb : (512 : Int) < (c.length : Int) := by omega
      refine EW.region ?_
      first | refine WL.move rfl rfl rfl ?_
      first | refine WL.len rfl rfl rfl (len24 _ _ _ _ _) ?_ | refine WL.skip _ rfl rfl rfl ?_
      first | refine WL.bin rfl rfl rfl rfl (int_lt_t ‹_› _ _ _) ?_ | refine WL.bin rfl rfl rfl rfl (int_lt_f ‹_› _ _ _) ?_ | refine WL.bin rfl rfl rfl rfl (int_lt_d _ _ _ _ _) ?_
      first | refine WL.move rfl rfl rfl ?_
      first | refine WL.move rfl rfl rfl ?_ | refine WL.skip _ rfl rfl rfl ?_
      first | refine WL.len rfl rfl rfl (len24 _ _ _ _ _) ?_ | refine WL.skip _ rfl rfl rfl ?_
      first | refine WL.bin rfl rfl rfl rfl (int_gt_t ‹_› _ _ _) ?_ | refine WL.bin rfl rfl rfl rfl (int_gt_f ‹_› _ _ _) ?_ | refine WL.bin rfl rfl rfl rfl (int_gt_d _ _ _ _ _) ?_ | refine WL.skip _ rfl rfl rfl ?_
      first | refine WL.pick rfl rfl rfl rfl ?_
      refine WL.done ?_
      refine EW.on ?_
      refine EW.cond_t rfl ?_
      refine EW.goto ?_
      refine pg_then ?_
      exact EW.jumps [2] rfl ⟨by unfold okP; rw [decide_eq_false (by omega)]; rfl, b1.on l2, bt l1 l2⟩
    · have xa : ¬ (c.length : Int) < 15 := by omega
      have xb : ¬ (512 : Int) < (c.length : Int) := by omega
      have hS : (pS c).length = 8 := by simp [pS]; omega
      refine EW.region ?_
      first | refine WL.move rfl rfl rfl ?_
      first | refine WL.len rfl rfl rfl (len24 _ _ _ _ _) ?_ | refine WL.skip _ rfl rfl rfl ?_
      first | refine WL.bin rfl rfl rfl rfl (int_lt_t ‹_› _ _ _) ?_ | refine WL.bin rfl rfl rfl rfl (int_lt_f ‹_› _ _ _) ?_ | refine WL.bin rfl rfl rfl rfl (int_lt_d _ _ _ _ _) ?_
      first | refine WL.move rfl rfl rfl ?_
      first | refine WL.move rfl rfl rfl ?_ | refine WL.skip _ rfl rfl rfl ?_
      first | refine WL.len rfl rfl rfl (len24 _ _ _ _ _) ?_ | refine WL.skip _ rfl rfl rfl ?_
      first | refine WL.bin rfl rfl rfl rfl (int_gt_t ‹_› _ _ _) ?_ | refine WL.bin rfl rfl rfl rfl (int_gt_f ‹_› _ _ _) ?_ | refine WL.bin rfl rfl rfl rfl (int_gt_d _ _ _ _ _) ?_ | refine WL.skip _ rfl rfl rfl ?_
      first | refine WL.pick rfl rfl rfl rfl ?_
      refine WL.done ?_
      refine EW.on ?_
      refine EW.cond_f rfl ?_
      refine EW.skip ?_
      refine EW.on ?_
      refine EW.seq ?_
      refine EW.region ?_
      first | refine WL.move rfl rfl rfl ?_
      refine WL.call [.slice ao c.length cp] enter42 rfl rfl rfl (newR_any _ c _ ((hv.below l1).below l2) (by omega)) ?_
      rintro _ w3 ⟨u, q, rfl, rd3, hq3, l3, ou⟩
      refine ⟨_, rfl, ?_⟩
      have t0 : Ta w w3 g2 g4 q u c 0 Pi.z := by
        have s1 := l1.size
        have z1 := b1.lt
        have z2 := b2.lt
        refine ⟨(b1.on l2).on l3, b2.on l3, rd3, bt (bt l1 l2) l3, by omega, by omega, by have := l2.size; omega, by omega, by have := l2.size; omega, by omega, fun k hk => ?_⟩
        have := ou k hk
        have := l2.size
        constructor <;> omega
      first | refine WL.assign rfl rfl rfl ?_
      refine WL.done ?_
      refine EW.on ?_
      refine EW.seq ?_
      refine EW.seq ?_
      refine EW.region ?_
      first | refine WL.move rfl rfl rfl ?_
      refine WL.call [.pointer (some ⟨q, 0, none⟩)] enter43 rfl rfl rfl (rd1 q u c 0 _ t0.rd (by omega) (by omega)) ?_
      rintro _ wr1 ⟨rfl, rr1, fr1⟩
      refine ⟨_, rfl, ?_⟩
      have t1 := t0.read rr1 fr1
      first | refine WL.bin rfl rfl rfl rfl (int_ne_f rfl _ _ _) ?_ | refine WL.bin rfl rfl rfl rfl (int_ne_t ‹_› _ _ _) ?_ | refine WL.bin rfl rfl rfl rfl (int_ne_f ‹_› _ _ _) ?_ | refine WL.bin rfl rfl rfl rfl (int_ne_t (by decide) _ _ _) ?_ | refine WL.bin rfl rfl rfl rfl (int_ne_d _ _ _ _ _) ?_
      refine WL.done ?_
      refine EW.on ?_
      refine EW.cond_d rfl (fun h18 => ?_) (fun h18 => ?_)
      · refine EW.goto ?_
        refine pg_then ?_
        exact EW.jumps [2] rfl ⟨by unfold okP; rw [decide_eq_false (by unfold pM; omega)]; rfl, t1.b2, t1.be⟩
      · refine EW.skip ?_
        refine EW.on ?_
        refine EW.seq ?_
        refine EW.region ?_
        first | refine WL.move rfl rfl rfl ?_
        refine WL.call [.pointer (some ⟨q, 0, none⟩)] enter44 rfl rfl rfl (rd4 q u c 1 _ t1.rd (by omega) (by omega)) ?_
        rintro _ wr2 ⟨rfl, rr2, fr2⟩
        refine ⟨_, rfl, ?_⟩
        have t2 := t1.read rr2 fr2
        first | refine WL.field rfl rfl rfl (f58_0 _ _) ?_ | refine WL.skip _ rfl rfl rfl ?_
        obtain ⟨ws6, sr6, sb6, sf6⟩ := stU2 t2.b4 (show 0 < 12 by decide) (pI c)
        refine WL.store rfl rfl rfl sr6 ?_
        have t3 := t2.put (p' := ⟨pI c, 0, 0, e8, .slice none 0 0⟩) sb6 sf6
        refine WL.done ?_
        refine EW.on ?_
        refine EW.seq ?_
        refine EW.region ?_
        first | refine WL.move rfl rfl rfl ?_
        refine WL.call [.pointer (some ⟨q, 0, none⟩)] enter43 rfl rfl rfl (rd1 q u c 5 _ t3.rd (by omega) (by omega)) ?_
        rintro _ wr2 ⟨rfl, rr2, fr2⟩
        refine ⟨_, rfl, ?_⟩
        have t4 := t3.read rr2 fr2
        first | refine WL.field rfl rfl rfl (f58_1 _ _) ?_ | refine WL.skip _ rfl rfl rfl ?_
        obtain ⟨ws7, sr7, sb7, sf7⟩ := stI t4.b4 (show 1 < 12 by decide) (pN c : Int)
        refine WL.store rfl rfl rfl sr7 ?_
        have t5 := t4.put (p' := ⟨pI c, pN c, 0, e8, .slice none 0 0⟩) sb7 sf7
        refine WL.done ?_
        refine EW.on ?_
        refine EW.seq ?_
        refine EW.region ?_
        first | refine WL.move rfl rfl rfl ?_
        refine WL.call [.pointer (some ⟨q, 0, none⟩)] enter43 rfl rfl rfl (rd1 q u c 6 _ t5.rd (by omega) (by omega)) ?_
        rintro _ wr3 ⟨rfl, rr3, fr3⟩
        refine ⟨_, rfl, ?_⟩
        have t6 := t5.read rr3 fr3
        first | refine WL.field rfl rfl rfl (f58_2 _ _) ?_ | refine WL.skip _ rfl rfl rfl ?_
        obtain ⟨ws8, sr8, sb8, sf8⟩ := stI t6.b4 (show 2 < 12 by decide) (pA c : Int)
        refine WL.store rfl rfl rfl sr8 ?_
        have t7 := t6.put (p' := ⟨pI c, pN c, pA c, e8, .slice none 0 0⟩) sb8 sf8
        refine WL.done ?_
        refine EW.on ?_
        refine EW.seq ?_
        refine EW.seq ?_
        have hM : pM c = 5 := by unfold pM; omega
        rcases (show pN c < 1 ∨ (1 ≤ pN c ∧ 64 < pN c) ∨ (1 ≤ pN c ∧ pN c ≤ 64 ∧ pN c ≤ pA c) ∨ (1 ≤ pN c ∧ pN c ≤ 64 ∧ pA c < pN c) by omega) with hC | ⟨hC, hD⟩ | ⟨hC, hD, hE⟩ | ⟨hC, hD, hE⟩
        · have ya : (pN c : Int) < 1 := by omega
          refine EW.region ?_
          first | refine WL.field rfl rfl rfl (f58_1 _ _) ?_ | refine WL.skip _ rfl rfl rfl ?_
          first | refine WL.load rfl rfl rfl (ldI t7.b4 (Pi.c1 _)) ?_ | refine WL.load rfl rfl rfl (ldI t7.b4 (Pi.c2 _)) ?_ | refine WL.skip _ rfl rfl rfl ?_
          first | refine WL.bin rfl rfl rfl rfl (int_lt_t ‹_› _ _ _) ?_ | refine WL.bin rfl rfl rfl rfl (int_lt_f ‹_› _ _ _) ?_ | refine WL.bin rfl rfl rfl rfl (int_lt_d _ _ _ _ _) ?_
          first | refine WL.move rfl rfl rfl ?_
          first | refine WL.field rfl rfl rfl (f58_1 _ _) ?_ | refine WL.skip _ rfl rfl rfl ?_
          first | refine WL.load rfl rfl rfl (ldI t7.b4 (Pi.c1 _)) ?_ | refine WL.load rfl rfl rfl (ldI t7.b4 (Pi.c2 _)) ?_ | refine WL.skip _ rfl rfl rfl ?_
          first | refine WL.bin rfl rfl rfl rfl (int_gt_t ‹_› _ _ _) ?_ | refine WL.bin rfl rfl rfl rfl (int_gt_f ‹_› _ _ _) ?_ | refine WL.bin rfl rfl rfl rfl (int_gt_d _ _ _ _ _) ?_ | refine WL.skip _ rfl rfl rfl ?_
          first | refine WL.pick rfl rfl rfl rfl ?_
          first | refine WL.move rfl rfl rfl ?_
          first | refine WL.field rfl rfl rfl (f58_2 _ _) ?_ | refine WL.skip _ rfl rfl rfl ?_
          first | refine WL.load rfl rfl rfl (ldI t7.b4 (Pi.c1 _)) ?_ | refine WL.load rfl rfl rfl (ldI t7.b4 (Pi.c2 _)) ?_ | refine WL.skip _ rfl rfl rfl ?_
          first | refine WL.field rfl rfl rfl (f58_1 _ _) ?_ | refine WL.skip _ rfl rfl rfl ?_
          first | refine WL.load rfl rfl rfl (ldI t7.b4 (Pi.c1 _)) ?_ | refine WL.load rfl rfl rfl (ldI t7.b4 (Pi.c2 _)) ?_ | refine WL.skip _ rfl rfl rfl ?_
          first | refine WL.bin rfl rfl rfl rfl (int_ge_t ‹_› _ _ _) ?_ | refine WL.bin rfl rfl rfl rfl (int_ge_f ‹_› _ _ _) ?_ | refine WL.bin rfl rfl rfl rfl (int_ge_d _ _ _ _ _) ?_ | refine WL.skip _ rfl rfl rfl ?_
          first | refine WL.pick rfl rfl rfl rfl ?_
          refine WL.done ?_
          refine EW.on ?_
          refine EW.cond_t rfl ?_
          refine EW.goto ?_
          refine pg_then ?_
          exact EW.jumps [2] rfl ⟨by unfold okP; rw [decide_eq_false (by omega)]; rfl, t7.b2, t7.be⟩
        · have ya : ¬ (pN c : Int) < 1 := by omega
          have yb : (64 : Int) < (pN c : Int) := by omega
          refine EW.region ?_
          first | refine WL.field rfl rfl rfl (f58_1 _ _) ?_ | refine WL.skip _ rfl rfl rfl ?_
          first | refine WL.load rfl rfl rfl (ldI t7.b4 (Pi.c1 _)) ?_ | refine WL.load rfl rfl rfl (ldI t7.b4 (Pi.c2 _)) ?_ | refine WL.skip _ rfl rfl rfl ?_
          first | refine WL.bin rfl rfl rfl rfl (int_lt_t ‹_› _ _ _) ?_ | refine WL.bin rfl rfl rfl rfl (int_lt_f ‹_› _ _ _) ?_ | refine WL.bin rfl rfl rfl rfl (int_lt_d _ _ _ _ _) ?_
          first | refine WL.move rfl rfl rfl ?_
          first | refine WL.field rfl rfl rfl (f58_1 _ _) ?_ | refine WL.skip _ rfl rfl rfl ?_
          first | refine WL.load rfl rfl rfl (ldI t7.b4 (Pi.c1 _)) ?_ | refine WL.load rfl rfl rfl (ldI t7.b4 (Pi.c2 _)) ?_ | refine WL.skip _ rfl rfl rfl ?_
          first | refine WL.bin rfl rfl rfl rfl (int_gt_t ‹_› _ _ _) ?_ | refine WL.bin rfl rfl rfl rfl (int_gt_f ‹_› _ _ _) ?_ | refine WL.bin rfl rfl rfl rfl (int_gt_d _ _ _ _ _) ?_ | refine WL.skip _ rfl rfl rfl ?_
          first | refine WL.pick rfl rfl rfl rfl ?_
          first | refine WL.move rfl rfl rfl ?_
          first | refine WL.field rfl rfl rfl (f58_2 _ _) ?_ | refine WL.skip _ rfl rfl rfl ?_
          first | refine WL.load rfl rfl rfl (ldI t7.b4 (Pi.c1 _)) ?_ | refine WL.load rfl rfl rfl (ldI t7.b4 (Pi.c2 _)) ?_ | refine WL.skip _ rfl rfl rfl ?_
          first | refine WL.field rfl rfl rfl (f58_1 _ _) ?_ | refine WL.skip _ rfl rfl rfl ?_
          first | refine WL.load rfl rfl rfl (ldI t7.b4 (Pi.c1 _)) ?_ | refine WL.load rfl rfl rfl (ldI t7.b4 (Pi.c2 _)) ?_ | refine WL.skip _ rfl rfl rfl ?_
          first | refine WL.bin rfl rfl rfl rfl (int_ge_t ‹_› _ _ _) ?_ | refine WL.bin rfl rfl rfl rfl (int_ge_f ‹_› _ _ _) ?_ | refine WL.bin rfl rfl rfl rfl (int_ge_d _ _ _ _ _) ?_ | refine WL.skip _ rfl rfl rfl ?_
          first | refine WL.pick rfl rfl rfl rfl ?_
          refine WL.done ?_
          refine EW.on ?_
          refine EW.cond_t rfl ?_
          refine EW.goto ?_
          refine pg_then ?_
          exact EW.jumps [2] rfl ⟨by unfold okP; rw [decide_eq_false (by omega)]; rfl, t7.b2, t7.be⟩
        · have ya : ¬ (pN c : Int) < 1 := by omega
          have yb : ¬ (64 : Int) < (pN c : Int) := by omega
          have yc : (pN c : Int) ≤ (pA c : Int) := by omega
          refine EW.region ?_
          first | refine WL.field rfl rfl rfl (f58_1 _ _) ?_ | refine WL.skip _ rfl rfl rfl ?_
          first | refine WL.load rfl rfl rfl (ldI t7.b4 (Pi.c1 _)) ?_ | refine WL.load rfl rfl rfl (ldI t7.b4 (Pi.c2 _)) ?_ | refine WL.skip _ rfl rfl rfl ?_
          first | refine WL.bin rfl rfl rfl rfl (int_lt_t ‹_› _ _ _) ?_ | refine WL.bin rfl rfl rfl rfl (int_lt_f ‹_› _ _ _) ?_ | refine WL.bin rfl rfl rfl rfl (int_lt_d _ _ _ _ _) ?_
          first | refine WL.move rfl rfl rfl ?_
          first | refine WL.field rfl rfl rfl (f58_1 _ _) ?_ | refine WL.skip _ rfl rfl rfl ?_
          first | refine WL.load rfl rfl rfl (ldI t7.b4 (Pi.c1 _)) ?_ | refine WL.load rfl rfl rfl (ldI t7.b4 (Pi.c2 _)) ?_ | refine WL.skip _ rfl rfl rfl ?_
          first | refine WL.bin rfl rfl rfl rfl (int_gt_t ‹_› _ _ _) ?_ | refine WL.bin rfl rfl rfl rfl (int_gt_f ‹_› _ _ _) ?_ | refine WL.bin rfl rfl rfl rfl (int_gt_d _ _ _ _ _) ?_ | refine WL.skip _ rfl rfl rfl ?_
          first | refine WL.pick rfl rfl rfl rfl ?_
          first | refine WL.move rfl rfl rfl ?_
          first | refine WL.field rfl rfl rfl (f58_2 _ _) ?_ | refine WL.skip _ rfl rfl rfl ?_
          first | refine WL.load rfl rfl rfl (ldI t7.b4 (Pi.c1 _)) ?_ | refine WL.load rfl rfl rfl (ldI t7.b4 (Pi.c2 _)) ?_ | refine WL.skip _ rfl rfl rfl ?_
          first | refine WL.field rfl rfl rfl (f58_1 _ _) ?_ | refine WL.skip _ rfl rfl rfl ?_
          first | refine WL.load rfl rfl rfl (ldI t7.b4 (Pi.c1 _)) ?_ | refine WL.load rfl rfl rfl (ldI t7.b4 (Pi.c2 _)) ?_ | refine WL.skip _ rfl rfl rfl ?_
          first | refine WL.bin rfl rfl rfl rfl (int_ge_t ‹_› _ _ _) ?_ | refine WL.bin rfl rfl rfl rfl (int_ge_f ‹_› _ _ _) ?_ | refine WL.bin rfl rfl rfl rfl (int_ge_d _ _ _ _ _) ?_ | refine WL.skip _ rfl rfl rfl ?_
          first | refine WL.pick rfl rfl rfl rfl ?_
          refine WL.done ?_
          refine EW.on ?_
          refine EW.cond_t rfl ?_
          refine EW.goto ?_
          refine pg_then ?_
          exact EW.jumps [2] rfl ⟨by unfold okP; rw [decide_eq_false (by omega)]; rfl, t7.b2, t7.be⟩
        · have ya : ¬ (pN c : Int) < 1 := by omega
          have yb : ¬ (64 : Int) < (pN c : Int) := by omega
          have yc : ¬ (pN c : Int) ≤ (pA c : Int) := by omega
          refine EW.region ?_
          first | refine WL.field rfl rfl rfl (f58_1 _ _) ?_ | refine WL.skip _ rfl rfl rfl ?_
          first | refine WL.load rfl rfl rfl (ldI t7.b4 (Pi.c1 _)) ?_ | refine WL.load rfl rfl rfl (ldI t7.b4 (Pi.c2 _)) ?_ | refine WL.skip _ rfl rfl rfl ?_
          first | refine WL.bin rfl rfl rfl rfl (int_lt_t ‹_› _ _ _) ?_ | refine WL.bin rfl rfl rfl rfl (int_lt_f ‹_› _ _ _) ?_ | refine WL.bin rfl rfl rfl rfl (int_lt_d _ _ _ _ _) ?_
          first | refine WL.move rfl rfl rfl ?_
          first | refine WL.field rfl rfl rfl (f58_1 _ _) ?_ | refine WL.skip _ rfl rfl rfl ?_
          first | refine WL.load rfl rfl rfl (ldI t7.b4 (Pi.c1 _)) ?_ | refine WL.load rfl rfl rfl (ldI t7.b4 (Pi.c2 _)) ?_ | refine WL.skip _ rfl rfl rfl ?_
          first | refine WL.bin rfl rfl rfl rfl (int_gt_t ‹_› _ _ _) ?_ | refine WL.bin rfl rfl rfl rfl (int_gt_f ‹_› _ _ _) ?_ | refine WL.bin rfl rfl rfl rfl (int_gt_d _ _ _ _ _) ?_ | refine WL.skip _ rfl rfl rfl ?_
          first | refine WL.pick rfl rfl rfl rfl ?_
          first | refine WL.move rfl rfl rfl ?_
          first | refine WL.field rfl rfl rfl (f58_2 _ _) ?_ | refine WL.skip _ rfl rfl rfl ?_
          first | refine WL.load rfl rfl rfl (ldI t7.b4 (Pi.c1 _)) ?_ | refine WL.load rfl rfl rfl (ldI t7.b4 (Pi.c2 _)) ?_ | refine WL.skip _ rfl rfl rfl ?_
          first | refine WL.field rfl rfl rfl (f58_1 _ _) ?_ | refine WL.skip _ rfl rfl rfl ?_
          first | refine WL.load rfl rfl rfl (ldI t7.b4 (Pi.c1 _)) ?_ | refine WL.load rfl rfl rfl (ldI t7.b4 (Pi.c2 _)) ?_ | refine WL.skip _ rfl rfl rfl ?_
          first | refine WL.bin rfl rfl rfl rfl (int_ge_t ‹_› _ _ _) ?_ | refine WL.bin rfl rfl rfl rfl (int_ge_f ‹_› _ _ _) ?_ | refine WL.bin rfl rfl rfl rfl (int_ge_d _ _ _ _ _) ?_ | refine WL.skip _ rfl rfl rfl ?_
          first | refine WL.pick rfl rfl rfl rfl ?_
          refine WL.done ?_
          refine EW.on ?_
          refine EW.cond_f rfl ?_
          refine EW.skip ?_
          refine EW.on ?_
          refine EW.seq ?_
          refine EW.region ?_
          first | refine WL.move rfl rfl rfl ?_
          refine WL.call [.pointer (some ⟨q, 0, none⟩), .int .i64 8] enter45 rfl rfl rfl (rfix_ok q 8 u c 7 _ t7.rd (by omega) (by omega)) ?_
          rintro _ wr5 ⟨x, rfl, ob5, rr5, fr5⟩
          refine ⟨_, rfl, ?_⟩
          have t8 := t7.read rr5 fr5
          obtain ⟨gx, cx, ex, lx⟩ := ob5.ld54 (by simp <;> omega)
          subst ex
          refine WL.s2a rfl rfl rfl (s2a54 _ _ _ (Nat.le_refl _) _) ?_
          refine WL.load rfl rfl rfl lx ?_
          first | refine WL.field rfl rfl rfl (f58_3 _ _) ?_ | refine WL.skip _ rfl rfl rfl ?_
          obtain ⟨ws10, sr10, sb10, sf10⟩ := t8.b4.stA (ty := 54) (vs := (pS c).map byt) (o := 3) (a := [u32v (pI c), .int .i64 (pN c : Int), .int .i64 (pA c : Int)]) (m := e8.map byt) (b := [.slice none 0 0]) (i54 hS) (byts_one' _) rfl rfl (by simp [hS, e8])
          refine WL.store rfl rfl rfl sr10 ?_
          have t9 := t8.put (p' := ⟨pI c, pN c, pA c, pS c, .slice none 0 0⟩) sb10 sf10
          refine WL.done ?_
          refine EW.on ?_
          refine EW.seq ?_
          refine EW.region ?_
          first | refine WL.move rfl rfl rfl ?_
          first | refine WL.move rfl rfl rfl ?_
          refine WL.call [.pointer (some ⟨q, 0, none⟩)] enter46 rfl rfl rfl (left_any q u c 15 0 _ t9.rd (by omega)) ?_
          rintro _ wr6 ⟨rfl, l6⟩
          refine ⟨_, rfl, ?_⟩
          have t10 := t9.on l6
          refine WL.call [.pointer (some ⟨q, 0, none⟩), .int .i64 ((c.length - 15 : Nat) : Int)] enter45 rfl rfl rfl (rfix_ok q (c.length - 15) u c 15 _ t10.rd (by omega) (by omega)) ?_
          rintro _ wr7 ⟨y, rfl, ob7, rr7, fr7⟩
          refine ⟨_, rfl, ?_⟩
          have t11 := t10.read rr7 fr7
          obtain ⟨ay, ny, cy, ey⟩ := ob7.has.sl
          have hny : ny = c.length - 15 := by
            have := ob7.has.slice
            obtain ⟨a1, c1, e1⟩ := this
            rw [ey] at e1; cases e1; simp <;> omega
          have hyo : ∀ k, y.ownBlock = some k → k ≠ g4 := fun k hk e => by
            have := ob7.base k hk
            have := t10.b4.lt
            omega
          first | refine WL.field rfl rfl rfl (f58_4 _ _) ?_ | refine WL.skip _ rfl rfl rfl ?_
          obtain ⟨ws11, sr11, sb11, sf11⟩ := t11.b4.stB (a := [u32v (pI c), .int .i64 (pN c : Int), .int .i64 (pA c : Int)] ++ (pS c).map byt) (x := .slice none 0 0) (b := []) (o := 11) (by simp [Pi.cs]) (by simp [hS]) y ⟨_, _, _, ey⟩
          refine WL.store rfl rfl rfl sr11 ?_
          have t12 := t11.put (p' := ⟨pI c, pN c, pA c, pS c, y⟩) (by simpa [Pi.cs] using sb11) sf11
          let P5 : Pi := ⟨pI c, pN c, pA c, pS c, y⟩
          have sh5 : P5.sh := ⟨hS, _, _, _, ey⟩
          have obY := ob7.fx sf11 (fun k hk e => hyo k e hk)
          refine WL.done ?_
          refine EW.on ?_
          refine EW.seq ?_
          refine EW.seq ?_
          refine EW.region ?_
          refine WL.load rfl rfl rfl (ld58 sh5 t12.b4) ?_
          refine WL.call [P5.val] enter47 rfl rfl rfl (fits_any P5 sh5 ny cy ay ey (by show 1 ≤ pN c; omega) (by show pN c ≤ 64; omega) _) ?_
          rintro _ w8 ⟨rfl, l8⟩
          refine ⟨_, rfl, ?_⟩
          have t13 := t12.on l8
          have ob8 := obY.below l8
          first | refine WL.un rfl rfl rfl (not_t _ _) ?_
          refine WL.done ?_
          refine EW.on ?_
          refine EW.cond_b rfl (fun h55 => ?_) (fun h55 => ?_)
          · refine EW.goto ?_
            refine pg_then ?_
            exact EW.jumps [2] rfl ⟨by unfold okP; rw [← hny]; rw [show fitB (pN c) (pA c) ny = false by simpa using h55, Bool.and_false], t13.b2, t13.be⟩
          · refine EW.skip ?_
            refine EW.on ?_
            refine EW.seq ?_
            refine EW.seq ?_
            refine EW.region ?_
            refine WL.load rfl rfl rfl (ld58 sh5 t13.b4) ?_
            obtain ⟨ws13, sr13, sb13, sf13⟩ := st58 sh5 Pi.z_sh t13.b2
            refine WL.store rfl rfl rfl sr13 ?_
            first | refine WL.assign rfl rfl rfl ?_
            refine WL.done ?_
            refine EW.on ?_
            refine EW.ret ?_
            refine pr_then ?_
            refine pr_jump ?_
            exact EW.returnsCT Tryd.results22 rfl rfl sb13 Tryd.underlying58 rfl (i58 sh5) (.inr ⟨by unfold okP; rw [decide_eq_true ⟨by omega, by omega, hM, by omega, by omega, by omega⟩, Bool.true_and, ← hny]; simpa using h55, y, rfl, ((ob8.fx sf13 (fun k hk e => by have := ob7.base k e; have := t10.b2.lt; have e' : k = g2 := hk; omega)).lower (by have := t10.be.size; omega)), t13.be.trans (sf13.below (fun k hk e => by have e' : k = g2 := e; omega) t13.be.size)⟩)
  · intro wj hj
    have hg2' : w.heap.size ≤ g2 := by omega
    show EW _ _ _ _ [(2, .pointer (some ⟨g2, 0, none⟩))] _
    refine EW.seq ?_
    refine EW.skip ?_
    refine EW.on ?_
    refine EW.seq ?_
    refine EW.region ?_
    refine WL.build0 rfl rfl (bd58 _) ?_
    obtain ⟨ws14, sr14, sb14, sf14⟩ := st58 Pi.z_sh Pi.z_sh hj.2.1
    refine WL.store rfl rfl rfl sr14 ?_
    first | refine WL.assign rfl rfl rfl ?_
    refine WL.done ?_
    refine EW.on ?_
    refine EW.ret ?_
    refine pr_jump ?_
    exact EW.returnsCT Tryd.results22 rfl rfl sb14 Tryd.underlying58 rfl (i58 Pi.z_sh) (.inl ⟨hj.1, rfl, hj.2.2.trans (sf14.below (fun k hk e => by have e' : k = g2 := e; omega) hj.2.2.size)⟩)
end Go.Proofs.YtiefgmgjlhjjhaaDoor
