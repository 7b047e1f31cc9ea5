import Derived.Test.YteghbkeaojbdgaaPd
set_option linter.unusedVariables false
set_option linter.unusedSimpArgs false
namespace Go.Proofs.Yteghbkeaojbdgaa
open Go.RowKit

/-- A record as data. -/
structure Rc where
  t : Int
  k : List UInt8
  v : List UInt8
deriving DecidableEq
def RV.d (r : RV) : Rc := ⟨r.t, r.k, r.v⟩
theorem RV.same.d {r s : RV} (h : r.same s) : r.d = s.d := by
  obtain ⟨h1, h2, h3⟩ := h
  unfold RV.d
  rw [h1, h2, h3]
theorem len83 (ao : Option Addr) (n c : Nat) (W : World) (ty : TypeId) : (Builtin.len_ #[83] ty #[.slice ao n c]).run Try.prog W = .ok (.int .i64 (n : Int)) W := by go_simp
theorem idx83 (q n c m : Nat) (h : m < n) (W : World) : (Instr.indexAt 83 (.slice (some ⟨q, 0, none⟩) n c) (.int .i64 (m : Int))).run Try.prog W = .ok (.pointer (some ⟨q, m, none⟩)) W := by
  have hm : (m : Int) < (n : Int) := by omega
  go_simp
  try simp
  try rw [add_plain]
/-- Parts that are handed on. -/
structure Pts (w : World) (q : Nat) (ps : List (Value × List RV)) : Prop where
  bl : Blk w q (ps.map (·.1)) 23
  ls : ∀ p ∈ ps, Ls w p.1 p.2
  sm : ∀ p ∈ ps, ∀ r ∈ p.2, r.k.length ≤ 140737488355328 ∧ r.v.length ≤ 140737488355328
theorem Pts.below {w w' : World} {q : Nat} {ps : List (Value × List RV)} (h : Pts w q ps) (hb : Below w.heap.size w w') : Pts w' q ps := ⟨h.bl.on hb, fun p hp => (h.ls p hp).below hb, h.sm⟩
def flatP (ps : List (Value × List RV)) : List RV := ps.flatMap (·.2)
theorem flatP_take (ps : List (Value × List RV)) (a : Nat) (p : Value × List RV) (h : ps[a]? = some p) : flatP (ps.take (a + 1)) = flatP (ps.take a) ++ p.2 := by
  rw [List.take_add_one, h]
  simp [flatP]
theorem flatP_le (ps : List (Value × List RV)) (a : Nat) (p : Value × List RV) (h : ps[a]? = some p) : (flatP (ps.take a)).length + p.2.length ≤ (flatP ps).length := by
  have h1 := flatP_take ps a p h
  have h2 : flatP ps = flatP (ps.take (a + 1)) ++ flatP (ps.drop (a + 1)) := by
    unfold flatP
    rw [← List.flatMap_append, List.take_append_drop]
  rw [h2, h1, List.length_append, List.length_append]
  omega
def coE (q n c : Nat) (x : Nat × Value × List RV) : List (Nat × Value) := [(3, x.2.1), (8, .slice (some ⟨q, 0, none⟩) n c), (9, .int .i64 (n : Int)), (10, .int .i64 (x.1 : Int))]
def CoR (w : World) (ps : List (Value × List RV)) (x : Nat × Value × List RV) (W : World) : Prop := Below w.heap.size w W ∧ x.1 ≤ ps.length ∧ Ol W w.heap.size x.2.1 x.2.2 ∧ x.2.2.map RV.d = (flatP (ps.take x.1)).map RV.d
def ciE (q n c a m : Nat) (pv : Value) (x : Nat × Value × List RV) : List (Nat × Value) := [(3, x.2.1), (8, .slice (some ⟨q, 0, none⟩) n c), (9, .int .i64 (n : Int)), (10, .int .i64 (a : Int)), (14, pv), (15, .int .i64 (m : Int)), (16, .int .i64 (x.1 : Int))]
def CiR (w : World) (pre rs : List RV) (x : Nat × Value × List RV) (W : World) : Prop := Below w.heap.size w W ∧ x.1 ≤ rs.length ∧ Ol W w.heap.size x.2.1 x.2.2 ∧ x.2.2.map RV.d = (pre ++ rs.take x.1).map RV.d
theorem d_len {xs ys : List RV} (h : xs.map RV.d = ys.map RV.d) : xs.length = ys.length := by
  have := congrArg List.length h
  simpa using this
theorem own_lt {w : World} {v : Value} {n : Nat} {xs : List Value} (h : w.ownsRow 0 32 3 v n xs) {k : Nat} (hk : v.ownBlock = some k) : k < w.heap.size := by
  obtain ⟨_, ⟨rfl, _⟩ | ⟨g, cp, cur, rfl, hg, hh2, _⟩⟩ := h
  · cases hk
  · simp only [Value.ownBlock, Option.some.injEq] at hk
    subst hk
    rcases Nat.lt_or_ge g w.heap.size with hl | hl
    · exact hl
    · rw [Array.getElem?_eq_none hl] at hh2; cases hh2
set_option maxRecDepth 100000 in
set_option maxHeartbeats 1000000 in
theorem copied_any (q c : Nat) (ps : List (Value × List RV)) (w : World) (hP : Pts w q ps) (hn : ps.length ≤ 1000) (hl : (flatP ps).length ≤ 400000000) : Calls Try.prog 39 #[.slice (some ⟨q, 0, none⟩) ps.length c] w fun e w' => ∃ v rs, e = .returned v ∧ Ls w' v rs ∧ rs.map RV.d = (flatP ps).map RV.d ∧ Below w.heap.size w w' := by
  refine calls_of_args [.slice (some ⟨q, 0, none⟩) ps.length c] Try.func39 rfl 28 Try.ntmps39 (by show 1 ≤ 28; decide) ?_
  refine EW.seq ?_
  refine EW.region ?_
  first | refine WL.assign rfl rfl rfl ?_
  refine WL.done ?_
  refine EW.on ?_
  refine EW.seq ?_
  refine EW.region ?_
  first | refine WL.assign rfl rfl rfl ?_
  refine WL.done ?_
  refine EW.on ?_
  refine EW.seq ?_
  refine EW.seq ?_
  refine EW.region ?_
  first | refine WL.move rfl rfl rfl ?_
  first | refine WL.len rfl rfl rfl (len83 _ _ _ _ _) ?_ | refine WL.len rfl rfl rfl (hpl.len _ _) ?_
  first | refine WL.move rfl rfl rfl ?_
  refine WL.done ?_
  refine EW.on ?_
  refine EW.block ?_
  refine EW.loop (coE q ps.length c) (CoR w ps) (fun x => ps.length - x.1) (0, .slice none 0 0, []) [3, 8, 9, 10] rfl ⟨Below.refl _ _, Nat.zero_le _, Ol.nil _ _, rfl⟩ ?_
  rintro ⟨a, va, acc⟩ wo ⟨hbe, hal, ho, hd⟩
  dsimp only at hal ho hd
  show EW _ _ _ _ [(3, va), (8, .slice (some ⟨q, 0, none⟩) ps.length c), (9, .int .i64 (ps.length : Int)), (10, .int .i64 (a : Int))] _
  refine EW.seq ?_
  refine EW.region ?_
  first | refine WL.bin rfl rfl rfl rfl (int_lt_t ‹_› _ _ _) ?_ | refine WL.bin rfl rfl rfl rfl (int_lt_f ‹_› _ _ _) ?_ | refine WL.bin rfl rfl rfl rfl (int_lt_d _ _ _ _ _) ?_
  refine WL.done ?_
  refine EW.on ?_
  refine EW.seq ?_
  refine EW.cond_d rfl (fun h11 => ?_) (fun h11 => ?_)
  · refine EW.skip ?_
    refine EW.on ?_
    refine EW.seq ?_
    refine EW.block ?_
    refine EW.seq ?_
    have ha : a < ps.length := by omega
    obtain ⟨p, hp⟩ : ∃ p, ps[a]? = some p := ⟨_, List.getElem?_eq_getElem ha⟩
    have hpm : p ∈ ps := List.mem_of_getElem? hp
    have hle := flatP_le ps a p hp
    have hsm := hP.sm p hpm
    have hpl0 := hP.ls p hpm
    have hpl := hpl0
    have an : IntKind.i64.wrap ((a : Int) + 1) = ((a + 1 : Nat) : Int) := by rw [IntKind.wrap_i64]; omega
    refine EW.region ?_
    first | refine WL.index rfl rfl rfl rfl (idx83 _ _ _ _ ha _) ?_ | refine WL.index rfl rfl rfl rfl (ix _) ?_
    refine WL.load rfl rfl rfl (ldL (hP.bl.on hbe) (by rw [List.getElem?_map, hp]; rfl)) ?_
    first | refine WL.assign rfl rfl rfl ?_
    refine WL.done ?_
    refine EW.on ?_
    refine EW.seq ?_
    refine EW.region ?_
    first | refine WL.move rfl rfl rfl ?_
    first | refine WL.len rfl rfl rfl (len83 _ _ _ _ _) ?_ | refine WL.len rfl rfl rfl (hpl.len _ _) ?_
    first | refine WL.move rfl rfl rfl ?_
    refine WL.done ?_
    refine EW.on ?_
    refine EW.block ?_
    refine EW.loop (ciE q ps.length c a p.2.length p.1) (CiR w (flatP (ps.take a)) p.2) (fun x => p.2.length - x.1) (0, va, acc) [3, 8, 9, 10, 14, 15, 16] rfl ⟨hbe, Nat.zero_le _, ho, by rw [List.take_zero, List.append_nil]; exact hd⟩ ?_
    clear hbe hd ho
    rintro ⟨t, vi, acci⟩ wi ⟨hbei, htl, hoi, hdi⟩
    dsimp only at htl hoi hdi
    show EW _ _ _ _ [(3, vi), (8, .slice (some ⟨q, 0, none⟩) ps.length c), (9, .int .i64 (ps.length : Int)), (10, .int .i64 (a : Int)), (14, p.1), (15, .int .i64 (p.2.length : Int)), (16, .int .i64 (t : Int))] _
    refine EW.seq ?_
    refine EW.region ?_
    first | refine WL.bin rfl rfl rfl rfl (int_lt_t ‹_› _ _ _) ?_ | refine WL.bin rfl rfl rfl rfl (int_lt_f ‹_› _ _ _) ?_ | refine WL.bin rfl rfl rfl rfl (int_lt_d _ _ _ _ _) ?_
    refine WL.done ?_
    refine EW.on ?_
    refine EW.seq ?_
    refine EW.cond_d rfl (fun h17 => ?_) (fun h17 => ?_)
    · refine EW.skip ?_
      refine EW.on ?_
      refine EW.seq ?_
      refine EW.block ?_
      refine EW.seq ?_
      have hbe := hbei
      have ho := hoi
      have hd := hdi
      have ht : t < p.2.length := by omega
      obtain ⟨x, hx⟩ : ∃ x, p.2[t]? = some x := ⟨_, List.getElem?_eq_getElem ht⟩
      have hxm : x ∈ p.2 := List.mem_of_getElem? hx
      have hpw := hpl0.below hbe
      obtain ⟨adx, ix, ax⟩ := hpw.item hx
      have okx := hpw.ok x hxm
      have tn : IntKind.i64.wrap ((t : Int) + 1) = ((t + 1 : Nat) : Int) := by rw [IntKind.wrap_i64]; omega
      refine EW.region ?_
      first | refine WL.index rfl rfl rfl rfl (idx83 _ _ _ _ ha _) ?_ | refine WL.index rfl rfl rfl rfl (ix _) ?_
      first | refine WL.load rfl rfl rfl (ldA ax) ?_ | refine WL.load rfl rfl rfl (ld32 b4) ?_
      obtain ⟨w3, q3, r3, b3, be3, hq3⟩ := new32 wi
      refine WL.new rfl rfl r3 ?_
      obtain ⟨w4, s1, b4, s3⟩ := st32 b3 rfl okx.one
      refine WL.store rfl rfl rfl s1 ?_
      have be4 : Below wi.heap.size wi w4 := be3.trans (s3.below (fun k hk e => by omega) be3.size)
      refine WL.done ?_
      refine EW.on ?_
      refine EW.region ?_
      first | refine WL.move rfl rfl rfl ?_
      first | refine WL.load rfl rfl rfl (ldA ax) ?_ | refine WL.load rfl rfl rfl (ld32 b4) ?_
      refine WL.call [x.val] enter49 rfl rfl rfl (own_any x _ (okx.below be4) (hsm x hxm).1 (hsm x hxm).2) ?_
      rintro _ w5 ⟨r', rfl, ok5, sm5, f1, f2, be5⟩
      refine ⟨_, rfl, ?_⟩
      refine WL.bslN [(0, r'.val)] rfl rfl rfl (bsl23 r' _) ?_
      have be6 := below_new w5 (.cells r'.cs.toArray 32)
      have b45 := be4.trans (be5.mono be4.size)
      have b46 := b45.trans (be6.mono b45.size)
      obtain ⟨v', w7, a1, a2, a3⟩ := (ho.below b46).push (by have := hbe.size; have := b46.size; omega) (by have := d_len hd; simp at this; omega) r' w5.heap.size 1 (Blk.new _ _ _) (ok5.below be6) (fun k hk => by have := own_lt ho.row hk; have := be4.size; exact ⟨f1.off (by omega), f2.off (by omega)⟩) 23
      refine WL.app rfl rfl rfl rfl a1 ?_
      first | refine WL.assign rfl rfl rfl ?_
      refine WL.done ?_
      refine pn_block ?_
      refine EW.on ?_
      refine EW.region ?_
      first | refine WL.bin rfl rfl rfl rfl (int_add ‹_› _ _ _) ?_
      first | refine WL.move rfl rfl rfl ?_
      refine WL.done ?_
      refine EW.again (E := ciE q ps.length c a p.2.length p.1) (R := CiR w (flatP (ps.take a)) p.2) (m := fun x => p.2.length - x.1) (x := (t, vi, acci)) (t + 1, v', acci ++ [r']) [3, 8, 9, 10, 14, 15, 16] rfl ⟨?_, by show t + 1 ≤ p.2.length; omega, a2, ?_⟩ (by show p.2.length - (t + 1) < p.2.length - t; omega)
      · have b1 := hbe.trans (b46.mono hbe.size)
        exact b1.trans (a3.below (fun k hk e => by have := ho.base k e; omega) b1.size)
      · show (acci ++ [r']).map RV.d = _
        rw [List.map_append, hdi, List.take_add_one, hx, ← List.append_assoc, List.map_append (l₁ := flatP _ ++ _)]
        simp [sm5.d]
    · refine EW.exit ?_
      refine px_then ?_
      refine px_then ?_
      refine px_block ?_
      refine pn_block ?_
      refine EW.on ?_
      refine EW.region ?_
      first | refine WL.bin rfl rfl rfl rfl (int_add ‹_› _ _ _) ?_
      first | refine WL.move rfl rfl rfl ?_
      refine WL.done ?_
      refine EW.again (E := coE q ps.length c) (R := CoR w ps) (m := fun x => ps.length - x.1) (x := (a, va, acc)) (a + 1, vi, acci) [3, 8, 9, 10] rfl ⟨hbei, by show a + 1 ≤ ps.length; omega, hoi, ?_⟩ (by show ps.length - (a + 1) < ps.length - a; omega)
      show acci.map RV.d = _
      rw [hdi, flatP_take ps a p hp, show p.2.take t = p.2 from List.take_of_length_le (by omega)]
  · refine EW.exit ?_
    refine px_then ?_
    refine px_then ?_
    refine px_block ?_
    refine EW.on ?_
    refine EW.seq ?_
    refine EW.region ?_
    first | refine WL.move rfl rfl rfl ?_
    first | refine WL.assign rfl rfl rfl ?_
    refine WL.done ?_
    refine EW.on ?_
    refine EW.ret ?_
    exact EW.returns Try.results39 rfl ⟨va, acc, rfl, ho.ls, by rw [hd, List.take_of_length_le (by omega)], hbe⟩
end Go.Proofs.Yteghbkeaojbdgaa
