import Derived.Test.YthfcabhelldokaaKsG
import Derived.Test.YthfcabhelldokaaKd
set_option linter.unusedVariables false
set_option linter.unusedSimpArgs false
namespace Go.Proofs.Ythfcabhelldokaa
open Go.RowKit

section
variable {P : Program} {n : Nat} {ops : Array Oper} {Q : Exit → Act → World → Prop} {i : Nat} {ty : TypeId} {ps : String} {af : Array Edge} {gd : Option (Nat × Bool)} {r : List Oper} {e : List (Nat × Value)} {w w' : World}
theorem WL.bsl {t : TypeId} {m : Nat} {x : Operand} {u v : Value} (hw : wantE ops e ⟨some i, .buildSlice t m #[(0, x)], ty, ps, af, gd⟩ = some true) (hi : decide (i < n) = true) (hx : evE e x = some u) (hr : (Instr.buildSlice t m #[(0, u)]).run P w = .ok v w') (k : WL P n ops Q r ((i, v) :: e) w') : WL P n ops Q (⟨some i, .buildSlice t m #[(0, x)], ty, ps, af, gd⟩ :: r) e w :=
  WL.op i v hw rfl hi (fun a ha => by
    unfold execOp
    simp only [List.map_toArray, List.map_cons, List.map_nil, ha.ev hx, Sem.run_bind, hr, Result.andThen_ok, Sem.run_pure]) k
theorem WL.app {t : TypeId} {x y : Operand} {u u' v : Value} (hw : wantE ops e ⟨some i, .call { callee := .builtin .append, args := #[x, y], argTypes := #[t, t] }, ty, ps, af, gd⟩ = some true) (hi : decide (i < n) = true) (hx : evE e x = some u) (hy : evE e y = some u') (hr : (Builtin.append_ #[t, t] ty #[u, u']).run P w = .ok v w') (k : WL P n ops Q r ((i, v) :: e) w') : WL P n ops Q (⟨some i, .call { callee := .builtin .append, args := #[x, y], argTypes := #[t, t] }, ty, ps, af, gd⟩ :: r) e w :=
  WL.op i v hw rfl hi (fun a ha => by simp [execOp, resolve, invoke, builtin, ha.ev hx, ha.ev hy, hr, Result.andThen]) k
end
theorem toList_loop (bs : ByteArray) : ∀ (k i : Nat) (r : List UInt8), bs.size - i = k → ByteArray.toList.loop bs i r = r.reverse ++ bs.data.toList.drop i
  | 0, i, r, h => by
    unfold ByteArray.toList.loop
    have hl : bs.data.toList.length = bs.size := Array.length_toList
    rw [if_neg (by omega), List.drop_eq_nil_of_le (by omega), List.append_nil]
  | k + 1, i, r, h => by
    unfold ByteArray.toList.loop
    have hi : i < bs.size := by omega
    have hl : bs.data.toList.length = bs.size := Array.length_toList
    rw [if_pos hi, toList_loop bs k (i + 1) _ (by omega), List.reverse_cons, List.append_assoc]
    congr 1
    have hil : i < bs.data.toList.length := by omega
    rw [List.drop_eq_getElem_cons hil]
    have hg : bs.get! i = bs.data.toList[i]'hil := by
      have h2 : i < bs.data.size := hi
      show bs.data[i]! = _
      rw [getElem!_pos bs.data i h2, Array.getElem_toList]
    rw [hg]
    rfl
theorem toList_data (bs : ByteArray) : bs.toList = bs.data.toList := by
  unfold ByteArray.toList
  rw [toList_loop bs _ 0 [] rfl]
  simp
theorem toList_inj {s s' : ByteArray} (h : s.toList = s'.toList) : s = s' := by
  rw [toList_data, toList_data] at h
  exact ByteArray.ext (Array.toList_inj.1 h)
theorem str_eq_f {s s' : ByteArray} (h : ¬ s = s') (W : World) (x y : Operand) : (do eqGuard .eql 9 x y (.string s) (.string s'); binOp .eql 9 (.string s) (.string s') : Sem Value).run Try.prog W = .ok (.bool false) W := by
  have h2 : ¬ s.toList = s'.toList := fun e => h (toList_inj e)
  go_simp
theorem len29 (ad : Option Addr) (n cap : Nat) (W : World) (ty : TypeId) : (Builtin.len_ #[29] ty #[.slice ad n cap]).run Try.prog W = .ok (.int .i64 (n : Int)) W := by go_simp
def strs (l : List (List UInt8)) : List ByteArray := l.map fun b => ⟨b.toArray⟩
theorem manyT_length (pen : List (Nat × List UInt8)) (i : Nat) (b0 : List UInt8) : ∀ t, (manyT pen i b0 t).length ≤ t + 1
  | 0 => by simp [manyT]
  | t + 1 => by
    have := manyT_length pen i b0 t
    unfold manyT
    split
    · simp; omega
    · omega
/-- The list of what may stand there, of the call's own. -/
structure Alls (W W' : World) (va : Value) (l : List (List UInt8)) : Prop where
  be : Below W.heap.size W W'
  own : W'.ownsRow 0 9 1 va (strs l).length ((strs l).map Value.string)
  hi : ∀ k, va.ownBlock = some k → W.heap.size ≤ k
theorem Alls.below {W W' W2 : World} {va : Value} {l : List (List UInt8)} (h : Alls W W' va l) (hb : Below W'.heap.size W' W2) : Alls W W2 va l := ⟨h.be.trans (hb.mono h.be.size), ownsRow_fx h.own (Fx.of_below (S := fun _ => False) hb) (fun _ _ s => s), h.hi⟩
/-- One more. -/
theorem Alls.push {W W' : World} {va : Value} {l : List (List UInt8)} (h : Alls W W' va l) (hl : l.length ≤ 1000001) (b : List UInt8) (ty : TypeId) : ∃ w1 v' w2, (Instr.buildSlice 29 1 #[(0, .string ⟨b.toArray⟩)]).run Try.prog W' = .ok (.slice (some ⟨W'.heap.size, 0, none⟩) 1 1) w1 ∧ (Builtin.append_ #[29, 29] ty #[va, .slice (some ⟨W'.heap.size, 0, none⟩) 1 1]).run Try.prog w1 = .ok v' w2 ∧ Alls W w2 v' (l ++ [b]) := by
  have be1 : Below W'.heap.size W' (W'.alloc (.cells [Value.string ⟨b.toArray⟩].toArray 9)) := below_new _ _
  have h1 := h.below be1
  obtain ⟨i0, hi, hz0, hz1, hz2⟩ := info_parts Try.info9
  have hB : Blk (W'.alloc (.cells [Value.string ⟨b.toArray⟩].toArray 9)) W'.heap.size [Value.string ⟨b.toArray⟩] 9 := Blk.new _ _ _
  obtain ⟨v', w2, hr, ho, hg, hn⟩ := run_appx (W'.alloc (.cells [Value.string ⟨b.toArray⟩].toArray 9)) 29 ty 9 i0 _ 1 16 Try.underlying29 hi hz0 hz1 hz2 (by simp [Value.cells]) (by decide) va _ _ h1.own ⟨W'.heap.size, 0, none⟩ 1 1 [Value.string ⟨b.toArray⟩] rfl
    (fun j u hu => by rw [add_plain, hB.cell]; exact hu) (fun u hu => by
      simp only [List.mem_cons, List.not_mem_nil, or_false] at hu
      subst hu; rfl) (by simp [strs]; omega) (by omega)
  have f := grown_fx hg
  refine ⟨_, v', w2, bs29 _ _, hr, h1.be.trans (f.below (fun k hk e => by have := h1.hi k e; omega) h1.be.size), ?_, fun k hk => ?_⟩
  · have e1 : (strs (l ++ [b])).length = (strs l).length + 1 := by simp [strs]
    have e2 : (strs (l ++ [b])).map Value.string = (strs l).map Value.string ++ [Value.string ⟨b.toArray⟩] := by simp [strs]
    rw [e1, e2]
    exact ho
  · rcases hn k hk with e | e
    · exact h.hi k e
    · have := h1.be.size; simp at e; have := h.be.size; omega
theorem tnM2 (t m : Nat) (h : t < m) (hm : m ≤ 1000001) : IntKind.i64.wrap ((t : Int) + 1) = ((t + 1 : Nat) : Int) := by rw [IntKind.wrap_i64]; omega
def maE (pv i : Nat) (vb : Value) (tb : Bool) (x : Nat × Value) : List (Nat × Value) := [(0, .pointer (some ⟨pv, 0, none⟩)), (1, .int .i64 (i : Int)), (2, vb), (3, .bool tb), (9, x.2), (10, .int .i64 (x.1 : Int))]
def mbE (vb : Value) (tb : Bool) (va : Value) (t : Nat) : List (Nat × Value) := [(2, vb), (3, .bool tb), (9, va), (11, .int .i64 (t : Int))]
set_option maxRecDepth 100000 in
theorem may_whole {W : World} {pv p : Nat} {vi vl : Value} {ims : List ByteArray} {gs : List Nat} {pen : List (Nat × List UInt8)} (h : Bk W pv p vi vl ims gs pen) (i : Nat) (b0 : List UInt8) (hi : ims[i]? = some ⟨b0.toArray⟩) (vb : Value) (bs : List UInt8) (hb : Has W vb bs) (tb : Bool)
    (hw : bs ∈ manyT pen i b0 pen.length) :
    Calls Try.prog 61 #[.pointer (some ⟨pv, 0, none⟩), .int .i64 (i : Int), vb, .bool tb] W fun e w' => e = .returned (.bool true) ∧ Below W.heap.size W w' := by
  have r1 := (h.bl.cell 1).trans (show _ = some vi from rfl)
  obtain ⟨gi, _, hix, hci⟩ := im_item h.im i _ hi
  have hlen := pen_len h.pl
  have A0 : Alls W W (.slice none 0 0) [] := ⟨Below.refl _ _, ⟨rfl, .inl ⟨rfl, rfl⟩⟩, fun k hk => by simp [Value.ownBlock] at hk⟩
  obtain ⟨w1, va0, w2, hr1, hr2, A1⟩ := A0.push (by simp) b0 29
  refine calls_of_args [.pointer (some ⟨pv, 0, none⟩), .int .i64 (i : Int), vb, .bool tb] Try.func61 rfl 97 Try.ntmps61 (by show 4 ≤ 97; decide) ?_
  refine EW.seq ?_
  refine EW.region ?_
  first | refine WL.assign rfl rfl rfl ?_
  refine WL.done ?_
  refine EW.on ?_
  refine EW.seq ?_
  refine EW.region ?_
  first | refine WL.assign rfl rfl rfl ?_
  refine WL.done ?_
  refine EW.on ?_
  refine EW.seq ?_
  refine EW.region ?_
  first | refine WL.move rfl rfl rfl ?_
  first | refine WL.move rfl rfl rfl ?_
  first | refine WL.nilc rfl rfl rfl ?_
  first | refine WL.field rfl rfl rfl (fld32_1 _ _) ?_
  refine WL.load rfl rfl rfl (ld29 r1) ?_
  first | refine WL.move rfl rfl rfl ?_
  refine WL.index rfl rfl rfl rfl (hix _) ?_
  refine WL.load rfl rfl rfl (ld9 hci) ?_
  refine WL.bsl rfl rfl rfl hr1 ?_
  refine WL.app rfl rfl rfl rfl hr2 ?_
  first | refine WL.assign rfl rfl rfl ?_
  refine WL.done ?_
  refine EW.on ?_
  refine EW.seq ?_
  refine EW.seq ?_
  refine EW.region ?_
  first | refine WL.assign rfl rfl rfl ?_
  refine WL.done ?_
  refine EW.on ?_
  refine EW.block ?_
  refine EW.loop (maE pv i vb tb) (fun x w' => x.1 ≤ pen.length ∧ Alls W w' x.2 (manyT pen i b0 x.1)) (fun x => pen.length - x.1) (0, va0) [0, 1, 2, 3, 9, 10] rfl ⟨Nat.zero_le _, A1⟩ ?_
  rintro ⟨t, va⟩ wr ⟨htn, hA⟩
  have htn : t ≤ pen.length := htn
  have hA : Alls W wr va (manyT pen i b0 t) := hA
  show EW _ _ _ _ [(0, .pointer (some ⟨pv, 0, none⟩)), (1, .int .i64 (i : Int)), (2, vb), (3, .bool tb), (9, va), (10, .int .i64 (t : Int))] _
  have Br := h.below hA.be
  have r2 := (Br.bl.cell 2).trans (show _ = some vl from rfl)
  by_cases hl1 : t < pen.length
  · have z1 : (t : Int) < (pen.length : Int) := Int.ofNat_lt.2 hl1
    have tn := tnM t _ hl1 h.few
    obtain ⟨x, hx⟩ : ∃ x, pen[t]? = some x := ⟨pen[t]'hl1, List.getElem?_eq_getElem _⟩
    obtain ⟨gb, hgb⟩ : ∃ g, gs[t]? = some g := ⟨gs[t]'(by rw [h.gsl]; exact hl1), List.getElem?_eq_getElem _⟩
    obtain ⟨gp, _, hpx, hrg⟩ := pen_item Br.pl t gb x hgb hx
    have q0 : wr.cell? ⟨gp, t * 2, none⟩ = some (.int .i64 (x.1 : Int)) := hrg 0 _ rfl
    have q1 : wr.cell? ⟨gp, t * 2 + 1, none⟩ = some (.slice (some ⟨gb, 0, none⟩) 512 512) := hrg 1 _ rfl
    have qc := (Blk.hasB (Br.bys t gb x hgb hx) (h.sec x (List.mem_of_getElem? hx))).convert
    have hge : pen.getD t (0, []) = x := by rw [List.getD_eq_getElem?_getD, hx]; rfl
    obtain ⟨wa, va2, wb, k1, k2, k3⟩ := hA.push (by have := manyT_length pen i b0 t; have := h.few; omega) x.2 29
    by_cases hkk : x.1 = i
    · have hkz : (x.1 : Int) = (i : Int) := Int.ofNat_inj.2 hkk
      refine EW.seq ?_
      refine EW.seq ?_
      refine EW.region ?_
      first | refine WL.move rfl rfl rfl ?_
      first | refine WL.move rfl rfl rfl ?_
      first | refine WL.nilc rfl rfl rfl ?_
      first | refine WL.field rfl rfl rfl (fld32_2 _ _) ?_
      refine WL.load rfl rfl rfl (ld30 r2) ?_
      refine WL.len rfl rfl rfl (hlen _ _) ?_
      first | refine WL.bin rfl rfl rfl rfl (int_lt_t ‹_› _ _ _) ?_ | refine WL.bin rfl rfl rfl rfl (int_lt_f ‹_› _ _ _) ?_
      refine WL.done ?_
      refine EW.on ?_
      refine EW.cond_t rfl ?_
      refine EW.skip ?_
      refine EW.on ?_
      refine EW.seq ?_
      refine EW.block ?_
      refine EW.seq ?_
      refine EW.region ?_
      first | refine WL.move rfl rfl rfl ?_
      first | refine WL.nilc rfl rfl rfl ?_
      first | refine WL.field rfl rfl rfl (fld32_2 _ _) ?_
      refine WL.load rfl rfl rfl (ld30 r2) ?_
      first | refine WL.move rfl rfl rfl ?_
      refine WL.index rfl rfl rfl rfl (hpx _) ?_
      refine WL.field rfl rfl rfl (fld78_0 _ _ _) ?_
      refine WL.load rfl rfl rfl (ld3 q0) ?_
      first | refine WL.move rfl rfl rfl ?_
      first | refine WL.bin rfl rfl rfl rfl (int_eq_t ‹_› _ _ _) ?_ | refine WL.bin rfl rfl rfl rfl (int_eq_f ‹_› _ _ _) ?_
      refine WL.done ?_
      refine EW.on ?_
      refine EW.cond_t rfl ?_
      refine EW.region ?_
      first | refine WL.move rfl rfl rfl ?_
      first | refine WL.move rfl rfl rfl ?_
      first | refine WL.nilc rfl rfl rfl ?_
      first | refine WL.field rfl rfl rfl (fld32_2 _ _) ?_
      refine WL.load rfl rfl rfl (ld30 r2) ?_
      first | refine WL.move rfl rfl rfl ?_
      refine WL.index rfl rfl rfl rfl (hpx _) ?_
      refine WL.field rfl rfl rfl (fld78_1 _ _ _) ?_
      refine WL.load rfl rfl rfl (ld34 q1) ?_
      refine WL.conv rfl rfl rfl qc ?_
      refine WL.bsl rfl rfl rfl k1 ?_
      refine WL.app rfl rfl rfl rfl k2 ?_
      first | refine WL.assign rfl rfl rfl ?_
      refine WL.done ?_
      refine pn_block ?_
      refine EW.on ?_
      refine EW.region ?_
      first | refine WL.move rfl rfl rfl ?_
      first | refine WL.bin rfl rfl rfl rfl (int_add ‹_› _ _ _) ?_
      first | refine WL.assign rfl rfl rfl ?_
      refine WL.done ?_
      exact EW.again (t + 1, va2) [0, 1, 2, 3, 9, 10] rfl ⟨hl1, by show Alls W _ _ (manyT pen i b0 (t + 1)); rw [manyT, hge, if_pos hkk]; exact k3⟩ (msM t _ hl1)
    · have hkz : ¬ (x.1 : Int) = (i : Int) := fun e => hkk (Int.ofNat_inj.1 e)
      refine EW.seq ?_
      refine EW.seq ?_
      refine EW.region ?_
      first | refine WL.move rfl rfl rfl ?_
      first | refine WL.move rfl rfl rfl ?_
      first | refine WL.nilc rfl rfl rfl ?_
      first | refine WL.field rfl rfl rfl (fld32_2 _ _) ?_
      refine WL.load rfl rfl rfl (ld30 r2) ?_
      refine WL.len rfl rfl rfl (hlen _ _) ?_
      first | refine WL.bin rfl rfl rfl rfl (int_lt_t ‹_› _ _ _) ?_ | refine WL.bin rfl rfl rfl rfl (int_lt_f ‹_› _ _ _) ?_
      refine WL.done ?_
      refine EW.on ?_
      refine EW.cond_t rfl ?_
      refine EW.skip ?_
      refine EW.on ?_
      refine EW.seq ?_
      refine EW.block ?_
      refine EW.seq ?_
      refine EW.region ?_
      first | refine WL.move rfl rfl rfl ?_
      first | refine WL.nilc rfl rfl rfl ?_
      first | refine WL.field rfl rfl rfl (fld32_2 _ _) ?_
      refine WL.load rfl rfl rfl (ld30 r2) ?_
      first | refine WL.move rfl rfl rfl ?_
      refine WL.index rfl rfl rfl rfl (hpx _) ?_
      refine WL.field rfl rfl rfl (fld78_0 _ _ _) ?_
      refine WL.load rfl rfl rfl (ld3 q0) ?_
      first | refine WL.move rfl rfl rfl ?_
      first | refine WL.bin rfl rfl rfl rfl (int_eq_t ‹_› _ _ _) ?_ | refine WL.bin rfl rfl rfl rfl (int_eq_f ‹_› _ _ _) ?_
      refine WL.done ?_
      refine EW.on ?_
      refine EW.cond_f rfl ?_
      refine EW.skip ?_
      refine pn_block ?_
      refine EW.on ?_
      refine EW.region ?_
      first | refine WL.move rfl rfl rfl ?_
      first | refine WL.bin rfl rfl rfl rfl (int_add ‹_› _ _ _) ?_
      first | refine WL.assign rfl rfl rfl ?_
      refine WL.done ?_
      exact EW.again (t + 1, va) [0, 1, 2, 3, 9, 10] rfl ⟨hl1, by show Alls W _ _ (manyT pen i b0 (t + 1)); rw [manyT, hge, if_neg hkk]; exact hA⟩ (msM t _ hl1)
  · have z1 : ¬ (t : Int) < (pen.length : Int) := fun hh => hl1 (Int.ofNat_lt.1 hh)
    have ht : t = pen.length := Nat.le_antisymm htn (Nat.le_of_not_lt hl1)
    rw [ht] at hA
    refine EW.seq ?_
    refine EW.seq ?_
    refine EW.region ?_
    first | refine WL.move rfl rfl rfl ?_
    first | refine WL.move rfl rfl rfl ?_
    first | refine WL.nilc rfl rfl rfl ?_
    first | refine WL.field rfl rfl rfl (fld32_2 _ _) ?_
    refine WL.load rfl rfl rfl (ld30 r2) ?_
    refine WL.len rfl rfl rfl (hlen _ _) ?_
    first | refine WL.bin rfl rfl rfl rfl (int_lt_t ‹_› _ _ _) ?_ | refine WL.bin rfl rfl rfl rfl (int_lt_f ‹_› _ _ _) ?_
    refine WL.done ?_
    refine EW.on ?_
    obtain ⟨l, hl⟩ : ∃ l, manyT pen i b0 pen.length = l := ⟨_, rfl⟩
    rw [hl] at hA hw
    have hln : l.length ≤ 1000001 := by rw [← hl]; have := manyT_length pen i b0 pen.length; have := h.few; omega
    have hsl : (strs l).length = l.length := by simp [strs]
    obtain ⟨ao, ln, cp, hva⟩ := own_shape hA.own
    have hl29 : ∀ V ty, (Builtin.len_ #[29] ty #[va]).run Try.prog V = .ok (.int .i64 (l.length : Int)) V := fun V ty => by
      obtain ⟨_, ⟨e1, e2⟩ | ⟨g, cap, cur, e1, _⟩⟩ := hA.own
      · rw [e1, len29]; rw [show l.length = 0 by rw [← hsl]; exact e2]
      · rw [e1, len29, hsl]
    refine EW.cond_f rfl ?_
    refine EW.exit ?_
    repeat refine px_then ?_
    refine px_block ?_
    refine EW.on ?_
    refine EW.seq ?_
    refine EW.seq ?_
    refine EW.region ?_
    first | refine WL.assign rfl rfl rfl ?_
    refine WL.done ?_
    refine EW.on ?_
    refine EW.block ?_
    refine EW.loop (mbE vb tb va) (fun u w' => u ≤ l.length ∧ Alls W w' va l ∧ ∀ j, j < u → l[j]? ≠ some bs) (fun u => l.length - u) 0 [2, 3, 9, 11] rfl ⟨Nat.zero_le _, hA, fun j hj => absurd hj (Nat.not_lt_zero _)⟩ ?_
    rintro u wr2 ⟨hul, hA2, hno⟩
    show EW _ _ _ _ [(2, vb), (3, .bool tb), (9, va), (11, .int .i64 (u : Int))] _
    by_cases gl : u < l.length
    · have y1 : (u : Int) < (l.length : Int) := Int.ofNat_lt.2 gl
      have un : IntKind.i64.wrap ((u : Int) + 1) = ((u + 1 : Nat) : Int) := tnM2 u _ gl hln
      obtain ⟨c, hc⟩ : ∃ c, l[u]? = some c := ⟨l[u]'gl, List.getElem?_eq_getElem _⟩
      have bd : Below wr2.heap.size wr2 { wr2 with drawn := wr2.drawn + 1 } := below_drawn wr2
      have hA3 := hA2.below bd
      obtain ⟨wd, hwd⟩ : ∃ wd, { wr2 with drawn := wr2.drawn + 1 } = wd := ⟨_, rfl⟩
      rw [hwd] at hA3
      obtain ⟨gm, _, hmx, hmc⟩ := im_item hA3.own u ⟨c.toArray⟩ (by simp [strs, hc])
      have hcb := (hb.below hA3.be).convert
      refine EW.seq ?_
      refine EW.seq ?_
      refine EW.region ?_
      first | refine WL.move rfl rfl rfl ?_
      first | refine WL.move rfl rfl rfl ?_
      refine WL.len rfl rfl rfl (hl29 _ _) ?_
      first | refine WL.bin rfl rfl rfl rfl (int_lt_t ‹_› _ _ _) ?_ | refine WL.bin rfl rfl rfl rfl (int_lt_f ‹_› _ _ _) ?_
      refine WL.done ?_
      refine EW.on ?_
      refine EW.cond_t rfl ?_
      refine EW.skip ?_
      refine EW.on ?_
      refine EW.seq ?_
      refine EW.block ?_
      refine EW.seq ?_
      by_cases hcc : c = bs
      · subst hcc
        refine EW.ord [(0, false), (1, false), (2, false), (3, false), (4, false), (5, false), (6, false)] (fun V => V = wd) (by kernel_rfl) rfl (by kernel_rfl) hwd ?_
        rw [hwd]
        simp only [ordOps, List.getD_cons_zero, List.getD_cons_succ]
        refine OE.move rfl rfl rfl ?_
        refine OE.move rfl rfl rfl ?_
        refine OE.index rfl rfl rfl rfl hmx ?_
        refine OE.load rfl rfl rfl (fun V hV => by rw [hV]; exact ld9 hmc) ?_
        refine OE.move rfl rfl rfl ?_
        refine OE.conv rfl rfl rfl (fun V hV => by rw [hV]; exact hcb) ?_
        refine OE.bin rfl rfl rfl rfl (fun V => str_eq_t _ V _ _) ?_
        refine fun a ha Wz hW => ?_
        rw [hW]
        revert a ha
        refine EW.on ?_
        refine EW.cond_t rfl ?_
        refine EW.seq ?_
        refine EW.region ?_
        first | refine WL.assign rfl rfl rfl ?_
        refine WL.done ?_
        refine EW.on ?_
        refine EW.ret ?_
        repeat (first | refine pr_then ?_ | refine pr_block ?_)
        exact EW.returns Try.results61 rfl ⟨rfl, hA3.be⟩
      · have hne : ¬ (⟨c.toArray⟩ : ByteArray) = ⟨bs.toArray⟩ := fun e => hcc (by injection e with e; exact List.toArray_inj e)
        refine EW.ord [(0, false), (1, false), (2, false), (3, false), (4, false), (5, false), (6, false)] (fun V => V = wd) (by kernel_rfl) rfl (by kernel_rfl) hwd ?_
        rw [hwd]
        simp only [ordOps, List.getD_cons_zero, List.getD_cons_succ]
        refine OE.move rfl rfl rfl ?_
        refine OE.move rfl rfl rfl ?_
        refine OE.index rfl rfl rfl rfl hmx ?_
        refine OE.load rfl rfl rfl (fun V hV => by rw [hV]; exact ld9 hmc) ?_
        refine OE.move rfl rfl rfl ?_
        refine OE.conv rfl rfl rfl (fun V hV => by rw [hV]; exact hcb) ?_
        refine OE.bin rfl rfl rfl rfl (fun V => str_eq_f hne V _ _) ?_
        refine fun a ha Wz hW => ?_
        rw [hW]
        revert a ha
        refine EW.on ?_
        refine EW.cond_f rfl ?_
        refine EW.skip ?_
        refine pn_block ?_
        refine EW.on ?_
        refine EW.region ?_
        first | refine WL.move rfl rfl rfl ?_
        first | refine WL.bin rfl rfl rfl rfl (int_add ‹_› _ _ _) ?_
        first | refine WL.assign rfl rfl rfl ?_
        refine WL.done ?_
        exact EW.again (u + 1) [2, 3, 9, 11] rfl ⟨gl, hA3, fun j hj => (Nat.lt_or_ge j u).elim (hno j) (fun h1 => by rw [show j = u by omega, hc]; exact fun e => hcc (Option.some.inj e))⟩ (msM u _ gl)
    · exfalso
      obtain ⟨j, hj, e⟩ := List.mem_iff_getElem.1 hw
      exact hno j (by omega) (by rw [List.getElem?_eq_getElem hj, e])
end Go.Proofs.Ythfcabhelldokaa
