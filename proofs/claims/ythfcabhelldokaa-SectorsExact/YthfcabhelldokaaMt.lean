import Derived.Test.YthfcabhelldokaaMw
set_option linter.unusedVariables false
set_option linter.unusedSimpArgs false
namespace Go.Proofs.Ythfcabhelldokaa
open Go.RowKit

theorem OE.skip {P : Program} {n : Nat} {ops : Array Oper} {K : List (Nat × Value) → (World → Prop) → Prop} {i : Nat} {op : Op} {ty : TypeId} {ps : String} {af : Array Edge} {gd : Option (Nat × Bool)} {r : List (Oper × Bool)} {e : List (Nat × Value)} {S C : World → Prop} (hw : wantE ops e ⟨some i, op, ty, ps, af, gd⟩ = some false) (hi : decide (i < n) = true) (k : wpOrdE P n ops K r ((i, undef) :: e) S C) : wpOrdE P n ops K ((⟨some i, op, ty, ps, af, gd⟩, false) :: r) e S C :=
  ⟨undef, fun j hj => by cases hj; exact of_decide_eq_true hi, fun a ha => .inr ⟨wantE_spec ha hw, rfl⟩, k⟩
theorem OE.idx {P : Program} {n : Nat} {ops : Array Oper} {K : List (Nat × Value) → (World → Prop) → Prop} {i : Nat} {ty : TypeId} {ps : String} {af : Array Edge} {gd : Option (Nat × Bool)} {r : List (Oper × Bool)} {e : List (Nat × Value)} {S C : World → Prop} {t : TypeId} {x y : Operand} {u u' v : Value} (hw : wantE ops e ⟨some i, .index t x y, ty, ps, af, gd⟩ = some true) (hi' : decide (i < n) = true) (hx : evE e x = some u) (hy : evE e y = some u') (hr : ∀ w, (Instr.index t u u').run P w = .ok v w) (k : wpOrdE P n ops K r ((i, v) :: e) S C) : wpOrdE P n ops K ((⟨some i, .index t x y, ty, ps, af, gd⟩, false) :: r) e S C :=
  OE.val hw hi' (fun a ha W hW => by simp [execOp, ha.ev hx, ha.ev hy, hr W, Result.andThen]) k
theorem byte_eq_t {a b : Int} (h : a = b) (W : World) (x y : Operand) : (do eqGuard .eql 5 x y (.int .u8 a) (.int .u8 b); binOp .eql 5 (.int .u8 a) (.int .u8 b) : Sem Value).run Try.prog W = .ok (.bool true) W := by go_simp
theorem byte_eq_f {a b : Int} (h : ¬ a = b) (W : World) (x y : Operand) : (do eqGuard .eql 5 x y (.int .u8 a) (.int .u8 b); binOp .eql 5 (.int .u8 a) (.int .u8 b) : Sem Value).run Try.prog W = .ok (.bool false) W := by go_simp
theorem ld5 {ad : Addr} {v : Value} {W : World} (h : W.cell? ad = some v) : (Instr.loadAt 5 (.pointer (some ad))).run Try.prog W = .ok v W := by go_simp
theorem str_idx (c : List UInt8) (j : Nat) (b : UInt8) (h : c[j]? = some b) (W : World) : (Instr.index 9 (.string ⟨c.toArray⟩) (.int .i64 (j : Int))).run Try.prog W = .ok (.int .u8 (b.toNat : Int)) W := by
  have hj : j < c.length := (List.getElem?_eq_some_iff.1 h).1
  have hz : (j : Int) < (c.length : Int) := by omega
  have hs : (⟨c.toArray⟩ : ByteArray).size = c.length := by show c.toArray.size = _; simp
  have hg : c.getD j 0 = b := by rw [List.getD_eq_getElem?_getD, h]; rfl
  have hc : c[j] = b := (List.getElem?_eq_some_iff.1 h).2
  clear hg h
  go_simp
  all_goals (subst hc; rfl)

def mcE (vb va : Value) (j : Nat) : List (Nat × Value) := [(2, vb), (9, va), (12, .int .i64 (j : Int))]
def mdE (vb va : Value) (j : Nat) (x : Nat × Bool) : List (Nat × Value) := [(2, vb), (9, va), (12, .int .i64 (j : Int)), (13, .bool x.2), (14, .int .i64 (x.1 : Int))]
theorem tn512 (t : Nat) (h : t < 512) : IntKind.i64.wrap ((t : Int) + 1) = ((t + 1 : Nat) : Int) := by rw [IntKind.wrap_i64]; omega
/-- Is one of the first k like that? -/
def oneT (l : List (List UInt8)) (bs : List UInt8) (j k : Nat) : Prop := ∃ m c, m < k ∧ l[m]? = some c ∧ c[j]? = bs[j]?
set_option maxRecDepth 100000 in
theorem may_any {W : World} {pv p : Nat} {vi vl : Value} {ims : List ByteArray} {gs : List Nat} {pen : List (Nat × List UInt8)} (h : Bk W pv p vi vl ims gs pen) (i : Nat) (b0 : List UInt8) (hi : ims[i]? = some ⟨b0.toArray⟩) (vb : Value) (bs : List UInt8) (hb : Has W vb bs) (tb : Bool)
    (hw : bs ∈ manyT pen i b0 pen.length ∨ (tb = true ∧ bs.length = 512 ∧ (∀ c ∈ manyT pen i b0 pen.length, c.length = 512) ∧ ∀ j, j < 512 → ∃ c ∈ manyT pen i b0 pen.length, c[j]? = bs[j]?)) :
    Calls Try.prog 61 #[.pointer (some ⟨pv, 0, none⟩), .int .i64 (i : Int), vb, .bool tb] W fun e w' => e = .returned (.bool true) ∧ Below W.heap.size W w' := by
  have r1 := (h.bl.cell 1).trans (show _ = some vi from rfl)
  obtain ⟨gi, _, hix, hci⟩ := im_item h.im i _ hi
  have hlen := pen_len h.pl
  have A0 : Alls W W (.slice none 0 0) [] := ⟨Below.refl _ _, ⟨rfl, .inl ⟨rfl, rfl⟩⟩, fun k hk => by simp [Value.ownBlock] at hk⟩
  obtain ⟨w1, va0, w2, hr1, hr2, A1⟩ := A0.push (by simp) b0 29
  refine calls_of_args [.pointer (some ⟨pv, 0, none⟩), .int .i64 (i : Int), vb, .bool tb] Try.func61 rfl 97 Try.ntmps61 (by show 4 ≤ 97; decide) ?_
  refine EW.seq ?_
  refine EW.region ?_
  first | refine WL.assign rfl rfl rfl ?_
  refine WL.done ?_
  refine EW.on ?_
  refine EW.seq ?_
  refine EW.region ?_
  first | refine WL.assign rfl rfl rfl ?_
  refine WL.done ?_
  refine EW.on ?_
  refine EW.seq ?_
  refine EW.region ?_
  first | refine WL.move rfl rfl rfl ?_
  first | refine WL.move rfl rfl rfl ?_
  first | refine WL.nilc rfl rfl rfl ?_
  first | refine WL.field rfl rfl rfl (fld32_1 _ _) ?_
  refine WL.load rfl rfl rfl (ld29 r1) ?_
  first | refine WL.move rfl rfl rfl ?_
  refine WL.index rfl rfl rfl rfl (hix _) ?_
  refine WL.load rfl rfl rfl (ld9 hci) ?_
  refine WL.bsl rfl rfl rfl hr1 ?_
  refine WL.app rfl rfl rfl rfl hr2 ?_
  first | refine WL.assign rfl rfl rfl ?_
  refine WL.done ?_
  refine EW.on ?_
  refine EW.seq ?_
  refine EW.seq ?_
  refine EW.region ?_
  first | refine WL.assign rfl rfl rfl ?_
  refine WL.done ?_
  refine EW.on ?_
  refine EW.block ?_
  refine EW.loop (maE pv i vb tb) (fun x w' => x.1 ≤ pen.length ∧ Alls W w' x.2 (manyT pen i b0 x.1)) (fun x => pen.length - x.1) (0, va0) [0, 1, 2, 3, 9, 10] rfl ⟨Nat.zero_le _, A1⟩ ?_
  rintro ⟨t, va⟩ wr ⟨htn, hA⟩
  have htn : t ≤ pen.length := htn
  have hA : Alls W wr va (manyT pen i b0 t) := hA
  show EW _ _ _ _ [(0, .pointer (some ⟨pv, 0, none⟩)), (1, .int .i64 (i : Int)), (2, vb), (3, .bool tb), (9, va), (10, .int .i64 (t : Int))] _
  have Br := h.below hA.be
  have r2 := (Br.bl.cell 2).trans (show _ = some vl from rfl)
  by_cases hl1 : t < pen.length
  · have z1 : (t : Int) < (pen.length : Int) := Int.ofNat_lt.2 hl1
    have tn := tnM t _ hl1 h.few
    obtain ⟨x, hx⟩ : ∃ x, pen[t]? = some x := ⟨pen[t]'hl1, List.getElem?_eq_getElem _⟩
    obtain ⟨gb, hgb⟩ : ∃ g, gs[t]? = some g := ⟨gs[t]'(by rw [h.gsl]; exact hl1), List.getElem?_eq_getElem _⟩
    obtain ⟨gp, _, hpx, hrg⟩ := pen_item Br.pl t gb x hgb hx
    have q0 : wr.cell? ⟨gp, t * 2, none⟩ = some (.int .i64 (x.1 : Int)) := hrg 0 _ rfl
    have q1 : wr.cell? ⟨gp, t * 2 + 1, none⟩ = some (.slice (some ⟨gb, 0, none⟩) 512 512) := hrg 1 _ rfl
    have qc := (Blk.hasB (Br.bys t gb x hgb hx) (h.sec x (List.mem_of_getElem? hx))).convert
    have hge : pen.getD t (0, []) = x := by rw [List.getD_eq_getElem?_getD, hx]; rfl
    obtain ⟨wa, va2, wb, k1, k2, k3⟩ := hA.push (by have := manyT_length pen i b0 t; have := h.few; omega) x.2 29
    by_cases hkk : x.1 = i
    · have hkz : (x.1 : Int) = (i : Int) := Int.ofNat_inj.2 hkk
      refine EW.seq ?_
      refine EW.seq ?_
      refine EW.region ?_
      first | refine WL.move rfl rfl rfl ?_
      first | refine WL.move rfl rfl rfl ?_
      first | refine WL.nilc rfl rfl rfl ?_
      first | refine WL.field rfl rfl rfl (fld32_2 _ _) ?_
      refine WL.load rfl rfl rfl (ld30 r2) ?_
      refine WL.len rfl rfl rfl (hlen _ _) ?_
      first | refine WL.bin rfl rfl rfl rfl (int_lt_t ‹_› _ _ _) ?_ | refine WL.bin rfl rfl rfl rfl (int_lt_f ‹_› _ _ _) ?_
      refine WL.done ?_
      refine EW.on ?_
      refine EW.cond_t rfl ?_
      refine EW.skip ?_
      refine EW.on ?_
      refine EW.seq ?_
      refine EW.block ?_
      refine EW.seq ?_
      refine EW.region ?_
      first | refine WL.move rfl rfl rfl ?_
      first | refine WL.nilc rfl rfl rfl ?_
      first | refine WL.field rfl rfl rfl (fld32_2 _ _) ?_
      refine WL.load rfl rfl rfl (ld30 r2) ?_
      first | refine WL.move rfl rfl rfl ?_
      refine WL.index rfl rfl rfl rfl (hpx _) ?_
      refine WL.field rfl rfl rfl (fld78_0 _ _ _) ?_
      refine WL.load rfl rfl rfl (ld3 q0) ?_
      first | refine WL.move rfl rfl rfl ?_
      first | refine WL.bin rfl rfl rfl rfl (int_eq_t ‹_› _ _ _) ?_ | refine WL.bin rfl rfl rfl rfl (int_eq_f ‹_› _ _ _) ?_
      refine WL.done ?_
      refine EW.on ?_
      refine EW.cond_t rfl ?_
      refine EW.region ?_
      first | refine WL.move rfl rfl rfl ?_
      first | refine WL.move rfl rfl rfl ?_
      first | refine WL.nilc rfl rfl rfl ?_
      first | refine WL.field rfl rfl rfl (fld32_2 _ _) ?_
      refine WL.load rfl rfl rfl (ld30 r2) ?_
      first | refine WL.move rfl rfl rfl ?_
      refine WL.index rfl rfl rfl rfl (hpx _) ?_
      refine WL.field rfl rfl rfl (fld78_1 _ _ _) ?_
      refine WL.load rfl rfl rfl (ld34 q1) ?_
      refine WL.conv rfl rfl rfl qc ?_
      refine WL.bsl rfl rfl rfl k1 ?_
      refine WL.app rfl rfl rfl rfl k2 ?_
      first | refine WL.assign rfl rfl rfl ?_
      refine WL.done ?_
      refine pn_block ?_
      refine EW.on ?_
      refine EW.region ?_
      first | refine WL.move rfl rfl rfl ?_
      first | refine WL.bin rfl rfl rfl rfl (int_add ‹_› _ _ _) ?_
      first | refine WL.assign rfl rfl rfl ?_
      refine WL.done ?_
      exact EW.again (t + 1, va2) [0, 1, 2, 3, 9, 10] rfl ⟨hl1, by show Alls W _ _ (manyT pen i b0 (t + 1)); rw [manyT, hge, if_pos hkk]; exact k3⟩ (msM t _ hl1)
    · have hkz : ¬ (x.1 : Int) = (i : Int) := fun e => hkk (Int.ofNat_inj.1 e)
      refine EW.seq ?_
      refine EW.seq ?_
      refine EW.region ?_
      first | refine WL.move rfl rfl rfl ?_
      first | refine WL.move rfl rfl rfl ?_
      first | refine WL.nilc rfl rfl rfl ?_
      first | refine WL.field rfl rfl rfl (fld32_2 _ _) ?_
      refine WL.load rfl rfl rfl (ld30 r2) ?_
      refine WL.len rfl rfl rfl (hlen _ _) ?_
      first | refine WL.bin rfl rfl rfl rfl (int_lt_t ‹_› _ _ _) ?_ | refine WL.bin rfl rfl rfl rfl (int_lt_f ‹_› _ _ _) ?_
      refine WL.done ?_
      refine EW.on ?_
      refine EW.cond_t rfl ?_
      refine EW.skip ?_
      refine EW.on ?_
      refine EW.seq ?_
      refine EW.block ?_
      refine EW.seq ?_
      refine EW.region ?_
      first | refine WL.move rfl rfl rfl ?_
      first | refine WL.nilc rfl rfl rfl ?_
      first | refine WL.field rfl rfl rfl (fld32_2 _ _) ?_
      refine WL.load rfl rfl rfl (ld30 r2) ?_
      first | refine WL.move rfl rfl rfl ?_
      refine WL.index rfl rfl rfl rfl (hpx _) ?_
      refine WL.field rfl rfl rfl (fld78_0 _ _ _) ?_
      refine WL.load rfl rfl rfl (ld3 q0) ?_
      first | refine WL.move rfl rfl rfl ?_
      first | refine WL.bin rfl rfl rfl rfl (int_eq_t ‹_› _ _ _) ?_ | refine WL.bin rfl rfl rfl rfl (int_eq_f ‹_› _ _ _) ?_
      refine WL.done ?_
      refine EW.on ?_
      refine EW.cond_f rfl ?_
      refine EW.skip ?_
      refine pn_block ?_
      refine EW.on ?_
      refine EW.region ?_
      first | refine WL.move rfl rfl rfl ?_
      first | refine WL.bin rfl rfl rfl rfl (int_add ‹_› _ _ _) ?_
      first | refine WL.assign rfl rfl rfl ?_
      refine WL.done ?_
      exact EW.again (t + 1, va) [0, 1, 2, 3, 9, 10] rfl ⟨hl1, by show Alls W _ _ (manyT pen i b0 (t + 1)); rw [manyT, hge, if_neg hkk]; exact hA⟩ (msM t _ hl1)
  · have z1 : ¬ (t : Int) < (pen.length : Int) := fun hh => hl1 (Int.ofNat_lt.1 hh)
    have ht : t = pen.length := Nat.le_antisymm htn (Nat.le_of_not_lt hl1)
    rw [ht] at hA
    refine EW.seq ?_
    refine EW.seq ?_
    refine EW.region ?_
    first | refine WL.move rfl rfl rfl ?_
    first | refine WL.move rfl rfl rfl ?_
    first | refine WL.nilc rfl rfl rfl ?_
    first | refine WL.field rfl rfl rfl (fld32_2 _ _) ?_
    refine WL.load rfl rfl rfl (ld30 r2) ?_
    refine WL.len rfl rfl rfl (hlen _ _) ?_
    first | refine WL.bin rfl rfl rfl rfl (int_lt_t ‹_› _ _ _) ?_ | refine WL.bin rfl rfl rfl rfl (int_lt_f ‹_› _ _ _) ?_
    refine WL.done ?_
    refine EW.on ?_
    obtain ⟨l, hl⟩ : ∃ l, manyT pen i b0 pen.length = l := ⟨_, rfl⟩
    rw [hl] at hA hw
    have hln : l.length ≤ 1000001 := by rw [← hl]; have := manyT_length pen i b0 pen.length; have := h.few; omega
    have hsl : (strs l).length = l.length := by simp [strs]
    obtain ⟨ao, ln, cp, hva⟩ := own_shape hA.own
    have hl29 : ∀ V ty, (Builtin.len_ #[29] ty #[va]).run Try.prog V = .ok (.int .i64 (l.length : Int)) V := fun V ty => by
      obtain ⟨_, ⟨e1, e2⟩ | ⟨g, cap, cur, e1, _⟩⟩ := hA.own
      · rw [e1, len29]; rw [show l.length = 0 by rw [← hsl]; exact e2]
      · rw [e1, len29, hsl]
    refine EW.cond_f rfl ?_
    refine EW.exit ?_
    repeat refine px_then ?_
    refine px_block ?_
    refine EW.on ?_
    refine EW.seq ?_
    refine EW.seq ?_
    refine EW.region ?_
    first | refine WL.assign rfl rfl rfl ?_
    refine WL.done ?_
    refine EW.on ?_
    refine EW.block ?_
    refine EW.loop (mbE vb tb va) (fun u w' => u ≤ l.length ∧ Alls W w' va l ∧ ∀ j, j < u → l[j]? ≠ some bs) (fun u => l.length - u) 0 [2, 3, 9, 11] rfl ⟨Nat.zero_le _, hA, fun j hj => absurd hj (Nat.not_lt_zero _)⟩ ?_
    rintro u wr2 ⟨hul, hA2, hno⟩
    show EW _ _ _ _ [(2, vb), (3, .bool tb), (9, va), (11, .int .i64 (u : Int))] _
    by_cases gl : u < l.length
    · have y1 : (u : Int) < (l.length : Int) := Int.ofNat_lt.2 gl
      have un : IntKind.i64.wrap ((u : Int) + 1) = ((u + 1 : Nat) : Int) := tnM2 u _ gl hln
      obtain ⟨c, hc⟩ : ∃ c, l[u]? = some c := ⟨l[u]'gl, List.getElem?_eq_getElem _⟩
      have bd : Below wr2.heap.size wr2 { wr2 with drawn := wr2.drawn + 1 } := below_drawn wr2
      have hA3 := hA2.below bd
      obtain ⟨wd, hwd⟩ : ∃ wd, { wr2 with drawn := wr2.drawn + 1 } = wd := ⟨_, rfl⟩
      rw [hwd] at hA3
      obtain ⟨gm, _, hmx, hmc⟩ := im_item hA3.own u ⟨c.toArray⟩ (by simp [strs, hc])
      have hcb := (hb.below hA3.be).convert
      refine EW.seq ?_
      refine EW.seq ?_
      refine EW.region ?_
      first | refine WL.move rfl rfl rfl ?_
      first | refine WL.move rfl rfl rfl ?_
      refine WL.len rfl rfl rfl (hl29 _ _) ?_
      first | refine WL.bin rfl rfl rfl rfl (int_lt_t ‹_› _ _ _) ?_ | refine WL.bin rfl rfl rfl rfl (int_lt_f ‹_› _ _ _) ?_
      refine WL.done ?_
      refine EW.on ?_
      refine EW.cond_t rfl ?_
      refine EW.skip ?_
      refine EW.on ?_
      refine EW.seq ?_
      refine EW.block ?_
      refine EW.seq ?_
      by_cases hcc : c = bs
      · subst hcc
        refine EW.ord [(0, false), (1, false), (2, false), (3, false), (4, false), (5, false), (6, false)] (fun V => V = wd) (by kernel_rfl) rfl (by kernel_rfl) hwd ?_
        rw [hwd]
        simp only [ordOps, List.getD_cons_zero, List.getD_cons_succ]
        refine OE.move rfl rfl rfl ?_
        refine OE.move rfl rfl rfl ?_
        refine OE.index rfl rfl rfl rfl hmx ?_
        refine OE.load rfl rfl rfl (fun V hV => by rw [hV]; exact ld9 hmc) ?_
        refine OE.move rfl rfl rfl ?_
        refine OE.conv rfl rfl rfl (fun V hV => by rw [hV]; exact hcb) ?_
        refine OE.bin rfl rfl rfl rfl (fun V => str_eq_t _ V _ _) ?_
        refine fun a ha Wz hW => ?_
        rw [hW]
        revert a ha
        refine EW.on ?_
        refine EW.cond_t rfl ?_
        refine EW.seq ?_
        refine EW.region ?_
        first | refine WL.assign rfl rfl rfl ?_
        refine WL.done ?_
        refine EW.on ?_
        refine EW.ret ?_
        repeat (first | refine pr_then ?_ | refine pr_block ?_)
        exact EW.returns Try.results61 rfl ⟨rfl, hA3.be⟩
      · have hne : ¬ (⟨c.toArray⟩ : ByteArray) = ⟨bs.toArray⟩ := fun e => hcc (by injection e with e; exact List.toArray_inj e)
        refine EW.ord [(0, false), (1, false), (2, false), (3, false), (4, false), (5, false), (6, false)] (fun V => V = wd) (by kernel_rfl) rfl (by kernel_rfl) hwd ?_
        rw [hwd]
        simp only [ordOps, List.getD_cons_zero, List.getD_cons_succ]
        refine OE.move rfl rfl rfl ?_
        refine OE.move rfl rfl rfl ?_
        refine OE.index rfl rfl rfl rfl hmx ?_
        refine OE.load rfl rfl rfl (fun V hV => by rw [hV]; exact ld9 hmc) ?_
        refine OE.move rfl rfl rfl ?_
        refine OE.conv rfl rfl rfl (fun V hV => by rw [hV]; exact hcb) ?_
        refine OE.bin rfl rfl rfl rfl (fun V => str_eq_f hne V _ _) ?_
        refine fun a ha Wz hW => ?_
        rw [hW]
        revert a ha
        refine EW.on ?_
        refine EW.cond_f rfl ?_
        refine EW.skip ?_
        refine pn_block ?_
        refine EW.on ?_
        refine EW.region ?_
        first | refine WL.move rfl rfl rfl ?_
        first | refine WL.bin rfl rfl rfl rfl (int_add ‹_› _ _ _) ?_
        first | refine WL.assign rfl rfl rfl ?_
        refine WL.done ?_
        exact EW.again (u + 1) [2, 3, 9, 11] rfl ⟨gl, hA3, fun j hj => (Nat.lt_or_ge j u).elim (hno j) (fun h1 => by rw [show j = u by omega, hc]; exact fun e => hcc (Option.some.inj e))⟩ (msM u _ gl)
    · have y1 : ¬ (u : Int) < (l.length : Int) := fun hh => gl (Int.ofNat_lt.1 hh)
      have hul2 : u = l.length := Nat.le_antisymm hul (Nat.le_of_not_lt gl)
      obtain ⟨htb, hbl, hcl, hby⟩ := hw.resolve_left (fun hm => by
        obtain ⟨j, hj, e⟩ := List.mem_iff_getElem.1 hm
        exact hno j (by rw [hul2]; exact hj) (by rw [List.getElem?_eq_getElem hj, e]))
      subst htb
      obtain ⟨vad, hvb, hbx⟩ : ∃ ad : Addr, (∀ (m : Nat) V, m < 512 → (Instr.indexAt 34 vb (.int .i64 (m : Int))).run Try.prog V = .ok (.pointer (some (ad.add m))) V) ∧ ∀ m b, bs[m]? = some b → W.cell? (ad.add m) = some (byt b) := by
        rcases hb with ⟨e1, e2⟩ | ⟨ad, cap, e1, e2, e3⟩
        · rw [e2] at hbl; simp at hbl
        · exact ⟨ad, fun m V hm => by rw [e1]; exact idx34 ad _ cap m (by rw [hbl]; exact hm) V, fun m b hm => e3 m b hm⟩
      refine EW.seq ?_
      refine EW.seq ?_
      refine EW.region ?_
      first | refine WL.move rfl rfl rfl ?_
      first | refine WL.move rfl rfl rfl ?_
      refine WL.len rfl rfl rfl (hl29 _ _) ?_
      first | refine WL.bin rfl rfl rfl rfl (int_lt_t ‹_› _ _ _) ?_ | refine WL.bin rfl rfl rfl rfl (int_lt_f ‹_› _ _ _) ?_
      refine WL.done ?_
      refine EW.on ?_
      refine EW.cond_f rfl ?_
      refine EW.exit ?_
      repeat refine px_then ?_
      refine px_block ?_
      refine EW.on ?_
      refine EW.seq ?_
      refine EW.seq ?_
      refine EW.region ?_
      first | refine WL.move rfl rfl rfl ?_
      first | refine WL.un rfl rfl rfl (not_t _ _) ?_
      refine WL.done ?_
      refine EW.on ?_
      refine EW.cond_f rfl ?_
      refine EW.skip ?_
      refine EW.on ?_
      refine EW.seq ?_
      refine EW.seq ?_
      refine EW.region ?_
      first | refine WL.assign rfl rfl rfl ?_
      refine WL.done ?_
      refine EW.on ?_
      refine EW.block ?_
      refine EW.loop (mcE vb va) (fun j w' => j ≤ 512 ∧ Alls W w' va l) (fun j => 512 - j) 0 [2, 9, 12] rfl ⟨Nat.zero_le _, hA2⟩ ?_
      rintro j wr3 ⟨hj5, hA4⟩
      show EW _ _ _ _ [(2, vb), (9, va), (12, .int .i64 (j : Int))] _
      by_cases jl : j < 512
      · have j1 : (j : Int) < 512 := Int.ofNat_lt.2 jl
        have jn := tn512 j jl
        obtain ⟨bj, hbj⟩ : ∃ b, bs[j]? = some b := ⟨bs[j]'(by rw [hbl]; exact jl), List.getElem?_eq_getElem _⟩
        refine EW.seq ?_
        refine EW.seq ?_
        refine EW.region ?_
        first | refine WL.move rfl rfl rfl ?_
        first | refine WL.bin rfl rfl rfl rfl (int_lt_t ‹_› _ _ _) ?_ | refine WL.bin rfl rfl rfl rfl (int_lt_f ‹_› _ _ _) ?_
        refine WL.done ?_
        refine EW.on ?_
        refine EW.cond_t rfl ?_
        refine EW.skip ?_
        refine EW.on ?_
        refine EW.seq ?_
        refine EW.block ?_
        refine EW.seq ?_
        refine EW.region ?_
        first | refine WL.assign rfl rfl rfl ?_
        refine WL.done ?_
        refine EW.on ?_
        refine EW.seq ?_
        refine EW.seq ?_
        refine EW.region ?_
        first | refine WL.assign rfl rfl rfl ?_
        refine WL.done ?_
        refine EW.on ?_
        refine EW.block ?_
        refine EW.loop (mdE vb va j) (fun x w' => x.1 ≤ l.length ∧ Alls W w' va l ∧ (oneT l bs j x.1 → x.2 = true)) (fun x => l.length - x.1) (0, false) [2, 9, 12, 13, 14] rfl ⟨Nat.zero_le _, hA4, fun ⟨m, c, hm, _⟩ => absurd hm (Nat.not_lt_zero _)⟩ ?_
        rintro ⟨k, o⟩ wr4 ⟨hkl, hA5, ho⟩
        have hkl : k ≤ l.length := hkl
        have ho : oneT l bs j k → o = true := ho
        have hA5 : Alls W wr4 va l := hA5
        show EW _ _ _ _ [(2, vb), (9, va), (12, .int .i64 (j : Int)), (13, .bool o), (14, .int .i64 (k : Int))] _
        by_cases kl : k < l.length
        · have k1 : (k : Int) < (l.length : Int) := Int.ofNat_lt.2 kl
          have kn := tnM2 k _ kl hln
          obtain ⟨c, hc⟩ : ∃ c, l[k]? = some c := ⟨l[k]'kl, List.getElem?_eq_getElem _⟩
          obtain ⟨cj, hcj⟩ : ∃ b, c[j]? = some b := ⟨c[j]'(by rw [hcl c (List.mem_of_getElem? hc)]; exact jl), List.getElem?_eq_getElem _⟩
          have bd : Below wr4.heap.size wr4 { wr4 with drawn := wr4.drawn + 1 } := below_drawn wr4
          have hA6 := hA5.below bd
          obtain ⟨wd, hwd⟩ : ∃ wd, { wr4 with drawn := wr4.drawn + 1 } = wd := ⟨_, rfl⟩
          rw [hwd] at hA6
          obtain ⟨gm, _, hmx, hmc⟩ := im_item hA6.own k ⟨c.toArray⟩ (by simp [strs, hc])
          have hcell : wd.cell? (vad.add j) = some (.int .u8 (bj.toNat : Int)) := (hA6.be.cell (cell_lt (hbx j bj hbj))).trans (hbx j bj hbj)
          by_cases hot : o = true
          · subst hot
            refine EW.seq ?_
            refine EW.seq ?_
            refine EW.region ?_
            first | refine WL.move rfl rfl rfl ?_
            first | refine WL.move rfl rfl rfl ?_
            refine WL.len rfl rfl rfl (hl29 _ _) ?_
            first | refine WL.bin rfl rfl rfl rfl (int_lt_t ‹_› _ _ _) ?_ | refine WL.bin rfl rfl rfl rfl (int_lt_f ‹_› _ _ _) ?_
            refine WL.done ?_
            refine EW.on ?_
            refine EW.cond_t rfl ?_
            refine EW.skip ?_
            refine EW.on ?_
            refine EW.seq ?_
            refine EW.block ?_
            refine EW.ord [(0, false), (1, false), (2, false), (3, false), (4, false), (5, false), (6, false), (7, false), (8, false), (9, false), (10, false), (11, false), (12, false), (13, false), (14, false)] (fun V => V = wd) (by kernel_rfl) rfl (by kernel_rfl) hwd ?_
            rw [hwd]
            simp only [ordOps, List.getD_cons_zero, List.getD_cons_succ]
            refine OE.move rfl rfl rfl ?_
            refine OE.move rfl rfl rfl ?_
            refine OE.skip rfl rfl ?_
            refine OE.skip rfl rfl ?_
            refine OE.skip rfl rfl ?_
            refine OE.skip rfl rfl ?_
            refine OE.skip rfl rfl ?_
            refine OE.skip rfl rfl ?_
            refine OE.skip rfl rfl ?_
            refine OE.skip rfl rfl ?_
            refine OE.skip rfl rfl ?_
            refine OE.skip rfl rfl ?_
            refine OE.skip rfl rfl ?_
            refine OE.pick rfl rfl rfl rfl ?_
            refine OE.assign rfl rfl rfl ?_
            refine fun a ha Wz hW => ?_
            rw [hW]
            revert a ha
            refine pn_block ?_
            refine EW.on ?_
            refine EW.region ?_
            first | refine WL.move rfl rfl rfl ?_
            first | refine WL.bin rfl rfl rfl rfl (int_add ‹_› _ _ _) ?_
            first | refine WL.assign rfl rfl rfl ?_
            refine WL.done ?_
            exact EW.again (E := mdE vb va j) (R := fun x wz => x.1 ≤ l.length ∧ Alls W wz va l ∧ (oneT l bs j x.1 → x.2 = true)) (m := fun x => l.length - x.1) (x := (k, true)) (k + 1, true) [2, 9, 12, 13, 14] rfl ⟨kl, hA6, fun _ => rfl⟩ (msM k _ kl)
          · have hof : o = false := by simpa using hot
            by_cases hcb : cj = bj
            · subst hof
              have hbb : (cj.toNat : Int) = (bj.toNat : Int) := by rw [hcb]
              refine EW.seq ?_
              refine EW.seq ?_
              refine EW.region ?_
              first | refine WL.move rfl rfl rfl ?_
              first | refine WL.move rfl rfl rfl ?_
              refine WL.len rfl rfl rfl (hl29 _ _) ?_
              first | refine WL.bin rfl rfl rfl rfl (int_lt_t ‹_› _ _ _) ?_ | refine WL.bin rfl rfl rfl rfl (int_lt_f ‹_› _ _ _) ?_
              refine WL.done ?_
              refine EW.on ?_
              refine EW.cond_t rfl ?_
              refine EW.skip ?_
              refine EW.on ?_
              refine EW.seq ?_
              refine EW.block ?_
              refine EW.ord [(0, false), (1, false), (2, false), (3, false), (4, false), (5, false), (6, false), (7, false), (8, false), (9, false), (10, false), (11, false), (12, false), (13, false), (14, false)] (fun V => V = wd) (by kernel_rfl) rfl (by kernel_rfl) hwd ?_
              rw [hwd]
              simp only [ordOps, List.getD_cons_zero, List.getD_cons_succ]
              refine OE.move rfl rfl rfl ?_
              refine OE.move rfl rfl rfl ?_
              refine OE.move rfl rfl rfl ?_
              refine OE.move rfl rfl rfl ?_
              refine OE.index rfl rfl rfl rfl hmx ?_
              refine OE.load rfl rfl rfl (fun V hV => by rw [hV]; exact ld9 hmc) ?_
              refine OE.move rfl rfl rfl ?_
              refine OE.idx rfl rfl rfl rfl (fun V => str_idx c j cj hcj V) ?_
              refine OE.move rfl rfl rfl ?_
              refine OE.move rfl rfl rfl ?_
              refine OE.index rfl rfl rfl rfl (fun V => hvb j V jl) ?_
              refine OE.load rfl rfl rfl (fun V hV => by rw [hV]; exact ld5 hcell) ?_
              refine OE.bin rfl rfl rfl rfl (fun V => byte_eq_t hbb V _ _) ?_
              refine OE.pick rfl rfl rfl rfl ?_
              refine OE.assign rfl rfl rfl ?_
              refine fun a ha Wz hW => ?_
              rw [hW]
              revert a ha
              refine pn_block ?_
              refine EW.on ?_
              refine EW.region ?_
              first | refine WL.move rfl rfl rfl ?_
              first | refine WL.bin rfl rfl rfl rfl (int_add ‹_› _ _ _) ?_
              first | refine WL.assign rfl rfl rfl ?_
              refine WL.done ?_
              exact EW.again (E := mdE vb va j) (R := fun x wz => x.1 ≤ l.length ∧ Alls W wz va l ∧ (oneT l bs j x.1 → x.2 = true)) (m := fun x => l.length - x.1) (x := (k, false)) (k + 1, true) [2, 9, 12, 13, 14] rfl ⟨kl, hA6, fun _ => rfl⟩ (msM k _ kl)
            · subst hof
              have hbb : ¬ (cj.toNat : Int) = (bj.toNat : Int) := fun e => hcb (UInt8.toNat_inj.1 (Int.ofNat_inj.1 e))
              refine EW.seq ?_
              refine EW.seq ?_
              refine EW.region ?_
              first | refine WL.move rfl rfl rfl ?_
              first | refine WL.move rfl rfl rfl ?_
              refine WL.len rfl rfl rfl (hl29 _ _) ?_
              first | refine WL.bin rfl rfl rfl rfl (int_lt_t ‹_› _ _ _) ?_ | refine WL.bin rfl rfl rfl rfl (int_lt_f ‹_› _ _ _) ?_
              refine WL.done ?_
              refine EW.on ?_
              refine EW.cond_t rfl ?_
              refine EW.skip ?_
              refine EW.on ?_
              refine EW.seq ?_
              refine EW.block ?_
              refine EW.ord [(0, false), (1, false), (2, false), (3, false), (4, false), (5, false), (6, false), (7, false), (8, false), (9, false), (10, false), (11, false), (12, false), (13, false), (14, false)] (fun V => V = wd) (by kernel_rfl) rfl (by kernel_rfl) hwd ?_
              rw [hwd]
              simp only [ordOps, List.getD_cons_zero, List.getD_cons_succ]
              refine OE.move rfl rfl rfl ?_
              refine OE.move rfl rfl rfl ?_
              refine OE.move rfl rfl rfl ?_
              refine OE.move rfl rfl rfl ?_
              refine OE.index rfl rfl rfl rfl hmx ?_
              refine OE.load rfl rfl rfl (fun V hV => by rw [hV]; exact ld9 hmc) ?_
              refine OE.move rfl rfl rfl ?_
              refine OE.idx rfl rfl rfl rfl (fun V => str_idx c j cj hcj V) ?_
              refine OE.move rfl rfl rfl ?_
              refine OE.move rfl rfl rfl ?_
              refine OE.index rfl rfl rfl rfl (fun V => hvb j V jl) ?_
              refine OE.load rfl rfl rfl (fun V hV => by rw [hV]; exact ld5 hcell) ?_
              refine OE.bin rfl rfl rfl rfl (fun V => byte_eq_f hbb V _ _) ?_
              refine OE.pick rfl rfl rfl rfl ?_
              refine OE.assign rfl rfl rfl ?_
              refine fun a ha Wz hW => ?_
              rw [hW]
              revert a ha
              refine pn_block ?_
              refine EW.on ?_
              refine EW.region ?_
              first | refine WL.move rfl rfl rfl ?_
              first | refine WL.bin rfl rfl rfl rfl (int_add ‹_› _ _ _) ?_
              first | refine WL.assign rfl rfl rfl ?_
              refine WL.done ?_
              exact EW.again (E := mdE vb va j) (R := fun x wz => x.1 ≤ l.length ∧ Alls W wz va l ∧ (oneT l bs j x.1 → x.2 = true)) (m := fun x => l.length - x.1) (x := (k, false)) (k + 1, false) [2, 9, 12, 13, 14] rfl ⟨kl, hA6, fun ⟨m, d, hm, h1, h2⟩ => (Nat.lt_or_ge m k).elim (fun h3 => ho ⟨m, d, h3, h1, h2⟩) (fun h3 => by rw [show m = k by omega, hc] at h1; rw [← Option.some.inj h1, hcj, hbj] at h2; exact absurd (Option.some.inj h2) hcb)⟩ (msM k _ kl)
        · have k1 : ¬ (k : Int) < (l.length : Int) := fun hh => kl (Int.ofNat_lt.1 hh)
          obtain ⟨c, hcm, hce⟩ := hby j jl
          obtain ⟨m, hm, e⟩ := List.mem_iff_getElem.1 hcm
          have hot : o = true := ho ⟨m, c, by have := Nat.le_antisymm hkl (Nat.le_of_not_lt kl); omega, by rw [List.getElem?_eq_getElem hm, e], hce⟩
          subst hot
          refine EW.seq ?_
          refine EW.seq ?_
          refine EW.region ?_
          first | refine WL.move rfl rfl rfl ?_
          first | refine WL.move rfl rfl rfl ?_
          refine WL.len rfl rfl rfl (hl29 _ _) ?_
          first | refine WL.bin rfl rfl rfl rfl (int_lt_t ‹_› _ _ _) ?_ | refine WL.bin rfl rfl rfl rfl (int_lt_f ‹_› _ _ _) ?_
          refine WL.done ?_
          refine EW.on ?_
          refine EW.cond_f rfl ?_
          refine EW.exit ?_
          repeat refine px_then ?_
          refine px_block ?_
          refine EW.on ?_
          refine EW.seq ?_
          refine EW.region ?_
          first | refine WL.move rfl rfl rfl ?_
          first | refine WL.un rfl rfl rfl (not_t _ _) ?_
          refine WL.done ?_
          refine EW.on ?_
          refine EW.cond_f rfl ?_
          refine EW.skip ?_
          refine pn_block ?_
          refine EW.on ?_
          refine EW.region ?_
          first | refine WL.move rfl rfl rfl ?_
          first | refine WL.bin rfl rfl rfl rfl (int_add ‹_› _ _ _) ?_
          first | refine WL.assign rfl rfl rfl ?_
          refine WL.done ?_
          exact EW.again (j + 1) [2, 9, 12] rfl ⟨jl, hA5⟩ (msM j _ jl)
      · have j1 : ¬ (j : Int) < 512 := fun hh => jl (Int.ofNat_lt.1 hh)
        refine EW.seq ?_
        refine EW.seq ?_
        refine EW.region ?_
        first | refine WL.move rfl rfl rfl ?_
        first | refine WL.bin rfl rfl rfl rfl (int_lt_t ‹_› _ _ _) ?_ | refine WL.bin rfl rfl rfl rfl (int_lt_f ‹_› _ _ _) ?_
        refine WL.done ?_
        refine EW.on ?_
        refine EW.cond_f rfl ?_
        refine EW.exit ?_
        repeat refine px_then ?_
        refine px_block ?_
        refine EW.on ?_
        refine EW.seq ?_
        refine EW.region ?_
        first | refine WL.assign rfl rfl rfl ?_
        refine WL.done ?_
        refine EW.on ?_
        refine EW.ret ?_
        exact EW.returns Try.results61 rfl ⟨rfl, hA4.be⟩
end Go.Proofs.Ythfcabhelldokaa
