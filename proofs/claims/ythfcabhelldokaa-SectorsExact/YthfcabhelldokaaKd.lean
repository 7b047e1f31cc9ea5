import Derived.Test.YthfcabhelldokaaKsG
set_option linter.unusedVariables false
set_option linter.unusedSimpArgs false
namespace Go.Proofs.Ythfcabhelldokaa
open Go.RowKit

theorem int_mul {a b c : Int} (h : IntKind.i64.wrap (a * b) = c) (W : World) (x y : Operand) : (do eqGuard .mul 3 x y (.int .i64 a) (.int .i64 b); binOp .mul 3 (.int .i64 a) (.int .i64 b) : Sem Value).run Try.prog W = .ok (.int .i64 c) W := by go_simp
theorem OE.slice {P : Program} {n : Nat} {ops : Array Oper} {K : List (Nat × Value) → (World → Prop) → Prop} {i : Nat} {ty : TypeId} {ps : String} {af : Array Edge} {gd : Option (Nat × Bool)} {r : List (Oper × Bool)} {e : List (Nat × Value)} {S C : World → Prop} {t : TypeId} {x lo hi : Operand} {u ul uh v : Value} (hw : wantE ops e ⟨some i, .slice t x (some lo) (some hi) none, ty, ps, af, gd⟩ = some true) (hi' : decide (i < n) = true) (hx : evE e x = some u) (hl : evE e lo = some ul) (hh : evE e hi = some uh) (hr : ∀ w, (Instr.sliceAt t u (some ul) (some uh) none).run P w = .ok v w) (k : wpOrdE P n ops K r ((i, v) :: e) S C) : wpOrdE P n ops K ((⟨some i, .slice t x (some lo) (some hi) none, ty, ps, af, gd⟩, false) :: r) e S C :=
  OE.val hw hi' (fun a ha W hW => by simp [execOp, ha.ev hx, ha.ev hl, ha.ev hh, hr W, Result.andThen]) k
theorem OE.load {P : Program} {n : Nat} {ops : Array Oper} {K : List (Nat × Value) → (World → Prop) → Prop} {i : Nat} {ty : TypeId} {ps : String} {af : Array Edge} {gd : Option (Nat × Bool)} {r : List (Oper × Bool)} {e : List (Nat × Value)} {S C : World → Prop} {t : TypeId} {x : Operand} {u v : Value} (hw : wantE ops e ⟨some i, .load t x, ty, ps, af, gd⟩ = some true) (hi' : decide (i < n) = true) (hx : evE e x = some u) (hr : ∀ w, S w → (Instr.loadAt t u).run P w = .ok v w) (k : wpOrdE P n ops K r ((i, v) :: e) S C) : wpOrdE P n ops K ((⟨some i, .load t x, ty, ps, af, gd⟩, false) :: r) e S C :=
  OE.val hw hi' (fun a ha W hW => by simp [execOp, ha.ev hx, hr W hW, Result.andThen]) k
theorem OE.field {P : Program} {n : Nat} {ops : Array Oper} {K : List (Nat × Value) → (World → Prop) → Prop} {i : Nat} {ty : TypeId} {ps : String} {af : Array Edge} {gd : Option (Nat × Bool)} {r : List (Oper × Bool)} {e : List (Nat × Value)} {S C : World → Prop} {t : TypeId} {j : Nat} {x : Operand} {u v : Value} (hw : wantE ops e ⟨some i, .fieldAddr t x j, ty, ps, af, gd⟩ = some true) (hi' : decide (i < n) = true) (hx : evE e x = some u) (hr : ∀ w, (Instr.fieldAt t u j).run P w = .ok v w) (k : wpOrdE P n ops K r ((i, v) :: e) S C) : wpOrdE P n ops K ((⟨some i, .fieldAddr t x j, ty, ps, af, gd⟩, false) :: r) e S C :=
  OE.val hw hi' (fun a ha W hW => by simp [execOp, ha.ev hx, hr W, Result.andThen]) k
theorem OE.index {P : Program} {n : Nat} {ops : Array Oper} {K : List (Nat × Value) → (World → Prop) → Prop} {i : Nat} {ty : TypeId} {ps : String} {af : Array Edge} {gd : Option (Nat × Bool)} {r : List (Oper × Bool)} {e : List (Nat × Value)} {S C : World → Prop} {t : TypeId} {x y : Operand} {u u' v : Value} (hw : wantE ops e ⟨some i, .indexAddr t x y, ty, ps, af, gd⟩ = some true) (hi' : decide (i < n) = true) (hx : evE e x = some u) (hy : evE e y = some u') (hr : ∀ w, (Instr.indexAt t u u').run P w = .ok v w) (k : wpOrdE P n ops K r ((i, v) :: e) S C) : wpOrdE P n ops K ((⟨some i, .indexAddr t x y, ty, ps, af, gd⟩, false) :: r) e S C :=
  OE.val hw hi' (fun a ha W hW => by simp [execOp, ha.ev hx, ha.ev hy, hr W, Result.andThen]) k
theorem OE.nilc {P : Program} {n : Nat} {ops : Array Oper} {K : List (Nat × Value) → (World → Prop) → Prop} {i : Nat} {ty : TypeId} {ps : String} {af : Array Edge} {gd : Option (Nat × Bool)} {r : List (Oper × Bool)} {e : List (Nat × Value)} {S C : World → Prop} {x : Operand} {ad : Addr} (hw : wantE ops e ⟨some i, .nilCheck x, ty, ps, af, gd⟩ = some true) (hi' : decide (i < n) = true) (hx : evE e x = some (.pointer (some ad))) (k : wpOrdE P n ops K r ((i, .pointer (some ad)) :: e) S C) : wpOrdE P n ops K ((⟨some i, .nilCheck x, ty, ps, af, gd⟩, false) :: r) e S C :=
  OE.val hw hi' (fun a ha W hW => by simp [execOp, ha.ev hx]) k
theorem secV_at (gi n i : Nat) (hi : i < n) (W : World) : (Instr.sliceAt 34 (.slice (some ⟨gi, 0, none⟩) (n * 512) (n * 512)) (some (.int .i64 ((i * 512 : Nat) : Int))) (some (.int .i64 (((i + 1) * 512 : Nat) : Int))) none).run Try.prog W = .ok (secV gi n i) W := by
  have := run_sec gi n i hi W
  obtain ⟨A, hA⟩ : ∃ A, i * 512 = A := ⟨_, rfl⟩
  obtain ⟨B, hB⟩ : ∃ B, (i + 1) * 512 = B := ⟨_, rfl⟩
  obtain ⟨N, hN⟩ : ∃ N, n * 512 = N := ⟨_, rfl⟩
  obtain ⟨V, hV⟩ : ∃ V, secV gi n i = V := ⟨_, rfl⟩
  rw [hA, hB, hN, hV] at this
  rw [hA, hB, hN, hV]
  clear hA hB hN hV
  go_simp
theorem secV_has {W : World} {g n : Nat} {img : List UInt8} (h : Blk W g (img.map byt) 5) (hl : img.length = n * 512) (i : Nat) (hi : i < n) : Has W (secV g n i) (secB img i) := by
  have hbl : (secB img i).length = 512 := by unfold secB; simp; omega
  refine .inr ⟨⟨g, i * 512, none⟩, n * 512 - i * 512, by rw [hbl]; rfl, by rw [hbl]; omega, fun j u hu => ?_⟩
  rw [add_off, h.cell, List.getElem?_map]
  unfold secB at hu
  have hj : j < 512 := by
    rcases Nat.lt_or_ge j 512 with h1 | h1
    · exact h1
    · rw [List.getElem?_eq_none (by simp; omega)] at hu; cases hu
  rw [List.getElem?_take_of_lt hj, List.getElem?_drop] at hu
  rw [hu]; rfl
theorem m512 (t : Nat) (h : t < 4) : IntKind.i64.wrap ((t : Int) * 512) = ((t * 512 : Nat) : Int) := by rw [IntKind.wrap_i64]; omega
theorem a512 (t : Nat) (h : t < 4) : IntKind.i64.wrap (((t * 512 : Nat) : Int) + 512) = (((t + 1) * 512 : Nat) : Int) := by rw [IntKind.wrap_i64]; omega
theorem len34 (ad : Option Addr) (n cap : Nat) (W : World) (ty : TypeId) : (Builtin.len_ #[34] ty #[.slice ad n cap]).run Try.prog W = .ok (.int .i64 (n : Int)) W := by go_simp
def duE (pv : Nat) (v : Value) (t : Nat) : List (Nat × Value) := [(0, .pointer (some ⟨pv, 0, none⟩)), (3, v), (4, .int .i64 (t : Int))]
set_option maxRecDepth 100000 in
theorem durable_law {W : World} {L : Lay} {D : Dv} {pv : Nat} {vi vl : Value} {ims : List ByteArray} {gs : List Nat} (hD : Dev W L D) (hB : Bk W pv L.p vi vl ims gs D.pen) (hn : D.n = 4) (him : ∀ i, i < 4 → ims[i]? = some (secS D.img i)) :
    Calls Try.prog 30 #[.pointer (some ⟨pv, 0, none⟩)] W fun e w' => e = .returned (.bool true) ∧ Below W.heap.size W w' := by
  have r0 := (hB.bl.cell 0).trans (show _ = some (.pointer (some ⟨L.p, 0, none⟩)) from rfl)
  have hcp := image_any hD
  have hil := hD.ok.len
  have b1 : Blk (W.alloc (.cells (D.img.map byt).toArray 5)) W.heap.size (D.img.map byt) 5 := Blk.new _ _ _
  have be1 : Below W.heap.size W (W.alloc (.cells (D.img.map byt).toArray 5)) := below_new _ _
  have B1 := hB.below be1
  obtain ⟨w1, hw1⟩ : ∃ w1, W.alloc (.cells (D.img.map byt).toArray 5) = w1 := ⟨_, rfl⟩
  obtain ⟨g, hg⟩ : ∃ g, W.heap.size = g := ⟨_, rfl⟩
  rw [hw1] at b1 be1 B1 hcp
  rw [hg] at b1 hcp
  rw [hil, hn] at hcp
  rw [hn] at hil
  have h48 : ((4 * 512 : Nat) : Int) = 2048 := by decide
  refine calls_of_args [.pointer (some ⟨pv, 0, none⟩)] Try.func30 rfl 33 Try.ntmps30 (by show 1 ≤ 33; decide) ?_
  refine EW.seq ?_
  refine EW.region ?_
  first | refine WL.assign rfl rfl rfl ?_
  refine WL.done ?_
  refine EW.on ?_
  refine EW.seq ?_
  refine EW.region ?_
  first | refine WL.move rfl rfl rfl ?_
  first | refine WL.nilc rfl rfl rfl ?_
  first | refine WL.field rfl rfl rfl (fld32_0 _ _) ?_
  refine WL.load rfl rfl rfl (ld28 r0) ?_
  refine WL.call [.pointer (some ⟨L.p, 0, none⟩)] enter16 rfl rfl rfl hcp ?_
  rintro x w3 ⟨rfl, hz⟩
  rw [hz]; clear hz w3
  refine ⟨_, rfl, ?_⟩
  first | refine WL.assign rfl rfl rfl ?_
  refine WL.done ?_
  refine EW.on ?_
  refine EW.seq ?_
  refine EW.seq ?_
  refine EW.region ?_
  first | refine WL.move rfl rfl rfl ?_
  refine WL.len rfl rfl rfl (len34 _ _ _ _ _) ?_
  refine WL.bin rfl rfl rfl rfl (int_ne_f h48 _ _ _) ?_
  refine WL.done ?_
  refine EW.on ?_
  refine EW.cond_f rfl ?_
  refine EW.skip ?_
  refine EW.on ?_
  refine EW.seq ?_
  refine EW.seq ?_
  refine EW.region ?_
  first | refine WL.assign rfl rfl rfl ?_
  refine WL.done ?_
  refine EW.on ?_
  refine EW.block ?_
  refine EW.loop (duE pv (.slice (some ⟨g, 0, none⟩) (4 * 512) (4 * 512))) (fun t w' => t ≤ 4 ∧ Below w1.heap.size w1 w') (fun t => 4 - t) 0 [0, 3, 4] rfl ⟨Nat.zero_le _, Below.refl _ _⟩ ?_
  rintro t wr ⟨ht4, hbe⟩
  show EW _ _ _ _ [(0, .pointer (some ⟨pv, 0, none⟩)), (3, .slice (some ⟨g, 0, none⟩) (4 * 512) (4 * 512)), (4, .int .i64 (t : Int))] _
  by_cases hl : t < 4
  · have z1 : (t : Int) < 4 := Int.ofNat_lt.2 hl
    have tn := tn4 t hl
    have t5 := m512 t hl
    have t6 := a512 t hl
    have bd : Below w1.heap.size w1 { wr with drawn := wr.drawn + 1 } := hbe.trans ((below_drawn wr).mono hbe.size)
    obtain ⟨gi, _, hix, hci⟩ := im_item B1.im t (secS D.img t) (him t hl)
    have hci2 : ∀ V, Below w1.heap.size w1 V → V.cell? ⟨gi, t, none⟩ = some (.string (secS D.img t)) := fun V hV => (hV.cell (cell_lt hci)).trans hci
    have r1 : ∀ V, Below w1.heap.size w1 V → V.cell? ⟨pv, 1, none⟩ = some vi := fun V hV => (((B1.below hV).bl).cell 1).trans rfl
    have hcv : ∀ V, Below w1.heap.size w1 V → (Go.convert 34 9 (secV g 4 t)).run Try.prog V = .ok (.string (secS D.img t)) V := fun V hV => (secV_has (b1.on hV) hil t hl).convert
    refine EW.seq ?_
    refine EW.seq ?_
    refine EW.region ?_
    first | refine WL.move rfl rfl rfl ?_
    first | refine WL.bin rfl rfl rfl rfl (int_lt_t ‹_› _ _ _) ?_ | refine WL.bin rfl rfl rfl rfl (int_lt_f ‹_› _ _ _) ?_
    refine WL.done ?_
    refine EW.on ?_
    refine EW.cond_t rfl ?_
    refine EW.skip ?_
    refine EW.on ?_
    refine EW.seq ?_
    refine EW.block ?_
    refine EW.seq ?_
    refine EW.ord [(0, false), (1, false), (2, false), (3, false), (4, false), (5, false), (6, false), (7, false), (8, false), (9, false), (10, false), (11, false), (12, false), (13, false), (14, false), (15, false)] (fun V => Below w1.heap.size w1 V) (by kernel_rfl) rfl (by kernel_rfl) bd ?_
    simp only [ordOps, List.getD_cons_zero, List.getD_cons_succ]
    refine OE.move rfl rfl rfl ?_
    refine OE.move rfl rfl rfl ?_
    refine OE.bin rfl rfl rfl rfl (fun V => int_mul t5 V _ _) ?_
    refine OE.move rfl rfl rfl ?_
    refine OE.bin rfl rfl rfl rfl (fun V => int_mul t5 V _ _) ?_
    refine OE.bin rfl rfl rfl rfl (fun V => int_add t6 V _ _) ?_
    refine OE.slice rfl rfl rfl rfl rfl (fun V => secV_at g 4 t hl V) ?_
    refine OE.conv rfl rfl rfl hcv ?_
    refine OE.move rfl rfl rfl ?_
    refine OE.nilc rfl rfl rfl ?_
    refine OE.field rfl rfl rfl (fun V => fld32_1 pv V) ?_
    refine OE.load rfl rfl rfl (fun V hV => ld29 (r1 V hV)) ?_
    refine OE.move rfl rfl rfl ?_
    refine OE.index rfl rfl rfl rfl hix ?_
    refine OE.load rfl rfl rfl (fun V hV => ld9 (hci2 V hV)) ?_
    refine OE.bin rfl rfl rfl rfl (fun V => str_ne_f _ V _ _) ?_
    refine fun a ha Wz hW => ?_
    rw [hW]
    revert a ha
    refine EW.on ?_
    refine EW.cond_f rfl ?_
    refine EW.skip ?_
    refine pn_block ?_
    refine EW.on ?_
    refine EW.region ?_
    first | refine WL.move rfl rfl rfl ?_
    first | refine WL.bin rfl rfl rfl rfl (int_add ‹_› _ _ _) ?_
    first | refine WL.assign rfl rfl rfl ?_
    refine WL.done ?_
    exact EW.again (t + 1) [0, 3, 4] rfl ⟨hl, bd⟩ (ms4 t hl)
  · have z1 : ¬ (t : Int) < 4 := fun hh => hl (Int.ofNat_lt.1 hh)
    refine EW.seq ?_
    refine EW.seq ?_
    refine EW.region ?_
    first | refine WL.move rfl rfl rfl ?_
    first | refine WL.bin rfl rfl rfl rfl (int_lt_t ‹_› _ _ _) ?_ | refine WL.bin rfl rfl rfl rfl (int_lt_f ‹_› _ _ _) ?_
    refine WL.done ?_
    refine EW.on ?_
    refine EW.cond_f rfl ?_
    refine EW.exit ?_
    repeat refine px_then ?_
    refine px_block ?_
    refine EW.on ?_
    refine EW.seq ?_
    refine EW.region ?_
    first | refine WL.assign rfl rfl rfl ?_
    refine WL.done ?_
    refine EW.on ?_
    refine EW.ret ?_
    exact EW.returns Try.results30 rfl ⟨rfl, be1.trans (hbe.mono be1.size)⟩
end Go.Proofs.Ythfcabhelldokaa
