import Derived.Test.YthfcabhelldokaaFa
set_option linter.unusedVariables false
set_option linter.unusedSimpArgs false
namespace Go.Proofs.Ythfcabhelldokaa
open Go.RowKit

theorem Pen.fx {S : Nat → Prop} {w w' : World} {g : Nat} {gs : List Nat} {pen : List (Nat × List UInt8)} (h : Pen w g gs pen) (hf : Fx S w w') (hg : ¬ S g) (hd : ∀ k ∈ gs, ¬ S k) : Pen w' g gs pen := ⟨h.row.fx hf hg, h.len, fun k gb x h1 h2 => (h.bys k gb x h1 h2).fx hf (hd gb (List.mem_of_getElem? h1))⟩
theorem bool_ne_f' (b : Bool) (W : World) (x y : Operand) : (do eqGuard .neq 4 x y (.bool b) (.bool b); binOp .neq 4 (.bool b) (.bool b) : Sem Value).run Try.prog W = .ok (.bool false) W := by go_simp
def sqE (v v' : Value) (t : Nat) : List (Nat × Value) := [(0, v), (1, v'), (5, .int .i64 (t : Int))]
set_option maxRecDepth 100000 in
set_option maxHeartbeats 1000000 in
theorem sp_law {W : World} {R : Rl} {D : Dv} (gl : Nat) (gs : List Nat) (hP : Pen W gl gs D.pen) (hR : RDev W R D) : Calls Try.prog 23 #[.slice (some ⟨gl, 0, none⟩) D.pen.length D.pen.length, R.vl] W fun e w' => e = .returned (.bool true) ∧ Below W.heap.size W w' := by
  have hl1 := fun V ty => len30 (some ⟨gl, 0, none⟩) D.pen.length D.pen.length V ty
  have hl2 := hR.plen
  have few := hR.ok.few
  refine calls_of_args [.slice (some ⟨gl, 0, none⟩) D.pen.length D.pen.length, R.vl] Try.func23 rfl 43 Try.ntmps23 (by show 2 ≤ 43; decide) ?_
  refine EW.seq ?_
  refine EW.region ?_
  first | refine WL.assign rfl rfl rfl ?_
  refine WL.done ?_
  refine EW.on ?_
  refine EW.seq ?_
  refine EW.seq ?_
  refine EW.region ?_
  first | refine WL.move rfl rfl rfl ?_
  refine WL.len rfl rfl rfl (hl1 _ _) ?_
  first | refine WL.move rfl rfl rfl ?_
  refine WL.len rfl rfl rfl (hl2 _ _) ?_
  refine WL.bin rfl rfl rfl rfl (int_ne_f rfl _ _ _) ?_
  refine WL.done ?_
  refine EW.on ?_
  refine EW.cond_f rfl ?_
  refine EW.skip ?_
  refine EW.on ?_
  refine EW.seq ?_
  refine EW.seq ?_
  refine EW.region ?_
  first | refine WL.assign rfl rfl rfl ?_
  refine WL.done ?_
  refine EW.on ?_
  refine EW.block ?_
  refine EW.loop (sqE (.slice (some ⟨gl, 0, none⟩) D.pen.length D.pen.length) R.vl) (fun t w' => t ≤ D.pen.length ∧ Below W.heap.size W w') (fun t => D.pen.length - t) 0 [0, 1, 5] rfl ⟨Nat.zero_le _, Below.refl _ _⟩ ?_
  rintro t wr ⟨ht, hbe⟩
  show EW _ _ _ _ [(0, .slice (some ⟨gl, 0, none⟩) D.pen.length D.pen.length), (1, R.vl), (5, .int .i64 (t : Int))] _
  by_cases hlt : t < D.pen.length
  · have z1 : (t : Int) < (D.pen.length : Int) := Int.ofNat_lt.2 hlt
    have tn := tnM t _ hlt few
    obtain ⟨x, hx⟩ : ∃ x, D.pen[t]? = some x := ⟨_, List.getElem?_eq_getElem hlt⟩
    obtain ⟨g, hg⟩ : ∃ g, gs[t]? = some g := ⟨_, List.getElem?_eq_getElem (by rw [hP.len]; exact hlt)⟩
    obtain ⟨v, hv⟩ : ∃ v, R.vs[t]? = some v := ⟨_, List.getElem?_eq_getElem (by rw [hR.vsl]; exact hlt)⟩
    obtain ⟨gp, hix, hat⟩ := hR.item t v x hv hx
    have hx5 := (hR.ok.sec x (List.mem_of_getElem? hx)).2
    have bd : Below W.heap.size W { wr with drawn := wr.drawn + 1 } := hbe.trans ((below_drawn wr).mono hbe.size)
    have p0 : ∀ V, Below W.heap.size W V → V.cell? ⟨gl, t * 2, none⟩ = some (.int .i64 (x.1 : Int)) := fun V hV => ((hP.row.on hV).cell _).trans (penC_at gs D.pen t g x hg hx).1
    have p1 : ∀ V, Below W.heap.size W V → V.cell? ⟨gl, t * 2 + 1, none⟩ = some (bV g) := fun V hV => ((hP.row.on hV).cell _).trans (penC_at gs D.pen t g x hg hx).2
    have a0 : W.cell? ⟨gp, t * 2, none⟩ = some (.int .i64 (x.1 : Int)) := (add_plain' gp (t * 2)) ▸ hat 0 _ rfl
    have a1 : W.cell? ⟨gp, t * 2 + 1, none⟩ = some v := (add_off gp (t * 2) 1) ▸ hat 1 _ rfl
    have q0 : ∀ V, Below W.heap.size W V → V.cell? ⟨gp, t * 2, none⟩ = some (.int .i64 (x.1 : Int)) := fun V hV => (hV.cell (cell_lt a0)).trans a0
    have q1 : ∀ V, Below W.heap.size W V → V.cell? ⟨gp, t * 2 + 1, none⟩ = some v := fun V hV => (hV.cell (cell_lt a1)).trans a1
    have c1 : ∀ V, Below W.heap.size W V → (Go.convert 34 9 (bV g)).run Try.prog V = .ok (.string ⟨x.2.toArray⟩) V := fun V hV => (Blk.hasB ((hP.bys t g x hg hx).on hV) hx5).convert
    have c2 : ∀ V, Below W.heap.size W V → (Go.convert 34 9 v).run Try.prog V = .ok (.string ⟨x.2.toArray⟩) V := fun V hV => ((hR.bys t v x hv hx).below hV).convert
    refine EW.seq ?_
    refine EW.seq ?_
    refine EW.region ?_
    first | refine WL.move rfl rfl rfl ?_
    first | refine WL.move rfl rfl rfl ?_
    refine WL.len rfl rfl rfl (hl1 _ _) ?_
    first | refine WL.bin rfl rfl rfl rfl (int_lt_t ‹_› _ _ _) ?_ | refine WL.bin rfl rfl rfl rfl (int_lt_f ‹_› _ _ _) ?_
    refine WL.done ?_
    refine EW.on ?_
    refine EW.cond_t rfl ?_
    refine EW.skip ?_
    refine EW.on ?_
    refine EW.seq ?_
    refine EW.block ?_
    refine EW.seq ?_
    refine EW.ord [(0, false), (1, false), (2, false), (3, false), (4, false), (5, false), (6, false), (7, false), (8, false), (9, false), (10, false), (11, false), (12, false), (13, false), (14, false), (15, false), (16, false), (17, false), (18, false), (19, false), (20, false), (21, false), (22, false), (23, false), (24, false), (25, false)] (fun V => Below W.heap.size W V) (by kernel_rfl) rfl (by kernel_rfl) bd ?_
    simp only [ordOps, List.getD_cons_zero, List.getD_cons_succ]
    refine OE.move rfl rfl rfl ?_
    refine OE.move rfl rfl rfl ?_
    refine OE.index rfl rfl rfl rfl (fun V => idx30 gl _ _ t hlt V) ?_
    refine OE.field rfl rfl rfl (fun V => fld78_0 _ _ V) ?_
    refine OE.load rfl rfl rfl (fun V hV => ld3 (p0 V hV)) ?_
    refine OE.move rfl rfl rfl ?_
    refine OE.move rfl rfl rfl ?_
    refine OE.index rfl rfl rfl rfl hix ?_
    refine OE.field rfl rfl rfl (fun V => fld78_0 _ _ V) ?_
    refine OE.load rfl rfl rfl (fun V hV => ld3 (q0 V hV)) ?_
    refine OE.bin rfl rfl rfl rfl (fun V => int_ne_f rfl V _ _) ?_
    refine OE.move rfl rfl rfl ?_
    refine OE.move rfl rfl rfl ?_
    refine OE.move rfl rfl rfl ?_
    refine OE.index rfl rfl rfl rfl (fun V => idx30 gl _ _ t hlt V) ?_
    refine OE.field rfl rfl rfl (fun V => fld78_1 _ _ V) ?_
    refine OE.load rfl rfl rfl (fun V hV => ld34 (p1 V hV)) ?_
    refine OE.conv rfl rfl rfl c1 ?_
    refine OE.move rfl rfl rfl ?_
    refine OE.move rfl rfl rfl ?_
    refine OE.index rfl rfl rfl rfl hix ?_
    refine OE.field rfl rfl rfl (fun V => fld78_1 _ _ V) ?_
    refine OE.load rfl rfl rfl (fun V hV => ld34 (q1 V hV)) ?_
    refine OE.conv rfl rfl rfl c2 ?_
    refine OE.bin rfl rfl rfl rfl (fun V => str_ne_f _ V _ _) ?_
    refine OE.pick rfl rfl rfl rfl ?_
    refine fun a ha W5 hW => ?_
    rw [hW]
    revert a ha
    refine EW.on ?_
    refine EW.cond_f rfl ?_
    refine EW.skip ?_
    refine pn_block ?_
    refine EW.on ?_
    refine EW.region ?_
    first | refine WL.move rfl rfl rfl ?_
    first | refine WL.bin rfl rfl rfl rfl (int_add ‹_› _ _ _) ?_
    first | refine WL.assign rfl rfl rfl ?_
    refine WL.done ?_
    exact EW.again (t + 1) [0, 1, 5] rfl ⟨hlt, bd⟩ (by show D.pen.length - (t + 1) < D.pen.length - t; omega)
  · have z1 : ¬ (t : Int) < (D.pen.length : Int) := fun hh => hlt (Int.ofNat_lt.1 hh)
    refine EW.seq ?_
    refine EW.seq ?_
    refine EW.region ?_
    first | refine WL.move rfl rfl rfl ?_
    first | refine WL.move rfl rfl rfl ?_
    refine WL.len rfl rfl rfl (hl1 _ _) ?_
    first | refine WL.bin rfl rfl rfl rfl (int_lt_t ‹_› _ _ _) ?_ | refine WL.bin rfl rfl rfl rfl (int_lt_f ‹_› _ _ _) ?_
    refine WL.done ?_
    refine EW.on ?_
    refine EW.cond_f rfl ?_
    refine EW.exit ?_
    repeat refine px_then ?_
    refine px_block ?_
    refine EW.on ?_
    refine EW.seq ?_
    refine EW.region ?_
    first | refine WL.assign rfl rfl rfl ?_
    refine WL.done ?_
    refine EW.on ?_
    refine EW.ret ?_
    repeat (first | refine pr_then ?_ | refine pr_block ?_)
    exact EW.returns Try.results23 rfl ⟨rfl, hbe⟩
/-- The book, with bounds. -/
structure Bst (W : World) (B : Bl) (c : Nat) : Prop where
  bok : Bok W B
  wn : B.wn = B.got.map (·.2)
  mark : B.mark ≤ c
  got : B.got.length ≤ 2 * c
  ls : B.ls.length ≤ 2 * c
  ev : B.ls.length % 2 = 0
  lx : ∀ x ∈ B.ls, x.2 ≤ 100000000
theorem Bst.below {W W' : World} {B : Bl} {c : Nat} (h : Bst W B c) (hb : Below W.heap.size W W') : Bst W' B c := ⟨h.bok.below hb, h.wn, h.mark, h.got, h.ls, h.ev, h.lx⟩
theorem Bst.fx {S : Nat → Prop} {W W' : World} {B : Bl} {c : Nat} (h : Bst W B c) (hf : Fx S W W') (hd : ∀ k, B.F k → ¬ S k) : Bst W' B c := ⟨h.bok.fx hf hd, h.wn, h.mark, h.got, h.ls, h.ev, h.lx⟩
theorem Bst.mono {W : World} {B : Bl} {c c' : Nat} (h : Bst W B c) (hc : c ≤ c') : Bst W B c' := ⟨h.bok, h.wn, by have := h.mark; omega, by have := h.got; omega, by have := h.ls; omega, h.ev, h.lx⟩
theorem take_st {W : World} {B : Bl} {c : Nat} (h : Bst W B c) (hc : c ≤ 400000) (v : Value) (bs : List UInt8) (hv : Own1 W v bs) (hvn : ∀ k, v.ownBlock = some k → ¬ B.F k) (hbl : bs.length ≤ 10000000) :
    Calls Try.prog 48 #[.pointer (some ⟨B.p, 0, none⟩), v] W fun e w' => e = .returned (.tuple #[]) ∧ ∃ B', B'.p = B.p ∧ Bst w' B' (c + 1) ∧ Fx (fun k => B.F k ∨ v.ownBlock = some k) W w' ∧ ∀ k, B'.F k → B.F k ∨ v.ownBlock = some k ∨ W.heap.size ≤ k :=
  (take_law h.bok h.wn v bs hv hvn hbl (by have := h.mark; omega) (by have := h.got; omega)).mono fun e w' ⟨h1, B', hp, hw, hB, hm, hg, hl, _, hf, ho⟩ => ⟨h1, B', hp, ⟨hB, hw, by have := h.mark; omega, by have := h.got; omega, by have := h.ls; rw [hl]; omega, by rw [hl]; exact h.ev, by rw [hl]; exact h.lx⟩, hf, ho⟩
theorem takeCache_st {W : World} {B : Bl} {c : Nat} (h : Bst W B c) (hc : c ≤ 400000) (gl : Nat) (gs : List Nat) (pen : List (Nat × List UInt8)) (hP : Pen W gl gs pen) (hsec : ∀ x ∈ pen, x.2.length = 512) (hgl : ¬ B.F gl) (hgs : ∀ g ∈ gs, ¬ B.F g ∧ g ≠ gl) (hnd : ∀ (j k g : Nat), gs[j]? = some g → gs[k]? = some g → j = k) (hpl : pen.length ≤ 100000) :
    Calls Try.prog 57 #[.pointer (some ⟨B.p, 0, none⟩), .slice (some ⟨gl, 0, none⟩) pen.length pen.length] W fun e w' => e = .returned (.tuple #[]) ∧ ∃ B', B'.p = B.p ∧ Bst w' B' (c + pen.length + 1) ∧ Fx (fun k => B.F k ∨ k = gl ∨ k ∈ gs) W w' ∧ ∀ k, B'.F k → B.F k ∨ k = gl ∨ k ∈ gs ∨ W.heap.size ≤ k :=
  (takeCache_law h.bok h.wn gl gs pen hP hsec hgl hgs hnd hpl (by have := h.mark; omega) (by have := h.got; omega) (by have := h.ls; omega) h.ev).mono fun e w' ⟨h1, B', hp, hw, hB, hm, hg, ⟨x, y, hl⟩, hf, ho⟩ => ⟨h1, B', hp, ⟨hB, hw, by have := h.mark; omega, by have := h.got; omega, by have := h.ls; rw [hl]; simp; omega, by have := h.ev; rw [hl]; simp; omega, fun z hz => by
    rw [hl] at hz
    rcases List.mem_append.1 hz with hz | hz
    · exact h.lx z hz
    · simp only [List.mem_cons, List.not_mem_nil, or_false] at hz
      rcases hz with rfl | rfl
      · show pen.length ≤ _; omega
      · show pen.length + 8 ≤ _; omega⟩, hf, ho⟩
theorem hold_st {W : World} {B : Bl} {c : Nat} (h : Bst W B c) (hc : c ≤ 400000) : Calls Try.prog 32 #[.pointer (some ⟨B.p, 0, none⟩)] W fun e w' => e = .returned (.bool true) ∧ Below W.heap.size W w' :=
  hold_law h.bok h.wn (by have := h.got; omega) (by have := h.ls; omega) h.lx
set_option maxRecDepth 100000 in
set_option maxHeartbeats 1000000 in
theorem tells_law {W : World} {L : Lay} {R : Rl} {D : Dv} {B : Bl} {c : Nat} (h : Two W L R D) (hB : Bst W B c) (hap : ∀ k, L.F k ∨ R.F k → ¬ B.F k) (hc : c ≤ 200000) (hpl : D.pen.length ≤ 100000) :
    Calls Try.prog 33 #[.pointer (some ⟨L.p, 0, none⟩), .pointer (some ⟨R.p, 0, none⟩), .pointer (some ⟨B.p, 0, none⟩)] W fun e w' => e = .returned (.bool true) ∧ ∃ B', B'.p = B.p ∧ Bst w' B' (c + D.pen.length + 2) ∧ Fx B.F W w' ∧ ∀ k, B'.F k → B.F k ∨ W.heap.size ≤ k := by
  have a1 := sectors_any h.dev
  have a2 := ref_sectors h.ref
  have a3 := down_any h.dev
  have a4 := ref_down h.ref
  have a5 := calls_any h.dev
  have a6 := ref_calls h.ref
  refine calls_of_args [.pointer (some ⟨L.p, 0, none⟩), .pointer (some ⟨R.p, 0, none⟩), .pointer (some ⟨B.p, 0, none⟩)] Try.func33 rfl 59 Try.ntmps33 (by show 3 ≤ 59; decide) ?_
  refine EW.seq ?_
  refine EW.region ?_
  first | refine WL.assign rfl rfl rfl ?_
  refine WL.done ?_
  refine EW.on ?_
  refine EW.seq ?_
  refine EW.seq ?_
  refine EW.region ?_
  first | refine WL.move rfl rfl rfl ?_
  refine WL.call [.pointer (some ⟨L.p, 0, none⟩)] enter52 rfl rfl rfl a1 ?_
  rintro x w9 ⟨rfl, hz⟩
  rw [hz]; clear hz w9
  refine ⟨_, rfl, ?_⟩
  first | refine WL.move rfl rfl rfl ?_
  refine WL.call [.pointer (some ⟨R.p, 0, none⟩)] enter53 rfl rfl rfl a2 ?_
  rintro x w9 ⟨rfl, hz⟩
  rw [hz]; clear hz w9
  refine ⟨_, rfl, ?_⟩
  refine WL.bin rfl rfl rfl rfl (int_ne_f rfl _ _ _) ?_
  first | refine WL.move rfl rfl rfl ?_
  first | refine WL.move rfl rfl rfl ?_ | refine WL.skip _ rfl rfl rfl ?_
  refine WL.call [.pointer (some ⟨L.p, 0, none⟩)] enter22 rfl rfl rfl a3 ?_
  rintro x w9 ⟨rfl, hz⟩
  rw [hz]; clear hz w9
  refine ⟨_, rfl, ?_⟩
  first | refine WL.move rfl rfl rfl ?_ | refine WL.skip _ rfl rfl rfl ?_
  refine WL.call [.pointer (some ⟨R.p, 0, none⟩)] enter54 rfl rfl rfl a4 ?_
  rintro x w9 ⟨rfl, hz⟩
  rw [hz]; clear hz w9
  refine ⟨_, rfl, ?_⟩
  refine WL.bin rfl rfl rfl rfl (bool_ne_f' _ _ _ _) ?_
  first | refine WL.pick rfl rfl rfl rfl ?_
  first | refine WL.move rfl rfl rfl ?_
  first | refine WL.move rfl rfl rfl ?_ | refine WL.skip _ rfl rfl rfl ?_
  refine WL.call [.pointer (some ⟨L.p, 0, none⟩)] enter55 rfl rfl rfl a5 ?_
  rintro x w9 ⟨rfl, hz⟩
  rw [hz]; clear hz w9
  refine ⟨_, rfl, ?_⟩
  first | refine WL.move rfl rfl rfl ?_ | refine WL.skip _ rfl rfl rfl ?_
  refine WL.call [.pointer (some ⟨R.p, 0, none⟩)] enter56 rfl rfl rfl a6 ?_
  rintro x w9 ⟨rfl, hz⟩
  rw [hz]; clear hz w9
  refine ⟨_, rfl, ?_⟩
  refine WL.bin rfl rfl rfl rfl (int_ne_f rfl _ _ _) ?_
  first | refine WL.pick rfl rfl rfl rfl ?_
  refine WL.done ?_
  refine EW.on ?_
  refine EW.cond_f rfl ?_
  refine EW.skip ?_
  refine EW.on ?_
  refine EW.seq ?_
  refine EW.seq ?_
  by_cases hbig : 64 < D.n
  · have z1 : (64 : Int) < (D.n : Int) := by omega
    refine EW.region ?_
    first | refine WL.move rfl rfl rfl ?_
    refine WL.call [.pointer (some ⟨R.p, 0, none⟩)] enter53 rfl rfl rfl a2 ?_
    rintro x w9 ⟨rfl, hz⟩
    rw [hz]; clear hz w9
    refine ⟨_, rfl, ?_⟩
    refine WL.bin rfl rfl rfl rfl (int_gt_t z1 _ _ _) ?_
    refine WL.done ?_
    refine EW.on ?_
    refine EW.cond_t rfl ?_
    refine EW.seq ?_
    refine EW.region ?_
    first | refine WL.assign rfl rfl rfl ?_
    refine WL.done ?_
    refine EW.on ?_
    refine EW.ret ?_
    repeat (first | refine pr_then ?_ | refine pr_block ?_)
    exact EW.returns Try.results33 rfl ⟨rfl, B, rfl, hB.mono (by omega), Fx.refl _ _, fun k hk => .inl hk⟩
  · have z1 : ¬ (64 : Int) < (D.n : Int) := by omega
    have hil : D.img.length ≤ 10000000 := by rw [h.dev.ok.len]; omega
    have him := image_any h.dev
    obtain ⟨gI, hgI⟩ : ∃ g, W.heap.size = g := ⟨_, rfl⟩
    rw [hgI] at him
    have bI : Blk (W.alloc (.cells (D.img.map byt).toArray 5)) gI (D.img.map byt) 5 := Blk.newAt hgI
    have be1 : Below W.heap.size W (W.alloc (.cells (D.img.map byt).toArray 5)) := below_new W _
    have sz1 : (W.alloc (.cells (D.img.map byt).toArray 5)).heap.size = gI + 1 := by simp [hgI]
    obtain ⟨w1, hw1⟩ : ∃ w1, W.alloc (.cells (D.img.map byt).toArray 5) = w1 := ⟨_, rfl⟩
    rw [hw1] at him bI be1 sz1
    have h1 := h.below be1
    have hca := cache_gs h1.dev
    rw [sz1] at hca
    refine EW.region ?_
    first | refine WL.move rfl rfl rfl ?_
    refine WL.call [.pointer (some ⟨R.p, 0, none⟩)] enter53 rfl rfl rfl a2 ?_
    rintro x w9 ⟨rfl, hz⟩
    rw [hz]; clear hz w9
    refine ⟨_, rfl, ?_⟩
    refine WL.bin rfl rfl rfl rfl (int_gt_f z1 _ _ _) ?_
    refine WL.done ?_
    refine EW.on ?_
    refine EW.cond_f rfl ?_
    refine EW.skip ?_
    refine EW.on ?_
    refine EW.seq ?_
    refine EW.region ?_
    first | refine WL.move rfl rfl rfl ?_
    refine WL.call [.pointer (some ⟨L.p, 0, none⟩)] enter16 rfl rfl rfl him ?_
    rintro x w9 ⟨rfl, hz⟩
    rw [hz]; clear hz w9
    refine ⟨_, rfl, ?_⟩
    first | refine WL.assign rfl rfl rfl ?_
    refine WL.done ?_
    refine EW.on ?_
    refine EW.seq ?_
    refine EW.region ?_
    first | refine WL.move rfl rfl rfl ?_
    refine WL.call [.pointer (some ⟨L.p, 0, none⟩)] enter24 rfl rfl rfl hca ?_
    rintro x w2 ⟨rfl, be2, sz2, gs, hP, hgs⟩
    refine ⟨_, rfl, ?_⟩
    first | refine WL.assign rfl rfl rfl ?_
    refine WL.done ?_
    have be2 : Below w1.heap.size w1 w2 := by rw [sz1]; exact be2
    have h2 := h1.below be2
    have bI2 := bI.on be2
    have hB2 := (hB.below be1).below be2
    have oI : Own1 w2 (.slice (some ⟨gI, 0, none⟩) D.img.length D.img.length) D.img := .inr ⟨gI, rfl, bI2⟩
    have ci : ∀ V, Below w2.heap.size w2 V → (Go.convert 34 9 (.slice (some ⟨gI, 0, none⟩) D.img.length D.img.length)).run Try.prog V = .ok (.string ⟨D.img.toArray⟩) V := fun V hV => (oI.below hV).has.convert
    have cr : ∀ V, Below w2.heap.size w2 V → (Go.convert 34 9 R.vb).run Try.prog V = .ok (.string ⟨D.img.toArray⟩) V := fun V hV => (own_has (h2.ref.below hV).img).convert
    have bd : Below w2.heap.size w2 { w2 with drawn := w2.drawn + 1 } := below_drawn w2
    have hsp : ∀ V, Below w2.heap.size w2 V → Calls Try.prog 23 #[.slice (some ⟨gI + 1, 0, none⟩) D.pen.length D.pen.length, R.vl] V fun e w' => e = .returned (.bool true) ∧ Below w2.heap.size w2 w' := fun V hV => (sp_law (gI + 1) gs (hP.below hV) (h2.ref.below hV)).mono fun e w' ⟨h1, h2⟩ => ⟨h1, hV.trans (h2.mono hV.size)⟩
    refine EW.on ?_
    refine EW.seq ?_
    refine EW.ord [(0, false), (1, false), (2, false), (3, false), (4, false), (5, false), (6, false), (7, false), (8, false), (9, false), (10, false), (11, false), (12, false), (13, false), (14, true), (15, false), (16, false)] (fun V => Below w2.heap.size w2 V) (by kernel_rfl) rfl (by kernel_rfl) bd ?_
    simp only [ordOps, List.getD_cons_zero, List.getD_cons_succ]
    refine OE.move rfl rfl rfl ?_
    refine OE.conv rfl rfl rfl ci ?_
    refine OE.move rfl rfl rfl ?_
    refine OE.nilc rfl rfl rfl ?_
    refine OE.field rfl rfl rfl (fun V => fld96_0 _ V) ?_
    refine OE.load rfl rfl rfl (fun V hV => ld34 (h2.ref.below hV).r0) ?_
    refine OE.conv rfl rfl rfl cr ?_
    refine OE.bin rfl rfl rfl rfl (fun V => str_eq_t _ V _ _) ?_
    refine OE.move rfl rfl rfl ?_
    refine OE.move rfl rfl rfl ?_
    refine OE.move rfl rfl rfl ?_
    refine OE.nilc rfl rfl rfl ?_
    refine OE.field rfl rfl rfl (fun V => fld96_1 _ V) ?_
    refine OE.load rfl rfl rfl (fun V hV => ld30 (h2.ref.below hV).r1) ?_
    refine OE.call [.slice (some ⟨gI + 1, 0, none⟩) D.pen.length D.pen.length, R.vl] (.bool true) (fun V => Below w2.heap.size w2 V) (fun V => Below w2.heap.size w2 V) enter23 rfl rfl rfl (fun V h => h) (fun V h => h) (fun V hV => by rw [hV]; exact hsp _ bd) ?_
    refine OE.pick rfl rfl rfl rfl ?_
    refine OE.assign rfl rfl rfl ?_
    refine fun a ha w3 be3 => ?_
    revert a ha
    have hB3 := hB2.below be3
    have o3 := oI.below be3
    have hP3 := hP.below be3
    have hW3 : W.heap.size ≤ w3.heap.size := Nat.le_trans (Nat.le_trans be1.size be2.size) be3.size
    have hgl3 : gI + 1 < w3.heap.size := hP3.row.lt
    have hgs3 : ∀ g ∈ gs, g < w3.heap.size ∧ gI + 1 < g := fun g hg => by
      obtain ⟨j, hj, e⟩ := List.mem_iff_getElem.1 hg
      have e2 : gs[j]? = some g := by rw [List.getElem?_eq_getElem hj, e]
      have hjp : j < D.pen.length := by rw [← hP.len]; exact hj
      exact ⟨(hP3.bys j g _ e2 (List.getElem?_eq_getElem hjp)).lt, by have := hgs j g e2; omega⟩
    have hnew : ∀ k, W.heap.size ≤ k → ¬ B.F k := fun k hk hF => by have := hB.bok.lt k hF; omega
    have htk := take_st hB3 (by omega) _ D.img o3 (fun k hk => by
      have hk : gI = k := by simpa [Value.ownBlock] using hk
      subst hk
      exact hnew gI (by omega)) hil
    refine EW.on ?_
    refine EW.seq ?_
    refine EW.region ?_
    first | refine WL.move rfl rfl rfl ?_
    first | refine WL.move rfl rfl rfl ?_
    refine WL.call [.pointer (some ⟨B.p, 0, none⟩), .slice (some ⟨gI, 0, none⟩) D.img.length D.img.length] enter48 rfl rfl rfl htk ?_
    rintro x w4 ⟨rfl, B4, hp4, hB4, hf4, ho4⟩
    refine ⟨_, rfl, ?_⟩
    refine WL.done ?_
    have hI4 : ∀ k, Value.ownBlock (.slice (some ⟨gI, 0, none⟩) D.img.length D.img.length) = some k → gI = k := fun k hk => by simpa [Value.ownBlock] using hk
    have hP4 := hP3.fx hf4 (fun e => by
      rcases e with e | e
      · exact hnew _ (by omega) e
      · have := hI4 _ e; omega) (fun k hk e => by
      have h5 := hgs3 k hk
      rcases e with e | e
      · exact hnew _ (by omega) e
      · have := hI4 _ e; omega)
    have hn4 : ∀ k, gI < k → k < w3.heap.size → ¬ B4.F k := fun k h5 h6 hF => by
      rcases ho4 k hF with e | e | e
      · exact hnew k (by omega) e
      · have := hI4 _ e; omega
      · omega
    have htc := takeCache_st hB4 (by omega) (gI + 1) gs D.pen hP4 (fun x hx => (h.dev.ok.sec x hx).2) (hn4 _ (by omega) hgl3) (fun g hg => ⟨hn4 g (by have := (hgs3 g hg).2; omega) (hgs3 g hg).1, by have := (hgs3 g hg).2; omega⟩) (fun j k g h5 h6 => by have := hgs j g h5; have := hgs k g h6; omega) hpl
    rw [hp4] at htc
    refine EW.on ?_
    refine EW.seq ?_
    refine EW.region ?_
    first | refine WL.move rfl rfl rfl ?_
    first | refine WL.move rfl rfl rfl ?_
    refine WL.call [.pointer (some ⟨B.p, 0, none⟩), .slice (some ⟨gI + 1, 0, none⟩) D.pen.length D.pen.length] enter57 rfl rfl rfl htc ?_
    rintro x w5 ⟨rfl, B5, hp5, hB5, hf5, ho5⟩
    refine ⟨_, rfl, ?_⟩
    refine WL.done ?_
    refine EW.on ?_
    refine EW.seq ?_
    refine EW.region ?_
    first | refine WL.move rfl rfl rfl ?_
    first | refine WL.assign rfl rfl rfl ?_
    refine WL.done ?_
    have f3 : Fx B.F W w3 := ((Fx.of_below be1).then_below be2).then_below be3
    have f4 : Fx B.F W w4 := f3.trans hf4 (fun k hk e => by
      rcases e with e | e
      · exact e
      · have := hI4 _ e; omega)
    have f5 : Fx B.F W w5 := f4.trans hf5 (fun k hk e => by
      rcases e with e | e | e
      · rcases ho4 k e with e | e | e
        · exact e
        · have := hI4 _ e; omega
        · omega
      · omega
      · have := (hgs3 k e).2; omega)
    refine EW.on ?_
    refine EW.ret ?_
    repeat (first | refine pr_then ?_ | refine pr_block ?_)
    refine EW.returns Try.results33 rfl ⟨rfl, B5, hp5, hB5.mono (by omega), f5, fun k hk => ?_⟩
    rcases ho5 k hk with e | e | e | e
    · rcases ho4 k e with e | e | e
      · exact .inl e
      · have := hI4 _ e
        exact .inr (by omega)
      · exact .inr (by omega)
    · exact .inr (by omega)
    · have := (hgs3 k e).2
      exact .inr (by omega)
    · exact .inr (Nat.le_trans (Nat.le_trans hW3 hf4.size) e)
end Go.Proofs.Ythfcabhelldokaa
