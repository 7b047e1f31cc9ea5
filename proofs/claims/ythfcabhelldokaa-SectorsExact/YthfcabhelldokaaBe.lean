import Derived.Test.YthfcabhelldokaaBd
import Derived.Test.YthfcabhelldokaaCg
set_option linter.unusedVariables false
set_option linter.unusedSimpArgs false
namespace Go.Proofs.Ythfcabhelldokaa
open Go.RowKit

section
variable {P : Program} {n : Nat} {ops : Array Oper} {K : List (Nat × Value) → (World → Prop) → Prop} {i : Nat} {ty : TypeId} {ps : String} {af : Array Edge} {gd : Option (Nat × Bool)} {r : List (Oper × Bool)} {e : List (Nat × Value)} {S C : World → Prop} {w w1 : World}
theorem OE.bsl8 {t : TypeId} {m : Nat} {x0 x1 x2 x3 x4 x5 x6 x7 : Operand} {u v : Value} (S' : World → Prop) (hw : wantE ops e ⟨some i, .buildSlice t m #[(0, x0), (1, x1), (2, x2), (3, x3), (4, x4), (5, x5), (6, x6), (7, x7)], ty, ps, af, gd⟩ = some true) (hi : decide (i < n) = true) (h1 : S' w1) (h2 : ∀ W, S' W → S W) (e0 : evE e x0 = some u) (e1 : evE e x1 = some u) (e2 : evE e x2 = some u) (e3 : evE e x3 = some u) (e4 : evE e x4 = some u) (e5 : evE e x5 = some u) (e6 : evE e x6 = some u) (e7 : evE e x7 = some u) (hr : (Instr.buildSlice t m #[(0, u), (1, u), (2, u), (3, u), (4, u), (5, u), (6, u), (7, u)]).run P w = .ok v w1) (k : wpOrdE P n ops K r ((i, v) :: e) S' (fun W => W = w1)) : wpOrdE P n ops K ((⟨some i, .buildSlice t m #[(0, x0), (1, x1), (2, x2), (3, x3), (4, x4), (5, x5), (6, x6), (7, x7)], ty, ps, af, gd⟩, true) :: r) e S (fun W => W = w) :=
  OE.eff S' hw hi h1 h2 (fun a ha => by
    simp only [execOp, List.map_toArray, List.map_cons, List.map_nil, ha.ev e0, ha.ev e1, ha.ev e2, ha.ev e3, ha.ev e4, ha.ev e5, ha.ev e6, ha.ev e7, Sem.run_bind, hr, Result.andThen_ok, Sem.run_pure]) k
theorem WL.build1 {Q : Exit → Act → World → Prop} {r : List Oper} {t : TypeId} {x : Operand} {u v : Value} (hw : wantE ops e ⟨some i, .build t #[(0, x)], ty, ps, af, gd⟩ = some true) (hi : decide (i < n) = true) (hx : evE e x = some u) (hr : (Instr.build t #[(0, u)]).run P w = .ok v w) (k : WL P n ops Q r ((i, v) :: e) w) : WL P n ops Q (⟨some i, .build t #[(0, x)], ty, ps, af, gd⟩ :: r) e w :=
  WL.op i v hw rfl hi (fun a ha => by
    simp only [execOp, List.map_toArray, List.map_cons, List.map_nil, ha.ev hx, Sem.run_bind, hr, Result.andThen_ok, Sem.run_pure]) k
end
/-- A mark in a list. -/
def mC (z : Int) : List Value := [.int .i64 z, .slice none 0 0]
def mkC (z : Int) : Nat → List Value
  | 0 => []
  | n + 1 => .int .i64 z :: .slice none 0 0 :: mkC z n
theorem mkC_length (z : Int) : ∀ n, (mkC z n).length = n * 2
  | 0 => rfl
  | n + 1 => by simp only [mkC, List.length_cons, mkC_length z n]; omega
theorem mkC_add (z : Int) (m : Nat) : ∀ n, mkC z n ++ mkC z m = mkC z (n + m)
  | 0 => by simp [mkC]
  | n + 1 => by
    rw [show n + 1 + m = (n + m) + 1 by omega]
    simp only [mkC, List.cons_append, mkC_add z m n]
theorem mkC_at (z : Int) : ∀ (n k : Nat), k < n → (mkC z n)[k * 2]? = some (.int .i64 z) ∧ (mkC z n)[k * 2 + 1]? = some (.slice none 0 0)
  | 0, k, h => absurd h (Nat.not_lt_zero _)
  | n + 1, 0, _ => ⟨rfl, rfl⟩
  | n + 1, k + 1, h => by
    have := mkC_at z n k (by omega)
    rw [show (k + 1) * 2 = k * 2 + 2 by omega]
    exact this
theorem mkC_one (z : Int) : ∀ (n : Nat), ∀ u ∈ mkC z n, u.oneCell' = true
  | 0, u, h => by simp [mkC] at h
  | n + 1, u, h => by
    simp only [mkC, List.mem_cons] at h
    rcases h with rfl | rfl | h
    · rfl
    · rfl
    · exact mkC_one z n u h
theorem mC_one (z : Int) : (mC z).toArray.all (·.oneCell') = true := all_oneCell_toArray fun v hv => by
  simp only [mC, List.mem_cons, List.not_mem_nil, or_false] at hv
  rcases hv with rfl | rfl <;> rfl
theorem bd78z (z : Int) (W : World) : (Instr.build 78 #[(0, .int .i64 z)]).run Try.prog W = .ok (.agg (mC z).toArray) W := by kernel_rfl
theorem info78z' (z : Int) : (Try.prog.info? 78).map (·.size) = some (mC z).length := by kernel_rfl
theorem bs30h (z : Int) (W : World) : (Instr.buildSlice 30 8 #[(0, .agg (mC z).toArray), (1, .agg (mC z).toArray), (2, .agg (mC z).toArray), (3, .agg (mC z).toArray), (4, .agg (mC z).toArray), (5, .agg (mC z).toArray), (6, .agg (mC z).toArray), (7, .agg (mC z).toArray)]).run Try.prog W = .ok (.slice (some ⟨W.heap.size, 0, none⟩) 8 8) (W.alloc (.cells (mkC z 8).toArray 78)) := by kernel_rfl
theorem st78m {w : World} {b o : Nat} {z : Int} (ht : w.there b o 2) : (Instr.storeAt 78 (.pointer (some ⟨b, o, none⟩)) (.agg (mC z).toArray)).run Try.prog w = .ok () (w.setCells b o (mC z)) := by
  simp only [Instr.storeAt, Instr.sureAddr, Sem.run_bind, Sem.run_pure, Result.andThen_ok, run_storeVar_mid (P := Try.prog) w b o 78 (mC z).toArray (by simpa [mC] using ht) (by simpa using info78z' z) (mC_one z)]
def tcE (p : Nat) (v : Value) (t : Nat) : List (Nat × Value) := [(0, .pointer (some ⟨p, 0, none⟩)), (1, v), (4, .int .i64 (t : Int))]
def tdE (p g : Nat) (v : Value) (t : Nat) : List (Nat × Value) := [(0, .pointer (some ⟨p, 0, none⟩)), (1, v), (5, .pointer (some ⟨g, 0, none⟩)), (6, .int .i64 (t : Int))]
theorem mark_set (z : Int) (R : List Value) (t : Nat) : (mkC z t ++ R.drop (t * 2)).take (t * 2) ++ mC z ++ (mkC z t ++ R.drop (t * 2)).drop (t * 2 + (mC z).length) = mkC z (t + 1) ++ R.drop ((t + 1) * 2) := by
  have hl := mkC_length z t
  rw [List.take_append_of_le_length (by omega), List.take_of_length_le (by omega), show t * 2 + (mC z).length = (mkC z t).length + 2 by rw [hl]; rfl, List.drop_append, List.drop_drop, ← mkC_add z 1 t, show (t + 1) * 2 = t * 2 + 2 by omega]
  simp [mC, mkC]
set_option maxRecDepth 100000 in
set_option maxHeartbeats 1000000 in
theorem takeCache_law {W : World} {B : Bl} (h : Bok W B) (hwn : B.wn = B.got.map (·.2)) (gl : Nat) (gs : List Nat) (pen : List (Nat × List UInt8)) (hP : Pen W gl gs pen) (hsec : ∀ x ∈ pen, x.2.length = 512) (hgl : ¬ B.F gl) (hgs : ∀ g ∈ gs, ¬ B.F g ∧ g ≠ gl) (hnd : ∀ (j k g : Nat), gs[j]? = some g → gs[k]? = some g → j = k) (hpl : pen.length ≤ 100000) (hmk : B.mark ≤ 100000000) (hgt : B.got.length ≤ 1000000) (hls : B.ls.length ≤ 1000000) (hev : B.ls.length % 2 = 0) :
    Calls Try.prog 57 #[.pointer (some ⟨B.p, 0, none⟩), .slice (some ⟨gl, 0, none⟩) pen.length pen.length] W fun e w' => e = .returned (.tuple #[]) ∧ ∃ B', B'.p = B.p ∧ B'.wn = B'.got.map (·.2) ∧ Bok w' B' ∧ B'.mark = B.mark + pen.length ∧ B'.got.length = B.got.length + 2 * pen.length ∧ (∃ x y, B'.ls = B.ls ++ [(x, pen.length), (y, pen.length + 8)]) ∧ Fx (fun k => B.F k ∨ k = gl ∨ k ∈ gs) W w' ∧ ∀ k, B'.F k → B.F k ∨ k = gl ∨ k ∈ gs ∨ W.heap.size ≤ k := by
  have hlen := fun V ty => len30 (some ⟨gl, 0, none⟩) pen.length pen.length V ty
  refine calls_of_args [.pointer (some ⟨B.p, 0, none⟩), .slice (some ⟨gl, 0, none⟩) pen.length pen.length] Try.func57 rfl 59 Try.ntmps57 (by show 2 ≤ 59; decide) ?_
  refine EW.seq ?_
  refine EW.seq ?_
  refine EW.region ?_
  first | refine WL.assign rfl rfl rfl ?_
  refine WL.done ?_
  refine EW.on ?_
  refine EW.block ?_
  refine EW.loop (tcE B.p (.slice (some ⟨gl, 0, none⟩) pen.length pen.length)) (fun t w' => t ≤ pen.length ∧ ∃ Bt : Bl, Bt.p = B.p ∧ Bt.wn = Bt.got.map (·.2) ∧ Bok w' Bt ∧ Bt.mark = B.mark + t ∧ Bt.got.length = B.got.length + 2 * t ∧ Bt.ls = B.ls ∧ Bt.vl = B.vl ∧ Fx (fun k => B.F k ∨ ∃ j, j < t ∧ gs[j]? = some k) W w' ∧ ∀ k, Bt.F k → B.F k ∨ (∃ j, j < t ∧ gs[j]? = some k) ∨ W.heap.size ≤ k) (fun t => pen.length - t) 0 [0, 1, 4] rfl ⟨Nat.zero_le _, B, rfl, hwn, h, rfl, rfl, rfl, rfl, Fx.refl _ _, fun k hk => .inl hk⟩ ?_
  rintro t wr ⟨ht, Bt, hp, hwt, hB, hm, hgl2, hlst, hvl, hfx, hown⟩
  show EW _ _ _ _ [(0, .pointer (some ⟨B.p, 0, none⟩)), (1, .slice (some ⟨gl, 0, none⟩) pen.length pen.length), (4, .int .i64 (t : Int))] _
  by_cases hlt : t < pen.length
  · have z1 : (t : Int) < (pen.length : Int) := Int.ofNat_lt.2 hlt
    have tn := tnB t _ hlt (by omega)
    obtain ⟨x, hx⟩ : ∃ x, pen[t]? = some x := ⟨_, List.getElem?_eq_getElem hlt⟩
    obtain ⟨g, hg⟩ : ∃ g, gs[t]? = some g := ⟨_, List.getElem?_eq_getElem (by rw [hP.len]; exact hlt)⟩
    have hgm := hgs g (List.mem_of_getElem? hg)
    have hx5 := hsec x (List.mem_of_getElem? hx)
    have bg := (hP.bys t g x hg hx).fx hfx (fun e => by
      rcases e with e | ⟨j, hj, e⟩
      · exact hgm.1 e
      · have := hnd j t g e hg; omega)
    have br := hP.row.fx hfx (fun e => by
      rcases e with e | ⟨j, hj, e⟩
      · exact hgl e
      · exact (hgs gl (List.mem_of_getElem? e)).2 rfl)
    have c1 : wr.cell? ⟨gl, t * 2 + 1, none⟩ = some (bV g) := (br.cell _).trans (penC_at gs pen t g x hg hx).2
    have hta := take_law hB hwt (bV g) x.2 (.inr ⟨g, by rw [hx5]; rfl, bg⟩) (fun k hk hF => by
      have hk : g = k := by simpa [bV, Value.ownBlock] using hk
      subst hk
      rcases hown g hF with e | ⟨j, hj, e⟩ | e
      · exact hgm.1 e
      · have := hnd j t g e hg; omega
      · have := (hP.bys t g x hg hx).lt; omega) (by omega) (by omega) (by omega)
    rw [hp] at hta
    refine EW.seq ?_
    refine EW.seq ?_
    refine EW.region ?_
    first | refine WL.move rfl rfl rfl ?_
    first | refine WL.move rfl rfl rfl ?_
    refine WL.len rfl rfl rfl (hlen _ _) ?_
    first | refine WL.bin rfl rfl rfl rfl (int_lt_t ‹_› _ _ _) ?_ | refine WL.bin rfl rfl rfl rfl (int_lt_f ‹_› _ _ _) ?_
    refine WL.done ?_
    refine EW.on ?_
    refine EW.cond_t rfl ?_
    refine EW.skip ?_
    refine EW.on ?_
    refine EW.seq ?_
    refine EW.block ?_
    refine EW.region ?_
    first | refine WL.move rfl rfl rfl ?_
    first | refine WL.move rfl rfl rfl ?_
    first | refine WL.move rfl rfl rfl ?_
    refine WL.index rfl rfl rfl rfl (idx30 gl _ _ t hlt _) ?_
    refine WL.field rfl rfl rfl (fld78_1 _ _ _) ?_
    refine WL.load rfl rfl rfl (ld34 c1) ?_
    refine WL.call [.pointer (some ⟨B.p, 0, none⟩), bV g] enter48 rfl rfl rfl hta ?_
    rintro x w3 ⟨rfl, B3, hp3, hw3, hB3, hm3, hg3, hl3, hv3, hf3, ho3⟩
    refine ⟨_, rfl, ?_⟩
    refine WL.done ?_
    refine pn_block ?_
    refine EW.on ?_
    refine EW.region ?_
    first | refine WL.move rfl rfl rfl ?_
    first | refine WL.bin rfl rfl rfl rfl (int_add ‹_› _ _ _) ?_
    first | refine WL.assign rfl rfl rfl ?_
    refine WL.done ?_
    refine EW.again (t + 1) [0, 1, 4] rfl ⟨hlt, B3, hp3, hw3, hB3, by omega, by omega, hl3.trans hlst, hv3.trans hvl, ?_, fun k hk => ?_⟩ (by show pen.length - (t + 1) < pen.length - t; omega)
    · refine (hfx.mono (fun k _ e => e.imp id (fun ⟨j, hj, e⟩ => ⟨j, by omega, e⟩))).trans hf3 (fun k hk e => ?_)
      rcases e with e | e
      · rcases hown k e with e | ⟨j, hj, e⟩ | e
        · exact .inl e
        · exact .inr ⟨j, by omega, e⟩
        · omega
      · have hk : g = k := by simpa [bV, Value.ownBlock] using e
        subst hk
        exact .inr ⟨t, by omega, hg⟩
    · rcases ho3 k hk with e | e | e
      · rcases hown k e with e | ⟨j, hj, e⟩ | e
        · exact .inl e
        · exact .inr (.inl ⟨j, by omega, e⟩)
        · exact .inr (.inr e)
      · have hk : g = k := by simpa [bV, Value.ownBlock] using e
        subst hk
        exact .inr (.inl ⟨t, by omega, hg⟩)
      · exact .inr (.inr (Nat.le_trans hfx.size e))
  · have z1 : ¬ (t : Int) < (pen.length : Int) := fun hh => hlt (Int.ofNat_lt.1 hh)
    obtain rfl : t = pen.length := Nat.le_antisymm ht (Nat.le_of_not_lt hlt)
    have hltv : ∀ V ty, (Builtin.len_ #[66] ty #[Bt.vl]).run Try.prog V = .ok (.int .i64 (Bt.ls.length : Int)) V := fun V ty => by
      obtain ⟨ao, cap, e, _⟩ := row_shape hB.l
      rw [e]; exact len66 _ _ _ _ _
    have r3 := hB.r3
    rw [hp] at r3
    obtain ⟨z, hz⟩ : ∃ z : Int, -1 - ((Bt.ls.length / 2 : Nat) : Int) = z := ⟨_, rfl⟩
    have ms := (m1sub (Bt.ls.length / 2) (by rw [hlst]; omega)).trans hz
    have br := hP.row.fx hfx (fun e => by
      rcases e with e | ⟨j, hj, e⟩
      · exact hgl e
      · exact (hgs gl (List.mem_of_getElem? e)).2 rfl)
    obtain ⟨gx, hgx⟩ : ∃ g, wr.heap.size = g := ⟨_, rfl⟩
    have hnew := run_newR (P := Try.prog) 78 [Value.int .i64 0, .slice none 0 0] zero78 wr gx hgx
    have bx0 : Blk (wr.alloc (.cells [Value.int .i64 0, .slice none 0 0].toArray 78)) gx [Value.int .i64 0, .slice none 0 0] 78 := Blk.newAt hgx
    have be0 : Below wr.heap.size wr (wr.alloc (.cells [Value.int .i64 0, .slice none 0 0].toArray 78)) := below_new _ _
    obtain ⟨w0, hw0⟩ : ∃ w0, wr.alloc (.cells [Value.int .i64 0, .slice none 0 0].toArray 78) = w0 := ⟨_, rfl⟩
    rw [hw0] at hnew bx0 be0
    have hst := run_storeR (P := Try.prog) (ty := 78) bx0 (info78z' z) rfl (mC_one z)
    have bx := bx0.setRow (mC z)
    have fs : Fx (fun k => k = gx) w0 (w0.setRow gx (mC z).toArray) := Fx.setRow w0 gx _ rfl
    have be1 : Below wr.heap.size wr (w0.setRow gx (mC z).toArray) := be0.trans (fs.below (fun k hk e => by omega) be0.size)
    obtain ⟨w1, hw1⟩ : ∃ w1, w0.setRow gx (mC z).toArray = w1 := ⟨_, rfl⟩
    rw [hw1] at hst bx be1
    have hB1 := hB.below be1
    have br1 := br.on be1
    have hnBg : ¬ Bt.F gl := fun hF => by
      rcases hown gl hF with e | ⟨j, hj, e⟩ | e
      · exact hgl e
      · exact (hgs gl (List.mem_of_getElem? e)).2 rfl
      · have := hP.row.lt; omega
    have hglx : gl ≠ gx := by have := br.lt; omega
    have hnBx : ¬ Bt.F gx := fun hF => by have := hB.lt gx hF; omega
    refine EW.seq ?_
    refine EW.seq ?_
    refine EW.region ?_
    first | refine WL.move rfl rfl rfl ?_
    first | refine WL.move rfl rfl rfl ?_
    refine WL.len rfl rfl rfl (hlen _ _) ?_
    first | refine WL.bin rfl rfl rfl rfl (int_lt_t ‹_› _ _ _) ?_ | refine WL.bin rfl rfl rfl rfl (int_lt_f ‹_› _ _ _) ?_
    refine WL.done ?_
    refine EW.on ?_
    refine EW.cond_f rfl ?_
    refine EW.exit ?_
    repeat refine px_then ?_
    refine px_block ?_
    refine EW.on ?_
    refine EW.seq ?_
    refine EW.region ?_
    first | refine WL.move rfl rfl rfl ?_
    first | refine WL.nilc rfl rfl rfl ?_
    first | refine WL.field rfl rfl rfl (fld68_3 _ _) ?_
    refine WL.load rfl rfl rfl (ld66 r3) ?_
    refine WL.len rfl rfl rfl (hltv _ _) ?_
    refine WL.bin rfl rfl rfl rfl (quo2 _ (by rw [hlst]; omega) _ _ _) ?_
    refine WL.bin rfl rfl rfl rfl (int_sub ms _ _ _) ?_
    refine WL.build1 rfl rfl rfl (bd78z z _) ?_
    refine WL.new rfl rfl hnew ?_
    refine WL.store rfl rfl rfl hst ?_
    refine WL.done ?_
    refine EW.on ?_
    refine EW.seq ?_
    refine EW.seq ?_
    refine EW.region ?_
    first | refine WL.assign rfl rfl rfl ?_
    refine WL.done ?_
    refine EW.on ?_
    refine EW.block ?_
    refine EW.loop (tdE B.p gx (.slice (some ⟨gl, 0, none⟩) pen.length pen.length)) (fun t w' => t ≤ pen.length ∧ Bok w' Bt ∧ Blk w' gx (mC z) 78 ∧ Blk w' gl (mkC z t ++ (penC gs pen).drop (t * 2)) 78 ∧ Fx (fun k => k = gl) w1 w') (fun t => pen.length - t) 0 [0, 1, 5, 6] rfl ⟨Nat.zero_le _, hB1, bx, br1, Fx.refl _ _⟩ ?_
    rintro u wu ⟨hu, hBu, bxu, bru, fu⟩
    show EW _ _ _ _ [(0, .pointer (some ⟨B.p, 0, none⟩)), (1, .slice (some ⟨gl, 0, none⟩) pen.length pen.length), (5, .pointer (some ⟨gx, 0, none⟩)), (6, .int .i64 (u : Int))] _
    have hcl : (mkC z u ++ (penC gs pen).drop (u * 2)).length = pen.length * 2 := by
      rw [List.length_append, mkC_length, List.length_drop, penC_length _ _ hP.len]; omega
    by_cases hul : u < pen.length
    · have y1 : (u : Int) < (pen.length : Int) := Int.ofNat_lt.2 hul
      have un := tnB u _ hul (by omega)
      have hth : wu.there gl (u * 2) 2 := fun j hj => ⟨by rw [bru.cell, List.getElem?_eq_getElem (by rw [hcl]; omega)]; rfl, bru.frozen _⟩
      have s5 := st78m (z := z) hth
      have bn := Blk.setCells (mC z) (u * 2) wu _ bru (by rw [hcl]; simp [mC]; omega)
      rw [mark_set] at bn
      have fn : Fx (fun k => k = gl) wu (wu.setCells gl (u * 2) (mC z)) := Fx.setCells (S := fun k => k = gl) gl rfl _ _ _
      have hBn := hBu.fx fn (fun k hk e => hnBg (by rw [← e]; exact hk))
      have bxn := bxu.fx fn (fun e => hglx e.symm)
      refine EW.seq ?_
      refine EW.seq ?_
      refine EW.region ?_
      first | refine WL.move rfl rfl rfl ?_
      first | refine WL.move rfl rfl rfl ?_
      refine WL.len rfl rfl rfl (hlen _ _) ?_
      first | refine WL.bin rfl rfl rfl rfl (int_lt_t ‹_› _ _ _) ?_ | refine WL.bin rfl rfl rfl rfl (int_lt_f ‹_› _ _ _) ?_
      refine WL.done ?_
      refine EW.on ?_
      refine EW.cond_t rfl ?_
      refine EW.skip ?_
      refine EW.on ?_
      refine EW.seq ?_
      refine EW.block ?_
      refine EW.region ?_
      first | refine WL.move rfl rfl rfl ?_
      first | refine WL.move rfl rfl rfl ?_
      refine WL.load rfl rfl rfl (run_loadR bxu Try.underlying78 rfl (info78z' z)) ?_
      refine WL.index rfl rfl rfl rfl (idx30 gl _ _ u hul _) ?_
      refine WL.store rfl rfl rfl s5 ?_
      refine WL.done ?_
      refine pn_block ?_
      refine EW.on ?_
      refine EW.region ?_
      first | refine WL.move rfl rfl rfl ?_
      first | refine WL.bin rfl rfl rfl rfl (int_add ‹_› _ _ _) ?_
      first | refine WL.assign rfl rfl rfl ?_
      refine WL.done ?_
      exact EW.again (u + 1) [0, 1, 5, 6] rfl ⟨hul, hBn, bxn, bn, fu.and fn⟩ (by show pen.length - (u + 1) < pen.length - u; omega)
    · have y1 : ¬ (u : Int) < (pen.length : Int) := fun hh => hul (Int.ofNat_lt.1 hh)
      obtain rfl : u = pen.length := Nat.le_antisymm hu (Nat.le_of_not_lt hul)
      rw [List.drop_of_length_le (by rw [penC_length _ _ hP.len]; exact Nat.le_refl _), List.append_nil] at bru
      have hBd := hBu.below (below_drawn wu)
      have bxd := bxu.on (below_drawn wu)
      have brd := bru.on (below_drawn wu)
      obtain ⟨wd, hwd⟩ : ∃ wd, { wu with drawn := wu.drawn + 1 } = wd := ⟨_, rfl⟩
      have bed : Below wu.heap.size wu wd := by rw [← hwd]; exact below_drawn wu
      rw [hwd] at hBd bxd brd
      have hb8 := bs30h z wd
      have b8 : Blk (wd.alloc (.cells (mkC z 8).toArray 78)) wd.heap.size (mkC z 8) 78 := Blk.new _ _ _
      have be8 : Below wd.heap.size wd (wd.alloc (.cells (mkC z 8).toArray 78)) := below_new _ _
      obtain ⟨w8, hw8⟩ : ∃ w8, wd.alloc (.cells (mkC z 8).toArray 78) = w8 := ⟨_, rfl⟩
      rw [hw8] at hb8 b8 be8
      have br8 := brd.on be8
      have hB8 := hBd.below be8
      have bx8 := bxd.on be8
      obtain ⟨i0, hi, hz0, hz1, hz2⟩ := info_parts Try.info78
      have hown8 : w8.ownsRow 0 78 2 (.slice (some ⟨gl, 0, none⟩) pen.length pen.length) pen.length (mkC z pen.length) := ⟨mkC_length _ _, .inr ⟨gl, pen.length, (mkC z pen.length).toArray, rfl, Nat.zero_le _, br8, Nat.le_refl _, by unfold maxLen; omega, by simp [mkC_length], List.take_of_length_le (by simp [mkC_length])⟩⟩
      obtain ⟨yo, yl, yc, w9, hap9, ho9, be9, hn9⟩ := run_appg w8 30 30 78 i0 _ 2 32 Try.underlying30 hi hz0 hz1 hz2 (by simp [Value.cells]) (by decide) gl pen.length _ hown8 ⟨wd.heap.size, 0, none⟩ 8 8 (mkC z 8) rfl (fun j u hu => by rw [add_plain, b8.cell]; exact hu) (mkC_one z 8) (by omega) (by decide) (by omega)
      rw [mkC_add] at ho9
      have hB9 := hB8.below be9
      have bx9 := bx8.on be9
      have br9 := br8.on be9
      have m1 : Marks w9 (.slice (some ⟨gl, 0, none⟩) pen.length pen.length) pen.length (-1 - ((Bt.ls.length / 2 : Nat) : Int)) := .inr ⟨gl, pen.length, rfl, fun k hk => by rw [hz, br9.cell, br9.cell]; exact mkC_at z _ k hk⟩
      have m2 : Marks w9 (.slice yo yl yc) (pen.length + 8) (-1 - (((Bt.ls.length + 1) / 2 : Nat) : Int)) := by
        rw [show (Bt.ls.length + 1) / 2 = Bt.ls.length / 2 by rw [hlst]; omega, hz]
        obtain ⟨h0, ⟨e, hz⟩ | ⟨g, cap, cur, e, _, hh, hn, hc, hs, ht⟩⟩ := ho9
        · omega
        · refine .inr ⟨g, cap, e, fun k hk => ?_⟩
          have hat := mkC_at z (pen.length + 8) k hk
          rw [← ht] at hat
          refine ⟨?_, ?_⟩
          · have := hat.1
            rw [List.getElem?_take_of_lt (by omega), Array.getElem?_toList] at this
            simp [World.cell?, hh, this]
          · have := hat.2
            rw [List.getElem?_take_of_lt (by omega), Array.getElem?_toList] at this
            simp [World.cell?, hh, this]
      have hnn : ∀ v ∈ [Value.slice (some ⟨gl, 0, none⟩) pen.length pen.length, .slice yo yl yc], ∀ k, v.ownBlock = some k → k ≠ Bt.p ∧ Bt.vg.ownBlock ≠ some k ∧ Bt.vw.ownBlock ≠ some k ∧ Bt.vl.ownBlock ≠ some k ∧ k < w9.heap.size := fun v hv k hk => by
        simp only [List.mem_cons, List.not_mem_nil, or_false] at hv
        rcases hv with rfl | rfl
        · have hk : gl = k := by simpa [Value.ownBlock] using hk
          subst hk
          exact ⟨fun e => hnBg (.inl e), fun e => hnBg (.inr (.inl e)), fun e => hnBg (.inr (.inr (.inl e))), fun e => hnBg (.inr (.inr (.inr (.inl e)))), br9.lt⟩
        · have h5 := hn9 k hk
          refine ⟨fun e => ?_, fun e => ?_, fun e => ?_, fun e => ?_, ownsRow_lt ho9 k hk⟩
          · have := hB8.lt k (.inl e); omega
          · have := hB8.lt k (.inr (.inl e)); omega
          · have := hB8.lt k (.inr (.inr (.inl e))); omega
          · have := hB8.lt k (.inr (.inr (.inr (.inl e)))); omega
      obtain ⟨wA, so, sl, sc, wB, hbsA, hapB, beA, fB, cA, cB, zB, kC, fC, hnwC⟩ := hB9.pushL (some ⟨gl, 0, none⟩) yo pen.length pen.length yl yc pen.length (pen.length + 8) m1 m2 hnn (by rw [hlst]; omega) 66
      have sC := st66 (ao := so) (l := sl) (c := sc) cB zB
      have bxA := bx9.on beA
      have bxB := bxA.fx fB (fun e => hnBx (.inr (.inr (.inr (.inl e)))))
      rw [hp] at cA cB sC
      have rd := hBd.r3
      have rd8 := hB8.r3
      have rd9 := hB9.r3
      rw [hp] at rd rd8 rd9
      refine EW.seq ?_
      refine EW.seq ?_
      refine EW.region ?_
      first | refine WL.move rfl rfl rfl ?_
      first | refine WL.move rfl rfl rfl ?_
      refine WL.len rfl rfl rfl (hlen _ _) ?_
      first | refine WL.bin rfl rfl rfl rfl (int_lt_t ‹_› _ _ _) ?_ | refine WL.bin rfl rfl rfl rfl (int_lt_f ‹_› _ _ _) ?_
      refine WL.done ?_
      refine EW.on ?_
      refine EW.cond_f rfl ?_
      refine EW.exit ?_
      repeat refine px_then ?_
      refine px_block ?_
      refine EW.on ?_
      refine EW.chain 15 4 3 (fun V => V.cell? ⟨B.p, 3, none⟩ = some Bt.vl ∧ Blk V gx (mC z) 78) (by kernel_rfl) rfl (by kernel_rfl) (by rw [hwd]; exact ⟨rd, bxd⟩) (by kernel_rfl) ?_
      rw [hwd]
      simp only [List.take_succ_cons, List.take_zero, List.drop_succ_cons, List.drop_zero, List.map_cons, List.map_nil, List.cons_append, List.nil_append]
      refine OE.move rfl rfl rfl ?_
      refine OE.move rfl rfl rfl ?_
      refine OE.nilc rfl rfl rfl ?_
      refine OE.field rfl rfl rfl (fun V => fld68_3 _ V) ?_
      refine OE.load rfl rfl rfl (fun V hV => ld66 hV.1) ?_
      refine OE.move rfl rfl rfl ?_
      refine OE.move rfl rfl rfl ?_
      refine OE.load rfl rfl rfl (fun V hV => run_loadR hV.2 Try.underlying78 rfl (info78z' z)) ?_
      refine OE.load rfl rfl rfl (fun V hV => run_loadR hV.2 Try.underlying78 rfl (info78z' z)) ?_
      refine OE.load rfl rfl rfl (fun V hV => run_loadR hV.2 Try.underlying78 rfl (info78z' z)) ?_
      refine OE.load rfl rfl rfl (fun V hV => run_loadR hV.2 Try.underlying78 rfl (info78z' z)) ?_
      refine OE.load rfl rfl rfl (fun V hV => run_loadR hV.2 Try.underlying78 rfl (info78z' z)) ?_
      refine OE.load rfl rfl rfl (fun V hV => run_loadR hV.2 Try.underlying78 rfl (info78z' z)) ?_
      refine OE.load rfl rfl rfl (fun V hV => run_loadR hV.2 Try.underlying78 rfl (info78z' z)) ?_
      refine OE.load rfl rfl rfl (fun V hV => run_loadR hV.2 Try.underlying78 rfl (info78z' z)) ?_
      refine OE.bsl8 (fun V => V.cell? ⟨B.p, 3, none⟩ = some Bt.vl ∧ Blk V gx (mC z) 78) rfl rfl ⟨rd8, bx8⟩ (fun V h => h) rfl rfl rfl rfl rfl rfl rfl rfl hb8 ?_
      refine OE.app (fun V => V.cell? ⟨B.p, 3, none⟩ = some Bt.vl ∧ Blk V gx (mC z) 78) rfl rfl ⟨rd9, bx9⟩ (fun V h => h) rfl rfl hap9 ?_
      refine OE.bsl2 (fun V => V.cell? ⟨B.p, 3, none⟩ = some Bt.vl ∧ Blk V gx (mC z) 78) rfl rfl ⟨cA, bxA⟩ (fun V h => h) rfl rfl hbsA ?_
      refine OE.app (fun V => V.cell? ⟨B.p, 3, none⟩ = some Bt.vl ∧ Blk V gx (mC z) 78) rfl rfl ⟨cB, bxB⟩ (fun V h => h) rfl rfl hapB ?_
      refine fun W5 hW => ?_
      rw [hW]
      refine WL.nilc rfl rfl rfl ?_
      refine WL.field rfl rfl rfl (fld68_3 _ _) ?_
      refine WL.store rfl rfl rfl sC ?_
      refine WL.done ?_
      rw [hp] at kC fC
      have hW1 : W.heap.size ≤ wr.heap.size := hfx.size
      have hfx1 : Fx (fun k => B.F k ∨ k = gl ∨ k ∈ gs) W wr := hfx.mono (fun k _ e => e.imp id (fun ⟨j, _, e⟩ => .inr (List.mem_of_getElem? e)))
      have hfx9 : Fx (fun k => B.F k ∨ k = gl ∨ k ∈ gs) W w9 := ((((hfx1.then_below be1).and (fu.mono (fun k _ e => .inr (.inl e)))).then_below bed).then_below be8).then_below be9
      refine EW.falls Try.results57 ⟨rfl, ⟨B.p, Bt.vg, Bt.vw, .slice so sl sc, Bt.got, Bt.wn, Bt.ls ++ [(.slice (some ⟨gl, 0, none⟩) pen.length pen.length, pen.length), (.slice yo yl yc, pen.length + 8)], Bt.mark⟩, rfl, hwt, ?_, hm, hgl2, ⟨_, _, by rw [hlst]⟩, hfx9.trans fC (fun k hk hF => ?_), fun k hk => ?_⟩
      · have e : ({ Bt with vl := .slice so sl sc, ls := Bt.ls ++ [(.slice (some ⟨gl, 0, none⟩) pen.length pen.length, pen.length), (.slice yo yl yc, pen.length + 8)] } : Bl) = ⟨B.p, Bt.vg, Bt.vw, .slice so sl sc, Bt.got, Bt.wn, Bt.ls ++ [(.slice (some ⟨gl, 0, none⟩) pen.length pen.length, pen.length), (.slice yo yl yc, pen.length + 8)], Bt.mark⟩ := by rw [← hp]
        exact e ▸ kC
      · rcases hown k hF with e | ⟨j, hj, e⟩ | e
        · exact .inl e
        · exact .inr (.inr (List.mem_of_getElem? e))
        · omega
      · have hk2 : Bt.F k ∨ k = gl ∨ W.heap.size ≤ k := by
          rcases hk with hk | hk | hk | hk | hk | ⟨x, hx, hk⟩
          · exact .inl (.inl (by rw [hp]; exact hk))
          · exact .inl (.inr (.inl hk))
          · exact .inl (.inr (.inr (.inl hk)))
          · rcases hnwC k hk with e | e
            · exact .inl (.inr (.inr (.inr (.inl e))))
            · exact .inr (.inr (Nat.le_trans hfx9.size e))
          · exact .inl (.inr (.inr (.inr (.inr (.inl hk)))))
          · rcases List.mem_append.1 hx with hx | hx
            · exact .inl (.inr (.inr (.inr (.inr (.inr ⟨x, hx, hk⟩)))))
            · simp only [List.mem_cons, List.not_mem_nil, or_false] at hx
              rcases hx with rfl | rfl
              · have hk : gl = k := by simpa [Value.ownBlock] using hk
                exact .inr (.inl hk.symm)
              · have h5 := hn9 k hk
                have : W.heap.size ≤ w8.heap.size := Nat.le_trans (Nat.le_trans (Nat.le_trans (Nat.le_trans hW1 be1.size) fu.size) bed.size) be8.size
                exact .inr (.inr (by omega))
        rcases hk2 with hF | e | e
        · rcases hown k hF with e | ⟨j, hj, e⟩ | e
          · exact .inl e
          · exact .inr (.inr (.inl (List.mem_of_getElem? e)))
          · exact .inr (.inr (.inr e))
        · exact .inr (.inl e)
        · exact .inr (.inr (.inr e))
end Go.Proofs.Ythfcabhelldokaa
