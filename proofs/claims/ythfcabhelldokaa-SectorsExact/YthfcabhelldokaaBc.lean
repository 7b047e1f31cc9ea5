import Derived.Test.YthfcabhelldokaaBb
set_option linter.unusedVariables false
set_option linter.unusedSimpArgs false
namespace Go.Proofs.Ythfcabhelldokaa
open Go.RowKit

section
variable {P : Program} {n : Nat} {ops : Array Oper} {K : List (Nat × Value) → (World → Prop) → Prop} {i : Nat} {ty : TypeId} {ps : String} {af : Array Edge} {gd : Option (Nat × Bool)} {r : List (Oper × Bool)} {e : List (Nat × Value)} {S C : World → Prop} {w w1 : World}
theorem OE.bsl2 {t : TypeId} {m : Nat} {x y : Operand} {u u' v : Value} (S' : World → Prop) (hw : wantE ops e ⟨some i, .buildSlice t m #[(0, x), (1, y)], ty, ps, af, gd⟩ = some true) (hi : decide (i < n) = true) (h1 : S' w1) (h2 : ∀ W, S' W → S W) (hx : evE e x = some u) (hy : evE e y = some u') (hr : (Instr.buildSlice t m #[(0, u), (1, u')]).run P w = .ok v w1) (k : wpOrdE P n ops K r ((i, v) :: e) S' (fun W => W = w1)) : wpOrdE P n ops K ((⟨some i, .buildSlice t m #[(0, x), (1, y)], ty, ps, af, gd⟩, true) :: r) e S (fun W => W = w) :=
  OE.eff S' hw hi h1 h2 (fun a ha => by
    simp only [execOp, List.map_toArray, List.map_cons, List.map_nil, ha.ev hx, ha.ev hy, Sem.run_bind, hr, Result.andThen_ok, Sem.run_pure]) k
theorem OE.convT {s t : TypeId} {x : Operand} {u v : Value} (S' : World → Prop) (hw : wantE ops e ⟨some i, .convert s t x, ty, ps, af, gd⟩ = some true) (hi : decide (i < n) = true) (h1 : S' w1) (h2 : ∀ W, S' W → S W) (hx : evE e x = some u) (hr : (Go.convert s t u).run P w = .ok v w1) (k : wpOrdE P n ops K r ((i, v) :: e) S' (fun W => W = w1)) : wpOrdE P n ops K ((⟨some i, .convert s t x, ty, ps, af, gd⟩, true) :: r) e S (fun W => W = w) :=
  OE.eff S' hw hi h1 h2 (fun a ha => by simp [execOp, ha.ev hx, hr, Result.andThen]) k
theorem OE.binT {op : BinOp} {t t2 : TypeId} {x y : Operand} {u u' v : Value} (S' : World → Prop) (hw : wantE ops e ⟨some i, .binOp op t x y t2, ty, ps, af, gd⟩ = some true) (hi : decide (i < n) = true) (h1 : S' w) (h2 : ∀ W, S' W → S W) (hx : evE e x = some u) (hy : evE e y = some u') (hr : (do eqGuard op t x y u u'; binOp op t u u' : Sem Value).run P w = .ok v w) (k : wpOrdE P n ops K r ((i, v) :: e) S' (fun W => W = w)) : wpOrdE P n ops K ((⟨some i, .binOp op t x y t2, ty, ps, af, gd⟩, true) :: r) e S (fun W => W = w) :=
  OE.eff S' hw hi h1 h2 (fun a ha => by
    unfold execOp
    simp only [ha.ev hx, ha.ev hy]
    rw [Sem.run_bind, hr]; rfl) k
end
theorem rem250 (k : Nat) (h : k < 1000000000000) (W : World) (x y : Operand) : (do eqGuard .rem 3 x y (.int .i64 (k : Int)) (.int .i64 250); binOp .rem 3 (.int .i64 (k : Int)) (.int .i64 250) : Sem Value).run Try.prog W = .ok (.int .i64 ((k % 250 : Nat) : Int)) W := by
  have q1 : (k : Int) % 250 = ((k % 250 : Nat) : Int) := by omega
  obtain ⟨q, hq⟩ : ∃ q, k % 250 = q := ⟨_, rfl⟩
  rw [hq] at q1 ⊢
  clear hq
  go_simp
  rw [Int.tmod_eq_emod_of_nonneg (by omega)]; exact q1
theorem cv35 (q : Nat) (h : q < 250) (W : World) : (Go.convert 3 5 (.int .i64 ((q + 1 : Nat) : Int))).run Try.prog W = .ok (byt (UInt8.ofNat (q + 1))) W := by
  have e : byt (UInt8.ofNat (q + 1)) = .int .u8 ((q + 1 : Nat) : Int) := by unfold byt; congr 2; simp; omega
  rw [e]
  have h1 : ((q + 1 : Nat) : Int) < 256 := by omega
  have h0 : (0 : Int) ≤ ((q + 1 : Nat) : Int) := by omega
  obtain ⟨N, hN⟩ : ∃ N : Int, ((q + 1 : Nat) : Int) = N := ⟨_, rfl⟩
  rw [hN] at h1 h0 ⊢
  clear hN e h
  go_simp
  try (rw [IntKind.wrap_u8]; omega)
theorem str_add (s s' : ByteArray) (h : s.size + s'.size ≤ 9223372036854775807) (W : World) (x y : Operand) : (do eqGuard .add 9 x y (.string s) (.string s'); binOp .add 9 (.string s) (.string s') : Sem Value).run Try.prog W = .ok (.string (s ++ s')) W := by go_simp
theorem str_app (a b : List UInt8) : (⟨a.toArray⟩ : ByteArray) ++ ⟨b.toArray⟩ = ⟨(a ++ b).toArray⟩ := by
  apply ByteArray.ext
  simp
theorem q1sub (n : Nat) (h : 0 < n) (hn : n ≤ 1000000000) : IntKind.i64.wrap ((n : Int) - 1) = ((n - 1 : Nat) : Int) := by rw [IntKind.wrap_i64]; omega
theorem st65 {ao : Option Addr} {b : Addr} {u : Value} {l c : Nat} {W : World} (h : W.cell? b = some u) (hf : W.frozen? b = false) : (Instr.storeAt 65 (.pointer (some b)) (.slice ao l c)).run Try.prog W = .ok () (W.setCell b (.slice ao l c)) := by go_simp
theorem st66 {ao : Option Addr} {b : Addr} {u : Value} {l c : Nat} {W : World} (h : W.cell? b = some u) (hf : W.frozen? b = false) : (Instr.storeAt 66 (.pointer (some b)) (.slice ao l c)).run Try.prog W = .ok () (W.setCell b (.slice ao l c)) := by go_simp
theorem st29 {ao : Option Addr} {b : Addr} {u : Value} {l c : Nat} {W : World} (h : W.cell? b = some u) (hf : W.frozen? b = false) : (Instr.storeAt 29 (.pointer (some b)) (.slice ao l c)).run Try.prog W = .ok () (W.setCell b (.slice ao l c)) := by go_simp
theorem ld65 {ad : Addr} {v : Value} {W : World} (h : W.cell? ad = some v) : (Instr.loadAt 65 (.pointer (some ad))).run Try.prog W = .ok v W := by go_simp
theorem ld66 {ad : Addr} {v : Value} {W : World} (h : W.cell? ad = some v) : (Instr.loadAt 66 (.pointer (some ad))).run Try.prog W = .ok v W := by go_simp
theorem fld68_0 (g : Nat) (W : World) : (Instr.fieldAt 68 (.pointer (some ⟨g, 0, none⟩)) 0).run Try.prog W = .ok (.pointer (some ⟨g, 0, none⟩)) W := by go_simp
theorem fld68_1 (g : Nat) (W : World) : (Instr.fieldAt 68 (.pointer (some ⟨g, 0, none⟩)) 1).run Try.prog W = .ok (.pointer (some ⟨g, 1, none⟩)) W := by go_simp
theorem fld68_2 (g : Nat) (W : World) : (Instr.fieldAt 68 (.pointer (some ⟨g, 0, none⟩)) 2).run Try.prog W = .ok (.pointer (some ⟨g, 2, none⟩)) W := by go_simp
theorem fld68_3 (g : Nat) (W : World) : (Instr.fieldAt 68 (.pointer (some ⟨g, 0, none⟩)) 3).run Try.prog W = .ok (.pointer (some ⟨g, 3, none⟩)) W := by go_simp
/-- Bytes in a block of their own, without spare room; or none. -/
def Own1 (W : World) (v : Value) (bs : List UInt8) : Prop := (v = .slice none 0 0 ∧ bs = []) ∨ ∃ g, v = .slice (some ⟨g, 0, none⟩) bs.length bs.length ∧ Blk W g (bs.map byt) 5
theorem Own1.has {W : World} {v : Value} {bs : List UInt8} (h : Own1 W v bs) : Has W v bs := by
  rcases h with h | ⟨g, e, b⟩
  · exact .inl h
  · exact .inr ⟨⟨g, 0, none⟩, bs.length, e, Nat.le_refl _, fun i u hu => by rw [add_plain, b.cell, List.getElem?_map, hu]; rfl⟩
theorem Own1.fx {S : Nat → Prop} {w w' : World} {v : Value} {bs : List UInt8} (h : Own1 w v bs) (hf : Fx S w w') (hd : ∀ k, v.ownBlock = some k → ¬ S k) : Own1 w' v bs := by
  rcases h with h | ⟨g, rfl, b⟩
  · exact .inl h
  · exact .inr ⟨g, rfl, b.fx hf (hd g rfl)⟩
theorem Own1.below {w w' : World} {v : Value} {bs : List UInt8} (h : Own1 w v bs) (hb : Below w.heap.size w w') : Own1 w' v bs := h.fx (Fx.of_below (S := fun _ => False) hb) (fun _ _ s => s)
theorem Own1.lt {w : World} {v : Value} {bs : List UInt8} (h : Own1 w v bs) (k : Nat) (hk : v.ownBlock = some k) : k < w.heap.size := by
  rcases h with ⟨rfl, _⟩ | ⟨g, rfl, b⟩
  · simp [Value.ownBlock] at hk
  · have : g = k := by simpa [Value.ownBlock] using hk
    rw [← this]; exact b.lt
theorem Own1.len {w : World} {v : Value} {bs : List UInt8} (h : Own1 w v bs) (W : World) (ty : TypeId) : (Builtin.len_ #[34] ty #[v]).run Try.prog W = .ok (.int .i64 (bs.length : Int)) W := h.has.len W ty
theorem Own1.app {w : World} {v : Value} {bs : List UInt8} (h : Own1 w v bs) (gm : Nat) (ys : List UInt8) (hy : ys.length = 80) (hB : Blk w gm (ys.map byt) 5) (hl : bs.length ≤ 100000000) (ty : TypeId) :
    ∃ ao l c w', (Builtin.append_ #[34, 34] ty #[v, .slice (some ⟨gm, 0, none⟩) 80 80]).run Try.prog w = .ok (.slice ao l c) w' ∧ Has w' (.slice ao l c) (bs ++ ys) ∧ Below w.heap.size w w' ∧ (∀ k, Value.ownBlock (.slice ao l c) = some k → w.heap.size ≤ k ∧ k < w'.heap.size) := by
  obtain ⟨i0, hi, hz0, hz1, hz2⟩ := info_parts info5i
  have e1 : ∀ j u, (ys.map byt)[j]? = some u → w.cell? ((⟨gm, 0, none⟩ : Addr).add j) = some u := fun j u hu => by rw [add_plain, hB.cell]; exact hu
  have e2 : ∀ u ∈ ys.map byt, u.oneCell' = true := fun u hu => by
    obtain ⟨x, _, rfl⟩ := List.mem_map.1 hu
    rfl
  rcases h with ⟨rfl, rfl⟩ | ⟨g, rfl, b⟩
  · obtain ⟨v', w', hr, ho, hg, hn⟩ := run_appx w 34 ty 5 i0 _ 1 1 Try.underlying34 hi hz0 hz1 hz2 (by simp [Value.cells]) (by decide) (.slice none 0 0) 0 [] (World.ownsRow_nil _ _ _ _) ⟨gm, 0, none⟩ 80 80 (ys.map byt) (by simp [hy]) e1 e2 (by omega) (by omega)
    obtain ⟨ao, l, c, rfl⟩ := own_shape ho
    have ho2 : w'.ownsRow 0 5 1 (.slice ao l c) ys.length (ys.map byt) := by rw [hy]; simpa using ho
    refine ⟨ao, l, c, w', hr, own_has ho2, (grown_fx hg).below (fun k _ e => by simp [Value.ownBlock] at e) (Nat.le_refl _), fun k hk => ⟨?_, ownsRow_lt ho k hk⟩⟩
    rcases hn k hk with e | e
    · simp [Value.ownBlock] at e
    · exact e
  · have hown : w.ownsRow 0 5 1 (.slice (some ⟨g, 0, none⟩) bs.length bs.length) bs.length (bs.map byt) := ⟨by simp, .inr ⟨g, bs.length, (bs.map byt).toArray, rfl, Nat.zero_le _, b, Nat.le_refl _, by unfold maxLen; omega, by simp, List.take_of_length_le (by simp)⟩⟩
    obtain ⟨ao, l, c, w', hr, ho, hb, hn⟩ := run_appg w 34 ty 5 i0 _ 1 1 Try.underlying34 hi hz0 hz1 hz2 (by simp [Value.cells]) (by decide) g bs.length _ hown ⟨gm, 0, none⟩ 80 80 (ys.map byt) (by simp [hy]) e1 e2 (by omega) (by decide) (by omega)
    have ho2 : w'.ownsRow 0 5 1 (.slice ao l c) (bs ++ ys).length ((bs ++ ys).map byt) := by rw [List.length_append, hy, List.map_append]; exact ho
    exact ⟨ao, l, c, w', hr, own_has ho2, hb, fun k hk => ⟨hn k hk, ownsRow_lt ho k hk⟩⟩
set_option maxRecDepth 100000 in
set_option maxHeartbeats 1000000 in
theorem take_law {W : World} {B : Bl} (h : Bok W B) (hwn : B.wn = B.got.map (·.2)) (v : Value) (bs : List UInt8) (hv : Own1 W v bs) (hvn : ∀ k, v.ownBlock = some k → ¬ B.F k) (hbl : bs.length ≤ 10000000) (hmk : B.mark ≤ 1000000000) (hfew : B.got.length ≤ 10000000) :
    Calls Try.prog 48 #[.pointer (some ⟨B.p, 0, none⟩), v] W fun e w' => e = .returned (.tuple #[]) ∧ ∃ B', B'.p = B.p ∧ B'.wn = B'.got.map (·.2) ∧ Bok w' B' ∧ B'.mark = B.mark + 1 ∧ B'.got.length = B.got.length + 2 ∧ B'.ls = B.ls ∧ B'.vl = B.vl ∧ Fx (fun k => B.F k ∨ v.ownBlock = some k) W w' ∧ ∀ k, B'.F k → B.F k ∨ v.ownBlock = some k ∨ W.heap.size ≤ k := by
  have hm1 : IntKind.i64.wrap ((B.mark : Int) + 1) = ((B.mark + 1 : Nat) : Int) := by rw [IntKind.wrap_i64]; omega
  have k0 := h.setMark (B.mark + 1)
  have s0 := st3 (z := ((B.mark + 1 : Nat) : Int)) h.r2 (h.bl.frozen 2)
  have f0 : Fx (fun j => j = B.p) W (W.setCell ⟨B.p, 2, none⟩ (.int .i64 ((B.mark + 1 : Nat) : Int))) := Fx.setCell W B.p 2 _ rfl
  obtain ⟨w0, hw0⟩ : ∃ w0, W.setCell ⟨B.p, 2, none⟩ (.int .i64 ((B.mark + 1 : Nat) : Int)) = w0 := ⟨_, rfl⟩
  rw [hw0] at k0 s0 f0
  have hv0 := hv.fx f0 (fun k hk e => hvn k hk (.inl e))
  have hq : (B.mark + 1) % 250 < 250 := Nat.mod_lt _ (by decide)
  have hm2 : IntKind.i64.wrap ((((B.mark + 1) % 250 : Nat) : Int) + 1) = (((B.mark + 1) % 250 + 1 : Nat) : Int) := by rw [IntKind.wrap_i64]; omega
  have hcv := cv35 ((B.mark + 1) % 250) hq
  obtain ⟨X, hX⟩ : ∃ X, UInt8.ofNat ((B.mark + 1) % 250 + 1) = X := ⟨_, rfl⟩
  rw [hX] at hcv
  clear hX
  have rk : w0.cell? ⟨B.p, 2, none⟩ = some (.int .i64 ((B.mark + 1 : Nat) : Int)) := k0.r2
  have hlen := hv.len
  refine calls_of_args [.pointer (some ⟨B.p, 0, none⟩), v] Try.func48 rfl 62 Try.ntmps48 (by show 2 ≤ 62; decide) ?_
  refine EW.seq ?_
  refine EW.region ?_
  first | refine WL.move rfl rfl rfl ?_
  first | refine WL.nilc rfl rfl rfl ?_
  first | refine WL.field rfl rfl rfl (fld68_2 _ _) ?_
  refine WL.load rfl rfl rfl (ld3 h.r2) ?_
  refine WL.bin rfl rfl rfl rfl (int_add hm1 _ _ _) ?_
  first | refine WL.nilc rfl rfl rfl ?_
  first | refine WL.field rfl rfl rfl (fld68_2 _ _) ?_
  refine WL.store rfl rfl rfl s0 ?_
  refine WL.done ?_
  refine EW.on ?_
  refine EW.seq ?_
  refine EW.region ?_
  first | refine WL.move rfl rfl rfl ?_
  first | refine WL.nilc rfl rfl rfl ?_
  first | refine WL.field rfl rfl rfl (fld68_2 _ _) ?_
  refine WL.load rfl rfl rfl (ld3 rk) ?_
  refine WL.bin rfl rfl rfl rfl (rem250 _ (by omega) _ _ _) ?_
  refine WL.bin rfl rfl rfl rfl (int_add hm2 _ _ _) ?_
  refine WL.conv rfl rfl rfl (hcv _) ?_
  first | refine WL.assign rfl rfl rfl ?_
  refine WL.done ?_
  refine EW.on ?_
  refine EW.seq ?_
  refine EW.seq ?_
  by_cases hz : 0 < bs.length
  · have z1 : (0 : Int) < (bs.length : Int) := by omega
    rcases hv0 with ⟨_, e⟩ | ⟨g, hve, b0⟩
    · rw [e] at hz; simp at hz
    have hgn : ¬ B.F g := hvn g (by rw [hve]; rfl)
    obtain ⟨u0, hu0⟩ : ∃ u, bs[0]? = some u := ⟨_, List.getElem?_eq_getElem hz⟩
    have c0 : w0.cell? ⟨g, 0, none⟩ = some (byt u0) := by rw [b0.cell, List.getElem?_map, hu0]; rfl
    have s1 := st5 (z := X) c0 (b0.frozen 0)
    have b1 : Blk (w0.setCell ⟨g, 0, none⟩ (byt X)) g ((bs.set 0 X).map byt) 5 := by rw [← byts_set]; exact b0.set 0 _
    obtain ⟨w1, hw1⟩ : ∃ w1, w0.setCell ⟨g, 0, none⟩ (byt X) = w1 := ⟨_, rfl⟩
    have f1 : Fx (fun k => k = g) w0 w1 := by rw [← hw1]; exact Fx.setCell w0 g 0 _ rfl
    rw [hw1] at s1 b1
    have hl1 : (bs.set 0 X).length = bs.length := by simp
    obtain ⟨u1, hu1⟩ : ∃ u, (bs.set 0 X)[bs.length - 1]? = some u := ⟨_, List.getElem?_eq_getElem (by omega)⟩
    have c1 : w1.cell? ⟨g, bs.length - 1, none⟩ = some (byt u1) := by rw [b1.cell, List.getElem?_map, hu1]; rfl
    have s2 := st5 (z := X) c1 (b1.frozen _)
    have b2 : Blk (w1.setCell ⟨g, bs.length - 1, none⟩ (byt X)) g (((bs.set 0 X).set (bs.length - 1) X).map byt) 5 := by rw [← byts_set]; exact b1.set _ _
    obtain ⟨w2, hw2⟩ : ∃ w2, w1.setCell ⟨g, bs.length - 1, none⟩ (byt X) = w2 := ⟨_, rfl⟩
    have f12 : Fx (fun k => k = g) w1 w2 := by rw [← hw2]; exact Fx.setCell w1 g _ _ rfl
    rw [hw2] at s2 b2
    obtain ⟨bs', hbs'⟩ : ∃ bs', (bs.set 0 X).set (bs.length - 1) X = bs' := ⟨_, rfl⟩
    have hbl' : bs'.length = bs.length := by rw [← hbs']; simp
    rw [hbs'] at b2
    have k2 := (k0.fx f1 (fun k hk e => hgn (by rw [← e]; exact hk))).fx f12 (fun k hk e => hgn (by rw [← e]; exact hk))
    have v2 : Own1 w2 v bs' := .inr ⟨g, by rw [hbl']; exact hve, b2⟩
    have hgv : v.ownBlock = some g := by rw [hve]; rfl
    have f2 : Fx (fun k => B.F k ∨ v.ownBlock = some k) W w2 := ((f0.mono (fun k _ e => .inl (.inl e))).and (f1.mono (fun k _ e => .inr (by rw [e]; exact hgv)))).and (f12.mono (fun k _ e => .inr (by rw [e]; exact hgv)))
    have hq1 := q1sub bs.length hz (by omega)
    have hx1 := fun V => idx34c g bs.length bs.length 0 hz V
    have hx2 := fun V => idx34c g bs.length bs.length (bs.length - 1) (by omega) V
    have hx1 : ∀ V, (Instr.indexAt 34 v (.int .i64 0)).run Try.prog V = .ok (.pointer (some ⟨g, 0, none⟩)) V := fun V => by rw [hve]; exact hx1 V
    have hx2 : ∀ V, (Instr.indexAt 34 v (.int .i64 ((bs.length - 1 : Nat) : Int))).run Try.prog V = .ok (.pointer (some ⟨g, bs.length - 1, none⟩)) V := fun V => by rw [hve]; exact hx2 V
    clear b1 c0 c1 f1 f12 b0
    refine EW.region ?_
    first | refine WL.move rfl rfl rfl ?_
    refine WL.len rfl rfl rfl (hlen _ _) ?_
    refine WL.bin rfl rfl rfl rfl (int_gt_t z1 _ _ _) ?_
    refine WL.done ?_
    refine EW.on ?_
    refine EW.cond_t rfl ?_
    refine EW.seq ?_
    refine EW.region ?_
    first | refine WL.move rfl rfl rfl ?_
    first | refine WL.move rfl rfl rfl ?_
    refine WL.index rfl rfl rfl rfl (hx1 _) ?_
    refine WL.store rfl rfl rfl s1 ?_
    refine WL.done ?_
    refine EW.on ?_
    refine EW.region ?_
    first | refine WL.move rfl rfl rfl ?_
    first | refine WL.move rfl rfl rfl ?_
    refine WL.len rfl rfl rfl (hlen _ _) ?_
    refine WL.bin rfl rfl rfl rfl (int_sub hq1 _ _ _) ?_
    first | refine WL.move rfl rfl rfl ?_
    refine WL.index rfl rfl rfl rfl (hx2 _) ?_
    refine WL.store rfl rfl rfl s2 ?_
    refine WL.done ?_
    refine EW.on ?_
    have kd := k2.below (below_drawn w2)
    have vd := v2.below (below_drawn w2)
    have fd := f2.then_below (below_drawn w2)
    obtain ⟨wd, hwd⟩ : ∃ wd, { w2 with drawn := w2.drawn + 1 } = wd := ⟨_, rfl⟩
    rw [hwd] at kd vd fd
    have hma := many_any X wd
    have bM : Blk (wd.alloc (.cells ((List.replicate 80 X).map byt).toArray 5)) wd.heap.size ((List.replicate 80 X).map byt) 5 := Blk.new _ _ _
    have beM : Below wd.heap.size wd (wd.alloc (.cells ((List.replicate 80 X).map byt).toArray 5)) := below_new _ _
    obtain ⟨w3, hw3⟩ : ∃ w3, wd.alloc (.cells ((List.replicate 80 X).map byt).toArray 5) = w3 := ⟨_, rfl⟩
    rw [hw3] at hma bM beM
    have k3 := kd.below beM
    have v3 := vd.below beM
    obtain ⟨yo, yl, yc, w4, hap4, hh4, be4, hn4⟩ := v3.app wd.heap.size (List.replicate 80 X) (by simp) bM (by omega) 34
    have k4 := k3.below be4
    have v4 := v3.below be4
    obtain ⟨xo, xl, xc, hxe⟩ := shp v bs' v4.has
    have hnn : ∀ u ∈ [Value.slice xo xl xc, .slice yo yl yc], ∀ k, u.ownBlock = some k → k ≠ B.p ∧ B.vg.ownBlock ≠ some k ∧ B.vw.ownBlock ≠ some k ∧ B.vl.ownBlock ≠ some k ∧ k < w4.heap.size := fun u hu k hk => by
      simp only [List.mem_cons, List.not_mem_nil, or_false] at hu
      rcases hu with rfl | rfl
      · rw [← hxe] at hk
        have hF := hvn k hk
        exact ⟨fun e => hF (.inl e), fun e => hF (.inr (.inl e)), fun e => hF (.inr (.inr (.inl e))), fun e => hF (.inr (.inr (.inr (.inl e)))), v4.lt k hk⟩
      · have h5 := (hn4 k hk).1
        refine ⟨fun e => ?_, fun e => ?_, fun e => ?_, fun e => ?_, (hn4 k hk).2⟩
        · have := k3.lt k (.inl e); omega
        · have := k3.lt k (.inr (.inl e)); omega
        · have := k3.lt k (.inr (.inr (.inl e))); omega
        · have := k3.lt k (.inr (.inr (.inr (.inl e)))); omega
    rw [hxe] at hap4
    obtain ⟨w5, go, gl, gc, w6, hbs5, hap6, be5, f6, c5, c6, z6, k7, f7, hnw7⟩ := k4.pushG xo yo xl xc yl yc bs' (bs' ++ List.replicate 80 X) (by rw [← hxe]; exact v4.has) hh4 hnn (by show B.got.length ≤ 100000000; omega) 65
    have s7 := st65 (ao := go) (l := gl) (c := gc) c6 z6
    have v7 : Own1 (w6.setCell ⟨B.p, 0, none⟩ (.slice go gl gc)) v bs' := v4.fx f7 (fun k hk hF => hvn k hk hF)
    obtain ⟨w7, hw7⟩ : ∃ w7, w6.setCell ⟨B.p, 0, none⟩ (.slice go gl gc) = w7 := ⟨_, rfl⟩
    rw [hw7] at k7 f7 s7 v7
    have k8 := k7.below (below_drawn w7)
    have v8 := v7.below (below_drawn w7)
    obtain ⟨w8, hw8⟩ : ∃ w8, { w7 with drawn := w7.drawn + 1 } = w8 := ⟨_, rfl⟩
    have be78 : Below w7.heap.size w7 w8 := by rw [← hw8]; exact below_drawn w7
    rw [hw8] at k8 v8
    have hma9 := many_any X w8
    have bN : Blk (w8.alloc (.cells ((List.replicate 80 X).map byt).toArray 5)) w8.heap.size ((List.replicate 80 X).map byt) 5 := Blk.new _ _ _
    have beN : Below w8.heap.size w8 (w8.alloc (.cells ((List.replicate 80 X).map byt).toArray 5)) := below_new _ _
    obtain ⟨w9, hw9⟩ : ∃ w9, w8.alloc (.cells ((List.replicate 80 X).map byt).toArray 5) = w9 := ⟨_, rfl⟩
    rw [hw9] at hma9 bN beN
    have k9 := k8.below beN
    have v9 := v8.below beN
    have hN9 : Has w9 (.slice (some ⟨w8.heap.size, 0, none⟩) 80 80) (List.replicate 80 X) := .inr ⟨⟨w8.heap.size, 0, none⟩, 80, by simp, by simp, fun i u hu => by rw [add_plain, bN.cell, List.getElem?_map, hu]; rfl⟩
    obtain ⟨wA, so, sl, sc, wB, hbsA, hapB, beA, fB, cA, cB, zB, kC, fC, hnwC⟩ := k9.pushW bs' (bs' ++ List.replicate 80 X) (by show B.wn.length ≤ 100000000; rw [hwn, List.length_map]; omega) 29
    have hsz9 : (⟨bs'.toArray⟩ : ByteArray).size + (⟨(List.replicate 80 X).toArray⟩ : ByteArray).size ≤ 9223372036854775807 := by show bs'.toArray.size + (List.replicate 80 X).toArray.size ≤ _; simp; omega
    have sC := st29 (ao := so) (l := sl) (c := sc) cB zB
    have S9 : ∀ V, Below w8.heap.size w8 V → (V.cell? ⟨B.p, 1, none⟩ = some B.vw ∧ Has V v bs') := fun V hV => ⟨(k8.below hV).r1, (v8.below hV).has⟩
    have SB : wB.cell? ⟨B.p, 1, none⟩ = some B.vw ∧ Has wB v bs' := ⟨cB, (v9.below beA).has.fx fB (fun k hk e => hvn k hk (.inr (.inr (.inl e))))⟩
    obtain ⟨wC, hwC⟩ : ∃ wC, wB.setCell ⟨B.p, 1, none⟩ (.slice so sl sc) = wC := ⟨_, rfl⟩
    rw [hwC] at kC fC sC
    refine EW.seq ?_
    refine EW.chain 8 4 3 (fun V => V.cell? ⟨B.p, 0, none⟩ = some B.vg) (by kernel_rfl) rfl (by kernel_rfl) (by rw [hwd]; exact kd.r0) (by kernel_rfl) ?_
    rw [hwd]
    simp only [List.take_succ_cons, List.take_zero, List.drop_succ_cons, List.drop_zero, List.map_cons, List.map_nil, List.cons_append, List.nil_append]
    refine OE.move rfl rfl rfl ?_
    refine OE.move rfl rfl rfl ?_
    refine OE.nilc rfl rfl rfl ?_
    refine OE.field rfl rfl rfl (fun V => fld68_0 _ V) ?_
    refine OE.load rfl rfl rfl (fun V hV => ld65 hV) ?_
    refine OE.move rfl rfl rfl ?_
    refine OE.move rfl rfl rfl ?_
    refine OE.move rfl rfl rfl ?_
    refine OE.callW [byt X] _ (fun V => V.cell? ⟨B.p, 0, none⟩ = some B.vg) enter62 rfl rfl rfl k3.r0 (fun V h => h) hma ?_
    refine OE.app (fun V => V.cell? ⟨B.p, 0, none⟩ = some B.vg) rfl rfl k4.r0 (fun V h => h) (hxe ▸ rfl) rfl hap4 ?_
    refine OE.bsl2 (fun V => V.cell? ⟨B.p, 0, none⟩ = some B.vg) rfl rfl c5 (fun V h => h) (hxe ▸ rfl) rfl hbs5 ?_
    refine OE.app (fun V => V.cell? ⟨B.p, 0, none⟩ = some B.vg) rfl rfl c6 (fun V h => h) rfl rfl hap6 ?_
    refine fun W5 hW => ?_
    rw [hW]
    refine WL.nilc rfl rfl rfl ?_
    refine WL.field rfl rfl rfl (fld68_0 _ _) ?_
    refine WL.store rfl rfl rfl s7 ?_
    refine WL.done ?_
    refine EW.on ?_
    refine EW.chain 10 5 3 (fun V => V.cell? ⟨B.p, 1, none⟩ = some B.vw ∧ Has V v bs') (by kernel_rfl) rfl (by kernel_rfl) (by rw [hw8]; exact S9 w8 (Below.refl _ _)) (by kernel_rfl) ?_
    rw [hw8]
    simp only [List.take_succ_cons, List.take_zero, List.drop_succ_cons, List.drop_zero, List.map_cons, List.map_nil, List.cons_append, List.nil_append]
    refine OE.move rfl rfl rfl ?_
    refine OE.move rfl rfl rfl ?_
    refine OE.nilc rfl rfl rfl ?_
    refine OE.field rfl rfl rfl (fun V => fld68_1 _ V) ?_
    refine OE.load rfl rfl rfl (fun V hV => ld29 hV.1) ?_
    refine OE.move rfl rfl rfl ?_
    refine OE.conv rfl rfl rfl (fun V hV => hV.2.convert) ?_
    refine OE.move rfl rfl rfl ?_
    refine OE.conv rfl rfl rfl (fun V hV => hV.2.convert) ?_
    refine OE.move rfl rfl rfl ?_
    refine OE.callW [byt X] _ (fun V => V.cell? ⟨B.p, 1, none⟩ = some B.vw ∧ Has V v bs') enter62 rfl rfl rfl (S9 w9 beN) (fun V h => h) hma9 ?_
    refine OE.convT (fun V => V.cell? ⟨B.p, 1, none⟩ = some B.vw ∧ Has V v bs') rfl rfl (S9 w9 beN) (fun V h => h) rfl hN9.convert ?_
    refine OE.binT (fun V => V.cell? ⟨B.p, 1, none⟩ = some B.vw ∧ Has V v bs') rfl rfl (S9 w9 beN) (fun V h => h) rfl rfl (str_add _ _ hsz9 _ _ _) ?_
    rw [str_app]
    refine OE.bsl2 (fun V => V.cell? ⟨B.p, 1, none⟩ = some B.vw ∧ Has V v bs') rfl rfl (S9 wA (beN.trans (beA.mono beN.size))) (fun V h => h) rfl rfl hbsA ?_
    refine OE.app (fun V => V.cell? ⟨B.p, 1, none⟩ = some B.vw ∧ Has V v bs') rfl rfl SB (fun V h => h) rfl rfl hapB ?_
    refine fun W6 hW => ?_
    rw [hW]
    refine WL.nilc rfl rfl rfl ?_
    refine WL.field rfl rfl rfl (fld68_1 _ _) ?_
    refine WL.store rfl rfl rfl sC ?_
    refine WL.done ?_
    have f3C : Fx (fun k => B.F k ∨ v.ownBlock = some k) W wC := by
      have e1 : Fx (fun k => B.F k ∨ v.ownBlock = some k) W w4 := (fd.then_below beM).then_below be4
      have e2 : Fx (fun k => B.F k ∨ v.ownBlock = some k) W w7 := e1.trans f7 (fun k _ hF => .inl hF)
      have e3 : Fx (fun k => B.F k ∨ v.ownBlock = some k) W w9 := (e2.then_below be78).then_below beN
      refine e3.trans fC (fun k hk hF => ?_)
      rcases hF with hF | hF | hF | hF | ⟨x, hx, hF⟩ | hF
      · exact .inl (.inl hF)
      · rcases hnw7 k hF with e | e
        · exact .inl (.inr (.inl e))
        · have := e1.size; omega
      · exact .inl (.inr (.inr (.inl hF)))
      · exact .inl (.inr (.inr (.inr (.inl hF))))
      · rcases List.mem_append.1 hx with hx | hx
        · exact .inl (.inr (.inr (.inr (.inr (.inl ⟨x, hx, hF⟩)))))
        · simp only [List.mem_cons, List.not_mem_nil, or_false] at hx
          rcases hx with rfl | rfl
          · exact .inr (by rw [hxe]; exact hF)
          · have := (hn4 k hF).1
            have := (fd.then_below beM).size
            omega
      · exact .inl (.inr (.inr (.inr (.inr (.inr hF)))))
    have hWw3 : W.heap.size ≤ w3.heap.size := (fd.then_below beM).size
    have hWw4 : W.heap.size ≤ w4.heap.size := Nat.le_trans hWw3 be4.size
    have hWw9 : W.heap.size ≤ w9.heap.size := Nat.le_trans (Nat.le_trans (Nat.le_trans hWw4 f7.size) be78.size) beN.size
    refine EW.falls Try.results48 ⟨rfl, ⟨B.p, .slice go gl gc, .slice so sl sc, B.vl, B.got ++ [(.slice xo xl xc, bs'), (.slice yo yl yc, bs' ++ List.replicate 80 X)], B.wn ++ [bs', bs' ++ List.replicate 80 X], B.ls, B.mark + 1⟩, rfl, ?_, kC, rfl, by simp, rfl, rfl, f3C, fun k hk => ?_⟩
    · show B.wn ++ _ = (B.got ++ _).map _
      rw [hwn]; simp
    · rcases hk with hk | hk | hk | hk | ⟨x, hx, hk⟩ | hk
      · exact .inl (.inl hk)
      · rcases hnw7 k hk with e | e
        · exact .inl (.inr (.inl e))
        · exact .inr (.inr (by omega))
      · rcases hnwC k hk with e | e
        · exact .inl (.inr (.inr (.inl e)))
        · exact .inr (.inr (by omega))
      · exact .inl (.inr (.inr (.inr (.inl hk))))
      · rcases List.mem_append.1 hx with hx | hx
        · exact .inl (.inr (.inr (.inr (.inr (.inl ⟨x, hx, hk⟩)))))
        · simp only [List.mem_cons, List.not_mem_nil, or_false] at hx
          rcases hx with rfl | rfl
          · exact .inr (.inl (by rw [hxe]; exact hk))
          · have := (hn4 k hk).1
            exact .inr (.inr (by omega))
      · exact .inl (.inr (.inr (.inr (.inr (.inr hk)))))
  · have z1 : ¬ (0 : Int) < (bs.length : Int) := by omega
    obtain ⟨w2, hw2⟩ : ∃ w2, w0 = w2 := ⟨_, rfl⟩
    rw [hw2] at k0 hv0 f0 s0
    have k2 := k0
    obtain ⟨bs', hbs'⟩ : ∃ bs', bs = bs' := ⟨_, rfl⟩
    have hbl' : bs'.length = bs.length := by rw [hbs']
    have v2 : Own1 w2 v bs' := by rw [← hbs']; exact hv0
    have f2 : Fx (fun k => B.F k ∨ v.ownBlock = some k) W w2 := f0.mono (fun k _ e => .inl (.inl e))
    rw [hw2]
    refine EW.region ?_
    first | refine WL.move rfl rfl rfl ?_
    refine WL.len rfl rfl rfl (hlen _ _) ?_
    refine WL.bin rfl rfl rfl rfl (int_gt_f z1 _ _ _) ?_
    refine WL.done ?_
    refine EW.on ?_
    refine EW.cond_f rfl ?_
    refine EW.skip ?_
    refine EW.on ?_
    have kd := k2.below (below_drawn w2)
    have vd := v2.below (below_drawn w2)
    have fd := f2.then_below (below_drawn w2)
    obtain ⟨wd, hwd⟩ : ∃ wd, { w2 with drawn := w2.drawn + 1 } = wd := ⟨_, rfl⟩
    rw [hwd] at kd vd fd
    have hma := many_any X wd
    have bM : Blk (wd.alloc (.cells ((List.replicate 80 X).map byt).toArray 5)) wd.heap.size ((List.replicate 80 X).map byt) 5 := Blk.new _ _ _
    have beM : Below wd.heap.size wd (wd.alloc (.cells ((List.replicate 80 X).map byt).toArray 5)) := below_new _ _
    obtain ⟨w3, hw3⟩ : ∃ w3, wd.alloc (.cells ((List.replicate 80 X).map byt).toArray 5) = w3 := ⟨_, rfl⟩
    rw [hw3] at hma bM beM
    have k3 := kd.below beM
    have v3 := vd.below beM
    obtain ⟨yo, yl, yc, w4, hap4, hh4, be4, hn4⟩ := v3.app wd.heap.size (List.replicate 80 X) (by simp) bM (by omega) 34
    have k4 := k3.below be4
    have v4 := v3.below be4
    obtain ⟨xo, xl, xc, hxe⟩ := shp v bs' v4.has
    have hnn : ∀ u ∈ [Value.slice xo xl xc, .slice yo yl yc], ∀ k, u.ownBlock = some k → k ≠ B.p ∧ B.vg.ownBlock ≠ some k ∧ B.vw.ownBlock ≠ some k ∧ B.vl.ownBlock ≠ some k ∧ k < w4.heap.size := fun u hu k hk => by
      simp only [List.mem_cons, List.not_mem_nil, or_false] at hu
      rcases hu with rfl | rfl
      · rw [← hxe] at hk
        have hF := hvn k hk
        exact ⟨fun e => hF (.inl e), fun e => hF (.inr (.inl e)), fun e => hF (.inr (.inr (.inl e))), fun e => hF (.inr (.inr (.inr (.inl e)))), v4.lt k hk⟩
      · have h5 := (hn4 k hk).1
        refine ⟨fun e => ?_, fun e => ?_, fun e => ?_, fun e => ?_, (hn4 k hk).2⟩
        · have := k3.lt k (.inl e); omega
        · have := k3.lt k (.inr (.inl e)); omega
        · have := k3.lt k (.inr (.inr (.inl e))); omega
        · have := k3.lt k (.inr (.inr (.inr (.inl e)))); omega
    rw [hxe] at hap4
    obtain ⟨w5, go, gl, gc, w6, hbs5, hap6, be5, f6, c5, c6, z6, k7, f7, hnw7⟩ := k4.pushG xo yo xl xc yl yc bs' (bs' ++ List.replicate 80 X) (by rw [← hxe]; exact v4.has) hh4 hnn (by show B.got.length ≤ 100000000; omega) 65
    have s7 := st65 (ao := go) (l := gl) (c := gc) c6 z6
    have v7 : Own1 (w6.setCell ⟨B.p, 0, none⟩ (.slice go gl gc)) v bs' := v4.fx f7 (fun k hk hF => hvn k hk hF)
    obtain ⟨w7, hw7⟩ : ∃ w7, w6.setCell ⟨B.p, 0, none⟩ (.slice go gl gc) = w7 := ⟨_, rfl⟩
    rw [hw7] at k7 f7 s7 v7
    have k8 := k7.below (below_drawn w7)
    have v8 := v7.below (below_drawn w7)
    obtain ⟨w8, hw8⟩ : ∃ w8, { w7 with drawn := w7.drawn + 1 } = w8 := ⟨_, rfl⟩
    have be78 : Below w7.heap.size w7 w8 := by rw [← hw8]; exact below_drawn w7
    rw [hw8] at k8 v8
    have hma9 := many_any X w8
    have bN : Blk (w8.alloc (.cells ((List.replicate 80 X).map byt).toArray 5)) w8.heap.size ((List.replicate 80 X).map byt) 5 := Blk.new _ _ _
    have beN : Below w8.heap.size w8 (w8.alloc (.cells ((List.replicate 80 X).map byt).toArray 5)) := below_new _ _
    obtain ⟨w9, hw9⟩ : ∃ w9, w8.alloc (.cells ((List.replicate 80 X).map byt).toArray 5) = w9 := ⟨_, rfl⟩
    rw [hw9] at hma9 bN beN
    have k9 := k8.below beN
    have v9 := v8.below beN
    have hN9 : Has w9 (.slice (some ⟨w8.heap.size, 0, none⟩) 80 80) (List.replicate 80 X) := .inr ⟨⟨w8.heap.size, 0, none⟩, 80, by simp, by simp, fun i u hu => by rw [add_plain, bN.cell, List.getElem?_map, hu]; rfl⟩
    obtain ⟨wA, so, sl, sc, wB, hbsA, hapB, beA, fB, cA, cB, zB, kC, fC, hnwC⟩ := k9.pushW bs' (bs' ++ List.replicate 80 X) (by show B.wn.length ≤ 100000000; rw [hwn, List.length_map]; omega) 29
    have hsz9 : (⟨bs'.toArray⟩ : ByteArray).size + (⟨(List.replicate 80 X).toArray⟩ : ByteArray).size ≤ 9223372036854775807 := by show bs'.toArray.size + (List.replicate 80 X).toArray.size ≤ _; simp; omega
    have sC := st29 (ao := so) (l := sl) (c := sc) cB zB
    have S9 : ∀ V, Below w8.heap.size w8 V → (V.cell? ⟨B.p, 1, none⟩ = some B.vw ∧ Has V v bs') := fun V hV => ⟨(k8.below hV).r1, (v8.below hV).has⟩
    have SB : wB.cell? ⟨B.p, 1, none⟩ = some B.vw ∧ Has wB v bs' := ⟨cB, (v9.below beA).has.fx fB (fun k hk e => hvn k hk (.inr (.inr (.inl e))))⟩
    obtain ⟨wC, hwC⟩ : ∃ wC, wB.setCell ⟨B.p, 1, none⟩ (.slice so sl sc) = wC := ⟨_, rfl⟩
    rw [hwC] at kC fC sC
    refine EW.seq ?_
    refine EW.chain 8 4 3 (fun V => V.cell? ⟨B.p, 0, none⟩ = some B.vg) (by kernel_rfl) rfl (by kernel_rfl) (by rw [hwd]; exact kd.r0) (by kernel_rfl) ?_
    rw [hwd]
    simp only [List.take_succ_cons, List.take_zero, List.drop_succ_cons, List.drop_zero, List.map_cons, List.map_nil, List.cons_append, List.nil_append]
    refine OE.move rfl rfl rfl ?_
    refine OE.move rfl rfl rfl ?_
    refine OE.nilc rfl rfl rfl ?_
    refine OE.field rfl rfl rfl (fun V => fld68_0 _ V) ?_
    refine OE.load rfl rfl rfl (fun V hV => ld65 hV) ?_
    refine OE.move rfl rfl rfl ?_
    refine OE.move rfl rfl rfl ?_
    refine OE.move rfl rfl rfl ?_
    refine OE.callW [byt X] _ (fun V => V.cell? ⟨B.p, 0, none⟩ = some B.vg) enter62 rfl rfl rfl k3.r0 (fun V h => h) hma ?_
    refine OE.app (fun V => V.cell? ⟨B.p, 0, none⟩ = some B.vg) rfl rfl k4.r0 (fun V h => h) (hxe ▸ rfl) rfl hap4 ?_
    refine OE.bsl2 (fun V => V.cell? ⟨B.p, 0, none⟩ = some B.vg) rfl rfl c5 (fun V h => h) (hxe ▸ rfl) rfl hbs5 ?_
    refine OE.app (fun V => V.cell? ⟨B.p, 0, none⟩ = some B.vg) rfl rfl c6 (fun V h => h) rfl rfl hap6 ?_
    refine fun W5 hW => ?_
    rw [hW]
    refine WL.nilc rfl rfl rfl ?_
    refine WL.field rfl rfl rfl (fld68_0 _ _) ?_
    refine WL.store rfl rfl rfl s7 ?_
    refine WL.done ?_
    refine EW.on ?_
    refine EW.chain 10 5 3 (fun V => V.cell? ⟨B.p, 1, none⟩ = some B.vw ∧ Has V v bs') (by kernel_rfl) rfl (by kernel_rfl) (by rw [hw8]; exact S9 w8 (Below.refl _ _)) (by kernel_rfl) ?_
    rw [hw8]
    simp only [List.take_succ_cons, List.take_zero, List.drop_succ_cons, List.drop_zero, List.map_cons, List.map_nil, List.cons_append, List.nil_append]
    refine OE.move rfl rfl rfl ?_
    refine OE.move rfl rfl rfl ?_
    refine OE.nilc rfl rfl rfl ?_
    refine OE.field rfl rfl rfl (fun V => fld68_1 _ V) ?_
    refine OE.load rfl rfl rfl (fun V hV => ld29 hV.1) ?_
    refine OE.move rfl rfl rfl ?_
    refine OE.conv rfl rfl rfl (fun V hV => hV.2.convert) ?_
    refine OE.move rfl rfl rfl ?_
    refine OE.conv rfl rfl rfl (fun V hV => hV.2.convert) ?_
    refine OE.move rfl rfl rfl ?_
    refine OE.callW [byt X] _ (fun V => V.cell? ⟨B.p, 1, none⟩ = some B.vw ∧ Has V v bs') enter62 rfl rfl rfl (S9 w9 beN) (fun V h => h) hma9 ?_
    refine OE.convT (fun V => V.cell? ⟨B.p, 1, none⟩ = some B.vw ∧ Has V v bs') rfl rfl (S9 w9 beN) (fun V h => h) rfl hN9.convert ?_
    refine OE.binT (fun V => V.cell? ⟨B.p, 1, none⟩ = some B.vw ∧ Has V v bs') rfl rfl (S9 w9 beN) (fun V h => h) rfl rfl (str_add _ _ hsz9 _ _ _) ?_
    rw [str_app]
    refine OE.bsl2 (fun V => V.cell? ⟨B.p, 1, none⟩ = some B.vw ∧ Has V v bs') rfl rfl (S9 wA (beN.trans (beA.mono beN.size))) (fun V h => h) rfl rfl hbsA ?_
    refine OE.app (fun V => V.cell? ⟨B.p, 1, none⟩ = some B.vw ∧ Has V v bs') rfl rfl SB (fun V h => h) rfl rfl hapB ?_
    refine fun W6 hW => ?_
    rw [hW]
    refine WL.nilc rfl rfl rfl ?_
    refine WL.field rfl rfl rfl (fld68_1 _ _) ?_
    refine WL.store rfl rfl rfl sC ?_
    refine WL.done ?_
    have f3C : Fx (fun k => B.F k ∨ v.ownBlock = some k) W wC := by
      have e1 : Fx (fun k => B.F k ∨ v.ownBlock = some k) W w4 := (fd.then_below beM).then_below be4
      have e2 : Fx (fun k => B.F k ∨ v.ownBlock = some k) W w7 := e1.trans f7 (fun k _ hF => .inl hF)
      have e3 : Fx (fun k => B.F k ∨ v.ownBlock = some k) W w9 := (e2.then_below be78).then_below beN
      refine e3.trans fC (fun k hk hF => ?_)
      rcases hF with hF | hF | hF | hF | ⟨x, hx, hF⟩ | hF
      · exact .inl (.inl hF)
      · rcases hnw7 k hF with e | e
        · exact .inl (.inr (.inl e))
        · have := e1.size; omega
      · exact .inl (.inr (.inr (.inl hF)))
      · exact .inl (.inr (.inr (.inr (.inl hF))))
      · rcases List.mem_append.1 hx with hx | hx
        · exact .inl (.inr (.inr (.inr (.inr (.inl ⟨x, hx, hF⟩)))))
        · simp only [List.mem_cons, List.not_mem_nil, or_false] at hx
          rcases hx with rfl | rfl
          · exact .inr (by rw [hxe]; exact hF)
          · have := (hn4 k hF).1
            have := (fd.then_below beM).size
            omega
      · exact .inl (.inr (.inr (.inr (.inr (.inr hF)))))
    have hWw3 : W.heap.size ≤ w3.heap.size := (fd.then_below beM).size
    have hWw4 : W.heap.size ≤ w4.heap.size := Nat.le_trans hWw3 be4.size
    have hWw9 : W.heap.size ≤ w9.heap.size := Nat.le_trans (Nat.le_trans (Nat.le_trans hWw4 f7.size) be78.size) beN.size
    refine EW.falls Try.results48 ⟨rfl, ⟨B.p, .slice go gl gc, .slice so sl sc, B.vl, B.got ++ [(.slice xo xl xc, bs'), (.slice yo yl yc, bs' ++ List.replicate 80 X)], B.wn ++ [bs', bs' ++ List.replicate 80 X], B.ls, B.mark + 1⟩, rfl, ?_, kC, rfl, by simp, rfl, rfl, f3C, fun k hk => ?_⟩
    · show B.wn ++ _ = (B.got ++ _).map _
      rw [hwn]; simp
    · rcases hk with hk | hk | hk | hk | ⟨x, hx, hk⟩ | hk
      · exact .inl (.inl hk)
      · rcases hnw7 k hk with e | e
        · exact .inl (.inr (.inl e))
        · exact .inr (.inr (by omega))
      · rcases hnwC k hk with e | e
        · exact .inl (.inr (.inr (.inl e)))
        · exact .inr (.inr (by omega))
      · exact .inl (.inr (.inr (.inr (.inl hk))))
      · rcases List.mem_append.1 hx with hx | hx
        · exact .inl (.inr (.inr (.inr (.inr (.inl ⟨x, hx, hk⟩)))))
        · simp only [List.mem_cons, List.not_mem_nil, or_false] at hx
          rcases hx with rfl | rfl
          · exact .inr (.inl (by rw [hxe]; exact hk))
          · have := (hn4 k hk).1
            exact .inr (.inr (by omega))
      · exact .inl (.inr (.inr (.inr (.inr (.inr hk)))))
end Go.Proofs.Ythfcabhelldokaa
