import Derived.Test.YtiefgmgjlhjjhaaDoorPm
set_option linter.unusedVariables false
set_option linter.unusedSimpArgs false
namespace Go.Proofs.YtiefgmgjlhjjhaaDoor
open Go.RowKit

theorem max_i (a b : Int) (ty : TypeId) (W : World) : (Builtin.max_ #[3, 3] ty #[.int .i64 a, .int .i64 b]).run Tryd.prog W = .ok (.int .i64 (max a b)) W := by
  go_simp

theorem min_i (a b : Int) (ty : TypeId) (W : World) : (Builtin.min_ #[3, 3] ty #[.int .i64 a, .int .i64 b]).run Tryd.prog W = .ok (.int .i64 (min a b)) W := by
  go_simp

theorem quo_n (n m : Nat) (hm : 0 < m) (hn : n < 4611686018427387904) (W : World) (x y : Operand) : (do eqGuard .quo 3 x y (.int .i64 (n : Int)) (.int .i64 (m : Int)); binOp .quo 3 (.int .i64 (n : Int)) (.int .i64 (m : Int)) : Sem Value).run Tryd.prog W = .ok (.int .i64 ((n / m : Nat) : Int)) W := by
  have hb : ¬ (m : Int) = 0 := by omega
  have e : ((n : Int)).tdiv (m : Int) = ((n / m : Nat) : Int) := by rw [Int.tdiv_eq_ediv_of_nonneg (Int.natCast_nonneg _)]; rfl
  have hw : IntKind.i64.wrap ((n / m : Nat) : Int) = ((n / m : Nat) : Int) := by
    have := Nat.div_le_self n m
    obtain ⟨c, hc⟩ : ∃ c, n / m = c := ⟨_, rfl⟩
    rw [hc] at this ⊢
    rw [IntKind.wrap_i64]; omega
  have h : IntKind.i64.wrap (((n : Int)).tdiv (m : Int)) = ((n / m : Nat) : Int) := by rw [e]; exact hw
  have hm0 : ¬ m = 0 := by omega
  go_simp
  exact_mod_cast hw

theorem pi_sh {id n i : Nat} {s : List UInt8} {v : Value} (hs : s.length = 8) (hv : ∃ ao n c, v = Value.slice ao n c) : (Pi.mk id n i s v).sh := ⟨hs, hv⟩
/-- A part's bytes. -/
def partB (id n i : Nat) (s d : List UInt8) : List UInt8 := ((((([] : List UInt8) ++ [UInt8.ofNat 5]) ++ be32 id) ++ [UInt8.ofNat n]) ++ [UInt8.ofNat i]) ++ (s ++ d)
theorem partB_len (id n i : Nat) (s d : List UInt8) (hs : s.length = 8) : (partB id n i s d).length = 15 + d.length := by simp [partB, be32_len, hs]; omega
theorem box_sz (t : TypeId) (cs : List Value) (w : World) : ∃ w1 q, (Instr.box t (.agg cs.toArray)).run Tryd.prog w = .ok (.pointer (some ⟨q, 0, none⟩)) w1 ∧ Blk w1 q cs t ∧ Below w.heap.size w w1 ∧ q = w.heap.size ∧ w1.heap.size = w.heap.size + 1 :=
  ⟨_, _, run_boxR t _ w _ rfl, Blk.new _ _ _, below_new _ _, rfl, by simp⟩
/-- A part is being put together. -/
structure Pw (w0 W : World) (q1 q : Nat) (v : Value) (bs : List UInt8) (p : Pi) : Prop where
  wr : Wr 512 W (w0.heap.size + 1) q v bs
  b1 : Blk W q1 p.cs 58
  be : Below w0.heap.size w0 W
  sz : w0.heap.size + 1 ≤ W.heap.size
theorem Pw.step {w0 W W' : World} {q1 q : Nat} {v : Value} {bs bs' : List UInt8} {p : Pi} (h : Pw w0 W q1 q v bs p) {v' : Value} (hw : Wr 512 W' (w0.heap.size + 1) q v' bs') (hf : Fx (fun k => k = q ∨ v.ownBlock = some k) W W') : Pw w0 W' q1 q v' bs' p := by
  refine ⟨hw, h.b1.fx hf (h.wr.apart h.b1 (by decide) (by decide)), h.be.trans (hf.below (fun k hk e => ?_) h.be.size), by have := hf.size; have := h.sz; omega⟩
  rcases e with e | e
  · have := h.wr.bq; omega
  · have := h.wr.ob.base k e; omega
theorem Pw.on {w0 W W' : World} {q1 q : Nat} {v : Value} {bs : List UInt8} {p : Pi} (h : Pw w0 W q1 q v bs p) (hb : Below W.heap.size W W') : Pw w0 W' q1 q v bs p := ⟨h.wr.below hb, h.b1.on hb, bt h.be hb, by have := hb.size; have := h.sz; omega⟩
theorem s54 (q : Nat) (W : World) : (Instr.sliceAt 54 (.pointer (some ⟨q, 3, none⟩)) none none none).run Tryd.prog W = .ok (.slice (some ⟨q, 3, none⟩) 8 8) W := by
  go_simp
  try simp
set_option maxRecDepth 100000 in
set_option maxHeartbeats 4000000 in
theorem put_any (p : Pi) (hp : p.sh) (d : List UInt8) (w : World) (hv : Has w p.v d) (hn : p.n < 256) (hi : p.i < 256) (hd : d.length ≤ 497) : Calls Tryd.prog 20 #[p.val] w fun e w' => ∃ v, e = .returned v ∧ Ob w' w.heap.size v (partB p.id p.n p.i p.s d) ∧ Below w.heap.size w w' := by
  refine calls_of_args [p.val] Tryd.func20 rfl 38 Tryd.ntmps20 (by show 1 ≤ 38; decide) ?_
  refine EW.seq ?_
  refine EW.region ?_
  obtain ⟨w1, q1, rb1, b1, l1, hq1, szb⟩ := box_sz 58 p.cs w
  refine WL.box rfl rfl rfl rb1 ?_
  first | refine WL.assign rfl rfl rfl ?_
  refine WL.done ?_
  refine EW.on ?_
  refine EW.seq ?_
  refine EW.region ?_
  refine WL.call [.int .i64 512] enter37 rfl rfl rfl (newW_any 512 (by decide) _) ?_
  rintro _ W0 ⟨q, rfl, g0, l0⟩
  refine ⟨_, rfl, ?_⟩
  have z1 := b1.lt
  have hsz : w1.heap.size = w.heap.size + 1 := szb
  rw [hsz] at g0
  have P0 : Pw w W0 q1 q (.slice none 0 0) [] p := ⟨g0, b1.on l0, bt l1 l0, by have := l0.size; omega⟩
  first | refine WL.move rfl rfl rfl ?_
  first | refine WL.extract rfl rfl rfl (ext_2 _ _ _).1 ?_
  first | refine WL.extract rfl rfl rfl (ext_2 _ _ _).2 ?_
  first | refine WL.assign rfl rfl rfl ?_
  first | refine WL.assign rfl rfl rfl ?_
  refine WL.done ?_
  refine EW.on ?_
  refine EW.seq ?_
  refine EW.region ?_
  first | refine WL.move rfl rfl rfl ?_
  refine WL.call [.pointer (some ⟨q, 0, none⟩), .int .i64 5] enter38 rfl rfl rfl (u8_any 512 (by decide) _ q _ [] 5 (by decide) _ P0.wr P0.sz (by simp)) ?_
  rintro _ W1 ⟨rfl, v1, g1, f1, _⟩
  refine ⟨_, rfl, ?_⟩
  have P1 := P0.step g1 f1
  refine WL.done ?_
  refine EW.on ?_
  refine EW.seq ?_
  refine EW.region ?_
  first | refine WL.move rfl rfl rfl ?_
  refine WL.field rfl rfl rfl (f58_0 _ _) ?_
  refine WL.load rfl rfl rfl (ldU2 P1.b1 p.c0) ?_
  refine WL.call [.pointer (some ⟨q, 0, none⟩), u32v p.id] enter39 rfl rfl rfl (u32_any 512 (by decide) _ q _ _ p.id _ P1.wr P1.sz (by simp)) ?_
  rintro _ W2 ⟨rfl, v2, g2, f2, _⟩
  refine ⟨_, rfl, ?_⟩
  have P2 := P1.step g2 f2
  refine WL.done ?_
  refine EW.on ?_
  refine EW.seq ?_
  refine EW.region ?_
  first | refine WL.move rfl rfl rfl ?_
  refine WL.field rfl rfl rfl (f58_1 _ _) ?_
  refine WL.load rfl rfl rfl (ldI P2.b1 p.c1) ?_
  refine WL.call [.pointer (some ⟨q, 0, none⟩), .int .i64 (p.n : Int)] enter38 rfl rfl rfl (u8_any 512 (by decide) _ q _ _ p.n (by omega) _ P2.wr P2.sz (by simp [be32_len])) ?_
  rintro _ W3 ⟨rfl, v3, g3, f3, _⟩
  refine ⟨_, rfl, ?_⟩
  have P3 := P2.step g3 f3
  refine WL.done ?_
  refine EW.on ?_
  refine EW.seq ?_
  refine EW.region ?_
  first | refine WL.move rfl rfl rfl ?_
  refine WL.field rfl rfl rfl (f58_2 _ _) ?_
  refine WL.load rfl rfl rfl (ldI P3.b1 p.c2) ?_
  refine WL.call [.pointer (some ⟨q, 0, none⟩), .int .i64 (p.i : Int)] enter38 rfl rfl rfl (u8_any 512 (by decide) _ q _ _ p.i (by omega) _ P3.wr P3.sz (by simp [be32_len])) ?_
  rintro _ W4 ⟨rfl, v4, g4, f4, _⟩
  refine ⟨_, rfl, ?_⟩
  have P4 := P3.step g4 f4
  refine WL.done ?_
  refine EW.on ?_
  refine EW.seq ?_
  refine EW.ordB [(0, 0, 0), (1, 0, 0), (2, 0, 0), (3, 0, 0), (4, 0, 1), (5, 1, 1), (6, 1, 0)] (by kernel_rfl) rfl (by kernel_rfl) ?_
  simp only [opsZ, List.getD_cons_zero, List.getD_cons_succ]
  first | refine ZE.move rfl rfl rfl rfl sz0 ?_
  refine ZE.field rfl rfl rfl rfl sz0 (fun W => f58_3 _ W) ?_
  refine ZE.slice0 rfl rfl rfl rfl sz0 (fun W => s54 _ W) ?_
  refine ZE.field rfl rfl rfl rfl sz0 (fun W => f58_4 _ W) ?_
  refine ZE.load rfl rfl rfl rfl sz1 (fun W hW => ldS (P4.on (hW.resolve_left (by decide))).b1 (Pi.c4 hp)) ?_
  refine ZE.bsl [(0, .slice (some ⟨q1, 3, none⟩) 8 8), (1, p.v)] (fun v W => ∃ qp, v = .slice (some ⟨qp, 0, none⟩) 2 2 ∧ Blk W qp [.slice (some ⟨q1, 3, none⟩) 8 8, p.v] 24 ∧ W4.heap.size ≤ qp ∧ Below W4.heap.size W4 W) rfl rfl rfl (fun _ _ ⟨_, _, _, _, h⟩ => .inr h) (fun W hW => ⟨_, _, bsl74_2 _ _ ⟨_, _, _, rfl⟩ hp.sl W, W.heap.size, rfl, Blk.new _ _ _, hW.size, hW.trans ((below_new W _).mono hW.size)⟩) ?_
  rintro _ ⟨_, qp, rfl, _, hqp, _⟩
  refine ZE.callV [.pointer (some ⟨q, 0, none⟩), .slice (some ⟨qp, 0, none⟩) 2 2] (.tuple #[]) (fun W => ∃ v5, Pw w W q1 q v5 (partB p.id p.n p.i p.s d) p) enter40 rfl rfl rfl (fun _ _ => .inl rfl) (fun W hW => ?_) ?_
  · obtain ⟨qp', e, bp, _, l⟩ := hW
    cases e
    have P5 := P4.on l
    have hs1 : Has W (.slice (some ⟨q1, 3, none⟩) 8 8) p.s := by
      have := P5.b1.hasA (a := [u32v p.id, .int .i64 (p.n : Int), .int .i64 (p.i : Int)]) (K := p.s) (b := [p.v]) (o := 3) (by simp [Pi.cs]) rfl 8 (by rw [hp.s]; exact Nat.le_refl _)
      rw [hp.s] at this; exact this
    refine (fixed_any 512 (by decide) _ q qp 2 _ _ [(.slice (some ⟨q1, 3, none⟩) 8 8, p.s), (p.v, d)] W P5.wr ⟨bp, fun x hx => ?_⟩ P5.sz ?_ (fun x hx k hk => ?_) (by show 2 ≤ 1000; decide) ?_).mono fun e w' ⟨h1, v5, h2, h3, _⟩ => ⟨h1, v5, P5.step (by simpa [flatB, partB] using h2) h3⟩
    · rcases List.mem_cons.1 hx with e | hx
      · rw [e]; exact hs1
      · rw [List.mem_singleton.1 hx]; exact hv.below P5.be
    · have := P4.wr.bl.lt; omega
    · have hkb := P5.wr.ob.base k hk
      rcases List.mem_cons.1 hx with e | hx
      · rw [e]
        refine .inr fun ek => ?_
        simp only [Value.ownBlock, Option.some.injEq] at ek
        exact P5.wr.apart P5.b1 (by decide) (by decide) (.inr (ek ▸ hk))
      · rw [List.mem_singleton.1 hx]
        by_cases ek : p.v.ownBlock = some k
        · rcases hv.blk ek with h | h
          · exact .inl h
          · omega
        · exact .inr ek
    · simp [flatB, be32_len, hp.s]; omega
  rintro W6 ⟨v6, P6⟩
  refine EW.on ?_
  refine EW.seq ?_
  refine EW.region ?_
  first | refine WL.move rfl rfl rfl ?_
  refine WL.call [.pointer (some ⟨q, 0, none⟩)] enter41 rfl rfl rfl (out_any 512 _ q _ _ _ P6.wr (by rw [partB_len _ _ _ _ _ hp.s]; omega)) ?_
  rintro _ W7 ⟨v7, rfl, o7, l7⟩
  refine ⟨_, rfl, ?_⟩
  first | refine WL.move rfl rfl rfl ?_
  first | refine WL.extract rfl rfl rfl (ext_2 _ _ _).1 ?_
  first | refine WL.extract rfl rfl rfl (ext_2 _ _ _).2 ?_
  first | refine WL.assign rfl rfl rfl ?_
  first | refine WL.assign rfl rfl rfl ?_
  refine WL.done ?_
  refine EW.on ?_
  refine EW.seq ?_
  refine EW.region ?_
  first | refine WL.move rfl rfl rfl ?_
  first | refine WL.assign rfl rfl rfl ?_
  refine WL.done ?_
  refine EW.on ?_
  refine EW.ret ?_
  exact EW.returns Tryd.results20 rfl ⟨v7, rfl, o7.lower (by have := P6.be.size; omega), bt P6.be l7⟩
/-- How many parts, and which bytes. -/
def cnt (T : List UInt8) : Nat := max 1 ((T.length + 496) / 497)
def chk (T : List UInt8) (i : Nat) : List UInt8 := (T.drop (i * 497)).take (min ((i + 1) * 497) T.length - i * 497)
def spP (id : Nat) (T : List UInt8) : List (List UInt8) := (List.range (cnt T)).map fun i => partB id (cnt T) i (sm T) (chk T i)
theorem cnt_le {T : List UInt8} (h : T.length ≤ 31808) : cnt T ≤ 64 := by unfold cnt; omega
theorem chk_le (T : List UInt8) (i : Nat) : (chk T i).length ≤ 497 := by simp [chk]; omega
/-- Parts in a slice. -/
structure Spl (W : World) (b g : Nat) (vs : List Value) (ls : List (List UInt8)) : Prop where
  bl : Blk W g vs 24
  ln : vs.length = ls.length
  ob : ∀ (i : Nat) v l, vs[i]? = some v → ls[i]? = some l → Ob W b v l
  gb : b ≤ g
  ap : ∀ (i j : Nat) v u k k', i < j → vs[i]? = some v → vs[j]? = some u → v.ownBlock = some k → u.ownBlock = some k' → k < k'
  ag : ∀ (i : Nat) v k, vs[i]? = some v → v.ownBlock = some k → g < k
theorem Spl.on {W W' : World} {b g : Nat} {vs : List Value} {ls : List (List UInt8)} (h : Spl W b g vs ls) (hb : Below W.heap.size W W') : Spl W' b g vs ls := ⟨h.bl.on hb, h.ln, fun i v l hv hl => (h.ob i v l hv hl).below hb, h.gb, h.ap, h.ag⟩
theorem run_mk26 (w : World) (l : Nat) (h : l ≤ 1000) : (Instr.makeSlice 26 (.int .i64 (l : Int)) (.int .i64 (l : Int))).run Tryd.prog w = .ok (.slice (some ⟨w.heap.size, 0, none⟩) l l) (w.alloc (.cells (List.replicate l (Value.slice none 0 0)).toArray 24)) := by
  obtain ⟨i0, hi, hz0, hz1, hz2⟩ := info_parts (show (Tryd.prog.info? 24).map (fun i => (i.zero, i.size, i.bytes)) = some (some (.slice none 0 0), 1, 24) by kernel_rfl)
  have hrun := run_make (P := Tryd.prog) w 26 24 i0 (.slice none 0 0) Tryd.underlying26 hi hz0 .i64 .i64 l l (by omega) (by omega) (by rw [hz2]; omega) (by omega)
  rw [hz1, Int.toNat_natCast, Nat.mul_one, made_one _ rfl] at hrun
  rw [hrun]
theorem bd58s (id n i : Nat) (s : List UInt8) (v : Value) (hs : s.length = 8) (hv : ∃ ao n c, v = Value.slice ao n c) (W : World) : (Instr.build 58 [(0, u32v id), (1, .int .i64 (n : Int)), (2, .int .i64 (i : Int)), (3, kv s), (4, v)].toArray).run Tryd.prog W = .ok (Pi.mk id n i s v).val W := by
  obtain ⟨ao, m, c, rfl⟩ := hv
  obtain ⟨a, b, c1, d, e, f, g, h, rfl⟩ : ∃ a b c d e f g h, s = [a, b, c, d, e, f, g, h] := by
    match s, hs with
    | [a, b, c, d, e, f, g, h], _ => exact ⟨a, b, c, d, e, f, g, h, rfl⟩
  kernel_rfl
def soE (v : Value) (g : Nat) (T : List UInt8) (id q7 : Nat) (x : Nat × List Value) : List (Nat × Value) := [(0, u32v id), (1, v), (6, .int .i64 (cnt T : Int)), (7, .pointer (some ⟨q7, 0, none⟩)), (8, .slice (some ⟨g, 0, none⟩) (cnt T) (cnt T)), (26, .int .i64 (cnt T : Int)), (27, .int .i64 (x.1 : Int))]
structure SpR (w0 : World) (q7 g id : Nat) (T : List UInt8) (x : Nat × List Value) (W : World) : Prop where
  le : x.1 ≤ cnt T
  b7 : Blk W q7 ((sm T).map byt) 54
  bl : Blk W g x.2 24
  ln : x.2.length = cnt T
  ob : ∀ (i : Nat) v, i < x.1 → x.2[i]? = some v → Ob W w0.heap.size v (partB id (cnt T) i (sm T) (chk T i))
  ap : ∀ (i j : Nat) v u k k', i < j → j < x.1 → x.2[i]? = some v → x.2[j]? = some u → v.ownBlock = some k → u.ownBlock = some k' → k < k'
  ag : ∀ (i : Nat) v k, i < x.1 → x.2[i]? = some v → v.ownBlock = some k → g < k ∧ k < W.heap.size
  be : Below w0.heap.size w0 W
theorem mul_n (n m : Nat) (hn : n * m < 4611686018427387904) (W : World) (x y : Operand) : (do eqGuard .mul 3 x y (.int .i64 (n : Int)) (.int .i64 (m : Int)); binOp .mul 3 (.int .i64 (n : Int)) (.int .i64 (m : Int)) : Sem Value).run Tryd.prog W = .ok (.int .i64 ((n * m : Nat) : Int)) W := by
  have e : IntKind.i64.wrap ((n : Int) * (m : Int)) = ((n * m : Nat) : Int) := by rw [← Int.natCast_mul, IntKind.wrap_i64]; omega
  go_simp
theorem cut24 (ao : Option Addr) (n c i j : Nat) (hij : i ≤ j) (hj : j ≤ n) (hc : n ≤ c) (W : World) : (Instr.sliceAt 24 (.slice ao n c) (some (.int .i64 (i : Int))) (some (.int .i64 (j : Int))) none).run Tryd.prog W = .ok (cutV (.slice ao n c) i j) W := by
  have h1 : (i : Int) ≤ (j : Int) := by omega
  have h2 : (j : Int) ≤ (c : Int) := by omega
  unfold cutV
  go_simp
theorem Has.cap {w : World} {ao : Option Addr} {n c : Nat} {bs : List UInt8} (h : Has w (.slice ao n c) bs) : n ≤ c := by
  rcases h with ⟨h, _⟩ | ⟨ad, cap, h, h2, _⟩
  · cases h; exact Nat.le_refl _
  · cases h; exact h2
attribute [local irreducible] partB chk cnt sm
set_option maxRecDepth 100000 in
set_option maxHeartbeats 4000000 in
theorem split_ok (id : Nat) (v : Value) (T : List UInt8) (w : World) (hv : Has w v T) (hT : T.length ≤ 31808) (hK : Kst w) : Calls Tryd.prog 8 #[u32v id, v] w fun e w' => ∃ g vs, e = .returned (.tuple #[.slice (some ⟨g, 0, none⟩) (cnt T) (cnt T), .int .i64 0]) ∧ Spl w' w.heap.size g vs (spP id T) ∧ Below w.heap.size w w' := by
  obtain ⟨ao, cp, rfl⟩ := hv.slice
  have hTc := hv.cap
  have h31 : ¬ (31808 : Int) < (T.length : Int) := by omega
  have hc64 := cnt_le hT
  have sA : IntKind.i64.wrap ((T.length : Int) + 497) = (T.length : Int) + 497 := by rw [IntKind.wrap_i64]; omega
  have sB : IntKind.i64.wrap ((T.length : Int) + 497 - 1) = ((T.length + 496 : Nat) : Int) := by rw [IntKind.wrap_i64]; omega
  refine calls_of_args [u32v id, .slice ao T.length cp] Tryd.func8 rfl 52 Tryd.ntmps8 (by show 2 ≤ 52; decide) ?_
  refine EW.seq ?_
  refine EW.region ?_
  first | refine WL.assign rfl rfl rfl ?_
  first | refine WL.assign rfl rfl rfl ?_
  refine WL.done ?_
  refine EW.on ?_
  refine EW.seq ?_
  refine EW.seq ?_
  refine EW.region ?_
  first | refine WL.move rfl rfl rfl ?_
  refine WL.len rfl rfl rfl (len24 _ _ _ _ _) ?_
  first | refine WL.bin rfl rfl rfl rfl (int_gt_t ‹_› _ _ _) ?_ | refine WL.bin rfl rfl rfl rfl (int_gt_f ‹_› _ _ _) ?_ | refine WL.bin rfl rfl rfl rfl (int_gt_d _ _ _ _ _) ?_
  refine WL.done ?_
  refine EW.on ?_
  refine EW.cond_f rfl ?_
  refine EW.skip ?_
  refine EW.on ?_
  refine EW.seq ?_
  refine EW.region ?_
  first | refine WL.move rfl rfl rfl ?_
  refine WL.len rfl rfl rfl (len24 _ _ _ _ _) ?_
  refine WL.bin rfl rfl rfl rfl (int_add sA _ _ _) ?_
  refine WL.bin rfl rfl rfl rfl (int_sub sB _ _ _) ?_
  refine WL.bin rfl rfl rfl rfl (quo_n (T.length + 496) 497 (by decide) (by omega) _ _ _) ?_
  refine WL.max rfl rfl rfl rfl (max_i _ _ _ _) ?_
  rw [show max (1 : Int) (((T.length + 496) / 497 : Nat) : Int) = (cnt T : Int) by unfold cnt; omega]
  first | refine WL.assign rfl rfl rfl ?_
  refine WL.done ?_
  refine EW.on ?_
  refine EW.seq ?_
  refine EW.region ?_
  first | refine WL.move rfl rfl rfl ?_
  refine WL.bslN [(0, .slice ao T.length cp)] rfl rfl rfl (bsl74_1 _ ⟨_, _, _, rfl⟩ w) ?_
  have l1 := below_new w (.cells [Value.slice ao T.length cp].toArray 24)
  have hP : Parts (w.alloc (.cells [Value.slice ao T.length cp].toArray 24)) (.slice (some ⟨w.heap.size, 0, none⟩) 1 1) [(.slice ao T.length cp, T)] := parts_new w [(.slice ao T.length cp, T)] (fun x hx => by rw [List.mem_singleton.1 hx]; exact hv)
  generalize w.alloc (.cells [Value.slice ao T.length cp].toArray 24) = w1 at l1 hP ⊢
  refine WL.call [.slice (some ⟨w.heap.size, 0, none⟩) 1 1] enter19 rfl rfl rfl (sm_any _ [(.slice ao T.length cp, T)] T (by simp) w1 hP (hK.below l1 hK.lt) (by omega) (by show 1 ≤ 1000; decide)) ?_
  rintro _ w2 ⟨rfl, l2⟩
  refine ⟨_, rfl, ?_⟩
  obtain ⟨w3, q7, rn7, b7, l3, hq7⟩ := newB (cs := e8.map byt) zv54 w2
  refine WL.new rfl rfl rn7 ?_
  obtain ⟨w4, s4, b4, f4⟩ := b7.stA (ty := 54) (vs := (sm T).map byt) (o := 0) (a := []) (m := e8.map byt) (b := []) (i54 (sm_len T)) (byts_one' _) (by simp) rfl (by rw [List.length_map, List.length_map, sm_len]; rfl)
  refine WL.store rfl rfl rfl s4 ?_
  rw [List.append_nil, List.nil_append] at b4
  have L4 := (bt (bt l1 l2) l3).trans (f4.below (fun k hk e => by have e' : k = q7 := e; have := (bt l1 l2).size; omega) (bt (bt l1 l2) l3).size)
  refine WL.done ?_
  refine EW.on ?_
  refine EW.seq ?_
  refine EW.region ?_
  first | refine WL.move rfl rfl rfl ?_
  refine WL.mks rfl rfl rfl rfl (run_mk26 w4 (cnt T) (by omega)) ?_
  have l5 := below_new w4 (.cells (List.replicate (cnt T) (Value.slice none 0 0)).toArray 24)
  have b5 := Blk.new w4 (List.replicate (cnt T) (Value.slice none 0 0)) 24
  have hs5 : (w4.alloc (.cells (List.replicate (cnt T) (Value.slice none 0 0)).toArray 24)).heap.size = w4.heap.size + 1 := by simp
  generalize w4.alloc (.cells (List.replicate (cnt T) (Value.slice none 0 0)).toArray 24) = w5 at l5 b5 hs5 ⊢
  first | refine WL.assign rfl rfl rfl ?_
  refine WL.done ?_
  refine EW.on ?_
  refine EW.seq ?_
  refine EW.seq ?_
  refine EW.region ?_
  first | refine WL.move rfl rfl rfl ?_
  refine WL.len rfl rfl rfl (len26 _ _ _ _ _) ?_
  first | refine WL.move rfl rfl rfl ?_
  refine WL.done ?_
  refine EW.on ?_
  refine EW.block ?_
  refine EW.loop (soE (.slice ao T.length cp) w4.heap.size T id q7) (SpR w q7 w4.heap.size id T) (fun x => cnt T - x.1) (0, List.replicate (cnt T) (.slice none 0 0)) [0, 1, 6, 7, 8, 26, 27] rfl ⟨Nat.zero_le _, b4.on l5, b5, by simp, fun i v h => (by cases h), fun i j v u k k' _ h => (by cases h), fun i v k h => (by cases h), bt L4 l5⟩ ?_
  rintro x W hR
  obtain ⟨g, hg⟩ : ∃ g, g = w4.heap.size := ⟨_, rfl⟩
  rw [← hg] at hR
  show EW _ _ _ _ [(0, u32v id), (1, .slice ao T.length cp), (6, .int .i64 (cnt T : Int)), (7, .pointer (some ⟨q7, 0, none⟩)), (8, .slice (some ⟨w4.heap.size, 0, none⟩) (cnt T) (cnt T)), (26, .int .i64 (cnt T : Int)), (27, .int .i64 (x.1 : Int))] _
  rw [← hg]
  have hle := hR.le
  have sI : IntKind.i64.wrap ((x.1 : Int) + 1) = ((x.1 + 1 : Nat) : Int) := by rw [IntKind.wrap_i64]; omega
  refine EW.seq ?_
  refine EW.region ?_
  refine WL.bin rfl rfl rfl rfl (int_lt_d _ _ _ _ _) ?_
  refine WL.done ?_
  refine EW.on ?_
  refine EW.seq ?_
  refine EW.cond_d rfl (fun h28 => ?_) (fun h28 => ?_)
  · have ht : x.1 < cnt T := by omega
    have hx497 : x.1 * 497 ≤ T.length := by
      have := ht
      unfold cnt at this
      omega
    have hlo : x.1 * 497 ≤ min ((x.1 + 1) * 497) T.length := by omega
    have hhi : min ((x.1 + 1) * 497) T.length ≤ T.length := Nat.min_le_right _ _
    have hcv0 := (hv.below hR.be).cut (x.1 * 497) (min ((x.1 + 1) * 497) T.length) hlo hhi
    obtain ⟨cv, hcve⟩ : ∃ cv, cv = cutV (.slice ao T.length cp) (x.1 * 497) (min ((x.1 + 1) * 497) T.length) := ⟨_, rfl⟩
    have hcv : Has W cv (chk T x.1) := by unfold chk; rw [hcve]; exact hcv0
    have hpsh : (Pi.mk id (cnt T) x.1 (sm T) cv).sh := pi_sh (sm_len T) hcv.sl
    refine EW.skip ?_
    refine EW.on ?_
    refine EW.seq ?_
    refine EW.block ?_
    refine EW.seq ?_
    skip
    refine EW.region ?_
    first | refine WL.move rfl rfl rfl ?_
    first | refine WL.assign rfl rfl rfl ?_
    refine WL.done ?_
    refine EW.on ?_
    refine EW.seq ?_
    refine EW.region ?_
    first | refine WL.move rfl rfl rfl ?_
    first | refine WL.move rfl rfl rfl ?_
    refine WL.bin rfl rfl rfl rfl (mul_n x.1 497 (by omega) _ _ _) ?_
    first | refine WL.move rfl rfl rfl ?_
    refine WL.bin rfl rfl rfl rfl (int_add sI _ _ _) ?_
    refine WL.bin rfl rfl rfl rfl (mul_n (x.1 + 1) 497 (by omega) _ _ _) ?_
    first | refine WL.move rfl rfl rfl ?_
    refine WL.len rfl rfl rfl (len24 _ _ _ _ _) ?_
    refine WL.min rfl rfl rfl rfl (min_i _ _ _ _) ?_
    rw [show min (((x.1 + 1) * 497 : Nat) : Int) (T.length : Int) = ((min ((x.1 + 1) * 497) T.length : Nat) : Int) by omega]
    refine WL.slice2 rfl rfl rfl rfl rfl (cut24 ao T.length cp (x.1 * 497) (min ((x.1 + 1) * 497) T.length) hlo hhi hTc _) ?_
    rw [← hcve]
    first | refine WL.assign rfl rfl rfl ?_
    refine WL.done ?_
    refine EW.on ?_
    refine EW.region ?_
    first | refine WL.move rfl rfl rfl ?_
    first | refine WL.move rfl rfl rfl ?_
    first | refine WL.move rfl rfl rfl ?_
    first | refine WL.move rfl rfl rfl ?_
    first | refine WL.move rfl rfl rfl ?_
    refine WL.load rfl rfl rfl (show _ = Result.ok (kv (sm T)) _ from hR.b7.ldA (a := []) (m := (sm T).map byt) (b := []) u54 rfl (i54 (sm_len T)) (by simp) rfl) ?_
    first | refine WL.move rfl rfl rfl ?_
    refine WL.buildN [(0, u32v id), (1, .int .i64 (cnt T : Int)), (2, .int .i64 (x.1 : Int)), (3, kv (sm T)), (4, cv)] rfl rfl rfl (bd58s id (cnt T) x.1 (sm T) cv (sm_len T) hcv.sl _) ?_
    refine WL.call [(Pi.mk id (cnt T) x.1 (sm T) cv).val] enter20 rfl rfl rfl (put_any ⟨id, cnt T, x.1, sm T, cv⟩ hpsh (chk T x.1) W hcv (by show cnt T < 256; omega) (by show x.1 < 256; omega) (chk_le T x.1)) ?_
    rintro _ W2 ⟨pv, rfl, o2, l2'⟩
    refine ⟨_, rfl, ?_⟩
    replace o2 : Ob W2 W.heap.size pv (partB id (cnt T) x.1 (sm T) (chk T x.1)) := o2
    refine WL.index rfl rfl rfl rfl (x26 _ _ _ _ ht _) ?_
    rw [show (⟨g, 0, none⟩ : Addr).add x.1 = ⟨g, x.1, none⟩ by rw [add_plain]]
    obtain ⟨W3, s3, b3, f3⟩ := (hR.bl.on l2').stS' (j := x.1) (by rw [hR.ln]; exact ht) o2.has.sl
    refine WL.store rfl rfl rfl s3 ?_
    refine WL.done ?_
    refine pn_block ?_
    refine EW.on ?_
    refine EW.region ?_
    first | refine WL.bin rfl rfl rfl rfl (int_add ‹_› _ _ _) ?_
    first | refine WL.move rfl rfl rfl ?_
    refine WL.done ?_
    refine EW.again (x.1 + 1, x.2.set x.1 pv) [0, 1, 6, 7, 8, 26, 27] (by rw [hg]; rfl) ?_ (by show cnt T - (x.1 + 1) < cnt T - x.1; omega)
    have hgW := hR.bl.lt
    have hwW := hR.be.size
    have hpb : ∀ k, pv.ownBlock = some k → W.heap.size ≤ k ∧ k < W2.heap.size := fun k hk => ⟨o2.base k hk, (o2.lt hk).1⟩
    have fb : Below W.heap.size W W3 → True := fun _ => trivial
    have hne : ∀ (i : Nat) v, i < x.1 → (x.2.set x.1 pv)[i]? = some v → x.2[i]? = some v := fun i v hi h => by rwa [List.getElem?_set_ne (by omega)] at h
    have heq : ∀ v, (x.2.set x.1 pv)[x.1]? = some v → v = pv := fun v h => by
      rw [List.getElem?_set_self (by rw [hR.ln]; exact ht)] at h
      cases h; rfl
    have hob : ∀ (b : Nat) (v : Value) (l : List UInt8), Ob W2 b v l → (∀ k, v.ownBlock = some k → k ≠ g) → Ob W3 b v l := fun b v l ho hk => ho.fx f3 (fun k e hk' => hk k hk' e)
    refine ⟨by show x.1 + 1 ≤ cnt T; omega, (hR.b7.on l2').fx f3 (fun e => ?_), b3, by show (x.2.set x.1 pv).length = cnt T; rw [List.length_set]; exact hR.ln, fun i v hi hv' => ?_, fun i j v u k k' hij hj hv' hu hk hk' => ?_, fun i v k hi hv' hk => ?_, hR.be.trans ((l2'.mono hwW).trans (f3.below (fun k hk e => by have e' : k = g := e; have := L4.size; omega) (by have := l2'.size; omega)))⟩
    · have e' : q7 = g := e
      have := b4.lt
      omega
    · have hi' : i < x.1 + 1 := hi
      have hv2 : (x.2.set x.1 pv)[i]? = some v := hv'
      by_cases ei : i = x.1
      · subst ei
        rw [heq v hv2]
        exact hob _ _ _ (o2.lower hwW) (fun k hk e => by have := (hpb k hk).1; omega)
      · have hx := hne i v (by omega) hv2
        exact hob _ _ _ ((hR.ob i v (by omega) hx).below l2') (fun k hk e => by have := (hR.ag i v k (by omega) hx hk).1; omega)
    · have hj' : j < x.1 + 1 := hj
      have hv2 : (x.2.set x.1 pv)[i]? = some v := hv'
      have hu2 : (x.2.set x.1 pv)[j]? = some u := hu
      have hx := hne i v (by omega) hv2
      by_cases ej : j = x.1
      · subst ej
        rw [heq u hu2] at hk'
        have := (hR.ag i v k (by omega) hx hk).2
        have := (hpb k' hk').1
        omega
      · exact hR.ap i j v u k k' hij (by omega) hx (hne j u (by omega) hu2) hk hk'
    · have hi' : i < x.1 + 1 := hi
      have hv2 : (x.2.set x.1 pv)[i]? = some v := hv'
      have h3s := f3.size
      have h2s := l2'.size
      by_cases ei : i = x.1
      · subst ei
        rw [heq v hv2] at hk
        have := hpb k hk
        omega
      · have := hR.ag i v k (by omega) (hne i v (by omega) hv2) hk
        omega
  · have hxe : x.1 = cnt T := by omega
    refine EW.exit ?_
    refine px_then ?_
    refine px_then ?_
    refine px_block ?_
    refine EW.on ?_
    refine EW.seq ?_
    refine EW.region ?_
    first | refine WL.move rfl rfl rfl ?_
    first | refine WL.assign rfl rfl rfl ?_
    first | refine WL.assign rfl rfl rfl ?_
    refine WL.done ?_
    refine EW.on ?_
    refine EW.ret ?_
    refine EW.returns2 Tryd.results8 rfl rfl ⟨g, x.2, rfl, ⟨hR.bl, by rw [hR.ln]; simp [spP], fun i v l hv' hl' => ?_, by have := L4.size; omega, fun i j v u k k' hij hv' hu hk hk' => ?_, fun i v k hv' hk => ?_⟩, hR.be⟩
    · have hi : i < cnt T := by
        have := (List.getElem?_eq_some_iff.1 hv').1
        rw [hR.ln] at this; exact this
      have e : l = partB id (cnt T) i (sm T) (chk T i) := by
        unfold spP at hl'
        rw [List.getElem?_map, List.getElem?_range hi] at hl'
        exact (Option.some.inj hl').symm
      rw [e]; exact hR.ob i v (by omega) hv'
    · refine hR.ap i j v u k k' hij ?_ hv' hu hk hk'
      have := (List.getElem?_eq_some_iff.1 hu).1
      rw [hR.ln] at this; omega
    · refine (hR.ag i v k ?_ hv' hk).1
      have := (List.getElem?_eq_some_iff.1 hv').1
      rw [hR.ln] at this; omega
set_option maxRecDepth 100000 in
set_option maxHeartbeats 1000000 in
theorem split_no (id : Nat) (v : Value) (T : List UInt8) (w : World) (hv : Has w v T) (hT : 31808 < T.length) : Calls Tryd.prog 8 #[u32v id, v] w fun e w' => e = .returned (.tuple #[.slice none 0 0, .int .i64 5]) ∧ w' = w := by
  obtain ⟨ao, cp, rfl⟩ := hv.slice
  have h31 : (31808 : Int) < (T.length : Int) := by omega
  refine calls_of_args [u32v id, .slice ao T.length cp] Tryd.func8 rfl 52 Tryd.ntmps8 (by show 2 ≤ 52; decide) ?_
  refine EW.seq ?_
  refine EW.region ?_
  first | refine WL.assign rfl rfl rfl ?_
  first | refine WL.assign rfl rfl rfl ?_
  refine WL.done ?_
  refine EW.on ?_
  refine EW.seq ?_
  refine EW.seq ?_
  refine EW.region ?_
  first | refine WL.move rfl rfl rfl ?_
  refine WL.len rfl rfl rfl (len24 _ _ _ _ _) ?_
  first | refine WL.bin rfl rfl rfl rfl (int_gt_t ‹_› _ _ _) ?_ | refine WL.bin rfl rfl rfl rfl (int_gt_f ‹_› _ _ _) ?_ | refine WL.bin rfl rfl rfl rfl (int_gt_d _ _ _ _ _) ?_
  refine WL.done ?_
  refine EW.on ?_
  refine EW.cond_t rfl ?_
  refine EW.seq ?_
  refine EW.region ?_
  first | refine WL.assign rfl rfl rfl ?_
  first | refine WL.assign rfl rfl rfl ?_
  refine WL.done ?_
  refine EW.on ?_
  refine EW.ret ?_
  refine pr_then ?_
  exact EW.returns2 Tryd.results8 rfl rfl ⟨rfl, rfl⟩
end Go.Proofs.YtiefgmgjlhjjhaaDoor
