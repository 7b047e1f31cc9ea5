import Derived.Test.YthfcabhelldokaaLi
set_option linter.unusedVariables false
set_option linter.unusedSimpArgs false
namespace Go.Proofs.Ythfcabhelldokaa
open Go.RowKit

theorem build38n (W : World) : (Instr.build 38 #[(1, .int .i64 (-1))]).run Try.prog W = .ok (.agg (lossC (.slice none 0 0) (-1) 0).toArray) W := by kernel_rfl
theorem bs34z (W : World) : (Instr.buildSlice 34 2 #[(0, .int .u8 0), (1, .int .u8 0)]).run Try.prog W = .ok (.slice (some ⟨W.heap.size, 0, none⟩) 2 2) (W.alloc (.cells (([0, 0] : List UInt8).map byt).toArray 5)) := by kernel_rfl
theorem lossC_oneM : (lossC (.slice none 0 0) (-1) 0).toArray.all (·.oneCell') = true := all_oneCell_toArray fun v hv => by
  simp only [lossC, List.mem_cons, List.not_mem_nil, or_false] at hv
  rcases hv with rfl | rfl | rfl <;> rfl
theorem wl_at (wl : List UInt8) (h : wl.length = 2) (q : Nat) (hq : q < 2) : (wl.map byt)[q]? = some (.int .u8 ((wl.getD q 0).toNat : Int)) := by
  rw [List.getElem?_map, List.getD_eq_getElem?_getD, List.getElem?_eq_getElem (by omega)]; rfl
theorem wl_zero (q : Nat) (hq : q < 2) : (([0, 0] : List UInt8).map byt)[q]? = some (.int .u8 0) := by
  match q, hq with
  | 0, _ => rfl
  | 1, _ => rfl
theorem mod2_lt {a r : Nat} (h : a % 2 = r) : r < 2 := by omega
theorem mod2_int {a r : Nat} (h : a % 2 = r) : (a : Int) % 2 = (r : Int) := by omega
theorem wrap_small {r : Nat} (h : r < 1000000) : wrap64 (r : Int) = (r : Int) := IntWalk.wrap64_in _ (by omega)
theorem u8_small {m : Nat} (h : m < 256) : IntKind.u8.wrap (m : Int) = (m : Int) := by rw [IntKind.wrap_u8]; omega
theorem u8_val {m : Nat} (h : m < 256) : ((UInt8.ofNat m).toNat : Int) = (m : Int) := by rw [UInt8.toNat_ofNat', Nat.mod_eq_of_lt (by omega)]
theorem wpList_of_lexV {P : Program} {ops : Array Oper} {Q : Exit → Act → World → Prop} {w : World} (rest : List Oper) : ∀ (l : List Oper) (a : Act), wpLexV P ops (fun W => W = w) (fun a' => wpList P ops Q rest a' w) l a → wpList P ops Q (l ++ rest) a w
  | [], a, h => h
  | o :: l, a, ⟨v, hv, h⟩ => by
    have ih := wpList_of_lexV rest l _ h
    show wpList P ops Q (o :: (l ++ rest)) a w
    unfold wpList
    rcases hv with ⟨hw, hr⟩ | ⟨hw, rfl⟩
    · rw [if_pos hw]
      refine .inl ?_
      unfold Oper.wp
      rw [hr w rfl]
      exact ih
    · rw [if_neg (by rw [hw]; decide)]
      exact ih
theorem wpLexV_nil {P : Program} {ops : Array Oper} {S : World → Prop} {K : Act → Prop} {a : Act} (h : K a) : wpLexV P ops S K [] a := h
theorem lst_thenV {P : Program} {Q : Exit → Act → World → Prop} {id : Nat} {l : List Oper} {a : Act} {w : World} (n : Nat)
    (h : wpLexV P l.toArray (fun W => W = w) (fun a' => wpList P l.toArray Q (l.drop n) a' w) (l.take n) a) : (Code.region id l.toArray false).wp P Q a w := by
  refine wp_region_lit ?_
  have := wpList_of_lexV (l.drop n) (l.take n) a h
  rwa [List.take_append_drop] at this
theorem q_lt {x q : Nat} (h : x / 512 = q) (hx : x < 1024) : q < 2 := by omega
theorem q_small {x q : Nat} (h : x / 512 = q) (hx : x < 2048) : q < 1000000 := by omega
theorem xm_small {x xm : Nat} (h : x % 512 = xm) : xm < 1000000 := by omega
theorem div_int (x : Nat) : (x : Int) / 512 = ((x / 512 : Nat) : Int) := by omega
theorem mod_int (x : Nat) : (x : Int) % 512 = ((x % 512 : Nat) : Int) := by omega
theorem not_lt_int {x : Nat} (h : ¬ x < 1024) : ¬ (x : Int) < 1024 := by omega
theorem u8_one {k : Nat} (h : k < 255) : IntKind.u8.wrap (1 + (k : Int)) = 1 + (k : Int) := by rw [IntKind.wrap_u8]; omega
theorem wrap_one {k : Nat} (h : k < 255) : wrap64 (1 + (k : Int)) = 1 + (k : Int) := IntWalk.wrap64_in _ (by omega)
theorem sp3 {x q xm kk k : Nat} {n cut : Int} (hq : x / 512 = q) (hxm : x % 512 = xm) (hkk : k % 2 = kk) (hcut : cut = if 0 < n then n else 0) (ln : n ≤ 512) : (x / 512 = k % 2 ∧ x % 512 < (min (max n 0) 512).toNat) ↔ (q = kk ∧ (xm : Int) < cut) := by
  subst hq hxm hkk hcut
  constructor
  · rintro ⟨a, b⟩
    refine ⟨a, ?_⟩
    split <;> omega
  · rintro ⟨a, b⟩
    refine ⟨a, ?_⟩
    split at b <;> omega
theorem two_cases (q : Nat) (h : q < 2) : q = 0 ∨ q = 1 := by omega
/-- What is wanted behind a crash that keeps all. -/
def wlA (m : Nat) : List UInt8 := (([0, 0] : List UInt8).set ((m - 1) % 2) (UInt8.ofNat m)).set (m % 2) (UInt8.ofNat (m - 1))
theorem want1 (m x : Nat) (hm : m ≤ 100) (h1 : 1 < m) (hx : x < 1024) : (imgW allK (-1) 0 m).getD x 0 = (wlA m).getD (x / 512) 0 := by
  rw [img1 m x hm (by omega) (by omega), if_pos hx]
  unfold wlA
  rcases two_cases (x / 512) (by omega) with hq | hq <;> rcases two_cases (m % 2) (by omega) with hr | hr <;> rw [hq, hr]
  · rw [show (m - 1) % 2 = 1 by omega, show (m + 1) % 2 = 1 by omega, if_neg (by decide), if_pos h1]; rfl
  · rw [show (m - 1) % 2 = 0 by omega, show (m + 1) % 2 = 0 by omega, if_pos rfl]; rfl
  · rw [show (m - 1) % 2 = 1 by omega, show (m + 1) % 2 = 1 by omega, if_pos rfl]; rfl
  · rw [show (m - 1) % 2 = 0 by omega, show (m + 1) % 2 = 0 by omega, if_neg (by decide), if_pos h1]; rfl
theorem want1a (x : Nat) (hx : x < 1024) : (imgW allK (-1) 0 1).getD x 0 = (([0, 0] : List UInt8).set 0 (UInt8.ofNat 1)).getD (x / 512) 0 := by
  rw [img1 1 x (by decide) (by decide) (by omega), if_pos hx]
  rcases two_cases (x / 512) (by omega) with hq | hq <;> rw [hq] <;> rfl
theorem want1b {m m0 r0 : Nat} (h : m = m0 + 1) (hr : m0 % 2 = r0) (h1 : ¬ 1 < m) (x : Nat) (hx : x < 1024) : (imgW allK (-1) 0 m).getD x 0 = (([0, 0] : List UInt8).set r0 (UInt8.ofNat m)).getD (x / 512) 0 := by
  have e1 : m = 1 := by omega
  have e0 : r0 = 0 := by omega
  rw [e0, e1]; exact want1a x hx
theorem want1z (m x : Nat) (hm : m ≤ 100) (h1 : 1 ≤ m) (hx : 1024 ≤ x) (hx2 : x < 2048) : (imgW allK (-1) 0 m).getD x 0 = 0 := by
  rw [img1 m x hm h1 hx2, if_neg (by omega)]
theorem want2 (m k x : Nat) (hm : m ≤ 100) (hk : k < m) (hx : x < 1024) : (imgW (bitK k) (-1) 0 m).getD x 0 = (([0, 0] : List UInt8).set (k % 2) (UInt8.ofNat (1 + k))).getD (x / 512) 0 := by
  rw [img2 m k x hm hk (by omega)]
  rcases two_cases (x / 512) (by omega) with hq | hq <;> rcases two_cases (k % 2) (by omega) with hr | hr <;> rw [hq, hr] <;> rfl
theorem want2z (m k x : Nat) (hm : m ≤ 100) (hk : k < m) (hx : 1024 ≤ x) (hx2 : x < 2048) : (imgW (bitK k) (-1) 0 m).getD x 0 = 0 := by
  rw [img2 m k x hm hk hx2, if_neg (by omega)]
theorem allK_has (W : World) (g : Nat) (B : Blk W g [Value.int .u64 18446744073709551615, .int .u64 18446744073709551615] 39) : Has64 W (.slice (some ⟨g, 0, none⟩) 2 2) allK := by
  refine .inr ⟨⟨g, 0, none⟩, 2, rfl, Nat.le_refl _, fun i u hu => ?_⟩
  have hi : i < 2 := (List.getElem?_eq_some_iff.1 hu).1
  rw [add_plain, B.cell]
  rcases two_cases i hi with h | h <;> subst h <;> (unfold allK at hu; simp only [List.getElem?_cons_zero, List.getElem?_cons_succ, Option.some.injEq] at hu ⊢; rw [← hu]; simp [wv, wn])
/-- A turn's device and life. -/
structure Tn (w W : World) (pv p : Nat) (D : Dv) : Prop where
  ex : ∃ L vi, Mine w W L D ∧ Life w W pv L vi (List.replicate 4 zS) (.slice none 0 0) ∧ L.p = p
theorem Tn.c0 {w W : World} {pv p : Nat} {D : Dv} (h : Tn w W pv p D) : W.cell? ⟨pv, 0, none⟩ = some (.pointer (some ⟨p, 0, none⟩)) := by
  obtain ⟨L, vi, _, hl, hp⟩ := h.ex
  have := (hl.bl.cell 0).trans (show _ = some (.pointer (some ⟨L.p, 0, none⟩)) from rfl)
  rwa [hp] at this
theorem Tn.be {w W : World} {pv p : Nat} {D : Dv} (h : Tn w W pv p D) : Below w.heap.size w W := by
  obtain ⟨L, vi, hm, _, _⟩ := h.ex
  exact hm.be
theorem Tn.below {w W W' : World} {pv p : Nat} {D : Dv} (h : Tn w W pv p D) (hb : Below W.heap.size W W') : Tn w W' pv p D := by
  obtain ⟨L, vi, hm, hl, hp⟩ := h.ex
  exact ⟨L, vi, hm.below hb, hl.below hb, hp⟩
theorem Mine.keep {w W W' : World} {S : Nat → Prop} {L : Lay} {D : Dv} (h : Mine w W L D) (hf : Fx S W W') (hd : ∀ k, L.F k → ¬ S k) (hw : ∀ k, S k → w.heap.size ≤ k) : Mine w W' L D :=
  ⟨h.dev.fx hf hd, h.be.trans (hf.below (fun k hk hS => by have := hw k hS; omega) h.be.size), h.own⟩
theorem fx_setRow (W : World) (g : Nat) (cs : Array Value) : Fx (One g) W (W.setRow g cs) := ⟨rfl, rfl, rfl, by rw [setRow_size]; exact Nat.le_refl _, fun k hk hn => setRow_other W g k cs hn⟩
theorem u8_of (t : Nat) (h : t < 255) : ((UInt8.ofNat (1 + t)).toNat : Int) = 1 + (t : Int) := by
  rw [UInt8.toNat_ofNat', Nat.mod_eq_of_lt (by omega)]
  omega
/-- One write of a turn. -/
theorem Tn.write {w W : World} {pv p : Nat} {j : Nat} (h : Tn w W pv p (dvW j)) (hj : j < 1000) (g : Nat) (hg : W.heap.size = g) :
    Calls Try.prog 12 #[.pointer (some ⟨p, 0, none⟩), .int .i64 ((j % 2 : Nat) : Int), .slice (some ⟨g, 0, none⟩) 512 512] (W.alloc (.cells ((secL (UInt8.ofNat (1 + j)) []).map byt).toArray 5)) fun e w' => e = .returned (.int .i64 0) ∧ Tn w w' pv p (dvW (j + 1)) := by
  obtain ⟨L, vi, hm, hl, hp⟩ := (h.below (below_new W (.cells ((secL (UInt8.ofNat (1 + j)) []).map byt).toArray 5))).ex
  have := write_ok hm.dev rfl (j % 2) (show j % 2 < 4 by omega) _ (secL (UInt8.ofNat (1 + j)) []) (secL_length _ _) (has_sec W _ (secL_length _ _)) (show (pensL j).length < 1000000 by rw [pensL_length]; omega) (show j < 1000000000000 by omega) (show 0 < 9223372036854775808 by decide)
  rw [changedE_zero rfl, dvW_succ, hp, hg] at this
  exact this.mono fun e w' ⟨he, L', ht, hd⟩ => ⟨he, L', vi, hm.turn ht hd, hl.turn ht, ht.p.trans hp⟩
/-- The turn's crash. -/
theorem Tn.crash {w W : World} {pv p : Nat} {m : Nat} (h : Tn w W pv p (dvW m)) (v : Value) (ks : List (BitVec 64)) (torn off : Int) (hv : Has64 W v ks) (hvn : ∀ k, v.ownBlock = some k → w.heap.size ≤ k → ∀ L vi, Life w W pv L vi (List.replicate 4 zS) (.slice none 0 0) → Mine w W L (dvW m) → k ≠ L.gi) (hlo : ∀ k, v.ownBlock = some k → w.heap.size ≤ k) :
    Calls Try.prog 15 #[.pointer (some ⟨p, 0, none⟩), .agg (lossC v torn off).toArray] W fun e w' => e = .returned (.int .i64 0) ∧ Tn w w' pv p ⟨4, imgW ks torn off m, [], 0, [], 0, 0, true, m⟩ := by
  obtain ⟨L, vi, hm, hl, hp⟩ := h.ex
  have := crash_any hm.dev rfl v ks torn off hv (fun k hk => hvn k hk (hlo k hk) L vi hl hm)
  rw [crashW, hp] at this
  exact this.mono fun e w' ⟨he, ht, hd⟩ => ⟨he, _, vi, hm.turn ht hd, hl.turn ht, ht.p.trans hp⟩
/-- The turn's image. -/
theorem Tn.image {w W : World} {pv p : Nat} {D : Dv} (h : Tn w W pv p D) : Calls Try.prog 16 #[.pointer (some ⟨p, 0, none⟩)] W fun e w' => e = .returned (.slice (some ⟨W.heap.size, 0, none⟩) D.img.length D.img.length) ∧ w' = W.alloc (.cells (D.img.map byt).toArray 5) := by
  obtain ⟨L, vi, hm, hl, hp⟩ := h.ex
  have := image_any hm.dev
  rwa [hp] at this

set_option maxRecDepth 100000 in
set_option maxHeartbeats 16000000 in
theorem loss_any (a b c : Int) (ha : -9223372036854775808 ≤ a ∧ a ≤ 9223372036854775807) (hb : -9223372036854775808 ≤ b ∧ b ≤ 9223372036854775807) (hc : -9223372036854775808 ≤ c ∧ c ≤ 9223372036854775807) (w : World) :
    Calls Try.prog 3 #[.int .i64 a, .int .i64 b, .int .i64 c] w fun e w' => e = .returned (.bool true) ∧ Below w.heap.size w w' := by
  obtain ⟨M0, hM0⟩ : ∃ M, pickN a 100 = M := ⟨_, rfl⟩
  have lM0 : M0 < 100 := by rw [← hM0]; exact pick_lt a 100 (by decide)
  have p1 : Hid (∀ W, Calls Try.prog 9 #[.int .i64 a, .int .i64 100] W fun e w' => e = .returned (.int .i64 (M0 : Int)) ∧ w' = W) := hide (fun W => by rw [← hM0]; exact pick_any a 100 (by decide) (by decide) ha W)
  obtain ⟨m, hm⟩ : ∃ m, M0 + 1 = m := ⟨_, rfl⟩
  obtain ⟨k, hk⟩ : ∃ k, pickN b m = k := ⟨_, rfl⟩
  have lk : k < m := by rw [← hk]; exact pick_lt b m (by omega)
  have p2 : Hid (∀ W, Calls Try.prog 9 #[.int .i64 b, .int .i64 (m : Int)] W fun e w' => e = .returned (.int .i64 (k : Int)) ∧ w' = W) := hide (fun W => by rw [← hk]; exact pick_any b m (by omega) (by omega) hb W)
  obtain ⟨N0, hN0⟩ : ∃ N, pickN c 514 = N := ⟨_, rfl⟩
  have lN0 : N0 < 514 := by rw [← hN0]; exact pick_lt c 514 (by decide)
  have p3 : Hid (∀ W, Calls Try.prog 9 #[.int .i64 c, .int .i64 514] W fun e w' => e = .returned (.int .i64 (N0 : Int)) ∧ w' = W) := hide (fun W => by rw [← hN0]; exact pick_any c 514 (by decide) (by decide) hc W)
  have cf := hide fixed_any
  have cb := hide born_any
  have m1 : 1 ≤ m := by omega
  have m100 : m ≤ 100 := by omega
  have e1 : wrap64 (1 + (M0 : Int)) = (m : Int) := by rw [IntWalk.wrap64_in _ (by omega)]; omega
  have e2 : 1 + (M0 : Int) = (m : Int) := by omega
  obtain ⟨n, hn⟩ : ∃ n : Int, (N0 : Int) - 1 = n := ⟨_, rfl⟩
  have ln : -1 ≤ n ∧ n ≤ 512 := by omega
  have e3 : wrap64 ((N0 : Int) - 1) = n := by rw [IntWalk.wrap64_in _ (by omega)]; exact hn
  clear hM0 hk hN0 hm ha hb hc
  go_enter Try.func3, Try.ntmps3
  go_upto_region 2 with (first
    | (go_at_call 9; refine (p1.out _).mono ?_; rintro e wz ⟨rfl, hz⟩; rw [hz]; clear hz wz)
    | fail)
  clear e1 e2 p1
  go_upto_region 3 with (first
    | (go_at_call 9; refine (p2.out _).mono ?_; rintro e wz ⟨rfl, hz⟩; rw [hz]; clear hz wz)
    | fail)
  clear p2
  go_upto_region 5 with (first
    | (go_at_call 9; refine (p3.out _).mono ?_; rintro e wz ⟨rfl, hz⟩; rw [hz]; clear hz wz)
    | (go_at_call 10; refine (cf.out _).mono ?_; rintro e w1 ⟨rfl, hz⟩; have BE1 := hide hz; clear hz)
    | fail)
  clear p3 cf e3 hn lM0 lN0
  go_wp2
  go_loopw [7, 8] (fun ok i wr => ∃ t : Nat, t ≤ 4 ∧ ok = .bool true ∧ i = .int .i64 t ∧ Hid (Below w.heap.size w wr)) (fun _ i _ => 4 - (intOf i).toNat)
  case atStart => exact ⟨0, by omega, rfl, rfl, BE1⟩
  case round =>
    obtain ⟨t, ht, rfl, rfl, hs⟩ := hrel
    clear BE1
    by_cases hlt : t < 4
    · have hlz : (t : Int) < 4 := by omega
      go_upto_region 11 with (first
        | (go_at_call 11; refine (cb.out _).mono ?_; rintro e w2 ⟨pv, L, vi, rfl, hz1, hz2⟩)
        | fail)
      obtain ⟨p, hp⟩ : ∃ p, L.p = p := ⟨_, rfl⟩
      have bsz := hs.out.size
      have T0 : Hid (Tn w w2 pv p (dvW 0)) := hide ⟨L, vi, ⟨by rw [← dvW_zero]; exact hz1.dev, hs.out.trans (hz1.be.mono bsz), fun k hk => Nat.le_trans bsz (hz1.own k hk)⟩, ⟨hz2.bl, hz2.im, Nat.le_trans bsz hz2.lo, hz2.no, fun k hk => ⟨Nat.le_trans bsz (hz2.vin k hk).1, (hz2.vin k hk).2⟩⟩, hp⟩
      clear hz1 hz2 hp cb bsz hs
      go_wp2
      go_loopw [7, 11] (fun ok i wr => ∃ j : Nat, j ≤ m ∧ ok = .bool true ∧ i = .int .i64 j ∧ Hid (Tn w wr pv p (dvW j))) (fun _ i _ => m - (intOf i).toNat)
      case atStart => exact ⟨0, by omega, rfl, rfl, T0⟩
      case round =>
        obtain ⟨j, hj, rfl, rfl, hs⟩ := hrel
        clear T0
        by_cases hjm : j < m
        · have hjz : (j : Int) < (m : Int) := by omega
          go_upto_region 14 with fail
          obtain ⟨w0, hw0⟩ : ∃ w0, { wr with drawn := wr.drawn + 1 } = w0 := ⟨_, rfl⟩
          have be0 : Below wr.heap.size wr w0 := by rw [← hw0]; exact below_drawn wr
          have hT := hs.out.below be0
          have hc0 := hT.c0
          obtain ⟨g, hg⟩ : ∃ g, w0.heap.size = g := ⟨_, rfl⟩
          have hse := sector_any (UInt8.ofNat (1 + j)) (.slice none 0 0) [] (by decide) w0 (Has.nil _)
          have hwr := hT.write (by omega) g hg
          rw [hg] at hse
          have be1 : Below w0.heap.size w0 (w0.alloc (.cells ((secL (UInt8.ofNat (1 + j)) []).map byt).toArray 5)) := below_new w0 _
          obtain ⟨w1, hw1⟩ : ∃ w1, w0.alloc (.cells ((secL (UInt8.ofNat (1 + j)) []).map byt).toArray 5) = w1 := ⟨_, rfl⟩
          rw [hw1] at hse hwr be1
          have R2 : (j : Int).tmod 2 = ((j % 2 : Nat) : Int) := by rw [Int.tmod_eq_emod_of_nonneg (by omega)]; omega
          have U8 := u8_of j (by omega)
          obtain ⟨F, hF⟩ : ∃ F, UInt8.ofNat (1 + j) = F := ⟨_, rfl⟩
          rw [hF] at U8 hse
          have U2 : IntKind.u8.wrap (1 + (j : Int)) = (F.toNat : Int) := by rw [U8, IntKind.wrap_u8]; omega
          obtain ⟨jj, hjj⟩ : ∃ jj, j % 2 = jj := ⟨_, rfl⟩
          rw [hjj] at R2 hwr
          have W1 : wrap64 (1 + (j : Int)) = 1 + (j : Int) := IntWalk.wrap64_in _ (by omega)
          have HR2 := hide R2
          have HU2 := hide U2
          have HW1 := hide W1
          clear R2 U2 U8 W1 hF hjj hs be0
          refine reg_chain (fun W => W.cell? ⟨pv, 0, none⟩ = some (.pointer (some ⟨p, 0, none⟩))) 9 2 1 (by kernel_rfl) rfl (by kernel_rfl) (by rw [hw0]; exact hc0) ?_
          rw [hw0]
          simp only [List.take_succ_cons, List.take_zero]
          refine wpLexV_cons (.pointer (some ⟨pv, 0, none⟩)) (uvV (by rfl) (Op.move (Operand.tmp 9)) rfl (.pointer (some ⟨pv, 0, none⟩)) (fun o' ho W hW => by go_simp)) (by simp only [Act.put, List.setIfInBounds_toArray, List.set_cons_zero, List.set_cons_succ]; rfl) ?_
          refine wpLexV_cons (.pointer (some ⟨pv, 0, none⟩)) (uvV (by rfl) (Op.nilCheck (Operand.tmp 48)) rfl (.pointer (some ⟨pv, 0, none⟩)) (fun o' ho W hW => by go_simp)) (by simp only [Act.put, List.setIfInBounds_toArray, List.set_cons_zero, List.set_cons_succ]; rfl) ?_
          refine wpLexV_cons (.pointer (some ⟨pv, 0, none⟩)) (uvV (by rfl) (Op.fieldAddr 32 (Operand.tmp 49) 0) rfl (.pointer (some ⟨pv, 0, none⟩)) (fun o' ho W hW => by go_simp)) (by simp only [Act.put, List.setIfInBounds_toArray, List.set_cons_zero, List.set_cons_succ]; rfl) ?_
          refine wpLexV_cons (.pointer (some ⟨p, 0, none⟩)) (uvV (by rfl) (Op.load 28 (Operand.tmp 50)) rfl (.pointer (some ⟨p, 0, none⟩)) (fun o' ho W hW => by have hc : W.cell? ⟨pv, 0, none⟩ = some (.pointer (some ⟨p, 0, none⟩)) := hW; go_simp)) (by simp only [Act.put, List.setIfInBounds_toArray, List.set_cons_zero, List.set_cons_succ]; rfl) ?_
          refine wpLexV_cons (.int .i64 (j : Int)) (uvV (by rfl) (Op.move (Operand.tmp 11)) rfl (.int .i64 (j : Int)) (fun o' ho W hW => by go_simp)) (by simp only [Act.put, List.setIfInBounds_toArray, List.set_cons_zero, List.set_cons_succ]; rfl) ?_
          refine wpLexV_cons (.int .i64 (jj : Int)) (uvV (by rfl) (Op.binOp BinOp.rem 3 (Operand.tmp 52) (Operand.const (Value.int IntKind.i64 2)) 3) rfl (.int .i64 (jj : Int)) (fun o' ho W hW => by first | (go_simp; done) | (go_simp; exact HR2.out))) (by simp only [Act.put, List.setIfInBounds_toArray, List.set_cons_zero, List.set_cons_succ]; rfl) ?_
          refine wpLexV_cons (.int .i64 (j : Int)) (uvV (by rfl) (Op.move (Operand.tmp 11)) rfl (.int .i64 (j : Int)) (fun o' ho W hW => by go_simp)) (by simp only [Act.put, List.setIfInBounds_toArray, List.set_cons_zero, List.set_cons_succ]; rfl) ?_
          refine wpLexV_cons (.int .i64 (1 + (j : Int))) (uvV (by rfl) (Op.binOp BinOp.add 3 (Operand.const (Value.int IntKind.i64 1)) (Operand.tmp 54) 3) rfl (.int .i64 (1 + (j : Int))) (fun o' ho W hW => by first | (go_simp; done) | (go_simp; rw [IntKind.wrap_i64]; omega))) (by simp only [Act.put, List.setIfInBounds_toArray, List.set_cons_zero, List.set_cons_succ]; rfl) ?_
          refine wpLexV_cons (.int .u8 (F.toNat : Int)) (uvV (by rfl) (Op.convert 3 5 (Operand.tmp 55)) rfl (.int .u8 (F.toNat : Int)) (fun o' ho W hW => by first | (go_simp; done) | (go_simp; exact HU2.out))) (by simp only [Act.put, List.setIfInBounds_toArray, List.set_cons_zero, List.set_cons_succ]; rfl) ?_
          simp only [List.drop_succ_cons, List.drop_zero, List.take_succ_cons, List.take_zero]
          refine wpSteps_cons rfl (.slice (some ⟨g, 0, none⟩) 512 512) w1 ((be1.cell (cell_lt hc0)).trans hc0) (OpTo.call 13 [Operand.tmp 56, Operand.const (Value.slice none 0 0)] #[5, 34] rfl [.int .u8 (F.toNat : Int), .slice none 0 0] _ rfl enter13 hse) (by simp only [Act.put, List.setIfInBounds_toArray, List.set_cons_zero, List.set_cons_succ]; rfl) ?_
          refine ⟨rfl, .int .i64 0, fun W => Tn w W pv p (dvW (j + 1)), fun W hW => hW.c0, fun W hW => by rw [hW]; exact OpTo.call 12 [Operand.tmp 51, Operand.tmp 53, Operand.tmp 57] #[28, 3, 34] rfl [.pointer (some ⟨p, 0, none⟩), .int .i64 (jj : Int), .slice (some ⟨g, 0, none⟩) 512 512] (.int .i64 0) rfl enter12 hwr, ?_⟩
          intro W hW
          try simp only [Nat.reduceAdd, List.drop_succ_cons, List.drop_zero, Act.put, List.setIfInBounds_toArray, List.set_cons_zero, List.set_cons_succ]
          have TW := hide hW
          clear hW hse hwr be1 hc0 hT hw0 hw1 HR2 HU2 HW1
          go_wp2
          go_roundw
          case rel => exact ⟨j + 1, by omega, rfl, by go_num, TW⟩
          case measure => simp [intOf]; omega
        · skip
          have hje : j = m := by omega
          have hjz : ¬ (j : Int) < (m : Int) := by omega
          obtain ⟨L, vi, hm, hl, hp⟩ := (show Tn w wr pv p (dvW m) by rw [← hje]; exact hs.out).ex
          clear hs hjm hj hje
          obtain ⟨gl, hgl⟩ : ∃ g, wr.heap.size = g := ⟨_, rfl⟩
          have LT : Hid (∀ k, L.F k → k < gl) := hide (by rw [← hgl]; exact hm.dev.lt)
          have HLP : Hid (pv < gl) := hide (by rw [← hgl]; exact hl.bl.lt)
          have HLW : Hid (w.heap.size ≤ gl) := hide (by rw [← hgl]; exact hm.be.size)
          have NP : Hid (¬ L.F pv) := hide hl.no
          have HPV : Hid (Blk wr pv (lifeC p vi (.slice none 0 0)) 32) := hide (by rw [← hp]; exact hl.bl)
          have HM := hide hm
          have HP := hide hp
          clear hm hl hp
          have al1 : Below wr.heap.size wr ((wr.alloc (.cells (lossC (.slice none 0 0) 0 0).toArray 38)).setRow gl (lossC (.slice none 0 0) (-1) 0).toArray) := below_setRow (below_new wr _) _ _ (by omega)
          have BL : Blk ((wr.alloc (.cells (lossC (.slice none 0 0) 0 0).toArray 38)).setRow gl (lossC (.slice none 0 0) (-1) 0).toArray) gl (lossC (.slice none 0 0) (-1) 0) 38 := (Blk.newAt hgl).setRow _
          have sz1 : ((wr.alloc (.cells (lossC (.slice none 0 0) 0 0).toArray 38)).setRow gl (lossC (.slice none 0 0) (-1) 0).toArray).heap.size = gl + 1 := by rw [setRow_size, ← hgl]; simp
          have hbn := build38n
          obtain ⟨w4, hw4⟩ : ∃ w4, (wr.alloc (.cells (lossC (.slice none 0 0) 0 0).toArray 38)).setRow gl (lossC (.slice none 0 0) (-1) 0).toArray = w4 := ⟨_, rfl⟩
          rw [hw4] at al1 BL sz1
          have hbs := bs34z w4
          rw [sz1] at hbs
          have al2 : Below w4.heap.size w4 (w4.alloc (.cells (([0, 0] : List UInt8).map byt).toArray 5)) := below_new w4 _
          have BQ : Blk (w4.alloc (.cells (([0, 0] : List UInt8).map byt).toArray 5)) (gl + 1) (([0, 0] : List UInt8).map byt) 5 := Blk.newAt sz1
          obtain ⟨w5, hw5⟩ : ∃ w5, w4.alloc (.cells (([0, 0] : List UInt8).map byt).toArray 5) = w5 := ⟨_, rfl⟩
          have sz5 : w5.heap.size = gl + 2 := by rw [← hw5]; simp [sz1]
          rw [hw5] at hbs al2 BQ
          replace HM := hide ((HM.out.below al1).below al2)
          replace HPV := hide ((HPV.out.on al1).on al2)
          replace BL := BL.on al2
          have i38 := info38A (.slice none 0 0) (-1) 0
          have o38 := lossC_oneM
          obtain ⟨gq, hgq⟩ : ∃ g, gl + 1 = g := ⟨_, rfl⟩
          rw [hgq] at hbs BQ
          go_upto_region 19 with (first
            | (refine wpList_newAt rfl 38 rfl _ zero38 gl hgl ?_)
            | (refine wpList_store_row rfl 38 (.tmp 13) (.tmp 64) rfl gl (lossC (.slice none 0 0) (-1) 0).toArray rfl rfl 38 _ (Blk.newAt hgl) i38 rfl o38 ?_; rw [hw4])
            | fail)
          rw [show w4.alloc (Obj.cells #[Value.int IntKind.u8 0, Value.int IntKind.u8 0] 5) = w5 from hw5]
          have HBL := hide BL
          have HBQ := hide BQ
          have HSZ := hide sz5
          have HGQ := hide hgq
          clear BL BQ al1 al2 sz1 sz5 hbn hbs i38 o38 hw4 hw5 hgl hgq
          have ht4 : t = 0 ∨ t = 1 ∨ t = 2 ∨ t = 3 := by omega
          rcases ht4 with h0 | h0 | h0 | h0
          · subst h0
            have H64 : Hid (Has64 w5 (.slice none 0 0) []) := hide (Has64.nil _)
            have HVB : Hid (∀ k, (Value.slice none 0 0).ownBlock = some k → gl ≤ k) := hide (fun k hk => by simp [Value.ownBlock] at hk)
            have SP1 : Hid (∀ x, x < 1024 → (imgW [] (-1) 0 m).getD x 0 = ([0, 0] : List UInt8).getD (x / 512) 0) := hide (fun x hx => by rw [img0 m x (by omega)]; rcases (show x / 512 = 0 ∨ x / 512 = 1 by omega) with h | h <;> rw [h] <;> rfl)
            have SP2 : Hid (∀ x, 1024 ≤ x → x < 2048 → (imgW [] (-1) 0 m).getD x 0 = 0) := hide (fun x _ hx => img0 m x hx)
            have SPL : Hid (([0, 0] : List UInt8).length = 2) := hide rfl
            go_upto_region 32 with fail
            have CW : ∀ W, Below w5.heap.size w5 W → W.cell? ⟨pv, 0, none⟩ = some (.pointer (some ⟨p, 0, none⟩)) := fun W hW => ((HPV.out.on hW).cell 0).trans rfl
            refine reg_rest 5 2 (by kernel_rfl) rfl (by kernel_rfl) ?_
            simp only [List.take_succ_cons, List.take_zero]
            refine wpLex_cons2 _ (uni_val (by rfl) (Op.move (Operand.tmp 9)) rfl (.pointer (some ⟨pv, 0, none⟩)) (fun o' ho W hW => by go_simp)) (by simp only [Act.put, List.setIfInBounds_toArray, List.set_cons_zero, List.set_cons_succ]; rfl) ?_
            refine wpLex_cons2 _ (uni_val (by rfl) (Op.nilCheck (Operand.tmp 107)) rfl (.pointer (some ⟨pv, 0, none⟩)) (fun o' ho W hW => by go_simp)) (by simp only [Act.put, List.setIfInBounds_toArray, List.set_cons_zero, List.set_cons_succ]; rfl) ?_
            refine wpLex_cons2 _ (uni_val (by rfl) (Op.fieldAddr 32 (Operand.tmp 108) 0) rfl (.pointer (some ⟨pv, 0, none⟩)) (fun o' ho W hW => by go_simp)) (by simp only [Act.put, List.setIfInBounds_toArray, List.set_cons_zero, List.set_cons_succ]; rfl) ?_
            refine wpLex_cons2 _ (uni_val (by rfl) (Op.load 28 (Operand.tmp 109)) rfl (.pointer (some ⟨p, 0, none⟩)) (fun o' ho W hW => by have hc := CW W hW; go_simp)) (by simp only [Act.put, List.setIfInBounds_toArray, List.set_cons_zero, List.set_cons_succ]; rfl) ?_
            refine wpLex_cons2 _ (uni_row rfl 38 (.tmp 13) rfl gl (lossC (.slice none 0 0) (-1) 0) 38 rfl (fun W hW => HBL.out.on hW) Try.underlying38 rfl (info38 _ _ _)) (by simp only [Act.put, List.setIfInBounds_toArray, List.set_cons_zero, List.set_cons_succ]; rfl) ?_
            intro W hW
            simp only [List.drop_succ_cons, List.drop_zero]
            have hmW := HM.out.below hW
            have hcr := crash_any hmW.dev rfl (.slice none 0 0) [] (-1) 0 (H64.out.fx (Fx.of_below (S := fun _ => False) hW) (fun _ _ h => h)) (fun k hk e => by have := HVB.out k hk; have := LT.out L.gi (.inr (.inl rfl)); omega)
            rw [crashW, HP.out] at hcr
            have HCR := hide hcr
            have HMW := hide hmW
            have HQW := hide (HBQ.out.on hW)
            have HPW := hide (HPV.out.on hW)
            clear hW CW hcr hmW HM HBL HBQ HPV H64 HVB
            go_upto_region 33 with (first
            | (go_at_call 15; refine HCR.out.mono ?_; rintro e w6 ⟨rfl, hz1, hz2⟩; have T6 := hide hz1; have D6 := hide hz2; clear hz1 hz2)
            | fail)
            have M6 := HMW.out.turn T6.out D6.out
            have HQ6 : Blk w6 gq (([0, 0] : List UInt8).map byt) 5 := HQW.out.fx T6.out.fx (fun hF => by have := LT.out gq hF; have := HGQ.out; omega)
            have HP6 : Blk w6 pv (lifeC p vi (.slice none 0 0)) 32 := HPW.out.fx T6.out.fx NP.out
            have c0 := (HP6.cell 0).trans (show _ = some (.pointer (some ⟨p, 0, none⟩)) from rfl)
            have him := image_any M6.dev
            rw [show (bareL L).p = p from HP.out] at him
            have hil : (imgW [] (-1) 0 m).length = 2048 := imgW_len _ _ _ _
            obtain ⟨im, him2⟩ : ∃ im, imgW [] (-1) 0 m = im := ⟨_, rfl⟩
            dsimp only at him
            rw [him2] at hil him SP1 SP2
            rw [hil] at him
            obtain ⟨g7, hg7⟩ : ∃ g, w6.heap.size = g := ⟨_, rfl⟩
            have al7 : Below w6.heap.size w6 (w6.alloc (.cells (im.map byt).toArray 5)) := below_new w6 _
            have B7 : Blk (w6.alloc (.cells (im.map byt).toArray 5)) g7 (im.map byt) 5 := Blk.newAt hg7
            obtain ⟨w7, hw7⟩ : ∃ w7, w6.alloc (.cells (im.map byt).toArray 5) = w7 := ⟨_, rfl⟩
            rw [hw7] at him al7 B7
            rw [hg7] at him
            have HIM := hide him
            have BE7 := hide (M6.be.trans (al7.mono M6.be.size))
            have HB7 := hide B7
            have HQ7 := hide (HQ6.on al7)
            have HIL := hide hil
            have hlen7 : ∀ W ty, (Builtin.len_ #[34] ty #[.slice (some ⟨g7, 0, none⟩) 2048 2048]).run Try.prog W = .ok (.int .i64 2048) W := fun W ty => by go_simp
            clear him hil him2 B7 al7 HQ6 HP6 M6 T6 D6 HMW HQW HPW HCR hw7 hg7
            go_upto_region 36 with (first
            | (go_at_call 16; refine HIM.out.mono ?_; rintro e wz ⟨rfl, hz⟩; rw [hz]; clear hz wz)
            | fail)
            clear HIM c0 hlen7
            have HK5 : Hid (k < 255) := hide (by omega)
            go_wp2
            clear hlz hlt ht hjz m1 m100 lk ln
            go_loopw [18] (fun i wx => ∃ x : Nat, x ≤ 2048 ∧ i = .int .i64 x ∧ Hid (wx = w7)) (fun i _ => 2048 - (intOf i).toNat)
            case atStart => exact ⟨0, by omega, rfl, hide rfl⟩
            case round =>
              obtain ⟨x, hx, rfl, hsx⟩ := hrel
              have hwx := hsx.out
              clear hsx
              subst hwx
              by_cases hxl : x < 2048
              · have hxz : (x : Int) < 2048 := Int.ofNat_lt.2 hxl
                obtain ⟨u, hu⟩ : ∃ u, im.getD x 0 = u := ⟨_, rfl⟩
                have hb := (HB7.out.cell x).trans (show (im.map byt)[x]? = some (.int .u8 (u.toNat : Int)) by rw [← hu, List.getElem?_map, List.getD_eq_getElem?_getD, List.getElem?_eq_getElem (by rw [HIL.out]; exact hxl)]; rfl)
                have hixb := fun W => idx34b g7 2048 2048 x hxl W
                have q1 := div_int x
                have q2 := mod_int x
                obtain ⟨q, hq⟩ : ∃ q, x / 512 = q := ⟨_, rfl⟩
                obtain ⟨xm, hxm⟩ : ∃ xm, x % 512 = xm := ⟨_, rfl⟩
                rw [hq] at q1
                rw [hxm] at q2
                have q3 : wrap64 (q : Int) = (q : Int) := wrap_small (q_small hq hxl)
                have q4 : wrap64 (xm : Int) = (xm : Int) := wrap_small (xm_small hxm)
                by_cases hx1 : x < 1024
                · have hx1z : (x : Int) < 1024 := Int.ofNat_lt.2 hx1
                  have hq2 : q < 2 := q_lt hq hx1
                  have hwq := (HQ7.out.cell q).trans (show _ = some (.int .u8 (u.toNat : Int)) by rw [← hu, SP1.out x hx1, hq]; exact wl_at (([0, 0] : List UInt8)) SPL.out q hq2)
                  have hixq := fun W => idx34b gq 2 2 q hq2 W
                  clear hu hq hxm
                  go_wp2
                  go_roundw
                  case rel => exact ⟨x + 1, Nat.succ_le_of_lt hxl, by go_num, (by first | exact hide rfl | exact hide trivial)⟩
                  case measure => simp [intOf]; omega
                · have hx1z : ¬ (x : Int) < 1024 := not_lt_int hx1
                  have hu0 : (u.toNat : Int) = 0 := by rw [← hu, SP2.out x (Nat.le_of_not_lt hx1) hxl]; rfl
                  clear hu hq hxm
                  go_wp2
                  go_roundw
                  case rel => exact ⟨x + 1, Nat.succ_le_of_lt hxl, by go_num, (by first | exact hide rfl | exact hide trivial)⟩
                  case measure => simp [intOf]; omega
              · obtain rfl : x = 2048 := by omega
                clear HB7 HQ7 HIL SP1 SP2
                go_wp2
                go_roundw
                case rel => exact ⟨0 + 1, by omega, rfl, by go_num, BE7⟩
                case measure => simp [intOf]
          · subst h0
            have sz5 := HSZ.out
            have al := below_new w5 (Obj.cells #[Value.int IntKind.u64 18446744073709551615, Value.int IntKind.u64 18446744073709551615] 39)
            have BK : Blk (w5.alloc (Obj.cells #[Value.int IntKind.u64 18446744073709551615, Value.int IntKind.u64 18446744073709551615] 39)) (gl + 2) [Value.int .u64 18446744073709551615, .int .u64 18446744073709551615] 39 := Blk.newAt sz5
            have BL5 := HBL.out.on al
            have BQ5 := HBQ.out.on al
            have M5 := HM.out.below al
            have P5 := HPV.out.on al
            obtain ⟨wb, hwb⟩ : ∃ W, w5.alloc (Obj.cells #[Value.int IntKind.u64 18446744073709551615, Value.int IntKind.u64 18446744073709551615] 39) = W := ⟨_, rfl⟩
            rw [hwb] at al BK BL5 BQ5 M5 P5
            have holdl := (BL5.cell 0).trans (show _ = some (.slice none 0 0) from rfl)
            have hfzl := BL5.frozen 0
            obtain ⟨gk, hgk⟩ : ∃ g, gl + 2 = g := ⟨_, rfl⟩
            have hq0 := HGQ.out
            rw [hgk] at BK sz5
            have BLc : Blk (wb.setCell ⟨gl, 0, none⟩ (.slice (some ⟨gk, 0, none⟩) 2 2)) gl (lossC (.slice (some ⟨gk, 0, none⟩) 2 2) (-1) 0) 38 := BL5.set 0 _
            have fxl : Fx (One gl) wb (wb.setCell ⟨gl, 0, none⟩ (.slice (some ⟨gk, 0, none⟩) 2 2)) := Fx.setCell _ _ _ _ rfl
            obtain ⟨wc, hwc⟩ : ∃ W, wb.setCell ⟨gl, 0, none⟩ (.slice (some ⟨gk, 0, none⟩) 2 2) = W := ⟨_, rfl⟩
            rw [hwc] at BLc fxl
            have BQwc := BQ5.fx fxl (fun e => by have : gq = gl := e; omega)
            have BKc := BK.fx fxl (fun e => by have : gk = gl := e; omega)
            have lpv : pv < gl := by have h1 := HPV.out.lt; have h2 := HM.out; have h3 := HSZ.out; exact HLP.out
            have Pc := P5.fx fxl (fun e => by have : pv = gl := e; omega)
            have Mc : Mine w wc L (dvW m) := M5.keep fxl (fun k hF e => by have := LT.out k hF; have : k = gl := e; omega) (by have := HLW.out; exact fun k e => by have : k = gl := e; omega)
            have HBKc := hide BKc; have HBLc := hide BLc; have HPc := hide Pc; have HMc := hide Mc
            have hwb2 := hwb
            clear BK BKc BL5 BLc BQ5 M5 Mc P5 Pc al fxl HBL HBQ HM HPV
            obtain ⟨m0, hm0⟩ : ∃ m0, m = m0 + 1 := ⟨m - 1, by omega⟩
            have S1 : Hid ((m : Int) - 1 = (m0 : Int)) := hide (by omega)
            have S2 : Hid (IntKind.i64.wrap (m0 : Int) = (m0 : Int)) := hide (by rw [IntKind.wrap_i64]; omega)
            obtain ⟨r0, hr0⟩ : ∃ r, m0 % 2 = r := ⟨_, rfl⟩
            have lr0 := mod2_lt hr0
            have S3 : Hid ((m0 : Int).tmod 2 = (r0 : Int)) := hide (by rw [Int.tmod_eq_emod_of_nonneg (by omega)]; exact mod2_int hr0)
            have S5 : Hid (IntKind.u8.wrap (m : Int) = (m : Int)) := hide (u8_small (Nat.lt_of_le_of_lt m100 (by decide)))
            have HM0 := hide hm0
            have HR0 := hide hr0
            clear hm0 hr0
            have hixwwd := fun W => idx34b gq 2 2 r0 lr0 W
            have holdwwd := (BQwc.cell r0).trans (wl_at ([0, 0] : List UInt8) (by rfl) r0 lr0)
            have hfzwwd := BQwc.frozen r0
            have BQwd := BQwc.set r0 (.int .u8 ((UInt8.ofNat m : UInt8).toNat : Int))
            rw [byts_set] at BQwd
            have fxwwd : Fx (One gq) wc (wc.setCell ⟨gq, r0, none⟩ (.int .u8 ((UInt8.ofNat m : UInt8).toNat : Int))) := Fx.setCell _ _ _ _ rfl
            have hvalwd : ((UInt8.ofNat m : UInt8).toNat : Int) = (m : Int) := u8_val (Nat.lt_of_le_of_lt m100 (by decide))
            rw [hvalwd] at BQwd fxwwd
            obtain ⟨wd, hwd⟩ : ∃ W, wc.setCell ⟨gq, r0, none⟩ (.int .u8 (m : Int)) = W := ⟨_, rfl⟩
            rw [hwd] at BQwd fxwwd
            have HFd := hide fxwwd
            have HQd := hide BQwd
            clear fxwwd BQwc hvalwd
            go_upto_region 22 with fail
            refine lst_thenV 6 ?_
            simp only [List.take_succ_cons, List.take_zero]
            refine wpLexV_cons (.slice (some ⟨gq, 0, none⟩) 2 2) (uvV (by rfl) (Op.move (Operand.tmp 14)) rfl (.slice (some ⟨gq, 0, none⟩) 2 2) (fun o' ho W hW => by go_simp)) (by simp only [Act.put, List.setIfInBounds_toArray, List.set_cons_zero, List.set_cons_succ]; rfl) ?_
            refine wpLexV_cons (.int .i64 (m : Int)) (uvV (by rfl) (Op.move (Operand.tmp 0)) rfl (.int .i64 (m : Int)) (fun o' ho W hW => by go_simp)) (by simp only [Act.put, List.setIfInBounds_toArray, List.set_cons_zero, List.set_cons_succ]; rfl) ?_
            refine wpLexV_cons (.int .i64 (m0 : Int)) (uvV (by rfl) (Op.binOp BinOp.sub 3 (Operand.tmp 72) (Operand.const (Value.int IntKind.i64 1)) 3) rfl (.int .i64 (m0 : Int)) (fun o' ho W hW => by first | (go_simp; done) | (go_simp; first | exact S1.out | (rw [S1.out]; exact S2.out)))) (by simp only [Act.put, List.setIfInBounds_toArray, List.set_cons_zero, List.set_cons_succ]; rfl) ?_
            refine wpLexV_cons (.int .i64 (r0 : Int)) (uvV (by rfl) (Op.binOp BinOp.rem 3 (Operand.tmp 73) (Operand.const (Value.int IntKind.i64 2)) 3) rfl (.int .i64 (r0 : Int)) (fun o' ho W hW => by first | (go_simp; done) | (go_simp; exact S3.out))) (by simp only [Act.put, List.setIfInBounds_toArray, List.set_cons_zero, List.set_cons_succ]; rfl) ?_
            refine wpLexV_cons (.int .i64 (m : Int)) (uvV (by rfl) (Op.move (Operand.tmp 0)) rfl (.int .i64 (m : Int)) (fun o' ho W hW => by go_simp)) (by simp only [Act.put, List.setIfInBounds_toArray, List.set_cons_zero, List.set_cons_succ]; rfl) ?_
            refine wpLexV_cons (.int .u8 (m : Int)) (uvV (by rfl) (Op.convert 3 5 (Operand.tmp 75)) rfl (.int .u8 (m : Int)) (fun o' ho W hW => by first | (go_simp; done) | (go_simp; exact S5.out))) (by simp only [Act.put, List.setIfInBounds_toArray, List.set_cons_zero, List.set_cons_succ]; rfl) ?_
            refine wpLexV_nil ?_
            simp only [List.drop_succ_cons, List.drop_zero]
            clear S2
            by_cases h1m : 1 < m
            · have h1z : (1 : Int) < (m : Int) := by omega
              obtain ⟨r1, hr1⟩ : ∃ r, m % 2 = r := ⟨_, rfl⟩
              have lr1 := mod2_lt hr1
              have S6 : Hid ((m : Int).tmod 2 = (r1 : Int)) := hide (by rw [Int.tmod_eq_emod_of_nonneg (by omega)]; exact mod2_int hr1)
              have S7 : Hid (IntKind.u8.wrap (m0 : Int) = (m0 : Int)) := hide (u8_small (by have := HM0.out; omega))
              have S2 : Hid (IntKind.i64.wrap (m0 : Int) = (m0 : Int)) := hide (by rw [IntKind.wrap_i64]; have := HM0.out; omega)
              have HR1 := hide hr1
              clear hr1
              have BQwd := HQd.out
              have lwd : (([0, 0] : List UInt8).set r0 (UInt8.ofNat m)).length = 2 := by rw [List.length_set]; rfl
              have hixwwe := fun W => idx34b gq 2 2 r1 lr1 W
              have holdwwe := (BQwd.cell r1).trans (wl_at (([0, 0] : List UInt8).set r0 (UInt8.ofNat m)) lwd r1 lr1)
              have hfzwwe := BQwd.frozen r1
              have BQwe := BQwd.set r1 (.int .u8 ((UInt8.ofNat m0 : UInt8).toNat : Int))
              rw [byts_set] at BQwe
              have fxwwe : Fx (One gq) wd (wd.setCell ⟨gq, r1, none⟩ (.int .u8 ((UInt8.ofNat m0 : UInt8).toNat : Int))) := Fx.setCell _ _ _ _ rfl
              have hvalwe : ((UInt8.ofNat m0 : UInt8).toNat : Int) = (m0 : Int) := u8_val (by have := HM0.out; omega)
              rw [hvalwe] at BQwe fxwwe
              obtain ⟨we, hwe⟩ : ∃ W, wd.setCell ⟨gq, r1, none⟩ (.int .u8 (m0 : Int)) = W := ⟨_, rfl⟩
              rw [hwe] at BQwe fxwwe
              have HFe := hide fxwwe
              have HQe := hide BQwe
              clear fxwwe BQwe BQwd hvalwe lwd
              go_upto_region 24 with fail
              refine lst_thenV 6 ?_
              simp only [List.take_succ_cons, List.take_zero]
              refine wpLexV_cons (.slice (some ⟨gq, 0, none⟩) 2 2) (uvV (by rfl) (Op.move (Operand.tmp 14)) rfl (.slice (some ⟨gq, 0, none⟩) 2 2) (fun o' ho W hW => by go_simp)) (by simp only [Act.put, List.setIfInBounds_toArray, List.set_cons_zero, List.set_cons_succ]; rfl) ?_
              refine wpLexV_cons (.int .i64 (m : Int)) (uvV (by rfl) (Op.move (Operand.tmp 0)) rfl (.int .i64 (m : Int)) (fun o' ho W hW => by go_simp)) (by simp only [Act.put, List.setIfInBounds_toArray, List.set_cons_zero, List.set_cons_succ]; rfl) ?_
              refine wpLexV_cons (.int .i64 (r1 : Int)) (uvV (by rfl) (Op.binOp BinOp.rem 3 (Operand.tmp 81) (Operand.const (Value.int IntKind.i64 2)) 3) rfl (.int .i64 (r1 : Int)) (fun o' ho W hW => by first | (go_simp; done) | (go_simp; exact S6.out))) (by simp only [Act.put, List.setIfInBounds_toArray, List.set_cons_zero, List.set_cons_succ]; rfl) ?_
              refine wpLexV_cons (.int .i64 (m : Int)) (uvV (by rfl) (Op.move (Operand.tmp 0)) rfl (.int .i64 (m : Int)) (fun o' ho W hW => by go_simp)) (by simp only [Act.put, List.setIfInBounds_toArray, List.set_cons_zero, List.set_cons_succ]; rfl) ?_
              refine wpLexV_cons (.int .i64 (m0 : Int)) (uvV (by rfl) (Op.binOp BinOp.sub 3 (Operand.tmp 83) (Operand.const (Value.int IntKind.i64 1)) 3) rfl (.int .i64 (m0 : Int)) (fun o' ho W hW => by first | (go_simp; done) | (go_simp; first | exact S1.out | (rw [S1.out]; exact S2.out)))) (by simp only [Act.put, List.setIfInBounds_toArray, List.set_cons_zero, List.set_cons_succ]; rfl) ?_
              refine wpLexV_cons (.int .u8 (m0 : Int)) (uvV (by rfl) (Op.convert 3 5 (Operand.tmp 84)) rfl (.int .u8 (m0 : Int)) (fun o' ho W hW => by first | (go_simp; done) | (go_simp; exact S7.out))) (by simp only [Act.put, List.setIfInBounds_toArray, List.set_cons_zero, List.set_cons_succ]; rfl) ?_
              refine wpLexV_nil ?_
              simp only [List.drop_succ_cons, List.drop_zero]
              have HBQ : Hid (Blk we gq (((([0, 0] : List UInt8).set r0 (UInt8.ofNat m)).set r1 (UInt8.ofNat m0)).map byt) 5) := hide (HQe.out)
              have HBL : Hid (Blk we gl (lossC (.slice (some ⟨gk, 0, none⟩) 2 2) (-1) 0) 38) := hide ((HBLc.out.fx HFd.out (fun e => by have : gl = gq := e; have := HGQ.out; omega)).fx HFe.out (fun e => by have : gl = gq := e; have := HGQ.out; omega))
              have HPV : Hid (Blk we pv (lifeC p vi (.slice none 0 0)) 32) := hide ((HPc.out.fx HFd.out (fun e => by have : pv = gq := e; have := HGQ.out; have := HLP.out; omega)).fx HFe.out (fun e => by have : pv = gq := e; have := HGQ.out; have := HLP.out; omega))
              have HBKx := ((HBKc.out.fx HFd.out (fun e => by have : gk = gq := e; have := HGQ.out; omega)).fx HFe.out (fun e => by have : gk = gq := e; have := HGQ.out; omega))
              have H64 : Hid (Has64 we (.slice (some ⟨gk, 0, none⟩) 2 2) allK) := hide (allK_has _ _ HBKx)
              have HM : Hid (Mine w we L (dvW m)) := hide ((HMc.out.keep HFd.out (fun k hF e => by have := LT.out k hF; have : k = gq := e; have := HGQ.out; omega) (fun k e => by have : k = gq := e; have := HGQ.out; have := HLW.out; omega)).keep HFe.out (fun k hF e => by have := LT.out k hF; have : k = gq := e; have := HGQ.out; omega) (fun k e => by have : k = gq := e; have := HGQ.out; have := HLW.out; omega))
              have HVB : Hid (∀ k, (Value.slice (some ⟨gk, 0, none⟩) 2 2).ownBlock = some k → gl ≤ k) := hide (fun k hk => by simp [Value.ownBlock] at hk; omega)
              have SP1 : Hid (∀ x, x < 1024 → (imgW allK (-1) 0 m).getD x 0 = ((([0, 0] : List UInt8).set r0 (UInt8.ofNat m)).set r1 (UInt8.ofNat m0)).getD (x / 512) 0) := hide (fun x hx => by rw [want1 m x m100 h1m hx, wlA, HR1.out, show m - 1 = m0 by have := HM0.out; omega, HR0.out])
              have SP2 : Hid (∀ x, 1024 ≤ x → x < 2048 → (imgW allK (-1) 0 m).getD x 0 = 0) := hide (fun x h1 h2 => want1z m x m100 m1 h1 h2)
              have SPL : Hid (((([0, 0] : List UInt8).set r0 (UInt8.ofNat m)).set r1 (UInt8.ofNat m0)).length = 2) := hide (by simp only [List.length_set]; rfl)
              clear HFd HQd HBLc HPc HBKc HBKx HMc S1 S3 S5 HFe HQe S6 S7 S2
              go_upto_region 32 with fail
              clear hixwwd holdwwd hfzwwd hwd hwb hwb2 hwc holdl hfzl sz5 hq0 hgk lr0 h1m h1z hixwwe holdwwe hfzwwe hwe lr1
              have CW : ∀ W, Below we.heap.size we W → W.cell? ⟨pv, 0, none⟩ = some (.pointer (some ⟨p, 0, none⟩)) := fun W hW => ((HPV.out.on hW).cell 0).trans rfl
              refine reg_rest 5 2 (by kernel_rfl) rfl (by kernel_rfl) ?_
              simp only [List.take_succ_cons, List.take_zero]
              refine wpLex_cons2 _ (uni_val (by rfl) (Op.move (Operand.tmp 9)) rfl (.pointer (some ⟨pv, 0, none⟩)) (fun o' ho W hW => by go_simp)) (by simp only [Act.put, List.setIfInBounds_toArray, List.set_cons_zero, List.set_cons_succ]; rfl) ?_
              refine wpLex_cons2 _ (uni_val (by rfl) (Op.nilCheck (Operand.tmp 107)) rfl (.pointer (some ⟨pv, 0, none⟩)) (fun o' ho W hW => by go_simp)) (by simp only [Act.put, List.setIfInBounds_toArray, List.set_cons_zero, List.set_cons_succ]; rfl) ?_
              refine wpLex_cons2 _ (uni_val (by rfl) (Op.fieldAddr 32 (Operand.tmp 108) 0) rfl (.pointer (some ⟨pv, 0, none⟩)) (fun o' ho W hW => by go_simp)) (by simp only [Act.put, List.setIfInBounds_toArray, List.set_cons_zero, List.set_cons_succ]; rfl) ?_
              refine wpLex_cons2 _ (uni_val (by rfl) (Op.load 28 (Operand.tmp 109)) rfl (.pointer (some ⟨p, 0, none⟩)) (fun o' ho W hW => by have hc := CW W hW; go_simp)) (by simp only [Act.put, List.setIfInBounds_toArray, List.set_cons_zero, List.set_cons_succ]; rfl) ?_
              refine wpLex_cons2 _ (uni_row rfl 38 (.tmp 13) rfl gl (lossC (.slice (some ⟨gk, 0, none⟩) 2 2) (-1) 0) 38 rfl (fun W hW => HBL.out.on hW) Try.underlying38 rfl (info38 _ _ _)) (by simp only [Act.put, List.setIfInBounds_toArray, List.set_cons_zero, List.set_cons_succ]; rfl) ?_
              intro W hW
              simp only [List.drop_succ_cons, List.drop_zero]
              have hmW := HM.out.below hW
              have hcr := crash_any hmW.dev rfl (.slice (some ⟨gk, 0, none⟩) 2 2) allK (-1) 0 (H64.out.fx (Fx.of_below (S := fun _ => False) hW) (fun _ _ h => h)) (fun k hk e => by have := HVB.out k hk; have := LT.out L.gi (.inr (.inl rfl)); omega)
              rw [crashW, HP.out] at hcr
              have HCR := hide hcr
              have HMW := hide hmW
              have HQW := hide (HBQ.out.on hW)
              have HPW := hide (HPV.out.on hW)
              clear hW CW hcr hmW HM HBL HBQ HPV H64 HVB
              go_upto_region 33 with (first
            | (go_at_call 15; refine HCR.out.mono ?_; rintro e w6 ⟨rfl, hz1, hz2⟩; have T6 := hide hz1; have D6 := hide hz2; clear hz1 hz2)
            | fail)
              have M6 := HMW.out.turn T6.out D6.out
              have HQ6 : Blk w6 gq (((([0, 0] : List UInt8).set r0 (UInt8.ofNat m)).set r1 (UInt8.ofNat m0)).map byt) 5 := HQW.out.fx T6.out.fx (fun hF => by have := LT.out gq hF; have := HGQ.out; omega)
              have HP6 : Blk w6 pv (lifeC p vi (.slice none 0 0)) 32 := HPW.out.fx T6.out.fx NP.out
              have c0 := (HP6.cell 0).trans (show _ = some (.pointer (some ⟨p, 0, none⟩)) from rfl)
              have him := image_any M6.dev
              rw [show (bareL L).p = p from HP.out] at him
              have hil : (imgW allK (-1) 0 m).length = 2048 := imgW_len _ _ _ _
              obtain ⟨im, him2⟩ : ∃ im, imgW allK (-1) 0 m = im := ⟨_, rfl⟩
              dsimp only at him
              rw [him2] at hil him SP1 SP2
              rw [hil] at him
              obtain ⟨g7, hg7⟩ : ∃ g, w6.heap.size = g := ⟨_, rfl⟩
              have al7 : Below w6.heap.size w6 (w6.alloc (.cells (im.map byt).toArray 5)) := below_new w6 _
              have B7 : Blk (w6.alloc (.cells (im.map byt).toArray 5)) g7 (im.map byt) 5 := Blk.newAt hg7
              obtain ⟨w7, hw7⟩ : ∃ w7, w6.alloc (.cells (im.map byt).toArray 5) = w7 := ⟨_, rfl⟩
              rw [hw7] at him al7 B7
              rw [hg7] at him
              have HIM := hide him
              have BE7 := hide (M6.be.trans (al7.mono M6.be.size))
              have HB7 := hide B7
              have HQ7 := hide (HQ6.on al7)
              have HIL := hide hil
              have hlen7 : ∀ W ty, (Builtin.len_ #[34] ty #[.slice (some ⟨g7, 0, none⟩) 2048 2048]).run Try.prog W = .ok (.int .i64 2048) W := fun W ty => by go_simp
              clear him hil him2 B7 al7 HQ6 HP6 M6 T6 D6 HMW HQW HPW HCR hw7 hg7
              go_upto_region 36 with (first
            | (go_at_call 16; refine HIM.out.mono ?_; rintro e wz ⟨rfl, hz⟩; rw [hz]; clear hz wz)
            | fail)
              clear HIM c0 hlen7
              have HK5 : Hid (k < 255) := hide (by omega)
              go_wp2
              clear hlz hlt ht hjz m1 m100 lk ln
              go_loopw [18] (fun i wx => ∃ x : Nat, x ≤ 2048 ∧ i = .int .i64 x ∧ Hid (wx = w7)) (fun i _ => 2048 - (intOf i).toNat)
              case atStart => exact ⟨0, by omega, rfl, hide rfl⟩
              case round =>
                obtain ⟨x, hx, rfl, hsx⟩ := hrel
                have hwx := hsx.out
                clear hsx
                subst hwx
                by_cases hxl : x < 2048
                · have hxz : (x : Int) < 2048 := Int.ofNat_lt.2 hxl
                  obtain ⟨u, hu⟩ : ∃ u, im.getD x 0 = u := ⟨_, rfl⟩
                  have hb := (HB7.out.cell x).trans (show (im.map byt)[x]? = some (.int .u8 (u.toNat : Int)) by rw [← hu, List.getElem?_map, List.getD_eq_getElem?_getD, List.getElem?_eq_getElem (by rw [HIL.out]; exact hxl)]; rfl)
                  have hixb := fun W => idx34b g7 2048 2048 x hxl W
                  have q1 := div_int x
                  have q2 := mod_int x
                  obtain ⟨q, hq⟩ : ∃ q, x / 512 = q := ⟨_, rfl⟩
                  obtain ⟨xm, hxm⟩ : ∃ xm, x % 512 = xm := ⟨_, rfl⟩
                  rw [hq] at q1
                  rw [hxm] at q2
                  have q3 : wrap64 (q : Int) = (q : Int) := wrap_small (q_small hq hxl)
                  have q4 : wrap64 (xm : Int) = (xm : Int) := wrap_small (xm_small hxm)
                  by_cases hx1 : x < 1024
                  · have hx1z : (x : Int) < 1024 := Int.ofNat_lt.2 hx1
                    have hq2 : q < 2 := q_lt hq hx1
                    have hwq := (HQ7.out.cell q).trans (show _ = some (.int .u8 (u.toNat : Int)) by rw [← hu, SP1.out x hx1, hq]; exact wl_at (((([0, 0] : List UInt8).set r0 (UInt8.ofNat m)).set r1 (UInt8.ofNat m0))) SPL.out q hq2)
                    have hixq := fun W => idx34b gq 2 2 q hq2 W
                    clear hu hq hxm
                    go_wp2
                    go_roundw
                    case rel => exact ⟨x + 1, Nat.succ_le_of_lt hxl, by go_num, (by first | exact hide rfl | exact hide trivial)⟩
                    case measure => simp [intOf]; omega
                  · have hx1z : ¬ (x : Int) < 1024 := not_lt_int hx1
                    have hu0 : (u.toNat : Int) = 0 := by rw [← hu, SP2.out x (Nat.le_of_not_lt hx1) hxl]; rfl
                    clear hu hq hxm
                    go_wp2
                    go_roundw
                    case rel => exact ⟨x + 1, Nat.succ_le_of_lt hxl, by go_num, (by first | exact hide rfl | exact hide trivial)⟩
                    case measure => simp [intOf]; omega
                · obtain rfl : x = 2048 := by omega
                  clear HB7 HQ7 HIL SP1 SP2
                  go_wp2
                  go_roundw
                  case rel => exact ⟨1 + 1, by omega, rfl, by go_num, BE7⟩
                  case measure => simp [intOf]
            · have h1z : ¬ (1 : Int) < (m : Int) := by omega
              have HBQ : Hid (Blk wd gq ((([0, 0] : List UInt8).set r0 (UInt8.ofNat m)).map byt) 5) := hide (HQd.out)
              have HBL : Hid (Blk wd gl (lossC (.slice (some ⟨gk, 0, none⟩) 2 2) (-1) 0) 38) := hide (HBLc.out.fx HFd.out (fun e => by have : gl = gq := e; have := HGQ.out; omega))
              have HPV : Hid (Blk wd pv (lifeC p vi (.slice none 0 0)) 32) := hide (HPc.out.fx HFd.out (fun e => by have : pv = gq := e; have := HGQ.out; have := HLP.out; omega))
              have HBKx := (HBKc.out.fx HFd.out (fun e => by have : gk = gq := e; have := HGQ.out; omega))
              have H64 : Hid (Has64 wd (.slice (some ⟨gk, 0, none⟩) 2 2) allK) := hide (allK_has _ _ HBKx)
              have HM : Hid (Mine w wd L (dvW m)) := hide (HMc.out.keep HFd.out (fun k hF e => by have := LT.out k hF; have : k = gq := e; have := HGQ.out; omega) (fun k e => by have : k = gq := e; have := HGQ.out; have := HLW.out; omega))
              have HVB : Hid (∀ k, (Value.slice (some ⟨gk, 0, none⟩) 2 2).ownBlock = some k → gl ≤ k) := hide (fun k hk => by simp [Value.ownBlock] at hk; omega)
              have SP1 : Hid (∀ x, x < 1024 → (imgW allK (-1) 0 m).getD x 0 = (([0, 0] : List UInt8).set r0 (UInt8.ofNat m)).getD (x / 512) 0) := hide (fun x hx => want1b HM0.out HR0.out h1m x hx)
              have SP2 : Hid (∀ x, 1024 ≤ x → x < 2048 → (imgW allK (-1) 0 m).getD x 0 = 0) := hide (fun x h1 h2 => want1z m x m100 m1 h1 h2)
              have SPL : Hid ((([0, 0] : List UInt8).set r0 (UInt8.ofNat m)).length = 2) := hide (by simp only [List.length_set]; rfl)
              clear HFd HQd HBLc HPc HBKc HBKx HMc S1 S3 S5 
              go_upto_region 32 with fail
              clear hixwwd holdwwd hfzwwd hwd hwb hwb2 hwc holdl hfzl sz5 hq0 hgk lr0 h1m h1z
              have CW : ∀ W, Below wd.heap.size wd W → W.cell? ⟨pv, 0, none⟩ = some (.pointer (some ⟨p, 0, none⟩)) := fun W hW => ((HPV.out.on hW).cell 0).trans rfl
              refine reg_rest 5 2 (by kernel_rfl) rfl (by kernel_rfl) ?_
              simp only [List.take_succ_cons, List.take_zero]
              refine wpLex_cons2 _ (uni_val (by rfl) (Op.move (Operand.tmp 9)) rfl (.pointer (some ⟨pv, 0, none⟩)) (fun o' ho W hW => by go_simp)) (by simp only [Act.put, List.setIfInBounds_toArray, List.set_cons_zero, List.set_cons_succ]; rfl) ?_
              refine wpLex_cons2 _ (uni_val (by rfl) (Op.nilCheck (Operand.tmp 107)) rfl (.pointer (some ⟨pv, 0, none⟩)) (fun o' ho W hW => by go_simp)) (by simp only [Act.put, List.setIfInBounds_toArray, List.set_cons_zero, List.set_cons_succ]; rfl) ?_
              refine wpLex_cons2 _ (uni_val (by rfl) (Op.fieldAddr 32 (Operand.tmp 108) 0) rfl (.pointer (some ⟨pv, 0, none⟩)) (fun o' ho W hW => by go_simp)) (by simp only [Act.put, List.setIfInBounds_toArray, List.set_cons_zero, List.set_cons_succ]; rfl) ?_
              refine wpLex_cons2 _ (uni_val (by rfl) (Op.load 28 (Operand.tmp 109)) rfl (.pointer (some ⟨p, 0, none⟩)) (fun o' ho W hW => by have hc := CW W hW; go_simp)) (by simp only [Act.put, List.setIfInBounds_toArray, List.set_cons_zero, List.set_cons_succ]; rfl) ?_
              refine wpLex_cons2 _ (uni_row rfl 38 (.tmp 13) rfl gl (lossC (.slice (some ⟨gk, 0, none⟩) 2 2) (-1) 0) 38 rfl (fun W hW => HBL.out.on hW) Try.underlying38 rfl (info38 _ _ _)) (by simp only [Act.put, List.setIfInBounds_toArray, List.set_cons_zero, List.set_cons_succ]; rfl) ?_
              intro W hW
              simp only [List.drop_succ_cons, List.drop_zero]
              have hmW := HM.out.below hW
              have hcr := crash_any hmW.dev rfl (.slice (some ⟨gk, 0, none⟩) 2 2) allK (-1) 0 (H64.out.fx (Fx.of_below (S := fun _ => False) hW) (fun _ _ h => h)) (fun k hk e => by have := HVB.out k hk; have := LT.out L.gi (.inr (.inl rfl)); omega)
              rw [crashW, HP.out] at hcr
              have HCR := hide hcr
              have HMW := hide hmW
              have HQW := hide (HBQ.out.on hW)
              have HPW := hide (HPV.out.on hW)
              clear hW CW hcr hmW HM HBL HBQ HPV H64 HVB
              go_upto_region 33 with (first
            | (go_at_call 15; refine HCR.out.mono ?_; rintro e w6 ⟨rfl, hz1, hz2⟩; have T6 := hide hz1; have D6 := hide hz2; clear hz1 hz2)
            | fail)
              have M6 := HMW.out.turn T6.out D6.out
              have HQ6 : Blk w6 gq ((([0, 0] : List UInt8).set r0 (UInt8.ofNat m)).map byt) 5 := HQW.out.fx T6.out.fx (fun hF => by have := LT.out gq hF; have := HGQ.out; omega)
              have HP6 : Blk w6 pv (lifeC p vi (.slice none 0 0)) 32 := HPW.out.fx T6.out.fx NP.out
              have c0 := (HP6.cell 0).trans (show _ = some (.pointer (some ⟨p, 0, none⟩)) from rfl)
              have him := image_any M6.dev
              rw [show (bareL L).p = p from HP.out] at him
              have hil : (imgW allK (-1) 0 m).length = 2048 := imgW_len _ _ _ _
              obtain ⟨im, him2⟩ : ∃ im, imgW allK (-1) 0 m = im := ⟨_, rfl⟩
              dsimp only at him
              rw [him2] at hil him SP1 SP2
              rw [hil] at him
              obtain ⟨g7, hg7⟩ : ∃ g, w6.heap.size = g := ⟨_, rfl⟩
              have al7 : Below w6.heap.size w6 (w6.alloc (.cells (im.map byt).toArray 5)) := below_new w6 _
              have B7 : Blk (w6.alloc (.cells (im.map byt).toArray 5)) g7 (im.map byt) 5 := Blk.newAt hg7
              obtain ⟨w7, hw7⟩ : ∃ w7, w6.alloc (.cells (im.map byt).toArray 5) = w7 := ⟨_, rfl⟩
              rw [hw7] at him al7 B7
              rw [hg7] at him
              have HIM := hide him
              have BE7 := hide (M6.be.trans (al7.mono M6.be.size))
              have HB7 := hide B7
              have HQ7 := hide (HQ6.on al7)
              have HIL := hide hil
              have hlen7 : ∀ W ty, (Builtin.len_ #[34] ty #[.slice (some ⟨g7, 0, none⟩) 2048 2048]).run Try.prog W = .ok (.int .i64 2048) W := fun W ty => by go_simp
              clear him hil him2 B7 al7 HQ6 HP6 M6 T6 D6 HMW HQW HPW HCR hw7 hg7
              go_upto_region 36 with (first
            | (go_at_call 16; refine HIM.out.mono ?_; rintro e wz ⟨rfl, hz⟩; rw [hz]; clear hz wz)
            | fail)
              clear HIM c0 hlen7
              have HK5 : Hid (k < 255) := hide (by omega)
              go_wp2
              clear hlz hlt ht hjz m1 m100 lk ln
              go_loopw [18] (fun i wx => ∃ x : Nat, x ≤ 2048 ∧ i = .int .i64 x ∧ Hid (wx = w7)) (fun i _ => 2048 - (intOf i).toNat)
              case atStart => exact ⟨0, by omega, rfl, hide rfl⟩
              case round =>
                obtain ⟨x, hx, rfl, hsx⟩ := hrel
                have hwx := hsx.out
                clear hsx
                subst hwx
                by_cases hxl : x < 2048
                · have hxz : (x : Int) < 2048 := Int.ofNat_lt.2 hxl
                  obtain ⟨u, hu⟩ : ∃ u, im.getD x 0 = u := ⟨_, rfl⟩
                  have hb := (HB7.out.cell x).trans (show (im.map byt)[x]? = some (.int .u8 (u.toNat : Int)) by rw [← hu, List.getElem?_map, List.getD_eq_getElem?_getD, List.getElem?_eq_getElem (by rw [HIL.out]; exact hxl)]; rfl)
                  have hixb := fun W => idx34b g7 2048 2048 x hxl W
                  have q1 := div_int x
                  have q2 := mod_int x
                  obtain ⟨q, hq⟩ : ∃ q, x / 512 = q := ⟨_, rfl⟩
                  obtain ⟨xm, hxm⟩ : ∃ xm, x % 512 = xm := ⟨_, rfl⟩
                  rw [hq] at q1
                  rw [hxm] at q2
                  have q3 : wrap64 (q : Int) = (q : Int) := wrap_small (q_small hq hxl)
                  have q4 : wrap64 (xm : Int) = (xm : Int) := wrap_small (xm_small hxm)
                  by_cases hx1 : x < 1024
                  · have hx1z : (x : Int) < 1024 := Int.ofNat_lt.2 hx1
                    have hq2 : q < 2 := q_lt hq hx1
                    have hwq := (HQ7.out.cell q).trans (show _ = some (.int .u8 (u.toNat : Int)) by rw [← hu, SP1.out x hx1, hq]; exact wl_at ((([0, 0] : List UInt8).set r0 (UInt8.ofNat m))) SPL.out q hq2)
                    have hixq := fun W => idx34b gq 2 2 q hq2 W
                    clear hu hq hxm
                    go_wp2
                    go_roundw
                    case rel => exact ⟨x + 1, Nat.succ_le_of_lt hxl, by go_num, (by first | exact hide rfl | exact hide trivial)⟩
                    case measure => simp [intOf]; omega
                  · have hx1z : ¬ (x : Int) < 1024 := not_lt_int hx1
                    have hu0 : (u.toNat : Int) = 0 := by rw [← hu, SP2.out x (Nat.le_of_not_lt hx1) hxl]; rfl
                    clear hu hq hxm
                    go_wp2
                    go_roundw
                    case rel => exact ⟨x + 1, Nat.succ_le_of_lt hxl, by go_num, (by first | exact hide rfl | exact hide trivial)⟩
                    case measure => simp [intOf]; omega
                · obtain rfl : x = 2048 := by omega
                  clear HB7 HQ7 HIL SP1 SP2
                  go_wp2
                  go_roundw
                  case rel => exact ⟨1 + 1, by omega, rfl, by go_num, BE7⟩
                  case measure => simp [intOf]
          · subst h0
            have hbi := hide (bit_any k (by omega) w5)
            obtain ⟨r0, hr0⟩ : ∃ r, k % 2 = r := ⟨_, rfl⟩
            have lr0 := mod2_lt hr0
            have S3 : Hid ((k : Int).tmod 2 = (r0 : Int)) := hide (by rw [Int.tmod_eq_emod_of_nonneg (by omega)]; exact mod2_int hr0)
            have S5 : Hid (IntKind.u8.wrap (1 + (k : Int)) = 1 + (k : Int)) := hide (u8_one (by omega))
            have HV : Hid (((UInt8.ofNat (1 + k)).toNat : Int) = 1 + (k : Int)) := hide (u8_of k (by omega))
            have HR0 := hide hr0
            clear hr0
            go_upto_region 27 with (first
            | (go_at_call 14; refine hbi.out.mono ?_; rintro e wb ⟨gb, nb, rfl, hb1, hb2, hb3⟩; have HB1 := hide hb1; have HB2 := hide hb2; have HB3 := hide hb3; have BLb := HBL.out.on hb1; clear hb1 hb2 hb3)
            | (refine wpList_store_row rfl 38 (.tmp 13) (.tmp 90) rfl gl (lossC (.slice (some ⟨gb, 0, none⟩) nb nb) (-1) 0).toArray rfl rfl 38 _ BLb (info38A _ _ _) rfl (lossC_one gb nb (-1) 0) ?_)
            | fail)
            have BLc : Blk (wb.setRow gl (lossC (.slice (some ⟨gb, 0, none⟩) nb nb) (-1) 0).toArray) gl (lossC (.slice (some ⟨gb, 0, none⟩) nb nb) (-1) 0) 38 := BLb.setRow _
            have fxl : Fx (One gl) wb (wb.setRow gl (lossC (.slice (some ⟨gb, 0, none⟩) nb nb) (-1) 0).toArray) := fx_setRow _ _ _
            obtain ⟨wc, hwc⟩ : ∃ W, wb.setRow gl (lossC (.slice (some ⟨gb, 0, none⟩) nb nb) (-1) 0).toArray = W := ⟨_, rfl⟩
            rw [hwc] at BLc fxl ⊢
            have hq0 := HGQ.out
            have BQwc := (HBQ.out.on HB1.out).fx fxl (fun e => by have : gq = gl := e; omega)
            have HPc := hide ((HPV.out.on HB1.out).fx fxl (fun e => by have : pv = gl := e; have := HLP.out; omega))
            have HMc := hide ((HM.out.below HB1.out).keep fxl (fun k hF e => by have := LT.out k hF; have : k = gl := e; omega) (fun k e => by have : k = gl := e; have := HLW.out; omega))
            have H6c := hide (HB3.out.fx fxl (fun k hk e => by have e1 : k = gl := e; have := HB2.out; have := HSZ.out; simp [Value.ownBlock] at hk; omega))
            have HBLc := hide BLc
            clear BLb BLc fxl HBL HBQ HM HPV hbi HB3
            have hixwwd := fun W => idx34b gq 2 2 r0 lr0 W
            have holdwwd := (BQwc.cell r0).trans (wl_at ([0, 0] : List UInt8) (by rfl) r0 lr0)
            have hfzwwd := BQwc.frozen r0
            have BQwd := BQwc.set r0 (.int .u8 ((UInt8.ofNat (1 + k) : UInt8).toNat : Int))
            rw [byts_set] at BQwd
            have fxwwd : Fx (One gq) wc (wc.setCell ⟨gq, r0, none⟩ (.int .u8 ((UInt8.ofNat (1 + k) : UInt8).toNat : Int))) := Fx.setCell _ _ _ _ rfl
            have hvalwd : ((UInt8.ofNat (1 + k) : UInt8).toNat : Int) = (1 + (k : Int)) := HV.out
            rw [hvalwd] at BQwd fxwwd
            obtain ⟨wd, hwd⟩ : ∃ W, wc.setCell ⟨gq, r0, none⟩ (.int .u8 (1 + (k : Int))) = W := ⟨_, rfl⟩
            rw [hwd] at BQwd fxwwd
            have HFd := hide fxwwd
            have HQd := hide BQwd
            clear fxwwd BQwc hvalwd BQwd HV
            refine lst_thenV 6 ?_
            simp only [List.take_succ_cons, List.take_zero]
            refine wpLexV_cons (.slice (some ⟨gq, 0, none⟩) 2 2) (uvV (by rfl) (Op.move (Operand.tmp 14)) rfl (.slice (some ⟨gq, 0, none⟩) 2 2) (fun o' ho W hW => by go_simp)) (by simp only [Act.put, List.setIfInBounds_toArray, List.set_cons_zero, List.set_cons_succ]; rfl) ?_
            refine wpLexV_cons (.int .i64 (k : Int)) (uvV (by rfl) (Op.move (Operand.tmp 1)) rfl (.int .i64 (k : Int)) (fun o' ho W hW => by go_simp)) (by simp only [Act.put, List.setIfInBounds_toArray, List.set_cons_zero, List.set_cons_succ]; rfl) ?_
            refine wpLexV_cons (.int .i64 (r0 : Int)) (uvV (by rfl) (Op.binOp BinOp.rem 3 (Operand.tmp 92) (Operand.const (Value.int IntKind.i64 2)) 3) rfl (.int .i64 (r0 : Int)) (fun o' ho W hW => by first | (go_simp; done) | (go_simp; exact S3.out))) (by simp only [Act.put, List.setIfInBounds_toArray, List.set_cons_zero, List.set_cons_succ]; rfl) ?_
            refine wpLexV_cons (.int .i64 (k : Int)) (uvV (by rfl) (Op.move (Operand.tmp 1)) rfl (.int .i64 (k : Int)) (fun o' ho W hW => by go_simp)) (by simp only [Act.put, List.setIfInBounds_toArray, List.set_cons_zero, List.set_cons_succ]; rfl) ?_
            refine wpLexV_cons (.int .i64 (1 + (k : Int))) (uvV (by rfl) (Op.binOp BinOp.add 3 (Operand.const (Value.int IntKind.i64 1)) (Operand.tmp 94) 3) rfl (.int .i64 (1 + (k : Int))) (fun o' ho W hW => by first | (go_simp; done) | (go_simp; rw [IntKind.wrap_i64]; omega))) (by simp only [Act.put, List.setIfInBounds_toArray, List.set_cons_zero, List.set_cons_succ]; rfl) ?_
            refine wpLexV_cons (.int .u8 (1 + (k : Int))) (uvV (by rfl) (Op.convert 3 5 (Operand.tmp 95)) rfl (.int .u8 (1 + (k : Int))) (fun o' ho W hW => by first | (go_simp; done) | (go_simp; exact S5.out))) (by simp only [Act.put, List.setIfInBounds_toArray, List.set_cons_zero, List.set_cons_succ]; rfl) ?_
            refine wpLexV_nil ?_
            simp only [List.drop_succ_cons, List.drop_zero]
            have HBQ : Hid (Blk wd gq ((([0, 0] : List UInt8).set r0 (UInt8.ofNat (1 + k))).map byt) 5) := hide HQd.out
            have HBL : Hid (Blk wd gl (lossC (.slice (some ⟨gb, 0, none⟩) nb nb) (-1) 0) 38) := hide (HBLc.out.fx HFd.out (fun e => by have : gl = gq := e; have := HGQ.out; omega))
            have HPV : Hid (Blk wd pv (lifeC p vi (.slice none 0 0)) 32) := hide (HPc.out.fx HFd.out (fun e => by have : pv = gq := e; have := HGQ.out; have := HLP.out; omega))
            have H64 : Hid (Has64 wd (.slice (some ⟨gb, 0, none⟩) nb nb) (bitK k)) := hide (H6c.out.fx HFd.out (fun k hk e => by have e1 : k = gq := e; have := HB2.out; have := HSZ.out; have := HGQ.out; simp [Value.ownBlock] at hk; omega))
            have HM : Hid (Mine w wd L (dvW m)) := hide (HMc.out.keep HFd.out (fun k hF e => by have := LT.out k hF; have : k = gq := e; have := HGQ.out; omega) (fun k e => by have : k = gq := e; have := HGQ.out; have := HLW.out; omega))
            have HVB : Hid (∀ k, (Value.slice (some ⟨gb, 0, none⟩) nb nb).ownBlock = some k → gl ≤ k) := hide (fun k hk => by have := HB2.out; have := HSZ.out; simp [Value.ownBlock] at hk; omega)
            have SP1 : Hid (∀ x, x < 1024 → (imgW (bitK k) (-1) 0 m).getD x 0 = (([0, 0] : List UInt8).set r0 (UInt8.ofNat (1 + k))).getD (x / 512) 0) := hide (fun x hx => by rw [want2 m k x m100 lk hx, HR0.out])
            have SP2 : Hid (∀ x, 1024 ≤ x → x < 2048 → (imgW (bitK k) (-1) 0 m).getD x 0 = 0) := hide (fun x h1 h2 => want2z m k x m100 lk h1 h2)
            have SPL : Hid ((([0, 0] : List UInt8).set r0 (UInt8.ofNat (1 + k))).length = 2) := hide (by simp only [List.length_set]; rfl)
            clear HFd HQd HBLc HPc H6c HMc S3 S5 HB1 HB2
            go_upto_region 32 with fail
            clear hixwwd holdwwd hfzwwd hwd hwc hq0 lr0
            have CW : ∀ W, Below wd.heap.size wd W → W.cell? ⟨pv, 0, none⟩ = some (.pointer (some ⟨p, 0, none⟩)) := fun W hW => ((HPV.out.on hW).cell 0).trans rfl
            refine reg_rest 5 2 (by kernel_rfl) rfl (by kernel_rfl) ?_
            simp only [List.take_succ_cons, List.take_zero]
            refine wpLex_cons2 _ (uni_val (by rfl) (Op.move (Operand.tmp 9)) rfl (.pointer (some ⟨pv, 0, none⟩)) (fun o' ho W hW => by go_simp)) (by simp only [Act.put, List.setIfInBounds_toArray, List.set_cons_zero, List.set_cons_succ]; rfl) ?_
            refine wpLex_cons2 _ (uni_val (by rfl) (Op.nilCheck (Operand.tmp 107)) rfl (.pointer (some ⟨pv, 0, none⟩)) (fun o' ho W hW => by go_simp)) (by simp only [Act.put, List.setIfInBounds_toArray, List.set_cons_zero, List.set_cons_succ]; rfl) ?_
            refine wpLex_cons2 _ (uni_val (by rfl) (Op.fieldAddr 32 (Operand.tmp 108) 0) rfl (.pointer (some ⟨pv, 0, none⟩)) (fun o' ho W hW => by go_simp)) (by simp only [Act.put, List.setIfInBounds_toArray, List.set_cons_zero, List.set_cons_succ]; rfl) ?_
            refine wpLex_cons2 _ (uni_val (by rfl) (Op.load 28 (Operand.tmp 109)) rfl (.pointer (some ⟨p, 0, none⟩)) (fun o' ho W hW => by have hc := CW W hW; go_simp)) (by simp only [Act.put, List.setIfInBounds_toArray, List.set_cons_zero, List.set_cons_succ]; rfl) ?_
            refine wpLex_cons2 _ (uni_row rfl 38 (.tmp 13) rfl gl (lossC (.slice (some ⟨gb, 0, none⟩) nb nb) (-1) 0) 38 rfl (fun W hW => HBL.out.on hW) Try.underlying38 rfl (info38 _ _ _)) (by simp only [Act.put, List.setIfInBounds_toArray, List.set_cons_zero, List.set_cons_succ]; rfl) ?_
            intro W hW
            simp only [List.drop_succ_cons, List.drop_zero]
            have hmW := HM.out.below hW
            have hcr := crash_any hmW.dev rfl (.slice (some ⟨gb, 0, none⟩) nb nb) (bitK k) (-1) 0 (H64.out.fx (Fx.of_below (S := fun _ => False) hW) (fun _ _ h => h)) (fun k hk e => by have := HVB.out k hk; have := LT.out L.gi (.inr (.inl rfl)); omega)
            rw [crashW, HP.out] at hcr
            have HCR := hide hcr
            have HMW := hide hmW
            have HQW := hide (HBQ.out.on hW)
            have HPW := hide (HPV.out.on hW)
            clear hW CW hcr hmW HM HBL HBQ HPV H64 HVB
            go_upto_region 33 with (first
            | (go_at_call 15; refine HCR.out.mono ?_; rintro e w6 ⟨rfl, hz1, hz2⟩; have T6 := hide hz1; have D6 := hide hz2; clear hz1 hz2)
            | fail)
            have M6 := HMW.out.turn T6.out D6.out
            have HQ6 : Blk w6 gq ((([0, 0] : List UInt8).set r0 (UInt8.ofNat (1 + k))).map byt) 5 := HQW.out.fx T6.out.fx (fun hF => by have := LT.out gq hF; have := HGQ.out; omega)
            have HP6 : Blk w6 pv (lifeC p vi (.slice none 0 0)) 32 := HPW.out.fx T6.out.fx NP.out
            have c0 := (HP6.cell 0).trans (show _ = some (.pointer (some ⟨p, 0, none⟩)) from rfl)
            have him := image_any M6.dev
            rw [show (bareL L).p = p from HP.out] at him
            have hil : (imgW (bitK k) (-1) 0 m).length = 2048 := imgW_len _ _ _ _
            obtain ⟨im, him2⟩ : ∃ im, imgW (bitK k) (-1) 0 m = im := ⟨_, rfl⟩
            dsimp only at him
            rw [him2] at hil him SP1 SP2
            rw [hil] at him
            obtain ⟨g7, hg7⟩ : ∃ g, w6.heap.size = g := ⟨_, rfl⟩
            have al7 : Below w6.heap.size w6 (w6.alloc (.cells (im.map byt).toArray 5)) := below_new w6 _
            have B7 : Blk (w6.alloc (.cells (im.map byt).toArray 5)) g7 (im.map byt) 5 := Blk.newAt hg7
            obtain ⟨w7, hw7⟩ : ∃ w7, w6.alloc (.cells (im.map byt).toArray 5) = w7 := ⟨_, rfl⟩
            rw [hw7] at him al7 B7
            rw [hg7] at him
            have HIM := hide him
            have BE7 := hide (M6.be.trans (al7.mono M6.be.size))
            have HB7 := hide B7
            have HQ7 := hide (HQ6.on al7)
            have HIL := hide hil
            have hlen7 : ∀ W ty, (Builtin.len_ #[34] ty #[.slice (some ⟨g7, 0, none⟩) 2048 2048]).run Try.prog W = .ok (.int .i64 2048) W := fun W ty => by go_simp
            clear him hil him2 B7 al7 HQ6 HP6 M6 T6 D6 HMW HQW HPW HCR hw7 hg7
            go_upto_region 36 with (first
            | (go_at_call 16; refine HIM.out.mono ?_; rintro e wz ⟨rfl, hz⟩; rw [hz]; clear hz wz)
            | fail)
            clear HIM c0 hlen7
            have HK5 : Hid (k < 255) := hide (by omega)
            go_wp2
            clear hlz hlt ht hjz m1 m100 lk ln
            go_loopw [18] (fun i wx => ∃ x : Nat, x ≤ 2048 ∧ i = .int .i64 x ∧ Hid (wx = w7)) (fun i _ => 2048 - (intOf i).toNat)
            case atStart => exact ⟨0, by omega, rfl, hide rfl⟩
            case round =>
              obtain ⟨x, hx, rfl, hsx⟩ := hrel
              have hwx := hsx.out
              clear hsx
              subst hwx
              by_cases hxl : x < 2048
              · have hxz : (x : Int) < 2048 := Int.ofNat_lt.2 hxl
                obtain ⟨u, hu⟩ : ∃ u, im.getD x 0 = u := ⟨_, rfl⟩
                have hb := (HB7.out.cell x).trans (show (im.map byt)[x]? = some (.int .u8 (u.toNat : Int)) by rw [← hu, List.getElem?_map, List.getD_eq_getElem?_getD, List.getElem?_eq_getElem (by rw [HIL.out]; exact hxl)]; rfl)
                have hixb := fun W => idx34b g7 2048 2048 x hxl W
                have q1 := div_int x
                have q2 := mod_int x
                obtain ⟨q, hq⟩ : ∃ q, x / 512 = q := ⟨_, rfl⟩
                obtain ⟨xm, hxm⟩ : ∃ xm, x % 512 = xm := ⟨_, rfl⟩
                rw [hq] at q1
                rw [hxm] at q2
                have q3 : wrap64 (q : Int) = (q : Int) := wrap_small (q_small hq hxl)
                have q4 : wrap64 (xm : Int) = (xm : Int) := wrap_small (xm_small hxm)
                by_cases hx1 : x < 1024
                · have hx1z : (x : Int) < 1024 := Int.ofNat_lt.2 hx1
                  have hq2 : q < 2 := q_lt hq hx1
                  have hwq := (HQ7.out.cell q).trans (show _ = some (.int .u8 (u.toNat : Int)) by rw [← hu, SP1.out x hx1, hq]; exact wl_at ((([0, 0] : List UInt8).set r0 (UInt8.ofNat (1 + k)))) SPL.out q hq2)
                  have hixq := fun W => idx34b gq 2 2 q hq2 W
                  clear hu hq hxm
                  go_wp2
                  go_roundw
                  case rel => exact ⟨x + 1, Nat.succ_le_of_lt hxl, by go_num, (by first | exact hide rfl | exact hide trivial)⟩
                  case measure => simp [intOf]; omega
                · have hx1z : ¬ (x : Int) < 1024 := not_lt_int hx1
                  have hu0 : (u.toNat : Int) = 0 := by rw [← hu, SP2.out x (Nat.le_of_not_lt hx1) hxl]; rfl
                  clear hu hq hxm
                  go_wp2
                  go_roundw
                  case rel => exact ⟨x + 1, Nat.succ_le_of_lt hxl, by go_num, (by first | exact hide rfl | exact hide trivial)⟩
                  case measure => simp [intOf]; omega
              · obtain rfl : x = 2048 := by omega
                clear HB7 HQ7 HIL SP1 SP2
                go_wp2
                go_roundw
                case rel => exact ⟨2 + 1, by omega, rfl, by go_num, BE7⟩
                case measure => simp [intOf]
          · subst h0
            have BL5 := HBL.out
            have hold1 := (BL5.cell 1).trans (show _ = some (.int .i64 (-1)) from rfl)
            have hfz1 := BL5.frozen 1
            have BLb : Blk (w5.setCell ⟨gl, 1, none⟩ (.int .i64 (k : Int))) gl (lossC (.slice none 0 0) (k : Int) 0) 38 := BL5.set 1 _
            have fx1 : Fx (One gl) w5 (w5.setCell ⟨gl, 1, none⟩ (.int .i64 (k : Int))) := Fx.setCell _ _ _ _ rfl
            obtain ⟨wb, hwb⟩ : ∃ W, w5.setCell ⟨gl, 1, none⟩ (.int .i64 (k : Int)) = W := ⟨_, rfl⟩
            rw [hwb] at BLb fx1
            have hold2 := (BLb.cell 2).trans (show _ = some (.int .i64 0) from rfl)
            have hfz2 := BLb.frozen 2
            have BLc : Blk (wb.setCell ⟨gl, 2, none⟩ (.int .i64 n)) gl (lossC (.slice none 0 0) (k : Int) n) 38 := BLb.set 2 _
            have fx2 : Fx (One gl) w5 (wb.setCell ⟨gl, 2, none⟩ (.int .i64 n)) := fx1.and (Fx.setCell _ _ _ _ rfl)
            obtain ⟨wc, hwc⟩ : ∃ W, wb.setCell ⟨gl, 2, none⟩ (.int .i64 n) = W := ⟨_, rfl⟩
            rw [hwc] at BLc fx2
            have HBLn := hide BLc
            have HQn := hide (HBQ.out.fx fx2 (fun e => by have : gq = gl := e; have := HGQ.out; omega))
            have HPn := hide (HPV.out.fx fx2 (fun e => by have : pv = gl := e; have := HLP.out; omega))
            have HMn := hide (HM.out.keep fx2 (fun k hF e => by have := LT.out k hF; have : k = gl := e; omega) (fun k e => by have : k = gl := e; have := HLW.out; omega))
            clear HBL HBQ HPV HM BL5 BLb BLc fx1 fx2
            have HBL := HBLn; have HBQ := HQn; have HPV := HPn; have HM := HMn
            clear HBLn HQn HPn HMn
            have H64 : Hid (Has64 wc (.slice none 0 0) []) := hide (Has64.nil _)
            have HVB : Hid (∀ k, (Value.slice none 0 0).ownBlock = some k → gl ≤ k) := hide (fun k hk => by simp [Value.ownBlock] at hk)
            have n512 : ¬ (512 : Int) < n := by omega
            by_cases hn0 : (0 : Int) < n
            · have HCUT : Hid (n = if 0 < n then n else 0) := hide (by rw [if_pos hn0])
              have LN : Hid (n ≤ 512) := hide ln.2
              have SP1 : Hid (∀ x, x < 2048 → (x / 512 = k % 2 ∧ ((x % 512 : Nat) : Int) < n) → (imgW [] (k : Int) n m).getD x 0 = UInt8.ofNat (1 + k)) := hide (fun x hx hc => by rw [img3 m k x n m100 lk hx, if_pos ((sp3 rfl rfl rfl HCUT.out LN.out).2 hc)])
              have SP2 : Hid (∀ x, x < 2048 → ¬ (x / 512 = k % 2 ∧ ((x % 512 : Nat) : Int) < n) → (imgW [] (k : Int) n m).getD x 0 = 0) := hide (fun x hx hc => by rw [img3 m k x n m100 lk hx, if_neg (fun h => hc ((sp3 rfl rfl rfl HCUT.out LN.out).1 h))])
              go_upto_region 32 with fail
              clear hold1 hfz1 hwb hold2 hfz2 hwc n512 hn0
              have CW : ∀ W, Below wc.heap.size wc W → W.cell? ⟨pv, 0, none⟩ = some (.pointer (some ⟨p, 0, none⟩)) := fun W hW => ((HPV.out.on hW).cell 0).trans rfl
              refine reg_rest 5 2 (by kernel_rfl) rfl (by kernel_rfl) ?_
              simp only [List.take_succ_cons, List.take_zero]
              refine wpLex_cons2 _ (uni_val (by rfl) (Op.move (Operand.tmp 9)) rfl (.pointer (some ⟨pv, 0, none⟩)) (fun o' ho W hW => by go_simp)) (by simp only [Act.put, List.setIfInBounds_toArray, List.set_cons_zero, List.set_cons_succ]; rfl) ?_
              refine wpLex_cons2 _ (uni_val (by rfl) (Op.nilCheck (Operand.tmp 107)) rfl (.pointer (some ⟨pv, 0, none⟩)) (fun o' ho W hW => by go_simp)) (by simp only [Act.put, List.setIfInBounds_toArray, List.set_cons_zero, List.set_cons_succ]; rfl) ?_
              refine wpLex_cons2 _ (uni_val (by rfl) (Op.fieldAddr 32 (Operand.tmp 108) 0) rfl (.pointer (some ⟨pv, 0, none⟩)) (fun o' ho W hW => by go_simp)) (by simp only [Act.put, List.setIfInBounds_toArray, List.set_cons_zero, List.set_cons_succ]; rfl) ?_
              refine wpLex_cons2 _ (uni_val (by rfl) (Op.load 28 (Operand.tmp 109)) rfl (.pointer (some ⟨p, 0, none⟩)) (fun o' ho W hW => by have hc := CW W hW; go_simp)) (by simp only [Act.put, List.setIfInBounds_toArray, List.set_cons_zero, List.set_cons_succ]; rfl) ?_
              refine wpLex_cons2 _ (uni_row rfl 38 (.tmp 13) rfl gl (lossC (.slice none 0 0) (k : Int) n) 38 rfl (fun W hW => HBL.out.on hW) Try.underlying38 rfl (info38 _ _ _)) (by simp only [Act.put, List.setIfInBounds_toArray, List.set_cons_zero, List.set_cons_succ]; rfl) ?_
              intro W hW
              simp only [List.drop_succ_cons, List.drop_zero]
              have hmW := HM.out.below hW
              have hcr := crash_any hmW.dev rfl (.slice none 0 0) [] (k : Int) n (H64.out.fx (Fx.of_below (S := fun _ => False) hW) (fun _ _ h => h)) (fun k hk e => by have := HVB.out k hk; have := LT.out L.gi (.inr (.inl rfl)); omega)
              rw [crashW, HP.out] at hcr
              have HCR := hide hcr
              have HMW := hide hmW
              have HQW := hide (HBQ.out.on hW)
              have HPW := hide (HPV.out.on hW)
              clear hW CW hcr hmW HM HBL HBQ HPV H64 HVB
              go_upto_region 33 with (first
            | (go_at_call 15; refine HCR.out.mono ?_; rintro e w6 ⟨rfl, hz1, hz2⟩; have T6 := hide hz1; have D6 := hide hz2; clear hz1 hz2)
            | fail)
              have M6 := HMW.out.turn T6.out D6.out
              have HQ6 : Blk w6 gq (([0, 0] : List UInt8).map byt) 5 := HQW.out.fx T6.out.fx (fun hF => by have := LT.out gq hF; have := HGQ.out; omega)
              have HP6 : Blk w6 pv (lifeC p vi (.slice none 0 0)) 32 := HPW.out.fx T6.out.fx NP.out
              have c0 := (HP6.cell 0).trans (show _ = some (.pointer (some ⟨p, 0, none⟩)) from rfl)
              have him := image_any M6.dev
              rw [show (bareL L).p = p from HP.out] at him
              have hil : (imgW [] (k : Int) n m).length = 2048 := imgW_len _ _ _ _
              obtain ⟨im, him2⟩ : ∃ im, imgW [] (k : Int) n m = im := ⟨_, rfl⟩
              dsimp only at him
              rw [him2] at hil him SP1 SP2
              rw [hil] at him
              obtain ⟨g7, hg7⟩ : ∃ g, w6.heap.size = g := ⟨_, rfl⟩
              have al7 : Below w6.heap.size w6 (w6.alloc (.cells (im.map byt).toArray 5)) := below_new w6 _
              have B7 : Blk (w6.alloc (.cells (im.map byt).toArray 5)) g7 (im.map byt) 5 := Blk.newAt hg7
              obtain ⟨w7, hw7⟩ : ∃ w7, w6.alloc (.cells (im.map byt).toArray 5) = w7 := ⟨_, rfl⟩
              rw [hw7] at him al7 B7
              rw [hg7] at him
              have HIM := hide him
              have BE7 := hide (M6.be.trans (al7.mono M6.be.size))
              have HB7 := hide B7
              have HQ7 := hide (HQ6.on al7)
              have HIL := hide hil
              have hlen7 : ∀ W ty, (Builtin.len_ #[34] ty #[.slice (some ⟨g7, 0, none⟩) 2048 2048]).run Try.prog W = .ok (.int .i64 2048) W := fun W ty => by go_simp
              clear him hil him2 B7 al7 HQ6 HP6 M6 T6 D6 HMW HQW HPW HCR hw7 hg7
              go_upto_region 36 with (first
            | (go_at_call 16; refine HIM.out.mono ?_; rintro e wz ⟨rfl, hz⟩; rw [hz]; clear hz wz)
            | fail)
              clear HIM c0 hlen7
              have HK5 : Hid (k < 255) := hide (by omega)
              go_wp2
              clear hlz hlt ht hjz m1 m100 lk ln
              go_loopw [18] (fun i wx => ∃ x : Nat, x ≤ 2048 ∧ i = .int .i64 x ∧ Hid (wx = w7)) (fun i _ => 2048 - (intOf i).toNat)
              case atStart => exact ⟨0, by omega, rfl, hide rfl⟩
              case round =>
                obtain ⟨x, hx, rfl, hsx⟩ := hrel
                have hwx := hsx.out
                clear hsx
                subst hwx
                by_cases hxl : x < 2048
                · have hxz : (x : Int) < 2048 := Int.ofNat_lt.2 hxl
                  obtain ⟨u, hu⟩ : ∃ u, im.getD x 0 = u := ⟨_, rfl⟩
                  have hb := (HB7.out.cell x).trans (show (im.map byt)[x]? = some (.int .u8 (u.toNat : Int)) by rw [← hu, List.getElem?_map, List.getD_eq_getElem?_getD, List.getElem?_eq_getElem (by rw [HIL.out]; exact hxl)]; rfl)
                  have hixb := fun W => idx34b g7 2048 2048 x hxl W
                  have q1 := div_int x
                  have q2 := mod_int x
                  obtain ⟨q, hq⟩ : ∃ q, x / 512 = q := ⟨_, rfl⟩
                  obtain ⟨xm, hxm⟩ : ∃ xm, x % 512 = xm := ⟨_, rfl⟩
                  rw [hq] at q1
                  rw [hxm] at q2
                  have q3 : wrap64 (q : Int) = (q : Int) := wrap_small (q_small hq hxl)
                  have q4 : wrap64 (xm : Int) = (xm : Int) := wrap_small (xm_small hxm)
                  obtain ⟨kk, hkk⟩ : ∃ kk, k % 2 = kk := ⟨_, rfl⟩
                  have c1 := mod2_int hkk
                  have c2 : wrap64 (kk : Int) = (kk : Int) := wrap_small (Nat.lt_of_lt_of_le (mod2_lt hkk) (by decide))
                  by_cases hcond : q = kk ∧ (xm : Int) < n
                  · obtain ⟨hc1, hc2⟩ := hcond
                    have hu1 : (u.toNat : Int) = 1 + (k : Int) := by rw [← hu, SP1.out x hxl (by rw [hq, hxm, hkk]; exact ⟨hc1, hc2⟩)]; exact u8_of k HK5.out
                    have hU : IntKind.u8.wrap (1 + (k : Int)) = 1 + (k : Int) := u8_one HK5.out
                    have hW : wrap64 (1 + (k : Int)) = 1 + (k : Int) := wrap_one HK5.out
                    rw [hu1] at hb
                    obtain ⟨K1, hK1⟩ : ∃ K1 : Int, 1 + (k : Int) = K1 := ⟨_, rfl⟩
                    rw [hK1] at hb hU hW
                    clear hu1
                    by_cases hx1 : x < 1024
                    · have hx1z : (x : Int) < 1024 := Int.ofNat_lt.2 hx1
                      have hq2 : q < 2 := q_lt hq hx1
                      have hwq := (HQ7.out.cell q).trans (show _ = some (.int .u8 0) from wl_zero q hq2)
                      have hixq := fun W => idx34b gq 2 2 q hq2 W
                      clear hu hq hxm hkk
                      subst hc1
                      go_wp2
                      go_roundw
                      case rel => exact ⟨x + 1, Nat.succ_le_of_lt hxl, by go_num, (by first | exact hide rfl | exact hide trivial)⟩
                      case measure => simp [intOf]; omega
                    · have hx1z : ¬ (x : Int) < 1024 := not_lt_int hx1
                      clear hu hq hxm hkk
                      subst hc1
                      go_wp2
                      go_roundw
                      case rel => exact ⟨x + 1, Nat.succ_le_of_lt hxl, by go_num, (by first | exact hide rfl | exact hide trivial)⟩
                      case measure => simp [intOf]; omega
                  · have hu0 : (u.toNat : Int) = 0 := by rw [← hu, SP2.out x hxl (by rw [hq, hxm, hkk]; exact hcond)]; rfl
                    by_cases hx1 : x < 1024
                    · have hx1z : (x : Int) < 1024 := Int.ofNat_lt.2 hx1
                      have hq2 : q < 2 := q_lt hq hx1
                      have hwq := (HQ7.out.cell q).trans (show _ = some (.int .u8 0) from wl_zero q hq2)
                      have hixq := fun W => idx34b gq 2 2 q hq2 W
                      by_cases hqe : q = kk
                      · have hnc : ¬ (xm : Int) < n := fun h => hcond ⟨hqe, h⟩
                        clear hu hq hxm hkk hcond
                        subst hqe
                        go_wp2
                        go_roundw
                        case rel => exact ⟨x + 1, Nat.succ_le_of_lt hxl, by go_num, (by first | exact hide rfl | exact hide trivial)⟩
                        case measure => simp [intOf]; omega
                      · have hqz : ¬ (q : Int) = (kk : Int) := fun e => hqe (Int.ofNat.inj e)
                        clear hu hq hxm hkk hcond
                        go_wp2
                        go_roundw
                        case rel => exact ⟨x + 1, Nat.succ_le_of_lt hxl, by go_num, (by first | exact hide rfl | exact hide trivial)⟩
                        case measure => simp [intOf]; omega
                    · have hx1z : ¬ (x : Int) < 1024 := not_lt_int hx1
                      by_cases hqe : q = kk
                      · have hnc : ¬ (xm : Int) < n := fun h => hcond ⟨hqe, h⟩
                        clear hu hq hxm hkk hcond
                        subst hqe
                        go_wp2
                        go_roundw
                        case rel => exact ⟨x + 1, Nat.succ_le_of_lt hxl, by go_num, (by first | exact hide rfl | exact hide trivial)⟩
                        case measure => simp [intOf]; omega
                      · have hqz : ¬ (q : Int) = (kk : Int) := fun e => hqe (Int.ofNat.inj e)
                        clear hu hq hxm hkk hcond
                        go_wp2
                        go_roundw
                        case rel => exact ⟨x + 1, Nat.succ_le_of_lt hxl, by go_num, (by first | exact hide rfl | exact hide trivial)⟩
                        case measure => simp [intOf]; omega
                · obtain rfl : x = 2048 := by omega
                  clear HB7 HQ7 HIL SP1 SP2
                  go_wp2
                  go_roundw
                  case rel => exact ⟨3 + 1, by omega, rfl, by go_num, BE7⟩
                  case measure => simp [intOf]
            · have HCUT : Hid (0 = if 0 < n then n else 0) := hide (by rw [if_neg hn0])
              have LN : Hid (n ≤ 512) := hide ln.2
              have SP1 : Hid (∀ x, x < 2048 → (x / 512 = k % 2 ∧ ((x % 512 : Nat) : Int) < 0) → (imgW [] (k : Int) n m).getD x 0 = UInt8.ofNat (1 + k)) := hide (fun x hx hc => by rw [img3 m k x n m100 lk hx, if_pos ((sp3 rfl rfl rfl HCUT.out LN.out).2 hc)])
              have SP2 : Hid (∀ x, x < 2048 → ¬ (x / 512 = k % 2 ∧ ((x % 512 : Nat) : Int) < 0) → (imgW [] (k : Int) n m).getD x 0 = 0) := hide (fun x hx hc => by rw [img3 m k x n m100 lk hx, if_neg (fun h => hc ((sp3 rfl rfl rfl HCUT.out LN.out).1 h))])
              go_upto_region 32 with fail
              clear hold1 hfz1 hwb hold2 hfz2 hwc n512 hn0
              have CW : ∀ W, Below wc.heap.size wc W → W.cell? ⟨pv, 0, none⟩ = some (.pointer (some ⟨p, 0, none⟩)) := fun W hW => ((HPV.out.on hW).cell 0).trans rfl
              refine reg_rest 5 2 (by kernel_rfl) rfl (by kernel_rfl) ?_
              simp only [List.take_succ_cons, List.take_zero]
              refine wpLex_cons2 _ (uni_val (by rfl) (Op.move (Operand.tmp 9)) rfl (.pointer (some ⟨pv, 0, none⟩)) (fun o' ho W hW => by go_simp)) (by simp only [Act.put, List.setIfInBounds_toArray, List.set_cons_zero, List.set_cons_succ]; rfl) ?_
              refine wpLex_cons2 _ (uni_val (by rfl) (Op.nilCheck (Operand.tmp 107)) rfl (.pointer (some ⟨pv, 0, none⟩)) (fun o' ho W hW => by go_simp)) (by simp only [Act.put, List.setIfInBounds_toArray, List.set_cons_zero, List.set_cons_succ]; rfl) ?_
              refine wpLex_cons2 _ (uni_val (by rfl) (Op.fieldAddr 32 (Operand.tmp 108) 0) rfl (.pointer (some ⟨pv, 0, none⟩)) (fun o' ho W hW => by go_simp)) (by simp only [Act.put, List.setIfInBounds_toArray, List.set_cons_zero, List.set_cons_succ]; rfl) ?_
              refine wpLex_cons2 _ (uni_val (by rfl) (Op.load 28 (Operand.tmp 109)) rfl (.pointer (some ⟨p, 0, none⟩)) (fun o' ho W hW => by have hc := CW W hW; go_simp)) (by simp only [Act.put, List.setIfInBounds_toArray, List.set_cons_zero, List.set_cons_succ]; rfl) ?_
              refine wpLex_cons2 _ (uni_row rfl 38 (.tmp 13) rfl gl (lossC (.slice none 0 0) (k : Int) n) 38 rfl (fun W hW => HBL.out.on hW) Try.underlying38 rfl (info38 _ _ _)) (by simp only [Act.put, List.setIfInBounds_toArray, List.set_cons_zero, List.set_cons_succ]; rfl) ?_
              intro W hW
              simp only [List.drop_succ_cons, List.drop_zero]
              have hmW := HM.out.below hW
              have hcr := crash_any hmW.dev rfl (.slice none 0 0) [] (k : Int) n (H64.out.fx (Fx.of_below (S := fun _ => False) hW) (fun _ _ h => h)) (fun k hk e => by have := HVB.out k hk; have := LT.out L.gi (.inr (.inl rfl)); omega)
              rw [crashW, HP.out] at hcr
              have HCR := hide hcr
              have HMW := hide hmW
              have HQW := hide (HBQ.out.on hW)
              have HPW := hide (HPV.out.on hW)
              clear hW CW hcr hmW HM HBL HBQ HPV H64 HVB
              go_upto_region 33 with (first
            | (go_at_call 15; refine HCR.out.mono ?_; rintro e w6 ⟨rfl, hz1, hz2⟩; have T6 := hide hz1; have D6 := hide hz2; clear hz1 hz2)
            | fail)
              have M6 := HMW.out.turn T6.out D6.out
              have HQ6 : Blk w6 gq (([0, 0] : List UInt8).map byt) 5 := HQW.out.fx T6.out.fx (fun hF => by have := LT.out gq hF; have := HGQ.out; omega)
              have HP6 : Blk w6 pv (lifeC p vi (.slice none 0 0)) 32 := HPW.out.fx T6.out.fx NP.out
              have c0 := (HP6.cell 0).trans (show _ = some (.pointer (some ⟨p, 0, none⟩)) from rfl)
              have him := image_any M6.dev
              rw [show (bareL L).p = p from HP.out] at him
              have hil : (imgW [] (k : Int) n m).length = 2048 := imgW_len _ _ _ _
              obtain ⟨im, him2⟩ : ∃ im, imgW [] (k : Int) n m = im := ⟨_, rfl⟩
              dsimp only at him
              rw [him2] at hil him SP1 SP2
              rw [hil] at him
              obtain ⟨g7, hg7⟩ : ∃ g, w6.heap.size = g := ⟨_, rfl⟩
              have al7 : Below w6.heap.size w6 (w6.alloc (.cells (im.map byt).toArray 5)) := below_new w6 _
              have B7 : Blk (w6.alloc (.cells (im.map byt).toArray 5)) g7 (im.map byt) 5 := Blk.newAt hg7
              obtain ⟨w7, hw7⟩ : ∃ w7, w6.alloc (.cells (im.map byt).toArray 5) = w7 := ⟨_, rfl⟩
              rw [hw7] at him al7 B7
              rw [hg7] at him
              have HIM := hide him
              have BE7 := hide (M6.be.trans (al7.mono M6.be.size))
              have HB7 := hide B7
              have HQ7 := hide (HQ6.on al7)
              have HIL := hide hil
              have hlen7 : ∀ W ty, (Builtin.len_ #[34] ty #[.slice (some ⟨g7, 0, none⟩) 2048 2048]).run Try.prog W = .ok (.int .i64 2048) W := fun W ty => by go_simp
              clear him hil him2 B7 al7 HQ6 HP6 M6 T6 D6 HMW HQW HPW HCR hw7 hg7
              go_upto_region 36 with (first
            | (go_at_call 16; refine HIM.out.mono ?_; rintro e wz ⟨rfl, hz⟩; rw [hz]; clear hz wz)
            | fail)
              clear HIM c0 hlen7
              have HK5 : Hid (k < 255) := hide (by omega)
              go_wp2
              clear hlz hlt ht hjz m1 m100 lk ln
              go_loopw [18] (fun i wx => ∃ x : Nat, x ≤ 2048 ∧ i = .int .i64 x ∧ Hid (wx = w7)) (fun i _ => 2048 - (intOf i).toNat)
              case atStart => exact ⟨0, by omega, rfl, hide rfl⟩
              case round =>
                obtain ⟨x, hx, rfl, hsx⟩ := hrel
                have hwx := hsx.out
                clear hsx
                subst hwx
                by_cases hxl : x < 2048
                · have hxz : (x : Int) < 2048 := Int.ofNat_lt.2 hxl
                  obtain ⟨u, hu⟩ : ∃ u, im.getD x 0 = u := ⟨_, rfl⟩
                  have hb := (HB7.out.cell x).trans (show (im.map byt)[x]? = some (.int .u8 (u.toNat : Int)) by rw [← hu, List.getElem?_map, List.getD_eq_getElem?_getD, List.getElem?_eq_getElem (by rw [HIL.out]; exact hxl)]; rfl)
                  have hixb := fun W => idx34b g7 2048 2048 x hxl W
                  have q1 := div_int x
                  have q2 := mod_int x
                  obtain ⟨q, hq⟩ : ∃ q, x / 512 = q := ⟨_, rfl⟩
                  obtain ⟨xm, hxm⟩ : ∃ xm, x % 512 = xm := ⟨_, rfl⟩
                  rw [hq] at q1
                  rw [hxm] at q2
                  have q3 : wrap64 (q : Int) = (q : Int) := wrap_small (q_small hq hxl)
                  have q4 : wrap64 (xm : Int) = (xm : Int) := wrap_small (xm_small hxm)
                  obtain ⟨kk, hkk⟩ : ∃ kk, k % 2 = kk := ⟨_, rfl⟩
                  have c1 := mod2_int hkk
                  have c2 : wrap64 (kk : Int) = (kk : Int) := wrap_small (Nat.lt_of_lt_of_le (mod2_lt hkk) (by decide))
                  by_cases hcond : q = kk ∧ (xm : Int) < 0
                  · obtain ⟨hc1, hc2⟩ := hcond
                    have hu1 : (u.toNat : Int) = 1 + (k : Int) := by rw [← hu, SP1.out x hxl (by rw [hq, hxm, hkk]; exact ⟨hc1, hc2⟩)]; exact u8_of k HK5.out
                    have hU : IntKind.u8.wrap (1 + (k : Int)) = 1 + (k : Int) := u8_one HK5.out
                    have hW : wrap64 (1 + (k : Int)) = 1 + (k : Int) := wrap_one HK5.out
                    rw [hu1] at hb
                    obtain ⟨K1, hK1⟩ : ∃ K1 : Int, 1 + (k : Int) = K1 := ⟨_, rfl⟩
                    rw [hK1] at hb hU hW
                    clear hu1
                    by_cases hx1 : x < 1024
                    · have hx1z : (x : Int) < 1024 := Int.ofNat_lt.2 hx1
                      have hq2 : q < 2 := q_lt hq hx1
                      have hwq := (HQ7.out.cell q).trans (show _ = some (.int .u8 0) from wl_zero q hq2)
                      have hixq := fun W => idx34b gq 2 2 q hq2 W
                      clear hu hq hxm hkk
                      subst hc1
                      go_wp2
                      go_roundw
                      case rel => exact ⟨x + 1, Nat.succ_le_of_lt hxl, by go_num, (by first | exact hide rfl | exact hide trivial)⟩
                      case measure => simp [intOf]; omega
                    · have hx1z : ¬ (x : Int) < 1024 := not_lt_int hx1
                      clear hu hq hxm hkk
                      subst hc1
                      go_wp2
                      go_roundw
                      case rel => exact ⟨x + 1, Nat.succ_le_of_lt hxl, by go_num, (by first | exact hide rfl | exact hide trivial)⟩
                      case measure => simp [intOf]; omega
                  · have hu0 : (u.toNat : Int) = 0 := by rw [← hu, SP2.out x hxl (by rw [hq, hxm, hkk]; exact hcond)]; rfl
                    by_cases hx1 : x < 1024
                    · have hx1z : (x : Int) < 1024 := Int.ofNat_lt.2 hx1
                      have hq2 : q < 2 := q_lt hq hx1
                      have hwq := (HQ7.out.cell q).trans (show _ = some (.int .u8 0) from wl_zero q hq2)
                      have hixq := fun W => idx34b gq 2 2 q hq2 W
                      by_cases hqe : q = kk
                      · have hnc : ¬ (xm : Int) < 0 := fun h => hcond ⟨hqe, h⟩
                        clear hu hq hxm hkk hcond
                        subst hqe
                        go_wp2
                        go_roundw
                        case rel => exact ⟨x + 1, Nat.succ_le_of_lt hxl, by go_num, (by first | exact hide rfl | exact hide trivial)⟩
                        case measure => simp [intOf]; omega
                      · have hqz : ¬ (q : Int) = (kk : Int) := fun e => hqe (Int.ofNat.inj e)
                        clear hu hq hxm hkk hcond
                        go_wp2
                        go_roundw
                        case rel => exact ⟨x + 1, Nat.succ_le_of_lt hxl, by go_num, (by first | exact hide rfl | exact hide trivial)⟩
                        case measure => simp [intOf]; omega
                    · have hx1z : ¬ (x : Int) < 1024 := not_lt_int hx1
                      by_cases hqe : q = kk
                      · have hnc : ¬ (xm : Int) < 0 := fun h => hcond ⟨hqe, h⟩
                        clear hu hq hxm hkk hcond
                        subst hqe
                        go_wp2
                        go_roundw
                        case rel => exact ⟨x + 1, Nat.succ_le_of_lt hxl, by go_num, (by first | exact hide rfl | exact hide trivial)⟩
                        case measure => simp [intOf]; omega
                      · have hqz : ¬ (q : Int) = (kk : Int) := fun e => hqe (Int.ofNat.inj e)
                        clear hu hq hxm hkk hcond
                        go_wp2
                        go_roundw
                        case rel => exact ⟨x + 1, Nat.succ_le_of_lt hxl, by go_num, (by first | exact hide rfl | exact hide trivial)⟩
                        case measure => simp [intOf]; omega
                · obtain rfl : x = 2048 := by omega
                  clear HB7 HQ7 HIL SP1 SP2
                  go_wp2
                  go_roundw
                  case rel => exact ⟨3 + 1, by omega, rfl, by go_num, BE7⟩
                  case measure => simp [intOf]
    · obtain rfl : t = 4 := by omega
      have HB := hide hs.out
      clear hs cb
      go_wp2
      go_ret
      exact ⟨rfl, HB.out⟩
end Go.Proofs.Ythfcabhelldokaa
