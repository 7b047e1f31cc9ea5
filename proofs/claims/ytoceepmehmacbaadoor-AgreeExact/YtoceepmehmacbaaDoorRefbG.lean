import Derived.Test.YtoceepmehmacbaaDoorOrdG
import Derived.Test.YtoceepmehmacbaaDoorOz
import Derived.Test.YtoceepmehmacbaaDoorMac2G
import Derived.Stop.LaidErr
import Derived.Test.YtoceepmehmacbaaDoorTurnG
namespace Go.Proofs.YtoceepmehmacbaaDoor
open Go.RowKit

/-- The blocks of HKDF. -/
def tk (prk info : List UInt8) : Nat → List UInt8
  | 0 => []
  | k + 1 => macOf prk (tk prk info k ++ info ++ [UInt8.ofNat (k + 1)])
/-- The first k of them, one behind the other. -/
def ex (prk info : List UInt8) : Nat → List UInt8
  | 0 => []
  | k + 1 => ex prk info k ++ tk prk info (k + 1)
/-- The first n bytes. -/
def exOut (prk info : List UInt8) (n : Nat) : List UInt8 := (ex prk info ((n + 31) / 32)).take n
theorem tk_length (prk info : List UInt8) (k : Nat) : (tk prk info (k + 1)).length = 32 := macOf_length _ _
theorem ex_length (prk info : List UInt8) : ∀ k, (ex prk info k).length = 32 * k
  | 0 => rfl
  | k + 1 => by rw [ex, List.length_append, ex_length prk info k, tk_length]; omega
theorem exOut_length (prk info : List UInt8) (n : Nat) : (exOut prk info n).length = n := by
  unfold exOut
  rw [List.length_take, ex_length]; omega
/-- What lies in the list behind k blocks. -/
def exk (prk info : List UInt8) (n k : Nat) : List UInt8 := (ex prk info k).take n ++ List.replicate (n - 32 * k) 0
theorem exk_length (prk info : List UInt8) (n k : Nat) : (exk prk info n k).length = n := by
  unfold exk
  rw [List.length_append, List.length_take, ex_length, List.length_replicate]; omega
theorem exk_zero (prk info : List UInt8) (n : Nat) : exk prk info n 0 = List.replicate n 0 := by simp [exk, ex]
theorem exk_succ (prk info : List UInt8) (n k : Nat) (h : 32 * k < n) : (exk prk info n k).take (32 * k) ++ (tk prk info (k + 1)).take (n - 32 * k) ++ (exk prk info n k).drop (32 * k + ((tk prk info (k + 1)).take (n - 32 * k)).length) = exk prk info n (k + 1) := by
  have hl := ex_length prk info k
  have ht := tk_length prk info k
  have h1 : (ex prk info k).take n = ex prk info k := List.take_of_length_le (by omega)
  have h2 : (ex prk info (k + 1)).take n = ex prk info k ++ (tk prk info (k + 1)).take (n - 32 * k) := by
    rw [ex, List.take_append, h1, hl]
  unfold exk
  rw [h1, h2]
  generalize tk prk info (k + 1) = t at ht ⊢
  generalize ex prk info k = e at hl ⊢
  rw [List.take_append_of_le_length (by omega), List.take_of_length_le (by omega), List.drop_append, List.drop_eq_nil_of_le (by omega), List.nil_append, List.drop_replicate, List.length_take]
  congr 2
  omega
theorem exk_all (prk info : List UInt8) (n : Nat) : exk prk info n ((n + 31) / 32) = exOut prk info n := by
  unfold exk exOut
  rw [show n - 32 * ((n + 31) / 32) = 0 by omega, List.replicate_zero, List.append_nil]

section
variable {ops : Array Oper} {Q : Exit → Act → World → Prop}
/-- 'copy(x[o:], b)' where an order is drawn. -/
theorem op_cpb {i : Nat} {o : Oper} (hi : ops[i]? = some o) (hg : o.guard = none) {K : Act → World → Prop} {a : Act} {w : World} (d x : Operand) (ho : o.op = .call { callee := .builtin .copy, args := #[d, x], argTypes := #[40, 40] }) (dd : Nat) (hdd : o.dst = some dd)
    (p off n c : Nat) (hd : a.eval d = .slice (some ⟨p, off, none⟩) n c)
    (v : Value) (bs : List UInt8) (hx : a.eval x = v) (hv : Has w v bs) (L : List UInt8) (t : TypeId) (hB : Blk w p (L.map byt) t) (hon : off + n ≤ L.length)
    (h : ∀ (q : Int) w', Blk w' p ((L.take off ++ bs.take n ++ L.drop (off + (bs.take n).length)).map byt) t → Fx (One p) w w' → K (a.put (some dd) (.int .i64 q)) w') : wpOp Tryd.prog ops Q i K a w := by
  rw [← hdd] at h
  have hl : (bs.take n).length = min n bs.length := List.length_take
  rcases hv with ⟨rfl, rfl⟩ | ⟨ad, cap, rfl, h2, h3⟩
  · have hrun := run_copy_none (P := Tryd.prog) w 40 40 o.type 5 (some ⟨p, off, none⟩) none n c 0 0 Tryd.underlying40 info5s (by simp)
    refine op_wp hi hg ?_
    unfold Oper.wp
    simp [execOp, ho, resolve, invoke, builtin, hd, hx, hrun, Result.andThen]
    exact h 0 w (by simpa using hB) (Fx.refl _ _)
  · have hrun := run_copy_cells (P := Tryd.prog) w 40 40 o.type 5 p off n c ad bs.length cap ((bs.take n).map byt) Tryd.underlying40 info5s (by rw [List.length_map, hl]; exact Nat.min_comm _ _)
      (fun j v hj => by
        rw [List.getElem?_map, Option.map_eq_some_iff] at hj
        obtain ⟨u, hu, rfl⟩ := hj
        have hjq : j < (bs.take n).length := (List.getElem?_eq_some_iff.1 hu).1
        rw [List.getElem?_take_of_lt (by omega)] at hu
        exact h3 j u hu)
      (fun j hj => by
        rw [List.length_map] at hj
        rw [hB.cell, List.getElem?_eq_getElem (by rw [List.length_map]; omega)]; rfl) (fun j _ => hB.frozen _) (byt_one _)
    refine op_wp hi hg ?_
    unfold Oper.wp
    rw [List.length_map] at hrun
    have hb := Blk.setCells ((bs.take n).map byt) off w (L.map byt) hB (by rw [List.length_map, List.length_map]; omega)
    have hfin := h ((bs.take n).length : Int) (w.setCells p off ((bs.take n).map byt)) (by
      rw [List.length_map] at hb
      rw [List.map_append, List.map_append, List.map_drop, show (L.take off).map byt = (L.map byt).take off from List.map_take]
      exact hb) (Fx.setCells (S := One p) p rfl _ _ _)
    generalize w.setCells p off ((bs.take n).map byt) = w' at hrun hfin
    generalize (bs.take n).length = q at hrun hfin
    simp [execOp, ho, resolve, invoke, builtin, hd, hx, hrun, Result.andThen]
    exact hfin
end

/-- 'bounded'. -/
theorem bounded_ok (n m : Int) (w : World) (h0 : 0 ≤ n) (h1 : n ≤ m) : Calls Tryd.prog 30 #[.int .i64 n, .int .i64 m] w fun e w' => e = .returned (.int .i64 0) ∧ w' = w := by
  have a0 : ¬ n < 0 := by omega
  have a1 : ¬ m < n := by omega
  go_enter Tryd.func30, Tryd.ntmps30
  go_wp2
  go_ret
  exact ⟨rfl, rfl⟩
/-- The list of 'Expand', and the block that came last. -/
structure Ek (w x : World) (g : Nat) (v : Value) (L T : List UInt8) : Prop where
  bl : Blk x g (L.map byt) 5
  ha : Has x v T
  be : Below w.heap.size w x
  lg : w.heap.size ≤ g
  ne : T = [] ∨ v.ownBlock ≠ some g

set_option maxHeartbeats 400000 in
set_option maxRecDepth 100000 in
theorem expand_ok (vk vi : Value) (prk info : List UInt8) (n : Nat) (w : World) (hk : Has w vk prk) (hi : Has w vi info) (hK : Kst w) (hpl : prk.length ≤ 1152921504606846976) (hil : info.length ≤ 900000000000000000) (hn : n ≤ 8160) :
    Calls Tryd.prog 17 #[vk, vi, .int .i64 (n : Int)] w fun e w' => ∃ g, e = .returned (.tuple #[.slice (some ⟨g, 0, none⟩) n n, .int .i64 0]) ∧ Tu w w' g (exOut prk info n) := by
  obtain ⟨ai, ci, rfl⟩ := hi.slice
  obtain ⟨nI, hnI⟩ : ∃ nI, info.length = nI := ⟨_, rfl⟩
  rw [hnI] at hi hil ⊢
  have HKY := hide hk
  have HI := hide hi
  have HK := hide hK
  have HPL := hide hpl
  have HIL := hide hil
  have HnI := hide hnI
  have hnz : (n : Int) ≤ 8160 := by omega
  have hn0 : (0 : Int) ≤ (n : Int) := by omega
  clear hk hi hK hpl hil hnI
  have hS : Hid (Ek w (w.alloc (.cells ((List.replicate n 0).map byt).toArray 5)) w.heap.size (.slice none 0 0) (exk prk info n 0) (tk prk info 0)) := by
    rw [exk_zero]
    exact ⟨Blk.new w _ _, Has.nil _, below_new w _, Nat.le_refl _, .inl rfl⟩
  obtain ⟨g, hg⟩ : ∃ g, g = w.heap.size := ⟨_, rfl⟩
  rw [← hg] at hS
  go_enter Tryd.func17, Tryd.ntmps17
  go_wp2_with (first
    | (go_at_call 30; refine (bounded_ok (n : Int) 8160 _ hn0 hnz).mono ?_; rintro e w' ⟨rfl, rfl⟩)
    | (refine wpList_mkB rfl (.tmp 19) (.tmp 19) rfl n n rfl rfl rfl (by omega) g hg ?_; clear hg; generalize w'.alloc (.cells ((List.replicate n 0).map byt).toArray 5) = w0 at hS ⊢)
    | fail)
  go_loopw [10, 11] (fun a i wr => ∃ k : Nat, k ≤ (n + 31) / 32 ∧ i = .int .i64 ((32 * k : Nat) : Int) ∧ ∃ ao nt c, a = .slice ao nt c ∧ Hid (Ek w' wr g (.slice ao nt c) (exk prk info n k) (tk prk info k))) (fun _ i _ => n + 32 - (intOf i).toNat)
  case atStart => exact ⟨0, by omega, rfl, none, 0, 0, rfl, hS⟩
  case round =>
    obtain ⟨k, hk, rfl, ao, nt, c, rfl, hx⟩ := hrel
    by_cases hlt : 32 * k < n
    · have hlz : ((32 * k : Nat) : Int) < (n : Int) := by omega
      have hk254 : k ≤ 254 := by omega
      have hq : ((32 * k : Nat) : Int).tdiv 32 = (k : Int) := by rw [Int.tdiv_eq_ediv_of_nonneg (by omega)]; omega
      obtain ⟨u, hu⟩ : ∃ u : UInt8, u = UInt8.ofNat (k + 1) := ⟨_, rfl⟩
      have huz : (u.toNat : Int) = (k : Int) + 1 := by rw [hu, UInt8.toNat_ofNat']; omega
      have hcv : IntKind.u8.wrap ((k : Int) + 1) = (u.toNat : Int) := by rw [huz]; exact wraps_u8 _ (by omega) (by omega)
      have HU := hide hu
      clear huz hu
      go_upto_region 10 with fail
      clear hq hcv
      obtain ⟨T, hT⟩ : ∃ T, tk prk info k = T := ⟨_, rfl⟩
      obtain ⟨L, hL⟩ : ∃ L, exk prk info n k = L := ⟨_, rfl⟩
      obtain ⟨D, hD⟩ : ∃ D, tk prk info (k + 1) = D := ⟨_, rfl⟩
      have HD : Hid (macOf prk (T ++ info ++ [u]) = D) := by rw [← hD, ← hT, HU.out]; exact rfl
      have DL : Hid (D.length = 32) := by rw [← hD]; exact tk_length prk info k
      have LL : Hid (L.length = n) := by rw [← hL]; exact exk_length prk info n k
      have TL : Hid (T.length ≤ 32) := by
        rw [← hT]
        cases k with
        | zero => exact Nat.zero_le _
        | succ j => exact Nat.le_of_eq (tk_length prk info j)
      have HNX : Hid (L.take (32 * k) ++ D.take (n - 32 * k) ++ L.drop (32 * k + (D.take (n - 32 * k)).length) = exk prk info n (k + 1)) := by
        rw [← hL, ← hD]; exact exk_succ prk info n k hlt
      have HDT := hide hD
      rw [hT, hL] at hx
      clear hT hL hD HU
      have i42 := info24 D DL.out
      go_wp2_with fail
      have hz1 : Hid (wr.heap.size + 1 = (wr.alloc (.cells #[byt u] 5)).heap.size) := by show _ = _; simp
      refine (mac_at (wr.alloc (.cells #[byt u] 5)) (wr.heap.size + 1) hz1.out vk prk (T ++ info ++ [u]) D [(.slice ao nt c, T), (.slice ai nI ci, info), (.slice (some ⟨wr.heap.size, 0, none⟩) 1 1, [u])] (by simp) HD.out ((HKY.out.below hx.out.be).below (below_new wr _)) (three_all (hx.out.ha.below (below_new wr _)) ((HI.out.below hx.out.be).below (below_new wr _)) (has_new1 wr u)) ((HK.out.below hx.out.be HK.out.lt).below (below_new wr _) (by have := HK.out.lt; have := hx.out.be.size; omega)) HPL.out (by have h1 := TL.out; have h2 := HIL.out; have h3 := HnI.out; simp only [List.length_append, List.length_cons, List.length_nil]; omega) (by simp)).mono ?_
      rintro e w2 ⟨rfl, hb2⟩
      have E2 : Hid (Below wr.heap.size wr w2) := (below_new wr _).trans (hb2.mono (by simp))
      clear hb2 hz1
      go_upto_region 11 with (first
        | (refine wpList_newAt rfl 57 rfl (z32.map byt) zero24 w2.heap.size rfl ?_)
        | (refine wpList_store_row rfl 57 (.tmp 13) (.tmp 36) rfl w2.heap.size (D.map byt).toArray rfl rfl 57 (z32.map byt).toArray (Blk.new w2 _ _) i42 (by rw [List.size_toArray, List.size_toArray, List.length_map, List.length_map, DL.out]; rfl) (byts_one _) ?_)
        | fail)
      have hcA : (0 : Int) ≤ 32 * (k : Int) := by omega
      have hcB : 32 * (k : Int) ≤ (n : Int) := by omega
      have hcC : (32 * (k : Int)).toNat = 32 * k := by omega
      have hcD : ¬ n = 32 * k := by omega
      have X3 : Ek w' ((w2.alloc (.cells (z32.map byt).toArray 57)).setRow w2.heap.size (D.map byt).toArray) g (.slice (some ⟨w2.heap.size, 0, none⟩) 32 32) L D := by
        have s2 := E2.out.size
        have lb := hx.out.bl.lt
        have B2 : Below w'.heap.size w' w2 := hx.out.be.trans (E2.out.mono hx.out.be.size)
        exact ⟨((hx.out.bl.below E2.out lb).alloc _).setRowOther _ _ (by omega), ((Blk.new w2 (z32.map byt) 57).setRow (D.map byt)).has 32 DL.out, below_setRow (B2.alloc B2.size _) _ _ B2.size, hx.out.lg, .inr (fun e => by simp [Value.ownBlock] at e; omega)⟩
      generalize (w2.alloc (.cells (z32.map byt).toArray 57)).setRow w2.heap.size (D.map byt).toArray = w3 at X3 ⊢
      generalize w2.heap.size = d at X3 ⊢
      simp only [Act.put, List.setIfInBounds_toArray, List.set_cons_zero, List.set_cons_succ]
      refine wp_region_noPanic ?_; refine wp_region_any (by kernel_rfl) ?_
      have X4 : Ek w' { w3 with drawn := w3.drawn + 1 } g (.slice (some ⟨d, 0, none⟩) 32 32) L D := ⟨X3.bl, X3.ha.below (Below.refl _ _).drew, X3.be.drew, X3.lg, X3.ne⟩
      generalize { w3 with drawn := w3.drawn + 1 } = w4 at X4 ⊢
      refine take_any (i := 0) rfl rfl (.move (.tmp 9)) rfl 37 rfl (v := (.slice (some ⟨g, 0, none⟩) n n)) (by kernel_rfl) (by kernel_rfl) (by kernel_rfl) (fun _ _ _ h => h) (fun o' ho w => by go_simp) ?_
      simp only [Act.put, List.setIfInBounds_toArray, List.set_cons_zero, List.set_cons_succ]
      refine take_any (i := 1) rfl rfl (.move (.tmp 11)) rfl 38 rfl (v := (.int .i64 ((32 * k : Nat) : Int))) (by kernel_rfl) (by kernel_rfl) (by kernel_rfl) (fun _ _ _ h => h) (fun o' ho w => by go_simp) ?_
      simp only [Act.put, List.setIfInBounds_toArray, List.set_cons_zero, List.set_cons_succ]
      refine take_any (i := 2) rfl rfl (.slice 40 (.tmp 37) (some (.tmp 38)) none none) rfl 39 rfl (v := (.slice (some ⟨g, 32 * k, none⟩) (n - 32 * k) (n - 32 * k))) (by kernel_rfl) (by kernel_rfl) (by kernel_rfl) (fun _ _ _ h => h) (fun o' ho w => by go_simp) ?_
      simp only [Act.put, List.setIfInBounds_toArray, List.set_cons_zero, List.set_cons_succ]
      refine take_any (i := 3) rfl rfl (.slice 57 (.tmp 13) none none none) rfl 40 rfl (v := (.slice (some ⟨d, 0, none⟩) 32 32)) (by kernel_rfl) (by kernel_rfl) (by kernel_rfl) (fun _ _ _ h => h) (fun o' ho w => by go_simp) ?_
      simp only [Act.put, List.setIfInBounds_toArray, List.set_cons_zero, List.set_cons_succ]
      refine only_one (i := 4) (by kernel_rfl) ?_; refine op_cpb rfl rfl (.tmp 39) (.tmp 40) rfl 41 rfl g (32 * k) (n - 32 * k) (n - 32 * k) rfl (.slice (some ⟨d, 0, none⟩) 32 32) D rfl X4.ha L 5 X4.bl (by rw [LL.out]; omega) ?_
      intro q w5 hb5 hf5
      rw [HNX.out] at hb5
      have hne : d ≠ g := by
        rcases X4.ne with h | h
        · have := DL.out; rw [h] at this; cases this
        · exact fun e => h (by rw [e]; rfl)
      have X5 : Hid (Ek w' w5 g (.slice (some ⟨d, 0, none⟩) 32 32) (exk prk info n (k + 1)) (tk prk info (k + 1))) := by
        rw [HDT.out]
        exact ⟨hb5, X4.ha.fx hf5 (fun j hj (e : j = g) => by simp [Value.ownBlock] at hj; omega), X4.be.trans (hf5.below (fun j hj (e : j = g) => by have := X4.lg; omega) X4.be.size), X4.lg, X4.ne⟩
      clear hb5 hf5 X4 hcA hcB hcC hcD
      simp only [Act.put, List.setIfInBounds_toArray, List.set_cons_zero, List.set_cons_succ]
      refine wpAny_done (by kernel_rfl) (NoPanic.normal ?_) _
      go_wp2
      go_roundw
      case rel => exact ⟨k + 1, by omega, by go_num, _, _, _, rfl, X5⟩
      case measure => simp [intOf]; omega
    · have hke : 32 * ((n + 31) / 32) = 32 * k := by omega
      obtain rfl : k = (n + 31) / 32 := by omega
      have hlz : ¬ ((32 * ((n + 31) / 32) : Nat) : Int) < (n : Int) := by omega
      rw [exk_all] at hx
      generalize (n + 31) / 32 = k at hlz ⊢
      clear hke
      go_wp2
      go_ret2
      exact ⟨g, rfl, hx.out.bl, hx.out.be, hx.out.lg⟩
set_option maxHeartbeats 400000 in
set_option maxRecDepth 100000 in
/-- 'Derive'. -/
theorem derive_ok (vs vk vi : Value) (salt key info : List UInt8) (n : Nat) (w : World) (hs : Has w vs salt) (hk : Has w vk key) (hi : Has w vi info) (hK : Kst w) (hsl : salt.length ≤ 1152921504606846976) (hkl : key.length ≤ 1000000000000000000) (hil : info.length ≤ 900000000000000000) (hn : n ≤ 8160) :
    Calls Tryd.prog 9 #[vs, vk, vi, .int .i64 (n : Int)] w fun e w' => ∃ g, e = .returned (.tuple #[.slice (some ⟨g, 0, none⟩) n n, .int .i64 0]) ∧ Tu w w' g (exOut (macOf salt key) info n) := by
  have HIL := hide hil
  clear hil
  obtain ⟨D, hD⟩ : ∃ D, macOf salt key = D := ⟨_, rfl⟩
  have l1 : D.length = 32 := by rw [← hD]; exact macOf_length _ _
  have i42 := info24 D l1
  have L1 := hide l1
  have HD := hide hD
  have HS := hide hs
  have HKY := hide hk
  have HI := hide hi
  have HK := hide hK
  have HSL := hide hsl
  have HKL := hide hkl
  clear l1 hD hs hk hi hK hsl hkl
  go_enter Tryd.func9, Tryd.ntmps9
  go_wp2_with fail
  refine (extract_is vs vk salt key D HD.out w HS.out HKY.out HK.out HSL.out HKL.out).mono ?_
  rintro e w1 ⟨rfl, hb1⟩
  have B1 := hide hb1
  clear hb1
  have E2 : Hid (Dgt w ((w1.alloc (.cells (z32.map byt).toArray 57)).setRow w1.heap.size (D.map byt).toArray) w1.heap.size D) := (Dgt.new B1.out).row
  go_upto_region 2 with (first
    | (refine wpList_newAt rfl 57 rfl (z32.map byt) zero24 w1.heap.size rfl ?_)
    | (refine wpList_store_row rfl 57 (.tmp 10) (.tmp 13) rfl w1.heap.size (D.map byt).toArray rfl rfl 57 (z32.map byt).toArray (Blk.new w1 _ _) i42 (by rw [List.size_toArray, List.size_toArray, List.length_map, List.length_map, L1.out]; rfl) (byts_one _) ?_)
    | fail)
  generalize (w1.alloc (.cells (z32.map byt).toArray 57)).setRow w1.heap.size (D.map byt).toArray = w2 at E2 ⊢
  generalize w1.heap.size = d at E2 ⊢
  simp only [Act.put, List.setIfInBounds_toArray, List.set_cons_zero, List.set_cons_succ]
  have hp : Hid (Has w2 (.slice (some ⟨d, 0, none⟩) 32 32) D) := E2.out.has 32 L1.out
  go_wp2_with fail
  refine (expand_ok (.slice (some ⟨d, 0, none⟩) 32 32) vi D info n w2 hp.out (HI.out.below E2.out.be) (HK.out.below E2.out.be HK.out.lt) (by rw [L1.out]; decide) HIL.out hn).mono ?_
  rintro e w3 ⟨g, rfl, hT⟩
  have T3 : Hid (Tu w w3 g (exOut (macOf salt key) info n)) := by
    rw [HD.out]
    exact ⟨hT.bl, E2.out.be.trans (hT.be.mono E2.out.be.size), Nat.le_trans E2.out.be.size hT.lp⟩
  clear hT
  go_wp2
  go_ret2
  exact ⟨g, rfl, T3.out⟩

end Go.Proofs.YtoceepmehmacbaaDoor
set_option linter.unusedVariables false
set_option linter.unusedSimpArgs false
namespace Go.Proofs.YtoceepmehmacbaaDoor
open Go.RowKit

section
variable {P : Program} {n : Nat} {ops : Array Oper} {Q : Exit → Act → World → Prop} {i : Nat} {ty : TypeId} {ps : String} {af : Array Edge} {gd : Option (Nat × Bool)} {r : List Oper} {e : List (Nat × Value)} {w w' : World}
end
section
variable {P : Program} {n : Nat} {ops : Array Oper} {S : Nat → World → Prop} {K : List (Nat × Value) → (World → Prop) → Prop} {i c lv : Nat} {ty : TypeId} {ps : String} {af : Array Edge} {gd : Option (Nat × Bool)} {r : List (Oper × Nat × Nat)} {e : List (Nat × Value)} {C : World → Prop}
theorem ZE.slice0 {t : TypeId} {x : Operand} {u v : Value} (h1 : decide (c = 1) = false) (hw : wantE ops e ⟨some i, .slice t x none none none, ty, ps, af, gd⟩ = some true) (hi : decide (i < n) = true) (hx : evE e x = some u) (hc : ∀ w, C w → SZ S c lv C w) (hr : ∀ w, (Instr.sliceAt t u none none none).run P w = .ok v w) (k : wpZE P n ops S K r ((i, v) :: e) C) : wpZE P n ops S K ((⟨some i, .slice t x none none none, ty, ps, af, gd⟩, c, lv) :: r) e C :=
  ZE.val h1 hw hi hc (fun a ha W hW => by simp [execOp, ha.ev hx, hr W, Result.andThen]) k
theorem ZE.s2a {t : TypeId} {x : Operand} {u v : Value} (h1 : decide (c = 1) = false) (hw : wantE ops e ⟨some i, .sliceToArrayPointer t x, ty, ps, af, gd⟩ = some true) (hi : decide (i < n) = true) (hx : evE e x = some u) (hc : ∀ w, C w → SZ S c lv C w) (hr : ∀ w, (Instr.arrayAt t u).run P w = .ok v w) (k : wpZE P n ops S K r ((i, v) :: e) C) : wpZE P n ops S K ((⟨some i, .sliceToArrayPointer t x, ty, ps, af, gd⟩, c, lv) :: r) e C :=
  ZE.val h1 hw hi hc (fun a ha W hW => by simp [execOp, ha.ev hx, hr W, Result.andThen]) k
end
/-- A key as a value. -/
def kv (K : List UInt8) : Value := .agg (K.map byt).toArray
theorem i23 {K : List UInt8} (h : K.length = 32) : (Tryd.prog.info? 23).map (·.size) = some (K.map byt).length := by rw [List.length_map, h]; kernel_rfl
theorem z23 (w : World) : (zeroValue 23).run Tryd.prog w = .ok (kv z32) w := (zero_of_info (show (Tryd.prog.info? 23).map (fun i => (i.zero, i.size)) = some (some (kv z32), 32) by kernel_rfl)).1 w
theorem bytsOne (K : List UInt8) : (K.map byt).toArray.all (·.oneCell') = true := byts_one K
theorem box23 (K : List UInt8) (w : World) : ∃ w1 q, (Instr.box 23 (kv K)).run Tryd.prog w = .ok (.pointer (some ⟨q, 0, none⟩)) w1 ∧ Blk w1 q (K.map byt) 23 ∧ Below w.heap.size w w1 ∧ q = w.heap.size :=
  ⟨_, _, run_boxR 23 _ w _ rfl, Blk.new _ _ _, below_new _ _, rfl⟩
theorem new23 (w : World) : ∃ w1 q, (Instr.alloc 23 true (.tuple #[])).run Tryd.prog w = .ok (.pointer (some ⟨q, 0, none⟩)) w1 ∧ Blk w1 q (z32.map byt) 23 ∧ Below w.heap.size w w1 ∧ q = w.heap.size :=
  ⟨_, _, run_newR 23 _ z23 w _ rfl, Blk.new _ _ _, below_new _ _, rfl⟩
theorem st23 {w : World} {q : Nat} {old K : List UInt8} {t : TypeId} (hb : Blk w q (old.map byt) t) (ho : old.length = 32) (hK : K.length = 32) : ∃ w', (Instr.storeAt 23 (.pointer (some ⟨q, 0, none⟩)) (kv K)).run Tryd.prog w = .ok () w' ∧ Blk w' q (K.map byt) t ∧ Fx (fun k => k = q) w w' :=
  ⟨_, run_storeR hb (i23 hK) (by rw [List.length_map, List.length_map, ho, hK]) (bytsOne K), hb.setRow _, Fx.setRow w q _ rfl⟩
theorem ld23 {w : World} {q : Nat} {K : List UInt8} {t : TypeId} (hb : Blk w q (K.map byt) t) (hK : K.length = 32) : (Instr.loadAt 23 (.pointer (some ⟨q, 0, none⟩))).run Tryd.prog w = .ok (kv K) w :=
  run_loadR hb (show Tryd.prog.underlying 23 = some (.array 32 5) by kernel_rfl) rfl (i23 hK)
theorem z32l : z32.length = 32 := rfl
theorem sl23 (q : Nat) (W : World) : (Instr.sliceAt 23 (.pointer (some ⟨q, 0, none⟩)) none none none).run Tryd.prog W = .ok (.slice (some ⟨q, 0, none⟩) 32 32) W := by
  go_simp
  try simp
  try rw [add_plain]
theorem bsl1 (b : UInt8) (w : World) : (Instr.buildSlice 40 1 [(0, .int .u8 (b.toNat : Int))].toArray).run Tryd.prog w = .ok (.slice (some ⟨w.heap.size, 0, none⟩) 1 1) (w.alloc (.cells #[byt b] 5)) := by
  go_simp
  try simp
  try rfl
theorem s2a (g o n c : Nat) (h : 32 ≤ n) (W : World) : (Instr.arrayAt 23 (.slice (some ⟨g, o, none⟩) n c)).run Tryd.prog W = .ok (.pointer (some ⟨g, o, none⟩)) W := by
  have h' : ¬ n < 32 := by omega
  unfold Instr.arrayAt
  go_simp
  try simp
end Go.Proofs.YtoceepmehmacbaaDoor
set_option linter.unusedVariables false
set_option linter.unusedSimpArgs false
namespace Go.Proofs.YtoceepmehmacbaaDoor
open Go.RowKit

theorem u23 : Tryd.prog.underlying 23 = some (.array 32 5) := by kernel_rfl
section
variable {n : Nat} {e : List (Nat × Value)} {w : World}
end
theorem Kst.on {w w' : World} (h : Kst w) (hb : Below w.heap.size w w') : Kst w' := h.below hb h.lt
end Go.Proofs.YtoceepmehmacbaaDoor
set_option linter.unusedVariables false
set_option linter.unusedSimpArgs false
namespace Go.Proofs.YtoceepmehmacbaaDoor
open Go.ChangeShapes Go.WideShapes Go.ChangeAt Go.RowKit
namespace Row
set_option maxRecDepth 100000 in
/-- An array of numbers that came in. -/
theorem row_of_trod {H : Type} {enc : TypeId × Value → H} {P : Program} {W : World} {base : Nat} {spare : Nat → Bool} {held : Bool} {fuel : Nat} {t e : TypeId} {n : Nat} {k : IntKind} {cs : List Value} {x : DataW H × List MemPlace} (ht : P.underlying t = some (.array n e)) (he : P.underlying e = some (.int k)) (hce : P.cellsOf e = 1) (hct : P.cellsOf t = n)
    (h : DataW.trod enc P W base spare held fuel t cs = some x) : ∃ zs : List Int, zs.length = n ∧ cs = zs.map (Value.int k) ∧ ∀ z ∈ zs, (Lit.int k z).wf = true := by
  obtain ⟨xs, m, _, _, hl, hlen, hf⟩ := DataW.trod_array ht h
  rw [hct] at hl
  obtain ⟨F, hF⟩ := Deep.choose_lt (α := Int) (n := n) (p := fun i z => cs[i]? = some (.int k z) ∧ (Lit.int k z).wf = true) (fun i hi => by
    have h1 := hf i hi
    rw [hce, List.getElem?_eq_getElem (by omega)] at h1
    obtain ⟨z, e0, _, wf⟩ := DataW.trod_int he h1
    refine ⟨z, ?_, wf⟩
    have h2 : ((cs.drop (i * 1)).take 1)[0]? = some (.int k z) := by rw [e0]; rfl
    simpa using h2)
  refine ⟨(List.range n).map F, by simp, List.ext_getElem? fun i => ?_, fun z hz => ?_⟩
  · rcases Nat.lt_or_ge i n with hi | hi
    · rw [(hF i hi).1]; simp [hi]
    · rw [List.getElem?_eq_none (by omega), List.getElem?_eq_none (by simp; omega)]
  · obtain ⟨i, hi, rfl⟩ := List.mem_map.1 hz
    exact (hF i (List.mem_range.1 hi)).2
theorem bytes_row (zs : List Int) (h : ∀ z ∈ zs, (Lit.int .u8 z).wf = true) : zs.map (Value.int .u8) = (zs.map fun z => UInt8.ofNat z.toNat).map byt := by
  rw [List.map_map]
  refine List.map_congr_left fun z hz => ?_
  have hb := wf_byte (h z hz)
  simp only [Function.comp, byt]
  rw [UInt8.toNat_ofNat', Nat.mod_eq_of_lt (by omega)]
  congr 1
  omega

set_option maxRecDepth 100000 in
/-- The three laid tables. -/
theorem consts3 {W : World} (n1 n2 n0 : String) (g1 : Tryd.prog.globalNamed n1 = some 3) (g2 : Tryd.prog.globalNamed n2 = some 2) (g0 : Tryd.prog.globalNamed n0 = some 0)
    (h : laidMetH Tryd.prog [(n1, Rows.laid_lethe_letheref02_constants), (n2, Rows.laid_lethe_letheref02_begin), (n0, Rows.laid_lethe_sha_constants)] W) : Kst W ∧ Rst W ∧ Bst W := by
  have hm : laidMet Tryd.prog [(n1, Rows.laid_lethe_letheref02_constants), (n2, Rows.laid_lethe_letheref02_begin), (n0, Rows.laid_lethe_sha_constants)] W := h
  have hm1 := hm.tail
  have hm2 := hm1.tail
  refine ⟨consts_of n0 g0 hm2, fun t ht => ?_, fun t ht => ?_⟩
  · rw [kw_wn t ht]
    have htab : Lib.TabIs Tryd.prog W n1 .u64 (Kn.map (fun n : Nat => (n : Int))) := Lib.tabIs_of_head (t := 150) (e := 68) (n := 64) g1 (by kernel_rfl) (by kernel_rfl) (by kernel_rfl) (by kernel_rfl) (by kernel_rfl) hm
    have hl : t < (Kn.map (fun n : Nat => (n : Int))).length := by rw [List.length_map, kn_length]; exact ht
    have := htab.cell g1 t hl
    simpa [List.getD_eq_getElem?_getD, List.getElem?_eq_getElem hl] using this
  · have htab : Lib.TabIs Tryd.prog W n2 .u64 (iv.map wn) := Lib.tabIs_of_head (t := 149) (e := 68) (n := 8) g2 (by kernel_rfl) (by kernel_rfl) (by kernel_rfl) (by kernel_rfl) (by kernel_rfl) hm1
    have hl : t < (iv.map wn).length := by rw [List.length_map, iv_length]; exact ht
    have := htab.cell g2 t hl
    rw [this]
    congr 2
    rw [List.getD_eq_getElem?_getD, List.getElem?_eq_getElem hl, List.getElem_map, List.getD_eq_getElem?_getD, List.getElem?_eq_getElem (by rw [iv_length]; exact ht)]
    rfl
end Row
end Go.Proofs.YtoceepmehmacbaaDoor
set_option linter.unusedVariables false
set_option linter.unusedSimpArgs false
namespace Go.Proofs.YtoceepmehmacbaaDoor
open Go.RowKit

theorem bt {a b c : World} (h : Below a.heap.size a b) (k : Below b.heap.size b c) : Below a.heap.size a c := h.trans (k.mono h.size)
theorem bf {a b c : World} {q : Nat} (h : Below a.heap.size a b) (f : Fx (fun k => k = q) b c) (hq : a.heap.size ≤ q) : Below a.heap.size a c :=
  h.trans (f.below (fun k hk e => by have e : k = q := e; omega) h.size)
/-- Levels by a property. -/
def SR (R : World → Prop) (l : Nat) (W : World) : Prop := l = 0 ∨ R W
theorem sr_anti (R : World → Prop) (m n : Nat) (W : World) (h : m ≤ n) (k : SR R n W) : SR R m W := by
  rcases k with k | k
  · exact .inl (by omega)
  · exact .inr k
theorem sr_of {R : World → Prop} {W : World} {l : Nat} {C : World → Prop} (h : SZ (SR R) 0 (l + 1) C W) : R W := by
  rcases h with h | h
  · cases h
  · exact h
theorem sr0 {R C : World → Prop} : ∀ W, C W → SZ (SR R) 0 0 C W := fun _ _ => .inl rfl
end Go.Proofs.YtoceepmehmacbaaDoor
namespace Go.Proofs.YtoceepmehmacbaaDoor
open Go.RowKit

theorem zero41 (w : World) : (zeroValue 22).run Tryd.prog w = .ok (.agg (z32.map byt).toArray) w := by
  rw [Tryd.zeroValue22]; rfl
theorem info41 (L : List UInt8) (hl : L.length = 32) : (Tryd.prog.info? 22).map (·.size) = some (L.map byt).toArray.size := by
  rw [List.size_toArray, List.length_map, hl]; kernel_rfl

/-- An equation that the walk does not look into. -/
structure Lk {α : Type} (a b : α) : Prop where
  h : a = b

/-- What is left of a word, and the byte that goes. -/
def vq (x : BitVec 32) (j : Nat) : Int := wn x / ((256 ^ j : Nat) : Int)
theorem vq_zero (x : BitVec 32) : vq x 0 = wn x := by simp [vq]
theorem vq_nonneg (x : BitVec 32) (j : Nat) : 0 ≤ vq x j := Int.ediv_nonneg (wn_nonneg x) (Int.natCast_nonneg _)
theorem vq_lt (x : BitVec 32) (j : Nat) : vq x j < 4294967296 := Int.lt_of_le_of_lt (Int.ediv_le_self _ (wn_nonneg x)) (wn_lt x)
theorem vq_rem (x : BitVec 32) (j : Nat) : (vq x j).tmod 256 = ((bo x (256 ^ j)).toNat : Int) := by
  rw [Int.tmod_eq_emod_of_nonneg (vq_nonneg x j)]
  exact bo_wn x (256 ^ j)
theorem vq_quo (x : BitVec 32) (j : Nat) : (vq x j).tdiv 256 = vq x (j + 1) := by
  rw [Int.tdiv_eq_ediv_of_nonneg (vq_nonneg x j)]
  unfold vq
  rw [Int.ediv_ediv_of_nonneg (Int.natCast_nonneg _), Nat.pow_succ]
  rfl
def bys (L : List UInt8) (i : Nat) (x : BitVec 32) : Nat → List UInt8
  | 0 => L
  | j + 1 => (bys L i x j).set (4 * i + 3 - j) (bo x (256 ^ j))
theorem bys_length (L : List UInt8) (i : Nat) (x : BitVec 32) : ∀ j, (bys L i x j).length = L.length
  | 0 => rfl
  | j + 1 => by rw [bys, List.length_set, bys_length L i x j]
theorem sets4 (L : List UInt8) (p0 p1 p2 p3 : Nat) (a b c d : UInt8) (h01 : p0 ≠ p1) (h02 : p0 ≠ p2) (h03 : p0 ≠ p3) (h12 : p1 ≠ p2) (h13 : p1 ≠ p3) (h23 : p2 ≠ p3) :
    (((L.set p3 d).set p2 c).set p1 b).set p0 a = (((L.set p0 a).set p1 b).set p2 c).set p3 d := by
  apply List.ext_getElem?
  intro j
  simp only [List.getElem?_set, List.length_set]
  by_cases e0 : p0 = j
  · subst e0; simp [h01.symm, h02.symm, h03.symm]
  · by_cases e1 : p1 = j
    · subst e1; simp [e0, h12.symm, h13.symm]
    · by_cases e2 : p2 = j
      · subst e2; simp [e0, e1, h23.symm]
      · simp [e0, e1, e2]
theorem bys4 (L : List UInt8) (i : Nat) (x : BitVec 32) : bys L i x 4 = put4 L i x := by
  unfold put4
  rw [← sets4 L (4 * i) (4 * i + 1) (4 * i + 2) (4 * i + 3) _ _ _ _ (by omega) (by omega) (by omega) (by omega) (by omega) (by omega)]
  simp only [bys]
  rw [show 4 * i + 3 - 0 = 4 * i + 3 by omega, show 4 * i + 3 - 1 = 4 * i + 2 by omega, show 4 * i + 3 - 2 = 4 * i + 1 by omega, show 4 * i + 3 - 3 = 4 * i by omega]

/-- The blocks of the document's 'bytesOf'. -/
structure Bo (w x : World) (s : List (BitVec 32)) (L : List UInt8) : Prop where
  st : Blk x w.heap.size (wvs s) 117
  re : Blk x (w.heap.size + 1) (z32.map byt) 22
  bl : Blk x (w.heap.size + 1 + 1) (L.map byt) 22
  be : Below w.heap.size w x
theorem Bo.set {w x : World} {s : List (BitVec 32)} {L : List UInt8} (h : Bo w x s L) (j : Nat) (u : UInt8) : Bo w (x.setCell ⟨w.heap.size + 1 + 1, j, none⟩ (.int .u8 (u.toNat : Int))) s (L.set j u) :=
  ⟨h.st.setOther _ _ _ (by omega), h.re.setOther _ _ _ (by omega), by rw [← byts_set]; exact h.bl.set j _, h.be.setCell (by show _ ≤ w.heap.size + 1 + 1; omega) _⟩

set_option maxHeartbeats 400000 in
set_option maxRecDepth 100000 in
theorem rbytes_any (s : List (BitVec 32)) (hs : s.length = 8) (w : World) : Calls Tryd.prog 95 #[.agg (wvs s).toArray] w fun e w' => e = .returned (.agg ((digOf s).map byt).toArray) ∧ Below w.heap.size w w' := by
  have HS := hide hs
  clear hs
  have hF : Hid (Bo w (((w.alloc (.cells (wvs s).toArray 117)).alloc (.cells (z32.map byt).toArray 22)).alloc (.cells (z32.map byt).toArray 22)) s (dgs s 0)) := by
    have b1 := Blk.new (w.alloc (.cells (wvs s).toArray 117)) (z32.map byt) 22
    rw [show (w.alloc (.cells (wvs s).toArray 117)).heap.size = w.heap.size + 1 by simp] at b1
    have b2 := Blk.new ((w.alloc (.cells (wvs s).toArray 117)).alloc (.cells (z32.map byt).toArray 22)) (z32.map byt) 22
    rw [show ((w.alloc (.cells (wvs s).toArray 117)).alloc (.cells (z32.map byt).toArray 22)).heap.size = w.heap.size + 1 + 1 by simp] at b2
    exact ⟨((Blk.new w _ _).alloc _).alloc _, b1.alloc _, b2, (bel_two w _ _ _ ⟨rfl, rfl, rfl, rfl⟩).alloc (by simp; omega) _⟩
  obtain ⟨D, hD⟩ : ∃ D, digOf s = D := ⟨_, rfl⟩
  have h32 : D.length = 32 := by rw [← hD]; exact digOf_length s
  have hsz := info41 D h32
  rw [hD]
  have HD : Lk (digOf s) D := ⟨hD⟩
  have H32 := hide h32
  clear hD h32
  have s1 : (w.alloc (.cells (wvs s).toArray 117)).heap.size = w.heap.size + 1 := by simp
  have s2 : ((w.alloc (.cells (wvs s).toArray 117)).alloc (.cells (z32.map byt).toArray 22)).heap.size = w.heap.size + 1 + 1 := by simp
  have S1 := hide s1
  have S2 := hide s2
  clear s1 s2
  go_enter Tryd.func95, Tryd.ntmps95
  go_wp2_with (first
    | (refine wpList_boxAt rfl 117 _ rfl (wvs s) rfl w.heap.size rfl ?_)
    | (refine wpList_newAt rfl 22 rfl (z32.map byt) zero41 (w.heap.size + 1) S1.out ?_)
    | (refine wpList_newAt rfl 22 rfl (z32.map byt) zero41 (w.heap.size + 1 + 1) S2.out ?_; clear S1 S2; generalize ((w.alloc (.cells (wvs s).toArray 117)).alloc (.cells (z32.map byt).toArray 22)).alloc (.cells (z32.map byt).toArray 22) = w0 at hF ⊢)
    | fail)
  go_loopw [4] (fun i wr => ∃ n : Nat, n ≤ 8 ∧ i = .int .i64 (n : Int) ∧ Hid (Bo w wr s (dgs s n))) (fun i _ => 8 - (intOf i).toNat)
  case atStart => exact ⟨0, by omega, rfl, hF⟩
  case round =>
    obtain ⟨n, hn, rfl, hx⟩ := hrel
    by_cases hlt : n < 8
    · have hlz : (n : Int) < 8 := by omega
      have hc : wr.cell? ⟨w.heap.size, n, none⟩ = some (.int .u32 (wn (s.getD n 0))) := by rw [hx.out.st.cell, wvs_at s n (by rw [HS.out]; exact hlt)]
      obtain ⟨x, hX⟩ : ∃ x, s.getD n 0 = x := ⟨_, rfl⟩
      have HX : Lk (s.getD n 0) x := ⟨hX⟩
      rw [hX] at hc
      clear hX
      go_wp2
      have hx0 : Hid (Bo w wr s (bys (dgs s n) n x 0)) := hx
      clear hx
      go_loopw [5, 6] (fun v i wx => ∃ j : Nat, j ≤ 4 ∧ i = .int .i64 (3 - (j : Int)) ∧ v = .int .u32 (vq x j) ∧ Hid (Bo w wx s (bys (dgs s n) n x j))) (fun _ i _ => (intOf i + 1).toNat)
      case atStart => exact ⟨0, by omega, rfl, by rw [vq_zero], hx0⟩
      case round =>
        obtain ⟨j, hj, rfl, rfl, hy⟩ := hrel
        by_cases hj4 : j < 4
        · have hz : (0 : Int) ≤ 3 - (j : Int) := by omega
          obtain ⟨p, hp⟩ : ∃ p, 4 * n + 3 - j = p := ⟨_, rfl⟩
          have hpz : 4 * (n : Int) + (3 - (j : Int)) = (p : Int) := by omega
          have hp32 : p < 32 := by omega
          have hpi : (p : Int) < 32 := by omega
          have hr := vq_rem x j
          have hq := vq_quo x j
          have hv0 := vq_nonneg x j
          have hv1 := vq_lt x j
          have hu0 : IntKind.u8.wrap ((bo x (256 ^ j)).toNat : Int) = ((bo x (256 ^ j)).toNat : Int) := wraps_u8 _ (Int.natCast_nonneg _) (by have := (bo x (256 ^ j)).toNat_lt; omega)
          have hc2 : ∃ v, wr.cell? ⟨w.heap.size + 1 + 1, p, none⟩ = some v := ⟨_, by rw [hy.out.bl.cell, byts_at _ _ (by rw [bys_length, dgs_length]; exact hp32)]⟩
          obtain ⟨v2, hc2⟩ := hc2
          have hfz := hy.out.bl.frozen p
          have hnx : Hid (Bo w (wr.setCell ⟨w.heap.size + 1 + 1, p, none⟩ (.int .u8 ((bo x (256 ^ j)).toNat : Int))) s (bys (dgs s n) n x (j + 1))) := by
            have := hy.out.set p (bo x (256 ^ j))
            rw [← hp] at this ⊢
            exact this
          have hwv : IntKind.u32.wrap (vq x (j + 1)) = vq x (j + 1) := by
            have h1 := vq_nonneg x (j + 1)
            have h2 := vq_lt x (j + 1)
            rw [IntKind.wrap_u32]; omega
          generalize bo x (256 ^ j) = u at *
          generalize vq x j = V0 at *
          obtain ⟨V1, HV1⟩ : ∃ V1, Lk (vq x (j + 1)) V1 := ⟨_, ⟨rfl⟩⟩
          rw [HV1.h] at hq hwv
          clear hp
          go_wp2
          go_roundw
          case rel => exact ⟨j + 1, by omega, by go_num, by rw [HV1.h], hnx⟩
          case measure => simp [intOf]; omega
        · obtain rfl : j = 4 := by omega
          rw [bys4, ← HX.h] at hy
          generalize vq x 4 = V4
          rw [show (3 : Int) - ((4 : Nat) : Int) = -1 from rfl]
          go_wp2
          go_roundw
          case rel =>
            exact ⟨n + 1, by omega, by go_num, hy⟩
          case measure => simp [intOf]; omega
    · obtain rfl : n = 8 := by omega
      have hx8 : Hid (Bo w wr s D) := by rw [← HD.h]; exact hx
      clear hx
      go_wp2_with (first
        | (refine wpList_load_row rfl 22 (.tmp 3) rfl (w.heap.size + 1 + 1) rfl 22 (D.map byt).toArray (0, 0) _ hx8.out.bl Tryd.underlying22 rfl hsz ?_)
        | (refine wpList_store_row rfl 22 (.tmp 2) (.tmp 28) rfl (w.heap.size + 1) (D.map byt).toArray rfl rfl 22 (z32.map byt).toArray hx8.out.re hsz (by rw [List.size_toArray, List.size_toArray, List.length_map, List.length_map, H32.out]; rfl) (byts_one _) ?_))
      refine bodyPost_ret (v := .agg (D.map byt).toArray) ?_ rfl ⟨rfl, below_setRow hx8.out.be _ _ (by omega)⟩
      exact results_cell_row Tryd.results95 _ _ (w.heap.size + 1) 22 _ (0, 0) _ rfl (hx8.out.re.setRow _) Tryd.underlying22 rfl hsz
end Go.Proofs.YtoceepmehmacbaaDoor
