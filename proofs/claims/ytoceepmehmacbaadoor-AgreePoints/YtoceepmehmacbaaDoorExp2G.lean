import Derived.Test.YtoceepmehmacbaaDoorRefaG
namespace Go.Proofs.YtoceepmehmacbaaDoor
open Go.RowKit

/-- The blocks of HKDF. -/
def tk (prk info : List UInt8) : Nat → List UInt8
  | 0 => []
  | k + 1 => macOf prk (tk prk info k ++ info ++ [UInt8.ofNat (k + 1)])
/-- The first k of them, one behind the other. -/
def ex (prk info : List UInt8) : Nat → List UInt8
  | 0 => []
  | k + 1 => ex prk info k ++ tk prk info (k + 1)
/-- The first n bytes. -/
def exOut (prk info : List UInt8) (n : Nat) : List UInt8 := (ex prk info ((n + 31) / 32)).take n
theorem tk_length (prk info : List UInt8) (k : Nat) : (tk prk info (k + 1)).length = 32 := macOf_length _ _
theorem ex_length (prk info : List UInt8) : ∀ k, (ex prk info k).length = 32 * k
  | 0 => rfl
  | k + 1 => by rw [ex, List.length_append, ex_length prk info k, tk_length]; omega
theorem exOut_length (prk info : List UInt8) (n : Nat) : (exOut prk info n).length = n := by
  unfold exOut
  rw [List.length_take, ex_length]; omega
/-- What lies in the list behind k blocks. -/
def exk (prk info : List UInt8) (n k : Nat) : List UInt8 := (ex prk info k).take n ++ List.replicate (n - 32 * k) 0
theorem exk_length (prk info : List UInt8) (n k : Nat) : (exk prk info n k).length = n := by
  unfold exk
  rw [List.length_append, List.length_take, ex_length, List.length_replicate]; omega
theorem exk_zero (prk info : List UInt8) (n : Nat) : exk prk info n 0 = List.replicate n 0 := by simp [exk, ex]
theorem exk_succ (prk info : List UInt8) (n k : Nat) (h : 32 * k < n) : (exk prk info n k).take (32 * k) ++ (tk prk info (k + 1)).take (n - 32 * k) ++ (exk prk info n k).drop (32 * k + ((tk prk info (k + 1)).take (n - 32 * k)).length) = exk prk info n (k + 1) := by
  have hl := ex_length prk info k
  have ht := tk_length prk info k
  have h1 : (ex prk info k).take n = ex prk info k := List.take_of_length_le (by omega)
  have h2 : (ex prk info (k + 1)).take n = ex prk info k ++ (tk prk info (k + 1)).take (n - 32 * k) := by
    rw [ex, List.take_append, h1, hl]
  unfold exk
  rw [h1, h2]
  generalize tk prk info (k + 1) = t at ht ⊢
  generalize ex prk info k = e at hl ⊢
  rw [List.take_append_of_le_length (by omega), List.take_of_length_le (by omega), List.drop_append, List.drop_eq_nil_of_le (by omega), List.nil_append, List.drop_replicate, List.length_take]
  congr 2
  omega
theorem exk_all (prk info : List UInt8) (n : Nat) : exk prk info n ((n + 31) / 32) = exOut prk info n := by
  unfold exk exOut
  rw [show n - 32 * ((n + 31) / 32) = 0 by omega, List.replicate_zero, List.append_nil]

section
variable {ops : Array Oper} {Q : Exit → Act → World → Prop}
/-- 'copy(x[o:], b)' where an order is drawn. -/
theorem op_cpb {i : Nat} {o : Oper} (hi : ops[i]? = some o) (hg : o.guard = none) {K : Act → World → Prop} {a : Act} {w : World} (d x : Operand) (ho : o.op = .call { callee := .builtin .copy, args := #[d, x], argTypes := #[40, 40] }) (dd : Nat) (hdd : o.dst = some dd)
    (p off n c : Nat) (hd : a.eval d = .slice (some ⟨p, off, none⟩) n c)
    (v : Value) (bs : List UInt8) (hx : a.eval x = v) (hv : Has w v bs) (L : List UInt8) (t : TypeId) (hB : Blk w p (L.map byt) t) (hon : off + n ≤ L.length)
    (h : ∀ (q : Int) w', Blk w' p ((L.take off ++ bs.take n ++ L.drop (off + (bs.take n).length)).map byt) t → Fx (One p) w w' → K (a.put (some dd) (.int .i64 q)) w') : wpOp Tryd.prog ops Q i K a w := by
  rw [← hdd] at h
  have hl : (bs.take n).length = min n bs.length := List.length_take
  rcases hv with ⟨rfl, rfl⟩ | ⟨ad, cap, rfl, h2, h3⟩
  · have hrun := run_copy_none (P := Tryd.prog) w 40 40 o.type 5 (some ⟨p, off, none⟩) none n c 0 0 Tryd.underlying40 info5s (by simp)
    refine op_wp hi hg ?_
    unfold Oper.wp
    simp [execOp, ho, resolve, invoke, builtin, hd, hx, hrun, Result.andThen]
    exact h 0 w (by simpa using hB) (Fx.refl _ _)
  · have hrun := run_copy_cells (P := Tryd.prog) w 40 40 o.type 5 p off n c ad bs.length cap ((bs.take n).map byt) Tryd.underlying40 info5s (by rw [List.length_map, hl]; exact Nat.min_comm _ _)
      (fun j v hj => by
        rw [List.getElem?_map, Option.map_eq_some_iff] at hj
        obtain ⟨u, hu, rfl⟩ := hj
        have hjq : j < (bs.take n).length := (List.getElem?_eq_some_iff.1 hu).1
        rw [List.getElem?_take_of_lt (by omega)] at hu
        exact h3 j u hu)
      (fun j hj => by
        rw [List.length_map] at hj
        rw [hB.cell, List.getElem?_eq_getElem (by rw [List.length_map]; omega)]; rfl) (fun j _ => hB.frozen _) (byt_one _)
    refine op_wp hi hg ?_
    unfold Oper.wp
    rw [List.length_map] at hrun
    have hb := Blk.setCells ((bs.take n).map byt) off w (L.map byt) hB (by rw [List.length_map, List.length_map]; omega)
    have hfin := h ((bs.take n).length : Int) (w.setCells p off ((bs.take n).map byt)) (by
      rw [List.length_map] at hb
      rw [List.map_append, List.map_append, List.map_drop, show (L.take off).map byt = (L.map byt).take off from List.map_take]
      exact hb) (Fx.setCells (S := One p) p rfl _ _ _)
    generalize w.setCells p off ((bs.take n).map byt) = w' at hrun hfin
    generalize (bs.take n).length = q at hrun hfin
    simp [execOp, ho, resolve, invoke, builtin, hd, hx, hrun, Result.andThen]
    exact hfin
end

/-- 'bounded'. -/
theorem bounded_ok (n m : Int) (w : World) (h0 : 0 ≤ n) (h1 : n ≤ m) : Calls Tryd.prog 30 #[.int .i64 n, .int .i64 m] w fun e w' => e = .returned (.int .i64 0) ∧ w' = w := by
  have a0 : ¬ n < 0 := by omega
  have a1 : ¬ m < n := by omega
  go_enter Tryd.func30, Tryd.ntmps30
  go_wp2
  go_ret
  exact ⟨rfl, rfl⟩
end Go.Proofs.YtoceepmehmacbaaDoor

namespace Go.Proofs.YtoceepmehmacbaaDoor
open Go.RowKit

/-- The list of 'Expand', and the block that came last. -/
structure Ek (w x : World) (g : Nat) (v : Value) (L T : List UInt8) : Prop where
  bl : Blk x g (L.map byt) 5
  ha : Has x v T
  be : Below w.heap.size w x
  lg : w.heap.size ≤ g
  ne : T = [] ∨ v.ownBlock ≠ some g

set_option maxHeartbeats 400000 in
set_option maxRecDepth 100000 in
theorem expand_ok (vk vi : Value) (prk info : List UInt8) (n : Nat) (w : World) (hk : Has w vk prk) (hi : Has w vi info) (hK : Kst w) (hpl : prk.length ≤ 1152921504606846976) (hil : info.length ≤ 900000000000000000) (hn : n ≤ 8160) :
    Calls Tryd.prog 17 #[vk, vi, .int .i64 (n : Int)] w fun e w' => ∃ g, e = .returned (.tuple #[.slice (some ⟨g, 0, none⟩) n n, .int .i64 0]) ∧ Tu w w' g (exOut prk info n) := by
  obtain ⟨ai, ci, rfl⟩ := hi.slice
  obtain ⟨nI, hnI⟩ : ∃ nI, info.length = nI := ⟨_, rfl⟩
  rw [hnI] at hi hil ⊢
  have HKY := hide hk
  have HI := hide hi
  have HK := hide hK
  have HPL := hide hpl
  have HIL := hide hil
  have HnI := hide hnI
  have hnz : (n : Int) ≤ 8160 := by omega
  have hn0 : (0 : Int) ≤ (n : Int) := by omega
  clear hk hi hK hpl hil hnI
  have hS : Hid (Ek w (w.alloc (.cells ((List.replicate n 0).map byt).toArray 5)) w.heap.size (.slice none 0 0) (exk prk info n 0) (tk prk info 0)) := by
    rw [exk_zero]
    exact ⟨Blk.new w _ _, Has.nil _, below_new w _, Nat.le_refl _, .inl rfl⟩
  obtain ⟨g, hg⟩ : ∃ g, g = w.heap.size := ⟨_, rfl⟩
  rw [← hg] at hS
  go_enter Tryd.func17, Tryd.ntmps17
  go_wp2_with (first
    | (go_at_call 30; refine (bounded_ok (n : Int) 8160 _ hn0 hnz).mono ?_; rintro e w' ⟨rfl, rfl⟩)
    | (refine wpList_mkB rfl (.tmp 19) (.tmp 19) rfl n n rfl rfl rfl (by omega) g hg ?_; clear hg; generalize w'.alloc (.cells ((List.replicate n 0).map byt).toArray 5) = w0 at hS ⊢)
    | fail)
  go_loopw [10, 11] (fun a i wr => ∃ k : Nat, k ≤ (n + 31) / 32 ∧ i = .int .i64 ((32 * k : Nat) : Int) ∧ ∃ ao nt c, a = .slice ao nt c ∧ Hid (Ek w' wr g (.slice ao nt c) (exk prk info n k) (tk prk info k))) (fun _ i _ => n + 32 - (intOf i).toNat)
  case atStart => exact ⟨0, by omega, rfl, none, 0, 0, rfl, hS⟩
  case round =>
    obtain ⟨k, hk, rfl, ao, nt, c, rfl, hx⟩ := hrel
    by_cases hlt : 32 * k < n
    · have hlz : ((32 * k : Nat) : Int) < (n : Int) := by omega
      have hk254 : k ≤ 254 := by omega
      have hq : ((32 * k : Nat) : Int).tdiv 32 = (k : Int) := by rw [Int.tdiv_eq_ediv_of_nonneg (by omega)]; omega
      obtain ⟨u, hu⟩ : ∃ u : UInt8, u = UInt8.ofNat (k + 1) := ⟨_, rfl⟩
      have huz : (u.toNat : Int) = (k : Int) + 1 := by rw [hu, UInt8.toNat_ofNat']; omega
      have hcv : IntKind.u8.wrap ((k : Int) + 1) = (u.toNat : Int) := by rw [huz]; exact wraps_u8 _ (by omega) (by omega)
      have HU := hide hu
      clear huz hu
      go_upto_region 10 with fail
      clear hq hcv
      obtain ⟨T, hT⟩ : ∃ T, tk prk info k = T := ⟨_, rfl⟩
      obtain ⟨L, hL⟩ : ∃ L, exk prk info n k = L := ⟨_, rfl⟩
      obtain ⟨D, hD⟩ : ∃ D, tk prk info (k + 1) = D := ⟨_, rfl⟩
      have HD : Hid (macOf prk (T ++ info ++ [u]) = D) := by rw [← hD, ← hT, HU.out]; exact rfl
      have DL : Hid (D.length = 32) := by rw [← hD]; exact tk_length prk info k
      have LL : Hid (L.length = n) := by rw [← hL]; exact exk_length prk info n k
      have TL : Hid (T.length ≤ 32) := by
        rw [← hT]
        cases k with
        | zero => exact Nat.zero_le _
        | succ j => exact Nat.le_of_eq (tk_length prk info j)
      have HNX : Hid (L.take (32 * k) ++ D.take (n - 32 * k) ++ L.drop (32 * k + (D.take (n - 32 * k)).length) = exk prk info n (k + 1)) := by
        rw [← hL, ← hD]; exact exk_succ prk info n k hlt
      have HDT := hide hD
      rw [hT, hL] at hx
      clear hT hL hD HU
      have i42 := info24 D DL.out
      go_wp2_with fail
      have hz1 : Hid (wr.heap.size + 1 = (wr.alloc (.cells #[byt u] 5)).heap.size) := by show _ = _; simp
      refine (mac_at (wr.alloc (.cells #[byt u] 5)) (wr.heap.size + 1) hz1.out vk prk (T ++ info ++ [u]) D [(.slice ao nt c, T), (.slice ai nI ci, info), (.slice (some ⟨wr.heap.size, 0, none⟩) 1 1, [u])] (by simp) HD.out ((HKY.out.below hx.out.be).below (below_new wr _)) (three_all (hx.out.ha.below (below_new wr _)) ((HI.out.below hx.out.be).below (below_new wr _)) (has_new1 wr u)) ((HK.out.below hx.out.be HK.out.lt).below (below_new wr _) (by have := HK.out.lt; have := hx.out.be.size; omega)) HPL.out (by have h1 := TL.out; have h2 := HIL.out; have h3 := HnI.out; simp only [List.length_append, List.length_cons, List.length_nil]; omega) (by simp)).mono ?_
      rintro e w2 ⟨rfl, hb2⟩
      have E2 : Hid (Below wr.heap.size wr w2) := (below_new wr _).trans (hb2.mono (by simp))
      clear hb2 hz1
      go_upto_region 11 with (first
        | (refine wpList_newAt rfl 57 rfl (z32.map byt) zero24 w2.heap.size rfl ?_)
        | (refine wpList_store_row rfl 57 (.tmp 13) (.tmp 36) rfl w2.heap.size (D.map byt).toArray rfl rfl 57 (z32.map byt).toArray (Blk.new w2 _ _) i42 (by rw [List.size_toArray, List.size_toArray, List.length_map, List.length_map, DL.out]; rfl) (byts_one _) ?_)
        | fail)
      have hcA : (0 : Int) ≤ 32 * (k : Int) := by omega
      have hcB : 32 * (k : Int) ≤ (n : Int) := by omega
      have hcC : (32 * (k : Int)).toNat = 32 * k := by omega
      have hcD : ¬ n = 32 * k := by omega
      have X3 : Ek w' ((w2.alloc (.cells (z32.map byt).toArray 57)).setRow w2.heap.size (D.map byt).toArray) g (.slice (some ⟨w2.heap.size, 0, none⟩) 32 32) L D := by
        have s2 := E2.out.size
        have lb := hx.out.bl.lt
        have B2 : Below w'.heap.size w' w2 := hx.out.be.trans (E2.out.mono hx.out.be.size)
        exact ⟨((hx.out.bl.below E2.out lb).alloc _).setRowOther _ _ (by omega), ((Blk.new w2 (z32.map byt) 57).setRow (D.map byt)).has 32 DL.out, below_setRow (B2.alloc B2.size _) _ _ B2.size, hx.out.lg, .inr (fun e => by simp [Value.ownBlock] at e; omega)⟩
      generalize (w2.alloc (.cells (z32.map byt).toArray 57)).setRow w2.heap.size (D.map byt).toArray = w3 at X3 ⊢
      generalize w2.heap.size = d at X3 ⊢
      simp only [Act.put, List.setIfInBounds_toArray, List.set_cons_zero, List.set_cons_succ]
      refine wp_region_noPanic ?_
      refine wp_region_any (by kernel_rfl) ?_
      have X4 : Ek w' { w3 with drawn := w3.drawn + 1 } g (.slice (some ⟨d, 0, none⟩) 32 32) L D := ⟨X3.bl, X3.ha.below (Below.refl _ _).drew, X3.be.drew, X3.lg, X3.ne⟩
      generalize { w3 with drawn := w3.drawn + 1 } = w4 at X4 ⊢
      refine take_any (i := 0) rfl rfl (.move (.tmp 9)) rfl 37 rfl (v := (.slice (some ⟨g, 0, none⟩) n n)) (by kernel_rfl) (by kernel_rfl) (by kernel_rfl) (fun _ _ _ h => h) (fun o' ho w => by go_simp) ?_
      simp only [Act.put, List.setIfInBounds_toArray, List.set_cons_zero, List.set_cons_succ]
      refine take_any (i := 1) rfl rfl (.move (.tmp 11)) rfl 38 rfl (v := (.int .i64 ((32 * k : Nat) : Int))) (by kernel_rfl) (by kernel_rfl) (by kernel_rfl) (fun _ _ _ h => h) (fun o' ho w => by go_simp) ?_
      simp only [Act.put, List.setIfInBounds_toArray, List.set_cons_zero, List.set_cons_succ]
      refine take_any (i := 2) rfl rfl (.slice 40 (.tmp 37) (some (.tmp 38)) none none) rfl 39 rfl (v := (.slice (some ⟨g, 32 * k, none⟩) (n - 32 * k) (n - 32 * k))) (by kernel_rfl) (by kernel_rfl) (by kernel_rfl) (fun _ _ _ h => h) (fun o' ho w => by go_simp) ?_
      simp only [Act.put, List.setIfInBounds_toArray, List.set_cons_zero, List.set_cons_succ]
      refine take_any (i := 3) rfl rfl (.slice 57 (.tmp 13) none none none) rfl 40 rfl (v := (.slice (some ⟨d, 0, none⟩) 32 32)) (by kernel_rfl) (by kernel_rfl) (by kernel_rfl) (fun _ _ _ h => h) (fun o' ho w => by go_simp) ?_
      simp only [Act.put, List.setIfInBounds_toArray, List.set_cons_zero, List.set_cons_succ]
      refine only_one (i := 4) (by kernel_rfl) ?_
      refine op_cpb rfl rfl (.tmp 39) (.tmp 40) rfl 41 rfl g (32 * k) (n - 32 * k) (n - 32 * k) rfl (.slice (some ⟨d, 0, none⟩) 32 32) D rfl X4.ha L 5 X4.bl (by rw [LL.out]; omega) ?_
      intro q w5 hb5 hf5
      rw [HNX.out] at hb5
      have hne : d ≠ g := by
        rcases X4.ne with h | h
        · have := DL.out; rw [h] at this; cases this
        · exact fun e => h (by rw [e]; rfl)
      have X5 : Hid (Ek w' w5 g (.slice (some ⟨d, 0, none⟩) 32 32) (exk prk info n (k + 1)) (tk prk info (k + 1))) := by
        rw [HDT.out]
        exact ⟨hb5, X4.ha.fx hf5 (fun j hj (e : j = g) => by simp [Value.ownBlock] at hj; omega), X4.be.trans (hf5.below (fun j hj (e : j = g) => by have := X4.lg; omega) X4.be.size), X4.lg, X4.ne⟩
      clear hb5 hf5 X4 hcA hcB hcC hcD
      simp only [Act.put, List.setIfInBounds_toArray, List.set_cons_zero, List.set_cons_succ]
      refine wpAny_done (by kernel_rfl) (NoPanic.normal ?_) _
      go_wp2
      go_roundw
      case rel => exact ⟨k + 1, by omega, by go_num, _, _, _, rfl, X5⟩
      case measure => simp [intOf]; omega
    · have hke : 32 * ((n + 31) / 32) = 32 * k := by omega
      obtain rfl : k = (n + 31) / 32 := by omega
      have hlz : ¬ ((32 * ((n + 31) / 32) : Nat) : Int) < (n : Int) := by omega
      rw [exk_all] at hx
      generalize (n + 31) / 32 = k at hlz ⊢
      clear hke
      go_wp2
      go_ret2
      exact ⟨g, rfl, hx.out.bl, hx.out.be, hx.out.lg⟩
end Go.Proofs.YtoceepmehmacbaaDoor
