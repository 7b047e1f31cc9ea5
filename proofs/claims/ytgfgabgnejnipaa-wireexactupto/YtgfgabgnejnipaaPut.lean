import Derived.Test.YtgfgabgnejnipaaFields
namespace Go.Proofs.Ytgfgabgnejnipaa
open Go.RowKit

theorem mask_and (n : Int) (i : Nat) (hi : i ≤ 32) : bits .and .i64 n (((2 ^ i - 1 : Nat) : Nat) : Int) = n % ((2 ^ i : Nat) : Int) := by
  have hp : 2 ^ i ≤ 4294967296 := by
    have := Nat.pow_le_pow_right (n := 2) (by decide) hi
    simpa using this
  have hpos : 0 < 2 ^ i := Nat.two_pow_pos i
  show IntKind.i64.wrap (((BitVec.ofInt 64 n) &&& (BitVec.ofInt 64 (((2 ^ i - 1 : Nat) : Nat) : Int))).toNat : Int) = _
  rw [BitVec.toNat_and, BitVec.ofInt_natCast, BitVec.toNat_ofNat, Nat.mod_eq_of_lt (show 2 ^ i - 1 < 2 ^ 64 by omega), Nat.and_two_pow_sub_one_eq_mod, BitVec.toNat_ofInt]
  have h1 : (n % ((2 ^ 64 : Nat) : Int)).toNat % 2 ^ i < 2 ^ i := Nat.mod_lt _ hpos
  rw [IntKind.wrap_i64]
  have h2 : (((n % ((2 ^ 64 : Nat) : Int)).toNat % 2 ^ i : Nat) : Int) = n % ((2 ^ i : Nat) : Int) := by
    rw [Int.natCast_emod, Int.toNat_of_nonneg (Int.emod_nonneg _ (by decide))]
    apply Int.emod_emod_of_dvd
    exact Int.natCast_dvd_natCast.2 (Nat.pow_dvd_pow 2 (by omega))
  rw [← h2]
  omega

theorem mask8 (n : Int) : bits .and .i64 n 255 = n % 256 := mask_and n 8 (by decide)
theorem mask16 (n : Int) : bits .and .i64 n 65535 = n % 65536 := mask_and n 16 (by decide)
theorem mask32 (n : Int) : bits .and .i64 n 4294967295 = n % 4294967296 := mask_and n 32 (by decide)

set_option maxRecDepth 100000 in
set_option maxHeartbeats 400000 in
theorem short_any (v : Value) (bs : List UInt8) (w : World) (h : Has w v bs) (hn : bs.length ≤ 9223372036854775807) :
    Calls Try.prog 41 #[v] w fun e w' => ∃ ao cap, e = .returned (.slice ao (bs.take 300).length cap) ∧ (∀ W, Has W v bs → Has W (.slice ao (bs.take 300).length cap) (bs.take 300)) ∧ w = w' := by
  have hlen := h.len
  by_cases hl : bs.length ≤ 300
  · have hl' : ¬ (300 : Int) < (bs.length : Int) := by omega
    obtain ⟨ao, cap, rfl⟩ := h.slice
    have e1 : bs.take 300 = bs := List.take_of_length_le hl
    have E1 := hide e1
    clear e1 h
    go_enter Try.func41, Try.ntmps41
    go_wp2
    go_ret
    exact ⟨ao, cap, by first | rfl | (rw [E1.out]; rfl), by first | exact fun W hW => hW | (rw [E1.out]; exact fun W hW => hW), rfl⟩
  · have hl' : (300 : Int) < (bs.length : Int) := by omega
    have s1 : ∀ W, (Instr.slice 22 v none (some (.int .i64 300)) none).run Try.prog W = .ok (cutV v 0 300) W := h.cutH 300 (by omega)
    obtain ⟨ao, cap, hs⟩ := cut_shape h 0 300
    rw [hs] at s1
    have e2 : (bs.take 300).length = 300 := by simp; omega
    have E2 := hide e2
    have HC : Hid (∀ W, Has W v bs → Has W (.slice ao 300 cap) (bs.take 300)) := fun W hW => by have := hW.cut 0 300 (by omega) (by omega); rw [hs] at this; exact this
    clear h hs e2
    go_enter Try.func41, Try.ntmps41
    go_wp2
    go_ret
    exact ⟨ao, cap, by first | rfl | (rw [E2.out]; rfl), by first | exact HC.out | (rw [E2.out]; exact HC.out), rfl⟩

theorem short_is (v : Value) (bs ts : List UInt8) (w : World) (h : Has w v bs) (hn : bs.length ≤ 9223372036854775807) (ht : bs.take 300 = ts) :
    Calls Try.prog 41 #[v] w fun e w' => ∃ ao cap, e = .returned (.slice ao ts.length cap) ∧ (∀ W, Has W v bs → Has W (.slice ao ts.length cap) ts) ∧ w = w' := by
  subst ht; exact short_any v bs w h hn

/-- A field's bytes, as the statement puts them. -/
def enc (kind n : Int) (bs : List UInt8) : List UInt8 :=
  if kind % 5 = 0 then [UInt8.ofNat (n % 256).toNat]
  else if kind % 5 = 1 then be16 (n % 65536).toNat
  else if kind % 5 = 2 then be32 (n % 4294967296).toNat
  else if kind % 5 = 3 then bs.take 300
  else be16 (bs.take 300).length ++ bs.take 300

def fieldV (kind n : Int) (v : Value) : Value := .agg #[.int .i64 kind, .int .i64 n, v]

set_option maxRecDepth 100000 in
set_option maxHeartbeats 1000000 in
theorem put_0 (p : Nat) (v : Value) (most : Nat) (bs : List UInt8) (f : Int) (kind n : Int) (fo : Option Addr) (fc fl : Nat) (w : World) (h : Wr w p v most bs f) (hm : most ≤ 1048576) (hbl : bs.length ≤ most) (hk : kind % 5 = 0) :
    Calls Try.prog 18 #[.pointer (some ⟨p, 0, none⟩), .agg #[.int .i64 kind, .int .i64 n, .slice fo fl fc]] w fun e w' => e = .returned (.tuple #[]) ∧ ∃ v', Wr w' p v' most (put1 most bs f ([UInt8.ofNat (n % 256).toNat])).1 (put1 most bs f ([UInt8.ofNat (n % 256).toNat])).2 ∧ Below p w w' := by
  have hb0 := below_new w (.cells #[.int .i64 kind, .int .i64 n, .slice fo fl fc] 42)
  have HB := hide (hb0.mono (Nat.le_of_lt h.lt))
  have HX := hide (h.below hb0)
  have HK := hide hk
  clear hk hb0 h
  have hbit : bits .and .i64 n 255 = ((UInt8.ofNat (n % 256).toNat).toNat : Int) := by
    rw [mask8, UInt8.toNat_ofNat', Nat.mod_eq_of_lt (by omega)]; omega
  generalize UInt8.ofNat (n % 256).toNat = b at *
  go_enter Try.func18, Try.ntmps18
  go_wp2_with fail
  refine (rest_any _ _ _ (by omega) (by omega)).mono ?_
  rintro e w1 ⟨rfl, rfl⟩
  rw [HK.out]
  go_wp2_with fail
  refine (u8_ok p v most bs f b _ HX.out hm hbl).mono ?_
  rintro e w2 ⟨rfl, v', h1, h2⟩
  have H1 := hide h1
  have H2 := hide (HB.out.trans h2)
  clear h1 h2 HB
  go_wp2
  go_end0
  exact ⟨rfl, v', H1.out, H2.out⟩

set_option maxRecDepth 100000 in
set_option maxHeartbeats 1000000 in
theorem put_1 (p : Nat) (v : Value) (most : Nat) (bs : List UInt8) (f : Int) (kind n : Int) (fo : Option Addr) (fc fl : Nat) (w : World) (h : Wr w p v most bs f) (hm : most ≤ 1048576) (hbl : bs.length ≤ most) (hk : kind % 5 = 1) :
    Calls Try.prog 18 #[.pointer (some ⟨p, 0, none⟩), .agg #[.int .i64 kind, .int .i64 n, .slice fo fl fc]] w fun e w' => e = .returned (.tuple #[]) ∧ ∃ v', Wr w' p v' most (put1 most bs f (be16 (n % 65536).toNat)).1 (put1 most bs f (be16 (n % 65536).toNat)).2 ∧ Below p w w' := by
  have hb0 := below_new w (.cells #[.int .i64 kind, .int .i64 n, .slice fo fl fc] 42)
  have HB := hide (hb0.mono (Nat.le_of_lt h.lt))
  have HX := hide (h.below hb0)
  have HK := hide hk
  clear hk hb0 h
  have hbit : bits .and .i64 n 65535 = ((n % 65536).toNat : Int) := by rw [mask16]; omega
  have hlt : (n % 65536).toNat < 65536 := by omega
  generalize (n % 65536).toNat = b at *
  go_enter Try.func18, Try.ntmps18
  go_wp2_with fail
  refine (rest_any _ _ _ (by omega) (by omega)).mono ?_
  rintro e w1 ⟨rfl, rfl⟩
  rw [HK.out]
  go_wp2_with fail
  refine (u16_ok p v most bs f b _ HX.out hm hbl hlt).mono ?_
  rintro e w2 ⟨rfl, v', h1, h2⟩
  have H1 := hide h1
  have H2 := hide (HB.out.trans h2)
  clear h1 h2 HB
  go_wp2
  go_end0
  exact ⟨rfl, v', H1.out, H2.out⟩

set_option maxRecDepth 100000 in
set_option maxHeartbeats 1000000 in
theorem put_2 (p : Nat) (v : Value) (most : Nat) (bs : List UInt8) (f : Int) (kind n : Int) (fo : Option Addr) (fc fl : Nat) (w : World) (h : Wr w p v most bs f) (hm : most ≤ 1048576) (hbl : bs.length ≤ most) (hk : kind % 5 = 2) :
    Calls Try.prog 18 #[.pointer (some ⟨p, 0, none⟩), .agg #[.int .i64 kind, .int .i64 n, .slice fo fl fc]] w fun e w' => e = .returned (.tuple #[]) ∧ ∃ v', Wr w' p v' most (put1 most bs f (be32 (n % 4294967296).toNat)).1 (put1 most bs f (be32 (n % 4294967296).toNat)).2 ∧ Below p w w' := by
  have hb0 := below_new w (.cells #[.int .i64 kind, .int .i64 n, .slice fo fl fc] 42)
  have HB := hide (hb0.mono (Nat.le_of_lt h.lt))
  have HX := hide (h.below hb0)
  have HK := hide hk
  clear hk hb0 h
  have hbit : bits .and .i64 n 4294967295 = ((n % 4294967296).toNat : Int) := by rw [mask32]; omega
  have hlt : (n % 4294967296).toNat < 4294967296 := by omega
  generalize (n % 4294967296).toNat = b at *
  go_enter Try.func18, Try.ntmps18
  go_wp2_with fail
  refine (rest_any _ _ _ (by omega) (by omega)).mono ?_
  rintro e w1 ⟨rfl, rfl⟩
  rw [HK.out]
  go_wp2_with fail
  refine (u32_ok p v most bs f b _ HX.out hm hbl hlt).mono ?_
  rintro e w2 ⟨rfl, v', h1, h2⟩
  have H1 := hide h1
  have H2 := hide (HB.out.trans h2)
  clear h1 h2 HB
  go_wp2
  go_end0
  exact ⟨rfl, v', H1.out, H2.out⟩

/-- One part that lay there. -/
theorem fixed_one (p : Nat) (v pv : Value) (most : Nat) (bs : List UInt8) (f : Int) (w : World) (ts : List UInt8) (h : Wr w p v most bs f) (hm : most ≤ 1048576) (hbl : bs.length ≤ most) (hy : HasP w p pv ts) (hl : ts.length ≤ 150000000000000) (g : Nat) (hgz : g = w.heap.size) :
    Calls Try.prog 40 #[.pointer (some ⟨p, 0, none⟩), .slice (some ⟨g, 0, none⟩) 1 1] (w.alloc (.cells #[pv] 22)) fun e w' => e = .returned (.tuple #[]) ∧ ∃ v', Wr w' p v' most (put1 most bs f ts).1 (put1 most bs f ts).2 ∧ Below p w w' := by
  subst hgz
  have hb := below_new w (.cells #[pv] 22)
  have hbp := hb.mono (Nat.le_of_lt h.lt)
  refine (fixed_any p v most bs f w.heap.size 1 [(pv, ts)] _ (h.below hb) hm hbl (at_new w _ _ ⟨rfl, rfl, rfl, rfl⟩) ?_ ?_ (by simp) rfl).mono ?_
  · intro q hq
    simp only [List.mem_cons, List.not_mem_nil, or_false] at hq
    subst hq
    exact ⟨(hy.below hbp).has, hl⟩
  · intro j q hj hq
    obtain ⟨i, rfl⟩ : ∃ i, j = i + 1 := ⟨j - 1, by omega⟩
    simp at hq
  · rintro e w' ⟨h1, v', h2, h3⟩
    exact ⟨h1, v', by simpa using h2, hbp.trans h3⟩

set_option maxRecDepth 100000 in
set_option maxHeartbeats 1000000 in
theorem put_4 (p : Nat) (v : Value) (most : Nat) (bs : List UInt8) (f : Int) (kind n : Int) (fo : Option Addr) (fc fl : Nat) (ys ts : List UInt8) (w : World) (h : Wr w p v most bs f) (hm : most ≤ 1048576) (hbl : bs.length ≤ most) (hy : HasP w p (.slice fo fl fc) ys) (hyl : ys.length ≤ 9223372036854775807) (ht : ys.take 300 = ts) (hk : kind % 5 = 4) :
    Calls Try.prog 18 #[.pointer (some ⟨p, 0, none⟩), .agg #[.int .i64 kind, .int .i64 n, .slice fo fl fc]] w fun e w' => e = .returned (.tuple #[]) ∧ ∃ v', Wr w' p v' most (put1 most bs f (be16 ts.length ++ ts)).1 (put1 most bs f (be16 ts.length ++ ts)).2 ∧ Below p w w' := by
  have hb0 := below_new w (.cells #[.int .i64 kind, .int .i64 n, .slice fo fl fc] 42)
  have HB := hide (hb0.mono (Nat.le_of_lt h.lt))
  have HX := hide (h.below hb0)
  have HK := hide hk
  clear hk hb0 h
  have HY := hide (hy.below HB.out)
  have htl : ts.length ≤ 300 := by rw [← ht]; simp; omega
  have HT := hide ht
  clear hy ht
  go_enter Try.func18, Try.ntmps18
  go_wp2_with fail
  refine (rest_any _ _ _ (by omega) (by omega)).mono ?_
  rintro e w1 ⟨rfl, rfl⟩
  rw [HK.out]
  go_wp2_with fail
  refine (short_is _ ys ts _ HY.out.has hyl HT.out).mono ?_
  rintro e w3 ⟨ao, cap, rfl, hs, rfl⟩
  have HS := hide hs
  clear hs
  go_wp2_with fail
  refine (run_ok p v _ most bs ts f _ HX.out hm hbl (fun W hW => HS.out W (HY.out W hW)) (by omega)).mono ?_
  rintro e w2 ⟨rfl, v', h1, h2⟩
  have H1 := hide h1
  have H2 := hide (HB.out.trans h2)
  clear h1 h2 HB
  go_wp2
  go_end0
  exact ⟨rfl, v', H1.out, H2.out⟩

set_option maxRecDepth 100000 in
set_option maxHeartbeats 1000000 in
theorem put_3 (p : Nat) (v : Value) (most : Nat) (bs : List UInt8) (f : Int) (kind n : Int) (fo : Option Addr) (fc fl : Nat) (ys ts : List UInt8) (w : World) (h : Wr w p v most bs f) (hm : most ≤ 1048576) (hbl : bs.length ≤ most) (hy : HasP w p (.slice fo fl fc) ys) (hyl : ys.length ≤ 9223372036854775807) (ht : ys.take 300 = ts) (hk : kind % 5 = 3) :
    Calls Try.prog 18 #[.pointer (some ⟨p, 0, none⟩), .agg #[.int .i64 kind, .int .i64 n, .slice fo fl fc]] w fun e w' => e = .returned (.tuple #[]) ∧ ∃ v', Wr w' p v' most (put1 most bs f ts).1 (put1 most bs f ts).2 ∧ Below p w w' := by
  have hb0 := below_new w (.cells #[.int .i64 kind, .int .i64 n, .slice fo fl fc] 42)
  have HB := hide (hb0.mono (Nat.le_of_lt h.lt))
  have HX := hide (h.below hb0)
  have HK := hide hk
  clear hk hb0 h
  have HY := hide (hy.below HB.out)
  have htl : ts.length ≤ 300 := by rw [← ht]; simp; omega
  have HT := hide ht
  clear hy ht
  go_enter Try.func18, Try.ntmps18
  go_wp2_with fail
  refine (rest_any _ _ _ (by omega) (by omega)).mono ?_
  rintro e w1 ⟨rfl, rfl⟩
  rw [HK.out]
  go_wp2_with fail
  refine (short_is _ ys ts _ HY.out.has hyl HT.out).mono ?_
  rintro e w3 ⟨ao, cap, rfl, hs, rfl⟩
  have HS := hide hs
  clear hs
  go_wp2_with fail
  refine (fixed_one p v _ most bs f _ ts HX.out hm hbl (fun W hW => HS.out W (HY.out W hW)) (by omega) _ (by simp)).mono ?_
  rintro e w2 ⟨rfl, v', h1, h2⟩
  have H1 := hide h1
  have H2 := hide (HB.out.trans h2)
  clear h1 h2 HB
  go_wp2
  go_end0
  exact ⟨rfl, v', H1.out, H2.out⟩

theorem put_any (p : Nat) (v fv : Value) (most : Nat) (bs : List UInt8) (f : Int) (kind n : Int) (ys : List UInt8) (w : World) (h : Wr w p v most bs f) (hm : most ≤ 1048576) (hbl : bs.length ≤ most) (hy : HasP w p fv ys) (hyl : ys.length ≤ 9223372036854775807) :
    Calls Try.prog 18 #[.pointer (some ⟨p, 0, none⟩), fieldV kind n fv] w fun e w' => e = .returned (.tuple #[]) ∧ ∃ v', Wr w' p v' most (put1 most bs f (enc kind n ys)).1 (put1 most bs f (enc kind n ys)).2 ∧ Below p w w' := by
  obtain ⟨fo, fc, rfl⟩ := hy.has.slice
  unfold enc fieldV
  have h5 : kind % 5 = 0 ∨ kind % 5 = 1 ∨ kind % 5 = 2 ∨ kind % 5 = 3 ∨ kind % 5 = 4 := by omega
  rcases h5 with hk | hk | hk | hk | hk
  · rw [if_pos hk]; exact put_0 p v most bs f kind n fo fc _ w h hm hbl hk
  · rw [if_neg (by omega), if_pos hk]; exact put_1 p v most bs f kind n fo fc _ w h hm hbl hk
  · rw [if_neg (by omega), if_neg (by omega), if_pos hk]; exact put_2 p v most bs f kind n fo fc _ w h hm hbl hk
  · rw [if_neg (by omega), if_neg (by omega), if_neg (by omega), if_pos hk]; exact put_3 p v most bs f kind n fo fc _ ys _ w h hm hbl hy hyl rfl hk
  · rw [if_neg (by omega), if_neg (by omega), if_neg (by omega), if_neg (by omega)]; exact put_4 p v most bs f kind n fo fc _ ys _ w h hm hbl hy hyl rfl hk

theorem be16_length (n : Nat) : (be16 n).length = 2 := rfl
theorem be32_length (n : Nat) : (be32 n).length = 4 := rfl
theorem enc_length (kind n : Int) (ys : List UInt8) : (enc kind n ys).length ≤ 302 := by
  unfold enc
  split
  · simp
  · split
    · simp [be16]
    · split
      · simp [be32]
      · split
        · simp; omega
        · simp [be16]; omega

end Go.Proofs.Ytgfgabgnejnipaa
