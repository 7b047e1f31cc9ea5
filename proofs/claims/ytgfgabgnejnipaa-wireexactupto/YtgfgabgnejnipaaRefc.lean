import Derived.Test.YtgfgabgnejnipaaRefb
import Derived.Test.YtgfgabgnejnipaaUnhex
namespace Go.Proofs.Ytgfgabgnejnipaa
open Go.RowKit

/-- 'append(s, x...)' in a region that draws its order. -/
theorem step_app {ops : Array Oper} {o : Oper} {a : Act} {w : World} {K : Act → World → Prop} {Q : Exit → Act → World → Prop} {E : Prop} (hgd : o.guard = none) (s x : Operand)
    (ho : o.op = .call { callee := .builtin .append, args := #[s, x], argTypes := #[22, 22] }) (base : Nat) (v : Value) (bs : List UInt8) (hs : a.eval s = v) (hown : Own w base v bs)
    (ad : Addr) (c m : Nat) (ys : List UInt8) (hm : m = ys.length) (hx : a.eval x = .slice (some ad) m c) (hh : ∀ i u, ys[i]? = some u → w.cell? (ad.add i) = some (byt u)) (hb : bs.length + ys.length ≤ 150000000000000) (hbase : base ≤ w.heap.size)
    (h : ∀ v' w', Own w' base v' (bs ++ ys) → w.grownBy w' v.ownBlock → K (a.put o.dst v') w') : if Region.wanted o (yielded ops a.tmps) = true then Oper.wp Try.prog o a w K Q else E := by
  have hw : Region.wanted o (yielded ops a.tmps) = true := by simp [Region.wanted, hgd]
  rw [if_pos hw]
  subst hm
  obtain ⟨v', w', hrun, r1, r2⟩ := run_app w base v bs hown ad c ys hh hb hbase o.type
  unfold Oper.wp
  simp [execOp, ho, resolve, invoke, builtin, hs, hx, hrun, Result.andThen]
  exact h v' w' r1 r2

theorem has_newz (W : World) (z : Int) (b : UInt8) (hz : z = (b.toNat : Int)) : Has (W.alloc (.cells #[.int .u8 z] 5)) (.slice (some ⟨W.heap.size, 0, none⟩) 1 1) [b] := by
  subst hz; exact has_new1 W b

set_option maxRecDepth 100000 in
set_option maxHeartbeats 400000 in
theorem value_any (v : Value) (bs : List UInt8) (w : World) (h : Has w v bs) (hl : bs.length ≤ 4) :
    Calls Try.prog 66 #[v] w fun e w' => e = .returned (.int .i64 (beval bs : Int)) ∧ w = w' := by
  have la := h.len
  have HH := hide h
  clear h
  go_enter Try.func66, Try.ntmps66
  go_wp2
  go_loop [3, 4] (fun t i => ∃ k : Nat, k ≤ bs.length ∧ i = .int .i64 k ∧ t = .int .i64 (beval (bs.take k) : Int)) (fun _ i => bs.length - (intOf i).toNat)
  case atStart => exact ⟨0, Nat.zero_le _, rfl, rfl⟩
  case round =>
    obtain ⟨k, hk, rfl, rfl⟩ := hrel
    by_cases hlt : k < bs.length
    · obtain ⟨ad, i1, hcell⟩ := HH.out.at k hlt
      unfold byt at hcell
      have hE : Hid (beval (bs.take (k + 1)) = beval (bs.take k) * 256 + bs[k].toNat) := by
        rw [List.take_succ_eq_append_getElem hlt, beval_snoc]; rfl
      have hB : beval (bs.take k) < 16777216 := by
        have h1 := beval_lt k (bs.take k) (by simp; omega)
        have : 256 ^ k ≤ 256 ^ 3 := Nat.pow_le_pow_right (by decide) (by omega)
        omega
      have hbk := bs[k].toNat_lt
      have hi : (k : Int) < (bs.length : Int) := by omega
      generalize beval (bs.take k) = m at *
      go_wp2
      go_round
      case rel => exact ⟨k + 1, by omega, by go_num, by rw [hE.out]; go_num⟩
      case measure => simp [intOf]; omega
    · have hi : ¬ (k : Int) < (bs.length : Int) := by omega
      go_wp2
      go_ret
      rw [List.take_of_length_le (by omega)]
      exact ⟨rfl, rfl⟩

/-- A number in so many bytes, the highest first. -/
def ben : Nat → Nat → List UInt8
  | 0, _ => []
  | s + 1, n => ben s (n / 256) ++ [UInt8.ofNat n]

theorem ben_length : ∀ s n, (ben s n).length = s
  | 0, _ => rfl
  | s + 1, n => by simp [ben, ben_length s]

theorem ben2 (n : Nat) : ben 2 n = be16 n := by simp [ben, be16]
theorem ben4 (n : Nat) : ben 4 n = be32 n := by
  simp [ben, be32, Nat.div_div_eq_div_mul]

theorem zeros_cells (n : Nat) : (madeCells #[.int .u8 0] n).toList = (List.replicate n (0 : UInt8)).map byt := by
  rw [toList_madeCells_one, List.map_replicate]
  rfl

/-- One byte written over owned ones. -/
theorem Own.set {w : World} {base g cap n : Nat} {bs : List UInt8} (h : Own w base (.slice (some ⟨g, 0, none⟩) n cap) bs) (hn : n = bs.length) (k : Nat) (b : UInt8) (hk : k < n) :
    Own (w.setCell ⟨g, k, none⟩ (byt b)) base (.slice (some ⟨g, 0, none⟩) n cap) (bs.take k ++ [b] ++ bs.drop (k + 1)) := by
  subst hn
  exact h.write k [b] (by simp; omega)

theorem ben_write (j : Nat) (rest : List UInt8) (b : UInt8) : (List.replicate (j + 1) (0 : UInt8) ++ rest).take j ++ [b] ++ (List.replicate (j + 1) 0 ++ rest).drop (j + 1) = List.replicate j 0 ++ (b :: rest) := by
  rw [List.drop_left' (by simp), List.take_append_of_le_length (by simp), List.take_replicate]
  simp

theorem byt_mod (n : Nat) : byt (UInt8.ofNat n) = .int .u8 (((n % 256 : Nat) : Int)) := by
  unfold byt
  rw [UInt8.toNat_ofNat']

set_option maxRecDepth 100000 in
set_option maxHeartbeats 1000000 in
theorem renum_any (n s : Nat) (w : World) (hs : 0 < s) (hs8 : s ≤ 8) (hn : n < 4294967296) :
    Calls Try.prog 64 #[.int .i64 (n : Int), .int .i64 (s : Int)] w fun e w' => ∃ g, e = .returned (.slice (some ⟨g, 0, none⟩) s s) ∧ Own w' w.heap.size (.slice (some ⟨g, 0, none⟩) s s) (ben s n) ∧ Below w.heap.size w w' := by
  obtain ⟨i0, hi, hz0, hz1, hz2⟩ := info_parts Try.info5
  go_enter Try.func64, Try.ntmps64
  go_wp2_with (at_make; refine wpList_make_full _ rfl _ _ _ rfl w.heap.size 5 i0 (.int .u8 0) 1 Try.underlying22 hi hz0 hz1 .i64 .i64 s s s rfl rfl rfl rfl (by rw [hz2]; omega) (by unfold maxLen; omega) (Nat.le_refl _) ?_)
  intro w1 hown1 hg1
  rw [zeros_cells] at hown1
  have HO1 : Hid (Own w1 w.heap.size (.slice (some ⟨w.heap.size, 0, none⟩) s s) (List.replicate s 0)) := by
    show Own _ _ _ _
    unfold Own
    rw [List.length_replicate]; exact hown1
  have hbel1 := hide ((Below.refl w.heap.size w).grown hg1 (Nat.le_refl _) (by intro k hk; cases hk))
  clear hown1 hg1 hi hz0 hz1 hz2 i0
  go_wp2
  go_loopw [0, 6] (fun nv i wr => ∃ (j m : Nat) (rest : List UInt8), j ≤ s ∧ i = .int .i64 ((j : Int) - 1) ∧ nv = .int .i64 (m : Int) ∧ m < 4294967296 ∧ Hid (ben s n = ben j m ++ rest) ∧ Hid (Own wr w.heap.size (.slice (some ⟨w.heap.size, 0, none⟩) s s) (List.replicate j 0 ++ rest)) ∧ Hid (Below w.heap.size w wr)) (fun _ i _ => ((intOf i) + 1).toNat)
  case atStart => exact ⟨s, n, [], Nat.le_refl _, by go_num, rfl, hn, by simp [Hid], by simpa using HO1, hbel1⟩
  case round =>
    obtain ⟨j, m, rest, hj, rfl, rfl, hm, hben, hown, hbel⟩ := hrel
    clear HO1 hbel1 hn
    rcases Nat.eq_zero_or_pos j with rfl | hj0
    · go_wp2
      go_ret
      have h1 := hben.out
      have h2 := hown.out
      simp only [ben, List.nil_append] at h1
      simp only [List.replicate_zero, List.nil_append] at h2
      rw [← h1] at h2
      exact ⟨_, rfl, h2, hbel.out⟩
    · obtain ⟨i, rfl⟩ : ∃ i, j = i + 1 := ⟨j - 1, by omega⟩
      have hlen : s = (List.replicate (i + 1) (0 : UInt8) ++ rest).length := by
        have h1 := congrArg List.length hben.out
        simp only [List.length_append, ben_length, List.length_replicate] at h1 ⊢
        omega
      have hset := hown.out.set hlen i (UInt8.ofNat m) (by omega)
      obtain ⟨⟨u, hcell⟩, hfz⟩ := Own.cells (bs := List.replicate (i + 1) 0 ++ rest) (cap := s) (by rw [← hlen]; exact hown.out) i (by omega)
      rw [ben_write, byt_mod] at hset
      have HS : Hid (Own (wr.setCell ⟨w.heap.size, i, none⟩ (.int .u8 ((m : Int) % 256))) w.heap.size (.slice (some ⟨w.heap.size, 0, none⟩) s s) (List.replicate i 0 ++ (UInt8.ofNat m :: rest))) := by
        have e : (((m % 256 : Nat) : Int)) = (m : Int) % 256 := by omega
        rw [e] at hset; exact hset
      have HB2 := hide (hbel.out.trans (setCell_below wr w.heap.size i (.int .u8 ((m : Int) % 256))))
      have HE : Hid (ben s n = ben i (m / 256) ++ (UInt8.ofNat m :: rest)) := by
        show _ = _
        rw [hben.out, ben]; simp
      have hlo : ((i + 1 : Nat) : Int) - 1 = (i : Int) := by omega
      have his : (i : Int) < (s : Int) := by omega
      unfold byt at hcell
      clear hset hlen hben hown hbel
      rw [hlo]
      clear hlo
      go_wp2
      go_roundw
      case rel => exact ⟨i, m / 256, UInt8.ofNat m :: rest, by omega, by go_num, by go_num, by omega, HE, HS, HB2⟩
      case measure => simp [intOf]

theorem idx_dig (kd : IntKind) (k : Nat) (h : k < 16) (W : World) :
    (Instr.index 9 (.string ⟨#[48, 49, 50, 51, 52, 53, 54, 55, 56, 57, 97, 98, 99, 100, 101, 102]⟩) (.int kd (k : Int))).run Try.prog W = .ok (.int .u8 ((dig k).toNat : Int)) W := by
  have h1 : (k : Int) < 16 := by omega
  have h2 : (k : Int).toNat < 16 := by omega
  have e := dAt_eq (k : Int) h2 k (by omega)
  unfold dAt at e
  rw [← e]
  go_simp

set_option maxRecDepth 100000 in
set_option maxHeartbeats 1000000 in
theorem digit_any (c : UInt8) (r : Int) (w : World) (hr : Lib.indexByte digits c = r) :
    Calls Try.prog 72 #[.int .u8 (c.toNat : Int)] w fun e w' => e = .returned (.int .i64 r) ∧ w = w' := by
  have HR := hide hr
  clear hr
  have HI := hide (idx_spec c)
  go_enter Try.func72, Try.ntmps72
  go_wp2
  go_loop [3] (fun i => ∃ k : Nat, k ≤ 16 ∧ i = .int .i64 k ∧ Hid (∀ m, m < k → dig m ≠ c)) (fun i => 16 - (intOf i).toNat)
  case atStart => exact ⟨0, Nat.zero_le _, rfl, fun m hm => by omega⟩
  case round =>
    obtain ⟨k, hk, rfl, hno⟩ := hrel
    by_cases hlt : k < 16
    · have hidx := idx_dig .i64 k hlt
      have hi : (k : Int) < 16 := by omega
      by_cases he : dig k = c
      · have t1 : (((dig k).toNat : Int) == (c.toNat : Int)) = true := by rw [he]; simp
        have HK : Hid (r = (k : Int)) := by
          rcases HI.out with ⟨_, h2⟩ | ⟨m, hm, h1, h2⟩
          · exact absurd he (h2 k hlt)
          · have := dig_inj ⟨m, hm⟩ ⟨k, hlt⟩ (by rw [h2, he])
            simp only [Fin.mk.injEq] at this
            subst this
            exact HR.out.symm.trans h1
        clear he
        go_wp2
        go_ret
        exact ⟨by rw [HK.out]; rfl, rfl⟩
      · have t1 : (((dig k).toNat : Int) == (c.toNat : Int)) = false := by
          rw [beq_eq_false_iff_ne]
          intro h
          exact he (UInt8.toNat_inj.1 (by omega))
        have HN : Hid (∀ m, m < k + 1 → dig m ≠ c) := fun m hm => by
          rcases Nat.lt_or_ge m k with h | h
          · exact hno.out m h
          · obtain rfl : m = k := by omega
            exact he
        clear he
        go_wp2
        go_round
        case rel => exact ⟨k + 1, by omega, by go_num, HN⟩
        case measure => simp [intOf]; omega
    · have hi : ¬ (k : Int) < 16 := by omega
      have HK : Hid (r = -1) := by
        rcases HI.out with ⟨h1, h2⟩ | ⟨m, hm, h1, h2⟩
        · exact HR.out.symm.trans h1
        · exact absurd h2 (hno.out m (by omega))
      go_wp2
      go_ret
      exact ⟨by rw [HK.out]; rfl, rfl⟩

theorem u8_quo (c : UInt8) : IntKind.u8.wrap ((c.toNat : Int) / 16) = ((c.toNat / 16 : Nat) : Int) := by
  have := c.toNat_lt
  rw [wraps_u8 _ (by omega) (by omega)]
  omega
theorem u8_rem (c : UInt8) : (c.toNat : Int).tmod 16 = ((c.toNat % 16 : Nat) : Int) := by
  have := c.toNat_lt
  rw [Int.tmod_eq_emod_of_nonneg (by omega)]
  omega

set_option maxRecDepth 100000 in
set_option maxHeartbeats 1000000 in
theorem rhex_any (v : Value) (bs : List UInt8) (w : World) (h : Has w v bs) (hn : bs.length ≤ 70000000000000) :
    Calls Try.prog 70 #[v] w fun e w' => e = .returned (.string ⟨(hexOf bs).toArray⟩) ∧ Below w.heap.size w w' := by
  have la := h.len
  have HH := hide h
  clear h
  go_enter Try.func70, Try.ntmps70
  go_wp2
  go_loopw [3, 4] (fun t i wr => ∃ (k : Nat), k ≤ bs.length ∧ i = .int .i64 k ∧ Hid (Own wr w.heap.size t (hexOf (bs.take k))) ∧ Hid (Below w.heap.size w wr)) (fun _ i _ => bs.length - (intOf i).toNat)
  case atStart => exact ⟨0, Nat.zero_le _, rfl, Own.nil _ _, Below.refl _ _⟩
  case round =>
    obtain ⟨k, hk, rfl, hownr, hbelr⟩ := hrel
    by_cases hlt : k < bs.length
    · obtain ⟨ad, hat, hc0⟩ := HH.out.at k hlt
      have hcell : wr.cell? ad = some (.int .u8 (bs[k].toNat : Int)) := at_below hbelr.out hc0
      have hi : (k : Int) < (bs.length : Int) := by omega
      have HT := hide (hexOf_take bs k hlt)
      have HL : Hid ((hexOf (bs.take k)).length + 2 ≤ 150000000000000) := by
        rw [← hex_len bs k hk]; show _ ≤ _; omega
      unfold byt at hc0
      have HC0 := hide hc0
      clear hc0
      generalize bs[k] = c at *
      generalize hexOf (bs.take k) = hx at *
      obtain ⟨ao, cp, hsl⟩ := hownr.out.slice
      subst hsl
      have j0 : (c.toNat : Int) < 256 := by have := c.toNat_lt; omega
      have k1 : c.toNat / 16 < 16 := by have := c.toNat_lt; omega
      have k2 : c.toNat % 16 < 16 := by omega
      have i1 := idx_dig .u8 (c.toNat / 16) k1
      have i2 := idx_dig .u8 (c.toNat % 16) k2
      rw [← u8_quo c] at i1
      rw [← u8_rem c] at i2
      go_wp2_with fail
      go_region_held3 (fun w' => w'.cell? ad = some (.int .u8 (c.toNat : Int))) (first | go_keep | exact at_below hb2 HC0.out) ((refine step_app ?_ (.tmp 11) (.tmp 24) ?_ w.heap.size (.slice ao hx.length cp) hx ?_ ?_ ⟨wr.heap.size, 0, none⟩ 2 2 [dig (c.toNat / 16), dig (c.toNat % 16)] ?_ ?_ ?_ ?_ ?_ ?_; rfl; rfl; rfl; exact hownr.out.below (bel_new wr _ _ ⟨rfl, rfl, rfl, rfl⟩); rfl; rfl; exact two_new wr _ _ _ ⟨rfl, rfl, rfl, rfl⟩; exact HL.out; (have := hbelr.out.size; simp; omega); intro v2 w2 hown2 hg2; have hb2 : Below w.heap.size w w2 := ((hbelr.out.alloc hbelr.out.size _).drew).grown hg2 (by have := hbelr.out.size; simp; omega) hownr.out.ownBlock))
      all_goals
        have HB2 := hide hb2
        clear hb2
        rw [← HT.out] at hown2
        have HO2 := hide hown2
        clear hown2 hg2 hownr hbelr hcell
        go_wp2
        go_roundw
        case rel => exact ⟨k + 1, by omega, by go_num, HO2, HB2⟩
        case measure => simp [intOf]; omega
    · have hi : ¬ (k : Int) < (bs.length : Int) := by omega
      have hcv := hownr.out.has.convert
      rw [List.take_of_length_le (by omega)] at hcv
      go_wp2
      go_ret
      exact ⟨rfl, hbelr.out⟩

theorem take2 (l : List UInt8) (k : Nat) (hk : 2 * k ≤ l.length) : (l.take (2 * k)).length = 2 * k := by simp; omega

theorem nib_byte (m0 m1 : Nat) (h0 : m0 < 16) (h1 : m1 < 16) : ∃ b : UInt8, 16 * (m0 : Int) + m1 = (b.toNat : Int) ∧ b.toNat / 16 = m0 ∧ b.toNat % 16 = m1 := by
  have e : (UInt8.ofNat (m0 * 16 + m1)).toNat = m0 * 16 + m1 := by
    rw [UInt8.toNat_ofNat']; exact Nat.mod_eq_of_lt (by omega)
  refine ⟨UInt8.ofNat (m0 * 16 + m1), ?_, ?_, ?_⟩
  · rw [e]; omega
  · rw [e]; omega
  · rw [e]; omega

set_option maxRecDepth 100000 in
set_option maxHeartbeats 1000000 in
theorem runhex_odd (s : ByteArray) (w : World) (hn : s.size ≤ 281474976702464) (hodd : ((s.size : Int) % 2 == 0) = false) :
    Calls Try.prog 69 #[.string s] w fun e w' => e = .returned (.tuple #[.slice none 0 0, .int .i64 13]) ∧ w = w' := by
  go_enter Try.func69, Try.ntmps69
  go_wp2
  go_ret2
  exact ⟨rfl, rfl⟩

set_option maxRecDepth 100000 in
set_option maxHeartbeats 2000000 in
theorem runhex_even (s : ByteArray) (w : World) (n : Nat) (hs : s.size = 2 * n) (hn : n ≤ 140737488351232) :
    Calls Try.prog 69 #[.string s] w fun e w' => Below w.heap.size w w' ∧ ((∃ bs v, s.data.toList = hexOf bs ∧ e = .returned (.tuple #[v, .int .i64 0]) ∧ Own w' w.heap.size v bs) ∨ ((∀ bs, s.data.toList ≠ hexOf bs) ∧ e = .returned (.tuple #[.slice none 0 0, .int .i64 13]))) := by
  have HS := hide hs
  have he : ((s.size : Int) % 2 == 0) = true := by rw [beq_iff_eq]; omega
  have hle : s.size ≤ 281474976702464 := by omega
  clear hs
  go_enter Try.func69, Try.ntmps69
  go_wp2
  rw [show ((s.size : Int) % 2 != 0) = false by rw [bne, he]; rfl]
  clear he
  go_loopw [4, 5] (fun b i wr => ∃ (k : Nat) (bs : List UInt8), k ≤ n ∧ i = .int .i64 (2 * (k : Int)) ∧ Hid (bs.length = k ∧ s.data.toList.take (2 * k) = hexOf bs) ∧ Hid (Own wr w.heap.size b bs) ∧ Hid (Below w.heap.size w wr)) (fun _ i _ => 2 * n - (intOf i).toNat)
  case atStart => exact ⟨0, [], Nat.zero_le _, rfl, ⟨rfl, by simp [hexOf]⟩, Own.nil _ _, Below.refl _ _⟩
  case round =>
    obtain ⟨k, bs, hk, rfl, hbs, hownr, hbelr⟩ := hrel
    by_cases hlt : k < n
    · have q0 : 2 * k < s.size := by have := HS.out; omega
      have q1 : 2 * k + 1 < s.size := by have := HS.out; omega
      have p0 : 2 * (k : Int) < (s.size : Int) := by omega
      have p1 : 2 * (k : Int) + 1 < (s.size : Int) := by omega
      have g0 := hide (byte_get s (2 * k) q0)
      have g1 := hide (byte_get s (2 * k + 1) q1)
      rcases idx_spec (s[2 * k]) with ⟨hr0, hno⟩ | ⟨m0, hm0, hr0, hd0⟩
      · have NO : Hid (∀ bs, s.data.toList ≠ hexOf bs) := not_hex _ _ _ g0.out hno
        have HR0 := hide hr0
        clear hno hr0
        go_wp2_with fail
        refine (digit_any _ (-1) _ HR0.out).mono ?_
        rintro e w2 ⟨rfl, rfl⟩
        go_wp2_with fail
        refine (digit_any _ _ _ rfl).mono ?_
        rintro e w2 ⟨rfl, rfl⟩
        go_wp2
        go_ret2
        exact ⟨hbelr.out, .inr ⟨NO.out, rfl⟩⟩
      · have HR0 := hide hr0
        have HD0 := hide hd0
        clear hr0 hd0
        rcases idx_spec (s[2 * k + 1]) with ⟨hr1, hno⟩ | ⟨m1, hm1, hr1, hd1⟩
        · have NO : Hid (∀ bs, s.data.toList ≠ hexOf bs) := not_hex _ _ _ g1.out hno
          have HR1 := hide hr1
          clear hno hr1
          go_wp2_with fail
          refine (digit_any _ _ _ HR0.out).mono ?_
          rintro e w2 ⟨rfl, rfl⟩
          go_wp2_with fail
          refine (digit_any _ (-1) _ HR1.out).mono ?_
          rintro e w2 ⟨rfl, rfl⟩
          go_wp2
          go_ret2
          exact ⟨hbelr.out, .inr ⟨NO.out, rfl⟩⟩
        · have HR1 := hide hr1
          have HD1 := hide hd1
          clear hr1 hd1
          obtain ⟨b, hor, hb0, hb1⟩ := nib_byte m0 m1 hm0 hm1
          have HB0 := hide hb0
          have HB1 := hide hb1
          have HOR := hide hor
          have hm0' : (m0 : Int) < 16 := by omega
          have hm1' : (m1 : Int) < 16 := by omega
          clear hb0 hb1 hm0 hm1 hor
          go_wp2_with fail
          refine (digit_any _ _ _ HR0.out).mono ?_
          rintro e w2 ⟨rfl, rfl⟩
          go_wp2_with fail
          refine (digit_any _ _ _ HR1.out).mono ?_
          rintro e w2 ⟨rfl, rfl⟩
          go_wp2_with (at_builtin; refine wpList_app rfl _ _ rfl w.heap.size _ bs rfl (hownr.out.below (below_new _ _)) _ [b] rfl (has_newz wr _ b HOR.out) (by have := hbs.out.1; simp; omega) (by have := hbelr.out.size; simp; omega) ?_)
          intro v3 w3 hown3 hg3
          have hb3 : Hid (Below w.heap.size w w3) := (hbelr.out.alloc hbelr.out.size _).grown hg3 (by have := hbelr.out.size; simp; omega) hownr.out.ownBlock
          have HO3 : Hid (Own w3 w.heap.size v3 (bs ++ [b])) := hown3
          have HT : Hid ((bs ++ [b]).length = k + 1 ∧ s.data.toList.take (2 * (k + 1)) = hexOf (bs ++ [b])) := ⟨by have := hbs.out.1; simp; omega, unhex_step _ bs k _ _ b g0.out g1.out hbs.out.2 (by rw [HB0.out]; exact HD0.out) (by rw [HB1.out]; exact HD1.out)⟩
          clear hown3 hg3 hownr hbelr g0 g1 HR0 HR1 HD0 HD1
          go_wp2
          go_roundw
          case rel => exact ⟨k + 1, bs ++ [b], by omega, by go_num, HT, HO3, hb3⟩
          case measure => simp [intOf]; omega
    · have hkn : k = n := by omega
      have p0 : (s.size : Int) ≤ 2 * (k : Int) := by have := HS.out; omega
      have HK := hide hkn
      clear hkn
      go_wp2
      go_ret2
      obtain ⟨e1, e2⟩ := hbs.out
      refine ⟨hbelr.out, .inl ⟨bs, _, ?_, rfl, hownr.out⟩⟩
      rw [List.take_of_length_le (by have := HS.out; have := HK.out; simp; omega)] at e2
      exact e2

theorem runhex_any (s : ByteArray) (w : World) (hn : s.size ≤ 281474976702464) :
    Calls Try.prog 69 #[.string s] w fun e w' => Below w.heap.size w w' ∧ ((∃ bs v, s.data.toList = hexOf bs ∧ e = .returned (.tuple #[v, .int .i64 0]) ∧ Own w' w.heap.size v bs) ∨ ((∀ bs, s.data.toList ≠ hexOf bs) ∧ e = .returned (.tuple #[.slice none 0 0, .int .i64 13]))) := by
  by_cases h : s.size % 2 = 0
  · exact runhex_even s w (s.size / 2) (by omega) (by omega)
  · refine (runhex_odd s w hn (beq_eq_false_iff_ne.2 (by omega))).mono fun e w' ⟨h1, h2⟩ => ?_
    subst h2
    refine ⟨Below.refl _ _, .inr ⟨fun bs hb => ?_, h1⟩⟩
    have := congrArg List.length hb
    rw [hexOf_length] at this
    have e2 : s.data.toList.length = s.size := by rw [Array.length_toList]; rfl
    omega

end Go.Proofs.Ytgfgabgnejnipaa
