import Derived.Test.YtgfgabgnejnipaaHex
namespace Go.Proofs.Ytgfgabgnejnipaa
open Go.RowKit

def digits : List UInt8 := [48, 49, 50, 51, 52, 53, 54, 55, 56, 57, 97, 98, 99, 100, 101, 102]

def idxNo (c : UInt8) : Bool := (Lib.indexByte digits c == -1) && ((List.range 16).all fun (m : Nat) => (dig m != c))
def idxYes (c : UInt8) : Bool := (List.range 16).any fun (m : Nat) => (Lib.indexByte digits c == Int.ofNat m) && (dig m == c)
def idxOk (c : UInt8) : Bool := idxNo c || idxYes c

theorem idxOk_all : ∀ n : Fin 256, idxOk (UInt8.ofNat n.val) = true := by decide +kernel

theorem idx_spec (c : UInt8) : (Lib.indexByte digits c = -1 ∧ ∀ m, m < 16 → dig m ≠ c) ∨ ∃ m : Nat, m < 16 ∧ Lib.indexByte digits c = (m : Int) ∧ dig m = c := by
  have h := idxOk_all ⟨c.toNat, c.toNat_lt⟩
  simp only [UInt8.ofNat_toNat] at h
  unfold idxOk idxNo idxYes at h
  rw [Bool.or_eq_true, Bool.and_eq_true] at h
  rcases h with ⟨h1, h2⟩ | h
  · refine .inl ⟨by simpa using h1, fun m hm => ?_⟩
    have := List.all_eq_true.1 h2 m (List.mem_range.2 hm)
    simpa using this
  · obtain ⟨m, hm, h⟩ := List.any_eq_true.1 h
    rw [Bool.and_eq_true] at h
    exact .inr ⟨m, List.mem_range.1 hm, by simpa using h.1, by simpa using h.2⟩

theorem dig_inj : ∀ a b : Fin 16, dig a.val = dig b.val → a = b := by decide +kernel

theorem hexOf_cons (b : UInt8) (r : List UInt8) : hexOf (b :: r) = dig (b.toNat / 16) :: dig (b.toNat % 16) :: hexOf r := rfl

theorem hexOf_inj : ∀ a b : List UInt8, hexOf a = hexOf b → a = b
  | [], [], _ => rfl
  | [], y :: ys, h => by rw [hexOf_cons] at h; cases h
  | x :: xs, [], h => by rw [hexOf_cons] at h; cases h
  | x :: xs, y :: ys, h => by
    rw [hexOf_cons, hexOf_cons] at h
    injection h with h1 h
    injection h with h2 h3
    have hx := x.toNat_lt
    have hy := y.toNat_lt
    have e1 := congrArg Fin.val (dig_inj ⟨x.toNat / 16, by omega⟩ ⟨y.toNat / 16, by omega⟩ h1)
    have e2 := congrArg Fin.val (dig_inj ⟨x.toNat % 16, by omega⟩ ⟨y.toNat % 16, by omega⟩ h2)
    dsimp only at e1 e2
    have : x = y := UInt8.toNat_inj.1 (by omega)
    rw [this, hexOf_inj xs ys h3]

theorem hexOf_at : ∀ (bs : List UInt8) (k : Nat), (hexOf bs)[2 * k]? = (bs[k]?).map (fun b => dig (b.toNat / 16)) ∧ (hexOf bs)[2 * k + 1]? = (bs[k]?).map (fun b => dig (b.toNat % 16))
  | [], k => by simp [hexOf]
  | b :: r, 0 => by rw [hexOf_cons]; simp
  | b :: r, k + 1 => by
    have := hexOf_at r k
    rw [hexOf_cons, show 2 * (k + 1) = 2 * k + 1 + 1 by omega]
    simpa using this

theorem hexOf_snoc (bs : List UInt8) (b : UInt8) : hexOf (bs ++ [b]) = hexOf bs ++ [dig (b.toNat / 16), dig (b.toNat % 16)] := by
  unfold hexOf; rw [List.flatMap_append]; rfl

/-- What is no digit is in no text of Hex. -/
theorem not_hex (l : List UInt8) (i : Nat) (c : UInt8) (hi : l[i]? = some c) (hc : ∀ m, m < 16 → dig m ≠ c) : ∀ bs, l ≠ hexOf bs := by
  intro bs h
  rw [h] at hi
  rcases Nat.mod_two_eq_zero_or_one i with e | e
  · obtain ⟨k, rfl⟩ : ∃ k, i = 2 * k := ⟨i / 2, by omega⟩
    rw [(hexOf_at bs k).1, Option.map_eq_some_iff] at hi
    obtain ⟨b, _, hb⟩ := hi
    exact hc _ (by have := b.toNat_lt; omega) hb
  · obtain ⟨k, rfl⟩ : ∃ k, i = 2 * k + 1 := ⟨i / 2, by omega⟩
    rw [(hexOf_at bs k).2, Option.map_eq_some_iff] at hi
    obtain ⟨b, _, hb⟩ := hi
    exact hc _ (by omega) hb

/-- 'append(s, x...)' within the capacity, in a plain region. -/
theorem wpList_fits {w : World} {ops : Array Oper} {rest : List Oper} {o : Oper} {a : Act} {Q : Exit → Act → World → Prop} (hgd : o.guard = none) (s x : Operand)
    (ho : o.op = .call { callee := .builtin .append, args := #[s, x], argTypes := #[22, 22] }) (base g cap n m : Nat) (bs : List UInt8) (hn : n = bs.length) (hs : a.eval s = .slice (some ⟨g, 0, none⟩) n cap) (hown : Own w base (.slice (some ⟨g, 0, none⟩) bs.length cap) bs)
    (ad : Addr) (c : Nat) (ys : List UInt8) (hm : m = ys.length) (hx : a.eval x = .slice (some ad) m c) (hh : ∀ i u, ys[i]? = some u → w.cell? (ad.add i) = some (byt u)) (hfit : n + m ≤ cap)
    (h : ∀ w', Own w' base (.slice (some ⟨g, 0, none⟩) (bs ++ ys).length cap) (bs ++ ys) → w.grownBy w' (some g) → wpList Try.prog ops Q rest (a.put o.dst (.slice (some ⟨g, 0, none⟩) (n + m) cap)) w') : wpList Try.prog ops Q (o :: rest) a w := by
  refine wpList_plain hgd fun K hK => ?_
  subst hn hm
  obtain ⟨w', hrun, r1, r2⟩ := run_fits w base g cap bs hown ad c ys hh hfit o.type
  unfold Oper.wp
  simp [execOp, ho, resolve, invoke, builtin, hs, hx, hrun, Result.andThen]
  exact hK _ _ (h w' r1 r2)

set_option maxRecDepth 100000 in
set_option maxHeartbeats 1000000 in
theorem unhex_odd (s : ByteArray) (w : World) (hn : s.size ≤ 281474976702464) (hodd : ((s.size : Int) % 2 == 0) = false) :
    Calls Try.prog 9 #[.string s] w fun e w' => e = .returned (.tuple #[.slice none 0 0, .int .i64 13]) ∧ w = w' := by
  go_enter Try.func9, Try.ntmps9
  go_wp2
  go_ret2
  exact ⟨rfl, rfl⟩

theorem one_new (W X : World) (a : UInt8) (h : Lik (W.alloc (.cells #[byt a] 5)) X) : ∀ i u, [a][i]? = some u → X.cell? ((⟨W.heap.size, 0, none⟩ : Addr).add i) = some (byt u) := by
  intro i u hu
  rw [add_plain]
  unfold World.cell?
  dsimp only
  rw [at_new W X _ h]
  match i, hu with
  | 0, hu => simp at hu; subst hu; simp

theorem index_dig (c : UInt8) (r : Int) (w : World) (hr : Lib.indexByte digits c = r) :
    Calls Try.prog 39 #[.string ⟨#[48, 49, 50, 51, 52, 53, 54, 55, 56, 57, 97, 98, 99, 100, 101, 102]⟩, .int .u8 (c.toNat : Int)] w fun e w' => e = .returned (.int .i64 r) ∧ w = w' := by
  subst hr
  exact index_any _ c w

theorem join_nib (m0 m1 : Nat) (h0 : m0 < 16) (h1 : m1 < 16) : ∃ b : UInt8, bits .or .i64 ((m0 : Int) * 16) (m1 : Int) % 256 = (b.toNat : Int) ∧ b.toNat / 16 = m0 ∧ b.toNat % 16 = m1 := by
  have e : (UInt8.ofNat (m0 * 16 + m1)).toNat = m0 * 16 + m1 := by
    rw [UInt8.toNat_ofNat']; exact Nat.mod_eq_of_lt (by omega)
  refine ⟨UInt8.ofNat (m0 * 16 + m1), ?_, ?_, ?_⟩
  · rw [bits_join .i64 8 (by decide) (fun n a b => by rw [IntKind.wrap_i64]; omega) 4 _ _ (by omega) (by omega) (by omega) (by omega) (by omega) (by omega), e]
    omega
  · rw [e]; omega
  · rw [e]; omega

theorem unhex_step (l bs : List UInt8) (k : Nat) (c0 c1 b : UInt8) (g0 : l[2 * k]? = some c0) (g1 : l[2 * k + 1]? = some c1) (h : l.take (2 * k) = hexOf bs) (e0 : dig (b.toNat / 16) = c0) (e1 : dig (b.toNat % 16) = c1) : l.take (2 * (k + 1)) = hexOf (bs ++ [b]) := by
  obtain ⟨l0, a0⟩ := List.getElem?_eq_some_iff.1 g0
  obtain ⟨l1, a1⟩ := List.getElem?_eq_some_iff.1 g1
  rw [show 2 * (k + 1) = 2 * k + 1 + 1 by omega, List.take_succ_eq_append_getElem l1, List.take_succ_eq_append_getElem l0, h, hexOf_snoc, a0, a1, e0, e1]
  simp

theorem byte_get (s : ByteArray) (i : Nat) (h : i < s.size) : s.data.toList[i]? = some s[i] := by
  rw [Array.getElem?_toList, Array.getElem?_eq_getElem h]; rfl

set_option maxRecDepth 100000 in
set_option maxHeartbeats 2000000 in
theorem unhex_even (s : ByteArray) (w : World) (n : Nat) (hs : s.size = 2 * n) (hn : n ≤ 140737488351232) :
    Calls Try.prog 9 #[.string s] w fun e w' => Below w.heap.size w w' ∧ ((∃ bs v, s.data.toList = hexOf bs ∧ e = .returned (.tuple #[v, .int .i64 0]) ∧ Own w' w.heap.size v bs) ∨ ((∀ bs, s.data.toList ≠ hexOf bs) ∧ e = .returned (.tuple #[.slice none 0 0, .int .i64 13]))) := by
  obtain ⟨i0, hi, hz0, hz1, hz2⟩ := info_parts Try.info5
  have HS := hide hs
  have he : ((s.size : Int) % 2 == 0) = true := by rw [beq_iff_eq]; omega
  have hle : s.size ≤ 281474976702464 := by omega
  have hdiv : (s.size : Int) / 2 = (n : Int) := by omega
  clear hs
  go_enter Try.func9, Try.ntmps9
  go_wp2_with (at_make; refine wpList_make_own _ rfl _ _ _ rfl w.heap.size 5 i0 (.int .u8 0) 1 Try.underlying22 hi hz0 hz1 .i64 .i64 _ n rfl rfl (by omega) (by rw [hz2]; omega) (by unfold maxLen; omega) (Nat.le_refl _) ?_)
  intro w1 hown1 hg1
  have hbel1 := hide ((Below.refl w.heap.size w).grown hg1 (Nat.le_refl _) (by intro k hk; cases hk))
  have hown : Hid (Own w1 w.heap.size (.slice (some ⟨w.heap.size, 0, none⟩) ([] : List UInt8).length n) []) := hown1
  clear hown1 hg1 hi hz0 hz1 hz2 i0 hdiv
  go_wp2
  go_loopw [4, 5] (fun b i wr => ∃ (k : Nat) (bs : List UInt8), k ≤ n ∧ i = .int .i64 (2 * (k : Int)) ∧ b = .slice (some ⟨w.heap.size, 0, none⟩) k n ∧ Hid (bs.length = k ∧ s.data.toList.take (2 * k) = hexOf bs) ∧ Hid (Own wr w.heap.size (.slice (some ⟨w.heap.size, 0, none⟩) bs.length n) bs) ∧ Hid (Below w.heap.size w wr)) (fun _ i _ => 2 * n - (intOf i).toNat)
  case atStart => exact ⟨0, [], Nat.zero_le _, rfl, rfl, ⟨rfl, by simp [hexOf]⟩, hown, hbel1⟩
  case round =>
    obtain ⟨k, bs, hk, rfl, rfl, hbs, hownr, hbelr⟩ := hrel
    clear hown hbel1
    by_cases hlt : k < n
    · have q0 : 2 * k < s.size := by have := HS.out; omega
      have q1 : 2 * k + 1 < s.size := by have := HS.out; omega
      have p0 : 2 * (k : Int) < (s.size : Int) := by omega
      have p1 : 2 * (k : Int) + 1 < (s.size : Int) := by omega
      have g0 := hide (byte_get s (2 * k) q0)
      have g1 := hide (byte_get s (2 * k + 1) q1)
      rcases idx_spec (s[2 * k]) with ⟨hr0, hno⟩ | ⟨m0, hm0, hr0, hd0⟩
      · have NO : Hid (∀ bs, s.data.toList ≠ hexOf bs) := not_hex _ _ _ g0.out hno
        have HR0 := hide hr0
        clear hno hr0
        go_wp2_with fail
        refine (index_dig _ (-1) _ HR0.out).mono ?_
        rintro e w2 ⟨rfl, rfl⟩
        go_wp2_with fail
        refine (index_dig _ _ _ rfl).mono ?_
        rintro e w2 ⟨rfl, rfl⟩
        go_wp2
        go_ret2
        exact ⟨hbelr.out, .inr ⟨NO.out, rfl⟩⟩
      · have HR0 := hide hr0
        have HD0 := hide hd0
        clear hr0 hd0
        rcases idx_spec (s[2 * k + 1]) with ⟨hr1, hno⟩ | ⟨m1, hm1, hr1, hd1⟩
        · have NO : Hid (∀ bs, s.data.toList ≠ hexOf bs) := not_hex _ _ _ g1.out hno
          have HR1 := hide hr1
          clear hno hr1
          go_wp2_with fail
          refine (index_dig _ _ _ HR0.out).mono ?_
          rintro e w2 ⟨rfl, rfl⟩
          go_wp2_with fail
          refine (index_dig _ (-1) _ HR1.out).mono ?_
          rintro e w2 ⟨rfl, rfl⟩
          go_wp2
          go_ret2
          exact ⟨hbelr.out, .inr ⟨NO.out, rfl⟩⟩
        · have HR1 := hide hr1
          have HD1 := hide hd1
          clear hr1 hd1
          go_wp2_with fail
          refine (index_dig _ _ _ HR0.out).mono ?_
          rintro e w2 ⟨rfl, rfl⟩
          go_wp2_with fail
          refine (index_dig _ _ _ HR1.out).mono ?_
          rintro e w2 ⟨rfl, rfl⟩
          obtain ⟨b, hor, hb0, hb1⟩ := join_nib m0 m1 hm0 hm1
          have HB0 := hide hb0
          have HB1 := hide hb1
          clear hb0 hb1
          go_wp2_with (at_builtin; refine wpList_fits rfl _ _ rfl w.heap.size w.heap.size n k 1 bs (hbs.out.1.symm) rfl (hownr.out.below (below_new _ _)) ⟨wr.heap.size, 0, none⟩ 1 [b] rfl rfl (one_new wr _ b ⟨rfl, rfl, rfl, rfl⟩) (by omega) ?_)
          intro w3 hown3 hg3
          have hb3 : Hid (Below w.heap.size w w3) := (hbelr.out.alloc hbelr.out.size _).grown hg3 (by have := hbelr.out.size; simp; omega) (by intro j hj; cases hj; exact Nat.le_refl _)
          have HO3 : Hid (Own w3 w.heap.size (.slice (some ⟨w.heap.size, 0, none⟩) (bs ++ [b]).length n) (bs ++ [b])) := by rw [List.length_append]; exact hown3
          have HT : Hid ((bs ++ [b]).length = k + 1 ∧ s.data.toList.take (2 * (k + 1)) = hexOf (bs ++ [b])) := ⟨by have := hbs.out.1; simp; omega, unhex_step _ bs k _ _ b g0.out g1.out hbs.out.2 (by rw [HB0.out]; exact HD0.out) (by rw [HB1.out]; exact HD1.out)⟩
          clear hown3 hg3 hownr hbelr g0 g1 HR0 HR1 HD0 HD1 hor
          go_wp2
          go_roundw
          case rel => exact ⟨k + 1, bs ++ [b], by omega, by go_num, rfl, HT, HO3, hb3⟩
          case measure => simp [intOf]; omega
    · have hkn : k = n := by omega
      have p0 : (s.size : Int) ≤ 2 * (k : Int) := by have := HS.out; omega
      have HK := hide hkn
      clear hkn
      go_wp2
      go_ret2
      obtain ⟨e1, e2⟩ := hbs.out
      refine ⟨hbelr.out, .inl ⟨bs, _, ?_, rfl, ?_⟩⟩
      · rw [List.take_of_length_le (by have := HS.out; have := HK.out; simp; omega)] at e2
        exact e2
      · have h := hownr.out
        rw [e1] at h
        exact h

theorem unhex_any (s : ByteArray) (w : World) (hn : s.size ≤ 281474976702464) :
    Calls Try.prog 9 #[.string s] w fun e w' => Below w.heap.size w w' ∧ ((∃ bs v, s.data.toList = hexOf bs ∧ e = .returned (.tuple #[v, .int .i64 0]) ∧ Own w' w.heap.size v bs) ∨ ((∀ bs, s.data.toList ≠ hexOf bs) ∧ e = .returned (.tuple #[.slice none 0 0, .int .i64 13]))) := by
  by_cases h : s.size % 2 = 0
  · exact unhex_even s w (s.size / 2) (by omega) (by omega)
  · refine (unhex_odd s w hn (beq_eq_false_iff_ne.2 (by omega))).mono fun e w' ⟨h1, h2⟩ => ?_
    subst h2
    refine ⟨Below.refl _ _, .inr ⟨fun bs hb => ?_, h1⟩⟩
    have := congrArg List.length hb
    rw [hexOf_length] at this
    have e2 : s.data.toList.length = s.size := by rw [Array.length_toList]; rfl
    omega

end Go.Proofs.Ytgfgabgnejnipaa
