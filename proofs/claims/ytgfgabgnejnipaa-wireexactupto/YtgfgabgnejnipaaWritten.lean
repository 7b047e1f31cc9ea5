import Derived.Test.YtgfgabgnejnipaaPut
namespace Go.Proofs.Ytgfgabgnejnipaa
open Go.RowKit

set_option maxRecDepth 100000 in
set_option maxHeartbeats 1000000 in
theorem size_any (fv : Value) (kind n : Int) (ys : List UInt8) (w : World) (hy : Has w fv ys) (hyl : ys.length ≤ 9223372036854775807) :
    Calls Try.prog 34 #[fieldV kind n fv] w fun e w' => e = .returned (.int .i64 ((enc kind n ys).length : Int)) ∧ Below w.heap.size w w' := by
  obtain ⟨fo, fc, rfl⟩ := hy.slice
  unfold enc fieldV
  have HB := hide (below_new w (.cells #[.int .i64 kind, .int .i64 n, .slice fo ys.length fc] 42))
  have HY := hide (hy.below HB.out)
  have h5 : kind % 5 = 0 ∨ kind % 5 = 1 ∨ kind % 5 = 2 ∨ kind % 5 = 3 ∨ kind % 5 = 4 := by omega
  clear hy
  rcases h5 with hk | hk | hk | hk | hk
  · rw [if_pos hk]
    have HK := hide hk
    clear hk
    go_enter Try.func34, Try.ntmps34
    go_wp2_with fail
    refine (rest_any _ _ _ (by omega) (by omega)).mono ?_
    rintro e w1 ⟨rfl, rfl⟩
    rw [HK.out]
    go_wp2
    go_ret
    exact ⟨rfl, HB.out⟩
  · rw [if_neg (by omega), if_pos hk]
    have HK := hide hk
    clear hk
    go_enter Try.func34, Try.ntmps34
    go_wp2_with fail
    refine (rest_any _ _ _ (by omega) (by omega)).mono ?_
    rintro e w1 ⟨rfl, rfl⟩
    rw [HK.out]
    go_wp2
    go_ret
    exact ⟨rfl, HB.out⟩
  · rw [if_neg (by omega), if_neg (by omega), if_pos hk]
    have HK := hide hk
    clear hk
    go_enter Try.func34, Try.ntmps34
    go_wp2_with fail
    refine (rest_any _ _ _ (by omega) (by omega)).mono ?_
    rintro e w1 ⟨rfl, rfl⟩
    rw [HK.out]
    go_wp2
    go_ret
    exact ⟨rfl, HB.out⟩
  · rw [if_neg (by omega), if_neg (by omega), if_neg (by omega), if_pos hk]
    have HK := hide hk
    clear hk
    obtain ⟨ts, ht⟩ : ∃ ts, ys.take 300 = ts := ⟨_, rfl⟩
    rw [ht]
    have htl : ts.length ≤ 300 := by rw [← ht]; simp; omega
    have HT := hide ht
    clear ht
    go_enter Try.func34, Try.ntmps34
    go_wp2_with fail
    refine (rest_any _ _ _ (by omega) (by omega)).mono ?_
    rintro e w1 ⟨rfl, rfl⟩
    rw [HK.out]
    go_wp2_with fail
    refine (short_is _ ys ts _ HY.out hyl HT.out).mono ?_
    rintro e w3 ⟨ao, cap, rfl, _, rfl⟩
    go_wp2
    go_ret
    exact ⟨rfl, HB.out⟩
  · rw [if_neg (by omega), if_neg (by omega), if_neg (by omega), if_neg (by omega)]
    have HK := hide hk
    clear hk
    obtain ⟨ts, ht⟩ : ∃ ts, ys.take 300 = ts := ⟨_, rfl⟩
    rw [ht]
    have htl : ts.length ≤ 300 := by rw [← ht]; simp; omega
    have HT := hide ht
    clear ht
    have HL : Hid (((be16 ts.length ++ ts).length : Int) = 2 + (ts.length : Int)) := by simp [Hid, be16]; omega
    rw [HL.out]
    go_enter Try.func34, Try.ntmps34
    go_wp2_with fail
    refine (rest_any _ _ _ (by omega) (by omega)).mono ?_
    rintro e w1 ⟨rfl, rfl⟩
    rw [HK.out]
    go_wp2_with fail
    refine (short_is _ ys ts _ HY.out hyl HT.out).mono ?_
    rintro e w3 ⟨ao, cap, rfl, _, rfl⟩
    go_wp2
    go_ret
    exact ⟨rfl, HB.out⟩

structure Fd where
  kind : Int
  n : Int
  v : Value
  bs : List UInt8

/-- The slice value v holds the fields. -/
def Flds (w : World) (v : Value) (fs : List Fd) : Prop :=
  (v = .slice none 0 0 ∧ fs = []) ∨ ∃ ad cap, v = .slice (some ad) fs.length cap ∧ fs.length ≤ cap ∧ ∀ i f, fs[i]? = some f →
    w.cell? (ad.add (i * 3)) = some (.int .i64 f.kind) ∧ w.cell? ⟨(ad.add (i * 3)).block, (ad.add (i * 3)).off + 1, none⟩ = some (.int .i64 f.n) ∧ w.cell? ⟨(ad.add (i * 3)).block, (ad.add (i * 3)).off + 2, none⟩ = some f.v ∧ Has w f.v f.bs ∧ f.bs.length ≤ 9223372036854775807

/-- All fields' bytes, of the first twenty. -/
def encs (fs : List Fd) (k : Nat) : List UInt8 := (fs.take k).flatMap fun f => enc f.kind f.n f.bs

theorem at_below {w w' : World} (hb : Below w.heap.size w w') {a : Addr} {u : Value} (h : w.cell? a = some u) : w'.cell? a = some u := (hb.cell (cell_lt h)).trans h

theorem encs_step (fs : List Fd) (k : Nat) (h : k < fs.length) : encs fs (k + 1) = encs fs k ++ enc fs[k].kind fs[k].n fs[k].bs := by
  unfold encs
  rw [List.take_succ_eq_append_getElem h, List.flatMap_append]; simp

theorem encs_length (fs : List Fd) : ∀ k, (encs fs k).length ≤ 302 * k
  | 0 => by simp [encs]
  | k + 1 => by
    have ih := encs_length fs k
    by_cases h : k < fs.length
    · rw [encs_step fs k h, List.length_append]
      have := enc_length fs[k].kind fs[k].n fs[k].bs
      omega
    · have e : encs fs (k + 1) = encs fs k := by
        unfold encs
        rw [List.take_of_length_le (by omega), List.take_of_length_le (by omega)]
      rw [e]; omega

theorem encs_all (fs : List Fd) (k : Nat) (h : fs.length ≤ k) (hk : k ≤ 20) : encs fs k = encs fs 20 := by
  unfold encs
  rw [List.take_of_length_le (by omega), List.take_of_length_le (by omega)]

theorem put1_fits (most : Nat) (bs ys : List UInt8) (h : bs.length + ys.length ≤ most) : put1 most bs 0 ys = (bs ++ ys, 0) := by
  unfold put1
  rw [if_neg (by simp), if_pos h]

set_option maxRecDepth 100000 in
set_option maxHeartbeats 1000000 in
theorem written_some (ad : Addr) (cap : Nat) (fs : List Fd) (w : World) (_hlen : fs.length ≤ 9223372036854775807)
    (hf : ∀ i f, fs[i]? = some f → w.cell? (ad.add (i * 3)) = some (.int .i64 f.kind) ∧ w.cell? ⟨(ad.add (i * 3)).block, (ad.add (i * 3)).off + 1, none⟩ = some (.int .i64 f.n) ∧ w.cell? ⟨(ad.add (i * 3)).block, (ad.add (i * 3)).off + 2, none⟩ = some f.v ∧ Has w f.v f.bs ∧ f.bs.length ≤ 9223372036854775807) :
    Calls Try.prog 16 #[.slice (some ad) fs.length cap] w fun e w' => ∃ ao cp, e = .returned (.tuple #[.slice ao (encs fs 20).length cp, .bool true]) ∧ Own w' w.heap.size (.slice ao (encs fs 20).length cp) (encs fs 20) ∧ Below w.heap.size w w' := by
  go_enter Try.func16, Try.ntmps16
  go_wp2_with fail
  refine (newWriter_ok 6040 _ (by omega)).mono ?_
  rintro e w1 ⟨rfl, h1, h2⟩
  have H1 := hide h1
  have H2 := hide h2
  clear h1 h2
  go_wp2_with fail
  go_loopw [6, 7] (fun t i wr => ∃ (k : Nat) (v : Value), k ≤ fs.length ∧ k ≤ 20 ∧ i = .int .i64 k ∧ t = .int .i64 ((encs fs k).length : Int) ∧ Hid (Wr wr w.heap.size v 6040 (encs fs k) 0) ∧ Hid (Below w.heap.size w wr)) (fun _ i _ => fs.length - (intOf i).toNat)
  case atStart => exact ⟨0, _, Nat.zero_le _, Nat.zero_le _, rfl, rfl, H1, H2⟩
  case round =>
    obtain ⟨k, v, hk, hk20, rfl, rfl, hw, hb⟩ := hrel
    clear H1 H2
    have hel := encs_length fs k
    by_cases hlt : k < fs.length ∧ k < 20
    · obtain ⟨hl1, hl2⟩ := hlt
      have hl1' : (k : Int) < (fs.length : Int) := by omega
      have hl2' : (k : Int) < 20 := by omega
      obtain ⟨f1, f2, f3, f4, f5⟩ := hf k fs[k] (List.getElem?_eq_getElem hl1)
      have c1 : wr.cell? (ad.add (k * 3)) = some (.int .i64 fs[k].kind) := (hb.out.cell (cell_lt f1)).trans f1
      have c2 : wr.cell? ⟨(ad.add (k * 3)).block, (ad.add (k * 3)).off + 1, none⟩ = some (.int .i64 fs[k].n) := (hb.out.cell (cell_lt f2)).trans f2
      have c3 : wr.cell? ⟨(ad.add (k * 3)).block, (ad.add (k * 3)).off + 2, none⟩ = some fs[k].v := (hb.out.cell (cell_lt f3)).trans f3
      have hfit : Hid (put1 6040 (encs fs k) 0 (enc fs[k].kind fs[k].n fs[k].bs) = (encs fs (k + 1), 0)) := by
        have h1 := enc_length fs[k].kind fs[k].n fs[k].bs
        rw [encs_step fs k hl1]
        exact put1_fits _ _ _ (by omega)
      have hel2 := encs_length fs (k + 1)
      have hlen2 : Hid (((encs fs (k + 1)).length : Int) = (encs fs k).length + (enc fs[k].kind fs[k].n fs[k].bs).length) := by
        rw [encs_step fs k hl1, List.length_append]; show ((_ : Nat) : Int) = _; omega
      have henc := enc_length fs[k].kind fs[k].n fs[k].bs
      have hyP := hide (f4.early (p := w.heap.size) hb.out (Nat.le_refl _))
      have F1 := hide f1
      have F2 := hide f2
      have F3 := hide f3
      clear hf f1 f2 f3 f4
      go_wp2_with fail
      refine (put_any _ v fs[k].v 6040 (encs fs k) 0 fs[k].kind fs[k].n fs[k].bs _ hw.out (by omega) (by omega) hyP.out f5).mono ?_
      rintro e w2 ⟨rfl, v2, h2, hb2⟩
      rw [hfit.out] at h2
      have HW2 := hide h2
      have HB2 := hide (hb.out.trans hb2)
      have HY2 := hide (hyP.out.below hb2)
      have d1 := at_below HB2.out F1.out
      have d2 := at_below HB2.out F2.out
      have d3 := at_below HB2.out F3.out
      clear c1 c2 c3 h2 hb2 hw hb hyP
      go_wp2_with fail
      refine (size_any fs[k].v fs[k].kind fs[k].n fs[k].bs _ HY2.out.has f5).mono ?_
      rintro e w3 ⟨rfl, hb3⟩
      have HW3 := hide (HW2.out.below hb3)
      have HB3 := hide (bel_chain HB2.out hb3)
      clear d1 d2 d3 hb3 HW2 HB2 HY2 F1 F2 F3
      go_wp2
      go_roundw
      case rel => exact ⟨k + 1, v2, by omega, by omega, by go_num, by rw [hlen2.out], HW3, HB3⟩
      case measure => simp [intOf]; omega
    · have hE : encs fs k = encs fs 20 := by
        by_cases hh : k < fs.length
        · rw [show k = 20 by omega]
        · exact encs_all fs k (by omega) hk20
      rw [hE] at hw hel ⊢
      clear hE hf
      generalize hE20 : encs fs 20 = E at *
      have HE := hide hE20
      clear hE20
      by_cases hh : k < fs.length
      · have t1 : (k : Int) < (fs.length : Int) := by omega
        have t2 : ¬ (k : Int) < 20 := by omega
        go_wp2_with fail
        refine (out_ok _ v 6040 E _ hw.out (by omega) (by omega)).mono ?_
        rintro e w2 ⟨ao, cp, rfl, ho2, hb2⟩
        have HO := hide (ho2.weaken hb.out.size)
        have HB := hide (bel_chain hb.out hb2)
        clear ho2 hb2
        go_wp2
        go_ret2
        exact ⟨ao, cp, by rw [HE.out]; rfl, by rw [HE.out]; exact HO.out, HB.out⟩
      · have t1 : ¬ (k : Int) < (fs.length : Int) := by omega
        go_wp2_with fail
        refine (out_ok _ v 6040 E _ hw.out (by omega) (by omega)).mono ?_
        rintro e w2 ⟨ao, cp, rfl, ho2, hb2⟩
        have HO := hide (ho2.weaken hb.out.size)
        have HB := hide (bel_chain hb.out hb2)
        clear ho2 hb2
        go_wp2
        go_ret2
        exact ⟨ao, cp, by rw [HE.out]; rfl, by rw [HE.out]; exact HO.out, HB.out⟩

set_option maxRecDepth 100000 in
set_option maxHeartbeats 1000000 in
theorem written_nil (w : World) :
    Calls Try.prog 16 #[.slice none 0 0] w fun e w' => ∃ ao cp, e = .returned (.tuple #[.slice ao 0 cp, .bool true]) ∧ Own w' w.heap.size (.slice ao 0 cp) [] ∧ Below w.heap.size w w' := by
  go_enter Try.func16, Try.ntmps16
  go_wp2_with fail
  refine (newWriter_ok 6040 _ (by omega)).mono ?_
  rintro e w1 ⟨rfl, h1, h2⟩
  have H1 := hide h1
  have H2 := hide h2
  clear h1 h2
  go_wp2_with fail
  refine wp_loop_rounds 1 ?_
  rw [rounds_succ]
  go_wp2_with fail
  refine (out_ok _ _ 6040 [] _ H1.out (by omega) (by simp)).mono ?_
  rintro e w2 ⟨ao, cp, rfl, ho2, hb2⟩
  have HO := hide (ho2.weaken H2.out.size)
  have HB := hide (bel_chain H2.out hb2)
  clear ho2 hb2
  go_wp2
  go_ret2
  exact ⟨ao, cp, rfl, HO.out, HB.out⟩

theorem written_any (v : Value) (fs : List Fd) (w : World) (h : Flds w v fs) (hlen : fs.length ≤ 9223372036854775807) :
    Calls Try.prog 16 #[v] w fun e w' => ∃ ao cp, e = .returned (.tuple #[.slice ao (encs fs 20).length cp, .bool true]) ∧ Own w' w.heap.size (.slice ao (encs fs 20).length cp) (encs fs 20) ∧ Below w.heap.size w w' := by
  rcases h with ⟨rfl, rfl⟩ | ⟨ad, cap, rfl, h2, h3⟩
  · exact written_nil w
  · exact written_some ad cap fs w hlen h3

end Go.Proofs.Ytgfgabgnejnipaa
