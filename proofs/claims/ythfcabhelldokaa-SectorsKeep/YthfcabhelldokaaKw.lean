import Derived.Test.YthfcabhelldokaaPc
import Derived.Test.YthfcabhelldokaaPa
import Derived.Test.YthfcabhelldokaaPb
import Derived.Test.YthfcabhelldokaaPw
set_option linter.unusedVariables false
set_option linter.unusedSimpArgs false
namespace Go.Proofs.Ythfcabhelldokaa
open Go.RowKit

theorem plays_life {w W : World} {pv t : Nat} (h : Rn w W pv t) (ht : t ≤ 1000) (s : Stp) (hs : s.ok w) :
    Calls Try.prog 28 #[.pointer (some ⟨pv, 0, none⟩), .agg (stC s).toArray] W fun e w' => e = .returned (.bool true) ∧ Rn w w' pv (t + 1) := by
  obtain ⟨L, vi, vl, gs, D, h⟩ := h
  by_cases n4 : s.kind = 4
  · exact pl_flush h ht s hs n4
  by_cases n7 : s.kind = 7
  · exact pl_crash h ht s hs n4 n7
  by_cases n8 : s.kind = 8
  · exact pl_up h ht s hs n4 n7 n8
  by_cases n5 : s.kind = 5
  · exact pl_arm h ht s hs n4 n7 n8 n5
  by_cases n6 : s.kind = 6
  · exact pl_armed h ht s hs n4 n7 n8 n5 n6
  by_cases n1 : s.kind = 1
  · exact pl_read h ht s hs n4 n7 n8 n5 n6 n1
  by_cases n9 : s.kind = 9
  · exact pl_tell h ht s hs n4 n7 n8 n5 n6 n1 n9
  exact pl_write h ht s hs n4 n7 n8 n5 n6 n1 n9
theorem ims_zer : ims4 (zer 4) = List.replicate 4 zS := by
  unfold ims4
  apply List.ext_getElem?
  intro j
  rcases Nat.lt_or_ge j 4 with h | h
  · rw [List.getElem?_map, List.getElem?_range h, List.getElem?_replicate_of_lt h]
    show some (secS (zer 4) j) = some zS
    have : secB (zer 4) j = List.replicate 512 0 := by
      unfold secB zer
      rw [List.drop_replicate, List.take_replicate]
      congr 1
      omega
    unfold secS zS
    rw [this]
  · rw [List.getElem?_eq_none (by simpa using h), List.getElem?_eq_none (by simpa using h)]
theorem life_born {w W : World} {pv : Nat} {L : Lay} {vi : Value} (hm : Mine w W L (freshD 4 (zer 4))) (hl : Life w W pv L vi (List.replicate 4 zS) (.slice none 0 0)) : Rn w W pv 0 :=
  ⟨L, vi, .slice none 0 0, [], freshD 4 (zer 4), ⟨hm, ⟨hl.bl, by show World.ownsRow _ _ _ _ _ (ims4 (zer 4)).length ((ims4 (zer 4)).map _); rw [ims_zer]; exact hl.im, by simp [ims4], World.ownsRow_nil _ _ _ _, fun k g x h1 _ => by simp at h1, rfl, fun x hx => by simp [freshD] at hx, by simp [freshD]⟩, fun k hk => by
    rcases hk with rfl | hk | hk | hk
    · exact ⟨hl.lo, hl.no⟩
    · exact ⟨(hl.vin k hk).1, (hl.vin k hk).2.2⟩
    · simp [Value.ownBlock] at hk
    · simp at hk, fun e => (hl.vin pv e).2.1 rfl, by simp [Value.ownBlock], fun k _ => by simp [Value.ownBlock], fun g hg => by simp at hg⟩, rfl, rfl, rfl, Nat.le_refl _, Nat.le_refl _⟩
def keE (sv : Value) (pv t : Nat) : List (Nat × Value) := [(0, sv), (3, .pointer (some ⟨pv, 0, none⟩)), (4, .bool true), (5, .int .i64 (t : Int))]
theorem tn200 (t : Nat) (h : t < 200) : IntKind.i64.wrap ((t : Int) + 1) = ((t + 1 : Nat) : Int) := by rw [IntKind.wrap_i64]; omega
theorem ms200 (t : Nat) (h : t < 200) : 200 - (t + 1) < 200 - t := by omega
set_option maxRecDepth 100000 in
set_option maxHeartbeats 1000000 in
theorem keep_law (sv : Value) (os : List Stp) (w : World) (hsc : Script w sv os) : Calls Try.prog 7 #[sv] w fun e w' => e = .returned (.bool true) ∧ Below w.heap.size w w' := by
  have hbo := born_any w
  refine calls_of_args [sv] Try.func7 rfl 38 Try.ntmps7 (by show 1 ≤ 38; decide) ?_
  refine EW.seq ?_
  refine EW.region ?_
  first | refine WL.assign rfl rfl rfl ?_
  refine WL.done ?_
  refine EW.on ?_
  refine EW.seq ?_
  refine EW.region ?_
  refine WL.call [] enter11 rfl rfl rfl hbo ?_
  rintro x w1 ⟨pv, L, vi, rfl, hm, hlf⟩
  refine ⟨_, rfl, ?_⟩
  first | refine WL.move rfl rfl rfl ?_
  first | refine WL.extract rfl rfl rfl (ext_2 _ _ _).1 ?_
  first | refine WL.extract rfl rfl rfl (ext_2 _ _ _).2 ?_
  first | refine WL.assign rfl rfl rfl ?_
  first | refine WL.assign rfl rfl rfl ?_
  refine WL.done ?_
  have hrn := life_born hm hlf
  clear hm hlf hbo
  refine EW.on ?_
  refine EW.seq ?_
  refine EW.seq ?_
  refine EW.region ?_
  first | refine WL.assign rfl rfl rfl ?_
  refine WL.done ?_
  refine EW.on ?_
  refine EW.block ?_
  refine EW.loop (keE sv pv) (fun t w' => t ≤ os.length ∧ t ≤ 200 ∧ Rn w w' pv t) (fun t => 200 - t) 0 [0, 3, 4, 5] rfl ⟨Nat.zero_le _, Nat.zero_le _, hrn⟩ ?_
  rintro t wr ⟨htl, ht2, hr⟩
  show EW _ _ _ _ [(0, sv), (3, .pointer (some ⟨pv, 0, none⟩)), (4, .bool true), (5, .int .i64 (t : Int))] _
  by_cases h1 : t < os.length
  · have z1 : (t : Int) < (os.length : Int) := Int.ofNat_lt.2 h1
    by_cases h2 : t < 200
    · have z2 : (t : Int) < 200 := Int.ofNat_lt.2 h2
      have tn := tn200 t h2
      obtain ⟨s, hsg⟩ : ∃ s, os[t]? = some s := ⟨os[t]'h1, List.getElem?_eq_getElem _⟩
      obtain ⟨ad, hix, hat, hok⟩ := hsc.item t s hsg
      have hbe : Below w.heap.size w wr := by obtain ⟨L, vi, vl, gs, D, h⟩ := hr; exact h.kp.mine.be
      have hld := run_loadA (P := Try.prog) (ty := 53) (hat.below hbe) Try.underlying53 rfl (info53 s)
      have hpl := plays_life hr (by omega) s hok
      refine EW.seq ?_
      refine EW.seq ?_
      refine EW.region ?_
      first | refine WL.move rfl rfl rfl ?_
      first | refine WL.move rfl rfl rfl ?_
      first | refine WL.move rfl rfl rfl ?_ | refine WL.skip _ rfl rfl rfl ?_
      first | refine WL.move rfl rfl rfl ?_ | refine WL.skip _ rfl rfl rfl ?_
      refine WL.len rfl rfl rfl (hsc.len _ _) ?_
      refine WL.bin rfl rfl rfl rfl (int_lt_t z1 _ _ _) ?_
      first | refine WL.pick rfl rfl rfl rfl ?_
      first | refine WL.move rfl rfl rfl ?_
      first | refine WL.move rfl rfl rfl ?_ | refine WL.skip _ rfl rfl rfl ?_
      refine WL.bin rfl rfl rfl rfl (int_lt_t z2 _ _ _) ?_
      first | refine WL.pick rfl rfl rfl rfl ?_
      refine WL.done ?_
      refine EW.on ?_
      refine EW.cond_t rfl ?_
      refine EW.skip ?_
      refine EW.on ?_
      refine EW.seq ?_
      refine EW.block ?_
      refine EW.region ?_
      first | refine WL.move rfl rfl rfl ?_
      first | refine WL.move rfl rfl rfl ?_
      first | refine WL.move rfl rfl rfl ?_
      refine WL.index rfl rfl rfl rfl (hix _) ?_
      refine WL.load rfl rfl rfl hld ?_
      refine WL.call [.pointer (some ⟨pv, 0, none⟩), .agg (stC s).toArray] enter28 rfl rfl rfl hpl ?_
      rintro x w3 ⟨rfl, hr3⟩
      refine ⟨_, rfl, ?_⟩
      first | refine WL.assign rfl rfl rfl ?_
      refine WL.done ?_
      refine pn_block ?_
      refine EW.on ?_
      refine EW.region ?_
      first | refine WL.move rfl rfl rfl ?_
      first | refine WL.bin rfl rfl rfl rfl (int_add ‹_› _ _ _) ?_
      first | refine WL.assign rfl rfl rfl ?_
      refine WL.done ?_
      exact EW.again (t + 1) [0, 3, 4, 5] rfl ⟨h1, h2, hr3⟩ (ms200 t h2)
    · have z2 : ¬ (t : Int) < 200 := fun hh => h2 (Int.ofNat_lt.1 hh)
      refine EW.seq ?_
      refine EW.seq ?_
      refine EW.region ?_
      first | refine WL.move rfl rfl rfl ?_
      first | refine WL.move rfl rfl rfl ?_
      first | refine WL.move rfl rfl rfl ?_ | refine WL.skip _ rfl rfl rfl ?_
      first | refine WL.move rfl rfl rfl ?_ | refine WL.skip _ rfl rfl rfl ?_
      refine WL.len rfl rfl rfl (hsc.len _ _) ?_
      refine WL.bin rfl rfl rfl rfl (int_lt_t z1 _ _ _) ?_
      first | refine WL.pick rfl rfl rfl rfl ?_
      first | refine WL.move rfl rfl rfl ?_
      first | refine WL.move rfl rfl rfl ?_ | refine WL.skip _ rfl rfl rfl ?_
      refine WL.bin rfl rfl rfl rfl (int_lt_f z2 _ _ _) ?_
      first | refine WL.pick rfl rfl rfl rfl ?_
      refine WL.done ?_
      refine EW.on ?_
      refine EW.cond_f rfl ?_
      refine EW.exit ?_
      repeat refine px_then ?_
      refine px_block ?_
      refine EW.on ?_
      refine EW.seq ?_
      obtain ⟨L, vi, vl, gs, D, h⟩ := hr
      have hrd := reads_any h.kp.mine.dev h.kp.bk h.dn h.n4 (fun i hi => ims4_at _ i hi)
      refine EW.region ?_
      first | refine WL.move rfl rfl rfl ?_
      first | refine WL.move rfl rfl rfl ?_
      first | refine WL.move rfl rfl rfl ?_ | refine WL.skip _ rfl rfl rfl ?_
      refine WL.call [.pointer (some ⟨pv, 0, none⟩)] enter29 rfl rfl rfl hrd ?_
      rintro x w3 ⟨rfl, be3⟩
      have k3 := h.kp.below be3
      have hd := durable_law k3.mine.dev k3.bk h.n4 (fun i hi => ims4_at _ i hi)
      refine ⟨_, rfl, ?_⟩
      first | refine WL.pick rfl rfl rfl rfl ?_
      first | refine WL.move rfl rfl rfl ?_
      first | refine WL.move rfl rfl rfl ?_ | refine WL.skip _ rfl rfl rfl ?_
      refine WL.call [.pointer (some ⟨pv, 0, none⟩)] enter30 rfl rfl rfl hd ?_
      rintro x w4 ⟨rfl, be4⟩
      refine ⟨_, rfl, ?_⟩
      first | refine WL.pick rfl rfl rfl rfl ?_
      first | refine WL.assign rfl rfl rfl ?_
      refine WL.done ?_
      refine EW.on ?_
      refine EW.ret ?_
      exact EW.returns Try.results7 rfl ⟨rfl, (k3.below be4).mine.be⟩
  · have z1 : ¬ (t : Int) < (os.length : Int) := fun hh => h1 (Int.ofNat_lt.1 hh)
    refine EW.seq ?_
    refine EW.seq ?_
    refine EW.region ?_
    first | refine WL.move rfl rfl rfl ?_
    first | refine WL.move rfl rfl rfl ?_
    first | refine WL.move rfl rfl rfl ?_ | refine WL.skip _ rfl rfl rfl ?_
    first | refine WL.move rfl rfl rfl ?_ | refine WL.skip _ rfl rfl rfl ?_
    refine WL.len rfl rfl rfl (hsc.len _ _) ?_
    refine WL.bin rfl rfl rfl rfl (int_lt_f z1 _ _ _) ?_
    first | refine WL.pick rfl rfl rfl rfl ?_
    first | refine WL.move rfl rfl rfl ?_
    first | refine WL.move rfl rfl rfl ?_ | refine WL.skip _ rfl rfl rfl ?_
    first | refine WL.bin rfl rfl rfl rfl (int_lt_t ‹_› _ _ _) ?_ | refine WL.bin rfl rfl rfl rfl (int_lt_f ‹_› _ _ _) ?_ | refine WL.skip _ rfl rfl rfl ?_
    first | refine WL.pick rfl rfl rfl rfl ?_
    refine WL.done ?_
    refine EW.on ?_
    refine EW.cond_f rfl ?_
    refine EW.exit ?_
    repeat refine px_then ?_
    refine px_block ?_
    refine EW.on ?_
    refine EW.seq ?_
    obtain ⟨L, vi, vl, gs, D, h⟩ := hr
    have hrd := reads_any h.kp.mine.dev h.kp.bk h.dn h.n4 (fun i hi => ims4_at _ i hi)
    refine EW.region ?_
    first | refine WL.move rfl rfl rfl ?_
    first | refine WL.move rfl rfl rfl ?_
    first | refine WL.move rfl rfl rfl ?_ | refine WL.skip _ rfl rfl rfl ?_
    refine WL.call [.pointer (some ⟨pv, 0, none⟩)] enter29 rfl rfl rfl hrd ?_
    rintro x w3 ⟨rfl, be3⟩
    have k3 := h.kp.below be3
    have hd := durable_law k3.mine.dev k3.bk h.n4 (fun i hi => ims4_at _ i hi)
    refine ⟨_, rfl, ?_⟩
    first | refine WL.pick rfl rfl rfl rfl ?_
    first | refine WL.move rfl rfl rfl ?_
    first | refine WL.move rfl rfl rfl ?_ | refine WL.skip _ rfl rfl rfl ?_
    refine WL.call [.pointer (some ⟨pv, 0, none⟩)] enter30 rfl rfl rfl hd ?_
    rintro x w4 ⟨rfl, be4⟩
    refine ⟨_, rfl, ?_⟩
    first | refine WL.pick rfl rfl rfl rfl ?_
    first | refine WL.assign rfl rfl rfl ?_
    refine WL.done ?_
    refine EW.on ?_
    refine EW.ret ?_
    exact EW.returns Try.results7 rfl ⟨rfl, (k3.below be4).mine.be⟩
end Go.Proofs.Ythfcabhelldokaa
