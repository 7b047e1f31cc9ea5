import Derived.Test.YtggehhlobjjmpaaRc
set_option linter.unusedVariables false
set_option linter.unusedSimpArgs false
namespace Go.Proofs.Ytggehhlobjjmpaa
open Go.RowKit

theorem Lt.trans {a b c : Sk} (h1 : Lt a b) (h2 : Lt b c) : Lt a c := by unfold Lt at *; omega
theorem ins_lt {s : Sk} {L : List Sk} {j : Nat} (hL : L.Pairwise Lt) (h : InsP s L j) (hn : ∀ a ∈ L, ¬ (a.t = s.t ∧ a.n = s.n)) : (insL s L j).Pairwise Lt := by
  unfold insL
  rw [List.pairwise_append, List.pairwise_cons]
  have hd : L = L.take j ++ L.drop j := (List.take_append_drop j L).symm
  have hL' := hL
  rw [hd, List.pairwise_append] at hL'
  have hge : ∀ b ∈ L.drop j, Lt s b := fun b hb => by
    rcases Nat.lt_or_ge j L.length with hj | hj
    · rw [List.drop_eq_getElem_cons hj] at hb hL'
      have h0 := h.hi L[j] (List.getElem?_eq_getElem hj)
      rcases List.mem_cons.1 hb with e | e
      · rw [e]; exact h0
      · exact h0.trans ((List.pairwise_cons.1 hL'.2.1).1 b e)
    · rw [List.drop_eq_nil_of_le hj] at hb; cases hb
  have hlt : ∀ a ∈ L.take j, Lt a s := fun a ha => by
    obtain ⟨i, hi, rfl⟩ := List.mem_iff_getElem.1 ha
    rw [List.length_take] at hi
    have h1 := h.lo i L[i] (by omega) (List.getElem?_eq_getElem (by omega))
    have h2 := hn L[i] (List.getElem_mem _)
    rw [List.getElem_take]
    unfold Lt at *
    omega
  refine ⟨hL'.1, ⟨hge, hL'.2.1⟩, fun a ha b hb => ?_⟩
  rcases List.mem_cons.1 hb with e | e
  · rw [e]; exact hlt a ha
  · exact (hlt a ha).trans (hge b e)
theorem ins_perm (s : Sk) (L : List Sk) (j : Nat) : (insL s L j).Perm (L ++ [s]) := by
  unfold insL
  refine List.perm_middle.trans ?_
  rw [List.take_append_drop]
  exact (List.perm_append_singleton s L).symm
theorem ins_len {s : Sk} {L : List Sk} {j : Nat} : (insL s L j).length = L.length + 1 := by rw [(ins_perm s L j).length_eq]; simp
def adS (t f : Nat) (Ks : List (List UInt8)) : List Sk := (Ks.zipIdx 0).map fun x => ⟨t, f + x.2, x.1⟩
theorem adS_sk (t f c : Nat) (Ks : List (List UInt8)) : (adE t f c Ks).map Me.sk = adS t f Ks := by unfold adE adS; rw [List.map_map]; rfl
theorem adS_snoc (t f : Nat) (Ks : List (List UInt8)) (i : Nat) (K : List UInt8) (h : Ks[i]? = some K) : adS t f (Ks.take (i + 1)) = adS t f (Ks.take i) ++ [⟨t, f + i, K⟩] := by
  have := congrArg (List.map Me.sk) (adE_snoc t f 0 Ks i K h)
  rw [List.map_append, adS_sk, adS_sk] at this
  exact this
def takenL (L : List Sk) (t f m : Nat) : Bool := (List.range m).any fun i => (lkL L t (f + i)).isSome
def adNL (L : List Sk) (most t f m : Nat) : Int := if m = 0 then 0 else if 4294967296 < f + m then 130 else if takenL L t f m = true then 151 else if most < L.length + m then 150 else 0
theorem takenL_t {L : List Sk} {t f m i : Nat} (hi : i < m) (h : lkL L t (f + i) ≠ none) : takenL L t f m = true := by
  unfold takenL
  rw [List.any_eq_true]
  exact ⟨i, List.mem_range.2 hi, Option.isSome_iff_ne_none.2 h⟩
theorem takenL_f {L : List Sk} {t f m : Nat} (h : ∀ i, i < m → lkL L t (f + i) = none) : takenL L t f m = false := by
  unfold takenL
  rw [List.any_eq_false]
  intro i hi
  rw [h i (List.mem_range.1 hi)]
  simp
theorem cv313 (i : Nat) (h : i < 4294967296) (W : World) : (Go.convert 31 3 (u32v i)).run Try.prog W = .ok (.int .i64 (i : Int)) W := by
  have e : IntKind.i64.wrap (i : Int) = (i : Int) := by rw [IntKind.wrap_i64]; omega
  unfold u32v
  go_simp
def r1E (q t f : Nat) (v : Value) (x : Nat) : List (Nat × Value) := [(0, .pointer (some ⟨q, 0, none⟩)), (1, u32v t), (2, u32v f), (3, v), (9, .int .i64 (x : Int))]
def R1R (w : World) (L : List Sk) (t f m : Nat) (x : Nat) (W : World) : Prop := x ≤ m ∧ (∀ j, j < x → L.findIdx? (isP t (f + j)) = none) ∧ W = w
def r2E (q t f : Nat) (v : Value) (x : Value × List Sk × Nat) : List (Nat × Value) := [(0, .pointer (some ⟨q, 0, none⟩)), (1, u32v t), (2, u32v f), (3, v), (10, .int .i64 (x.2.2 : Int))]
structure R2R (w : World) (q : Nat) (v0 : Value) (most : Nat) (L : List Sk) (t f : Nat) (Ks : List (List UInt8)) (x : Value × List Sk × Nat) (W : World) : Prop where
  le : x.2.2 ≤ Ks.length
  rt : Rt W q x.1 most x.2.1
  lt : x.2.1.Pairwise Lt
  pm : x.2.1.Perm (L ++ adS t f (Ks.take x.2.2))
  fx : Fx (fun k => k = q) w W
  ow : ∀ b, x.1.ownBlock = some b → v0.ownBlock = some b ∨ w.heap.size ≤ b
theorem isP_no {L : List Sk} {t n : Nat} (h : L.findIdx? (isP t n) = none) : ∀ a ∈ L, ¬ (a.t = t ∧ a.n = n) := fun a ha => by
  rw [List.findIdx?_eq_none_iff] at h
  have := h a ha
  unfold isP at this
  simpa using this
theorem adS_no {t f x : Nat} {Ks : List (List UInt8)} : ∀ a ∈ adS t f (Ks.take x), ¬ (a.t = t ∧ a.n = f + x) := fun a ha => by
  obtain ⟨y, hy, rfl⟩ := List.mem_map.1 ha
  have := List.mem_zipIdx hy
  simp only [List.length_take] at this
  intro hh
  have h2 := hh.2
  dsimp only at h2
  omega
set_option maxRecDepth 100000 in
set_option maxHeartbeats 8000000 in
theorem radd_any {w : World} {q : Nat} {v : Value} {most : Nat} {L : List Sk} (h : Rt w q v most L) (hLm : L.length ≤ most) (hmo : most ≤ 256) (hP : L.Pairwise Lt) (t f : Nat) (ht : t < 4294967296) (hf : f < 4294967296) {kw : Value} {Ks : List (List UInt8)} (hk : Kl w kw Ks) (hkl : Ks.length < 4611686018427387904) (hkq : ∀ b, kw.ownBlock = some b → b ≠ q ∨ Ks = []) :
    Calls Try.prog 24 #[.pointer (some ⟨q, 0, none⟩), u32v t, u32v f, kw] w fun e w' => e = .returned (.int .i64 (adNL L most t f Ks.length)) ∧ ∃ v' L', Rt w' q v' most L' ∧ L'.Pairwise Lt ∧ (adNL L most t f Ks.length ≠ 0 → L' = L) ∧ (adNL L most t f Ks.length = 0 → L'.Perm (L ++ adS t f Ks)) ∧ Fx (fun k => k = q) w w' ∧ (∀ b, v'.ownBlock = some b → v.ownBlock = some b ∨ w.heap.size ≤ b) := by
  refine calls_of_args [.pointer (some ⟨q, 0, none⟩), u32v t, u32v f, kw] Try.func24 rfl 66 Try.ntmps24 (by show 4 ≤ 66; decide) ?_
  refine EW.seq ?_
  refine EW.region ?_
  first | refine WL.assign rfl rfl rfl ?_
  refine WL.done ?_
  refine EW.on ?_
  refine EW.seq ?_
  refine EW.seq ?_
  refine EW.region ?_
  first | refine WL.move rfl rfl rfl ?_
  refine WL.len rfl rfl rfl (hk.len _ _) ?_
  refine WL.bin rfl rfl rfl rfl (int_eq_d _ _ _ _ _) ?_
  refine WL.done ?_
  refine EW.on ?_
  refine EW.cond_d rfl (fun h13 => ?_) (fun h13 => ?_)
  · refine EW.seq ?_
    refine EW.region ?_
    first | refine WL.assign rfl rfl rfl ?_
    refine WL.done ?_
    refine EW.on ?_
    refine EW.ret ?_
    refine pr_then ?_
    exact EW.returns Try.results24 rfl ⟨by unfold adNL; rw [if_pos (by omega)], v, L, h, hP, fun _ => rfl, fun _ => (by rw [show Ks = [] from List.eq_nil_of_length_eq_zero (by omega)]; simp [adS]), Fx.refl _ _, fun b hb => .inl hb⟩
  · refine EW.skip ?_
    refine EW.on ?_
    refine EW.seq ?_
    refine EW.seq ?_
    refine EW.region ?_
    first | refine WL.move rfl rfl rfl ?_
    refine WL.conv rfl rfl rfl (cv313 f hf _) ?_
    first | refine WL.move rfl rfl rfl ?_
    refine WL.len rfl rfl rfl (hk.len _ _) ?_
    refine WL.bin rfl rfl rfl rfl (int_add (c := ((f + Ks.length : Nat) : Int)) (by rw [IntKind.wrap_i64]; omega) _ _ _) ?_
    refine WL.bin rfl rfl rfl rfl (int_sub (c := ((f + Ks.length - 1 : Nat) : Int)) (by rw [IntKind.wrap_i64]; omega) _ _ _) ?_
    refine WL.bin rfl rfl rfl rfl (int_gt_d _ _ _ _ _) ?_
    refine WL.done ?_
    refine EW.on ?_
    refine EW.cond_d rfl (fun h20 => ?_) (fun h20 => ?_)
    · refine EW.seq ?_
      refine EW.region ?_
      first | refine WL.assign rfl rfl rfl ?_
      refine WL.done ?_
      refine EW.on ?_
      refine EW.ret ?_
      refine pr_then ?_
      exact EW.returns Try.results24 rfl ⟨by unfold adNL; rw [if_neg (by omega), if_pos (by omega)], v, L, h, hP, fun _ => rfl, fun e => absurd e (by unfold adNL; rw [if_neg (by omega), if_pos (by omega)]; decide), Fx.refl _ _, fun b hb => .inl hb⟩
    · refine EW.skip ?_
      refine EW.on ?_
      refine EW.seq ?_
      refine EW.seq ?_
      refine EW.region ?_
      first | refine WL.assign rfl rfl rfl ?_
      refine WL.done ?_
      refine EW.on ?_
      refine EW.block ?_
      refine EW.loop (r1E q t f kw) (R1R w L t f Ks.length) (fun x => Ks.length - x) 0 [0, 1, 2, 3, 9] rfl ⟨Nat.zero_le _, fun j hj => absurd hj (Nat.not_lt_zero _), rfl⟩ ?_
      rintro x wi ⟨hxl, hno, hwi⟩
      rw [hwi]
      show EW _ _ _ _ [(0, .pointer (some ⟨q, 0, none⟩)), (1, u32v t), (2, u32v f), (3, kw), (9, .int .i64 (x : Int))] _
      refine EW.seq ?_
      refine EW.seq ?_
      refine EW.region ?_
      first | refine WL.move rfl rfl rfl ?_
      first | refine WL.move rfl rfl rfl ?_
      refine WL.len rfl rfl rfl (hk.len _ _) ?_
      refine WL.bin rfl rfl rfl rfl (int_lt_d _ _ _ _ _) ?_
      refine WL.done ?_
      refine EW.on ?_
      refine EW.cond_d rfl (fun h24 => ?_) (fun h24 => ?_)
      · refine EW.skip ?_
        refine EW.on ?_
        refine EW.seq ?_
        refine EW.block ?_
        refine EW.seq ?_
        have hlt : x < Ks.length := by omega
        rcases hfi : L.findIdx? (isP t (f + x)) with _ | i
        · refine EW.region ?_
          first | refine WL.move rfl rfl rfl ?_
          first | refine WL.move rfl rfl rfl ?_
          first | refine WL.move rfl rfl rfl ?_
          first | refine WL.move rfl rfl rfl ?_
          refine WL.conv rfl rfl rfl (cvU _ (by omega) _) ?_
          refine WL.bin rfl rfl rfl rfl (addU f x (by omega) _ _ _) ?_
          refine WL.call [.pointer (some ⟨q, 0, none⟩), u32v t, u32v (f + x)] enter33 rfl rfl rfl (at_any h (by omega) t (f + x)) ?_
          rintro x8 w8 ⟨rfl, hw8⟩
          refine ⟨_, rfl, ?_⟩
          rw [hw8]
          unfold atN
          rw [hfi]
          dsimp only
          refine WL.bin rfl rfl rfl rfl (int_ge_f (by decide) _ _ _) ?_
          refine WL.done ?_
          refine EW.on ?_
          refine EW.cond_f rfl ?_
          refine EW.skip ?_
          refine pn_block ?_
          refine EW.on ?_
          refine EW.region ?_
          first | refine WL.move rfl rfl rfl ?_
          refine WL.bin rfl rfl rfl rfl (int_add (c := ((x + 1 : Nat) : Int)) (by rw [IntKind.wrap_i64]; omega) _ _ _) ?_
          first | refine WL.assign rfl rfl rfl ?_
          refine WL.done ?_
          exact EW.again (E := r1E q t f kw) (R := R1R w L t f Ks.length) (m := fun x => Ks.length - x) (x := x) (x + 1) [0, 1, 2, 3, 9] rfl ⟨by omega, below_succ hno hfi, rfl⟩ (by show Ks.length - (x + 1) < Ks.length - x; omega)
        · refine EW.region ?_
          first | refine WL.move rfl rfl rfl ?_
          first | refine WL.move rfl rfl rfl ?_
          first | refine WL.move rfl rfl rfl ?_
          first | refine WL.move rfl rfl rfl ?_
          refine WL.conv rfl rfl rfl (cvU _ (by omega) _) ?_
          refine WL.bin rfl rfl rfl rfl (addU f x (by omega) _ _ _) ?_
          refine WL.call [.pointer (some ⟨q, 0, none⟩), u32v t, u32v (f + x)] enter33 rfl rfl rfl (at_any h (by omega) t (f + x)) ?_
          rintro x8 w8 ⟨rfl, hw8⟩
          refine ⟨_, rfl, ?_⟩
          rw [hw8]
          unfold atN
          rw [hfi]
          dsimp only
          refine WL.bin rfl rfl rfl rfl (int_ge_t (by omega) _ _ _) ?_
          refine WL.done ?_
          refine EW.on ?_
          refine EW.cond_t rfl ?_
          refine EW.seq ?_
          obtain ⟨s9, _, hlk9, _⟩ := lkL_some hfi
          have ht1 : takenL L t f Ks.length = true := takenL_t (i := x) hlt (by rw [hlk9]; simp)
          refine EW.region ?_
          first | refine WL.assign rfl rfl rfl ?_
          refine WL.done ?_
          refine EW.on ?_
          refine EW.ret ?_
          refine pr_block ?_
          refine pr_then ?_
          refine pr_then ?_
          refine pr_block ?_
          refine pr_then ?_
          exact EW.returns Try.results24 rfl ⟨by unfold adNL; rw [if_neg (by omega), if_neg (by omega), if_pos ht1], v, L, h, hP, fun _ => rfl, fun e => absurd e (by unfold adNL; rw [if_neg (by omega), if_neg (by omega), if_pos ht1]; decide), Fx.refl _ _, fun b hb => .inl hb⟩
      · refine EW.exit ?_
        refine px_then ?_
        refine px_then ?_
        refine px_block ?_
        refine EW.on ?_
        refine EW.seq ?_
        refine EW.seq ?_
        have hnoK : ∀ j, j < Ks.length → L.findIdx? (isP t (f + j)) = none := fun j hj => hno j (by omega)
        have hno1 : ¬ takenL L t f Ks.length = true := by rw [takenL_f (fun j hj => lkL_none (hnoK j hj))]; decide
        refine EW.ordB [(0, 0, 0), (1, 0, 0), (2, 0, 0), (3, 0, 1), (4, 0, 0), (5, 0, 0), (6, 0, 0), (7, 0, 0), (8, 0, 0), (9, 0, 0), (10, 0, 0), (11, 0, 1), (12, 0, 0)] (by kernel_rfl) rfl (by kernel_rfl) ?_
        simp only [opsZ, List.getD_cons_zero, List.getD_cons_succ]
        first | refine ZE.move rfl rfl rfl rfl sz0 ?_
        first | refine ZE.nilc rfl rfl rfl rfl sz0 ?_
        refine ZE.field rfl rfl rfl rfl sz0 (fun W => g68_0 q W) ?_
        refine ZE.load rfl rfl rfl rfl sz1 (fun W hW => ldL (h.on (sb_of hW))) ?_
        refine ZE.len rfl rfl rfl rfl sz0 (fun W => h.so.sl.len W _) ?_
        first | refine ZE.move rfl rfl rfl rfl sz0 ?_
        refine ZE.len rfl rfl rfl rfl sz0 (fun W => hk.len W _) ?_
        refine ZE.bin rfl rfl rfl rfl rfl sz0 (fun W => int_add (c := ((L.length + Ks.length : Nat) : Int)) (by rw [IntKind.wrap_i64]; omega) W _ _) ?_
        first | refine ZE.move rfl rfl rfl rfl sz0 ?_
        first | refine ZE.nilc rfl rfl rfl rfl sz0 ?_
        refine ZE.field rfl rfl rfl rfl sz0 (fun W => g68_1 q W) ?_
        refine ZE.load rfl rfl rfl rfl sz1 (fun W hW => ldRm (h.on (sb_of hW))) ?_
        refine ZE.bin rfl rfl rfl rfl rfl sz0 (fun W => int_gt_d _ _ W _ _) ?_
        rintro W hW
        refine EW.on ?_
        refine EW.cond_d rfl (fun h47 => ?_) (fun h47 => ?_)
        · refine EW.seq ?_
          refine EW.region ?_
          first | refine WL.assign rfl rfl rfl ?_
          refine WL.done ?_
          refine EW.on ?_
          refine EW.ret ?_
          refine pr_then ?_
          exact EW.returns Try.results24 rfl ⟨by unfold adNL; rw [if_neg (by omega), if_neg (by omega), if_neg hno1, if_pos (by omega)], v, L, h.on hW, hP, fun _ => rfl, fun e => absurd e (by unfold adNL; rw [if_neg (by omega), if_neg (by omega), if_neg hno1, if_pos (by omega)]; decide), Fx.of_below hW, fun b hb => .inl hb⟩
        · refine EW.skip ?_
          refine EW.on ?_
          refine EW.seq ?_
          refine EW.seq ?_
          refine EW.region ?_
          first | refine WL.assign rfl rfl rfl ?_
          refine WL.done ?_
          refine EW.on ?_
          refine EW.block ?_
          refine EW.loop (r2E q t f kw) (R2R w q v most L t f Ks) (fun x => Ks.length - x.2.2) (v, L, 0) [0, 1, 2, 3, 10] rfl ⟨Nat.zero_le _, h.on hW, hP, by simp [adS], Fx.of_below hW, fun b hb => .inl hb⟩ ?_
          rintro x wj R
          have hxl := R.le
          have hlen : x.2.1.length = L.length + x.2.2 := by rw [R.pm.length_eq]; simp [adS]; omega
          show EW _ _ _ _ [(0, .pointer (some ⟨q, 0, none⟩)), (1, u32v t), (2, u32v f), (3, kw), (10, .int .i64 (x.2.2 : Int))] _
          refine EW.seq ?_
          refine EW.seq ?_
          refine EW.region ?_
          first | refine WL.move rfl rfl rfl ?_
          first | refine WL.move rfl rfl rfl ?_
          refine WL.len rfl rfl rfl (hk.len _ _) ?_
          refine WL.bin rfl rfl rfl rfl (int_lt_d _ _ _ _ _) ?_
          refine WL.done ?_
          refine EW.on ?_
          refine EW.cond_d rfl (fun h51 => ?_) (fun h51 => ?_)
          · refine EW.skip ?_
            refine EW.on ?_
            refine EW.seq ?_
            refine EW.block ?_
            have hlt : x.2.2 < Ks.length := by omega
            obtain ⟨K, hK⟩ : ∃ K, Ks[x.2.2]? = some K := ⟨_, List.getElem?_eq_getElem hlt⟩
            have hkx : Kl wj kw Ks := hk.fx R.fx (fun b hb => hkq b hb)
            obtain ⟨ad, ixk, ldk⟩ := hk.get hK
            have hKl := hk.at32 hK
            refine EW.region ?_
            first | refine WL.move rfl rfl rfl ?_
            first | refine WL.move rfl rfl rfl ?_
            first | refine WL.move rfl rfl rfl ?_
            first | refine WL.move rfl rfl rfl ?_
            refine WL.conv rfl rfl rfl (cvU _ (by omega) _) ?_
            refine WL.bin rfl rfl rfl rfl (addU f x.2.2 (by omega) _ _ _) ?_
            first | refine WL.move rfl rfl rfl ?_
            first | refine WL.move rfl rfl rfl ?_
            refine WL.index rfl rfl rfl rfl (ixk _) ?_
            refine WL.load rfl rfl rfl (ldk _ hkx) ?_
            refine WL.buildN [(0, u32v t), (1, u32v (f + x.2.2)), (2, kv K)] rfl rfl rfl (b39 _ _ _ hKl _) ?_
            refine WL.call [.pointer (some ⟨q, 0, none⟩), Sk.v ⟨t, f + x.2.2, K⟩] enter34 rfl rfl rfl (put_any R.rt (by omega) ⟨t, f + x.2.2, K⟩ ⟨ht, by show f + x.2.2 < _; omega, hKl⟩) ?_
            rintro x9 w9 ⟨rfl, v9, j9, rt9, in9, f9, o9⟩
            refine ⟨_, rfl, ?_⟩
            refine WL.done ?_
            have R9 : R2R w q v most L t f Ks (v9, insL ⟨t, f + x.2.2, K⟩ x.2.1 j9, x.2.2 + 1) w9 := ⟨by show x.2.2 + 1 ≤ _; omega, rt9, ins_lt R.lt in9 (fun a ha => by
              rcases List.mem_append.1 (R.pm.subset ha) with h1 | h1
              · exact isP_no (hnoK x.2.2 hlt) a h1
              · exact adS_no a h1), by
              show (insL _ _ _).Perm (L ++ adS t f (Ks.take (x.2.2 + 1)))
              rw [adS_snoc t f Ks _ K hK, ← List.append_assoc]
              exact (ins_perm _ _ _).trans (R.pm.append_right _), R.fx.and f9, fun b hb => by
              have h1 := o9 b hb
              have h2 := R.fx.size
              exact .inr (by omega)⟩
            refine pn_block ?_
            refine EW.on ?_
            refine EW.region ?_
            first | refine WL.move rfl rfl rfl ?_
            refine WL.bin rfl rfl rfl rfl (int_add (c := ((x.2.2 + 1 : Nat) : Int)) (by rw [IntKind.wrap_i64]; omega) _ _ _) ?_
            first | refine WL.assign rfl rfl rfl ?_
            refine WL.done ?_
            exact EW.again (E := r2E q t f kw) (R := R2R w q v most L t f Ks) (m := fun x => Ks.length - x.2.2) (x := x) (v9, insL ⟨t, f + x.2.2, K⟩ x.2.1 j9, x.2.2 + 1) [0, 1, 2, 3, 10] rfl R9 (by show Ks.length - (x.2.2 + 1) < Ks.length - x.2.2; omega)
          · refine EW.exit ?_
            refine px_then ?_
            refine px_then ?_
            refine px_block ?_
            refine EW.on ?_
            refine EW.seq ?_
            refine EW.region ?_
            first | refine WL.assign rfl rfl rfl ?_
            refine WL.done ?_
            refine EW.on ?_
            refine EW.ret ?_
            exact EW.returns Try.results24 rfl ⟨by unfold adNL; rw [if_neg (by omega), if_neg (by omega), if_neg hno1, if_neg (by omega)], x.1, x.2.1, R.rt, R.lt, fun e => absurd (by unfold adNL; rw [if_neg (by omega), if_neg (by omega), if_neg hno1, if_neg (by omega)]) e, fun _ => (by have := R.pm; rw [show x.2.2 = Ks.length by omega, List.take_length] at this; exact this), R.fx, R.ow⟩
end Go.Proofs.Ytggehhlobjjmpaa
