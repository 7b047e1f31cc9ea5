import Derived.Test.YteghbkeaojbdgaaPk
set_option linter.unusedVariables false
set_option linter.unusedSimpArgs false
namespace Go.Proofs.Yteghbkeaojbdgaa
open Go.RowKit

theorem toList_loop (bs : ByteArray) : ∀ (k i : Nat) (r : List UInt8), bs.size - i = k → ByteArray.toList.loop bs i r = r.reverse ++ bs.data.toList.drop i
  | 0, i, r, h => by
    unfold ByteArray.toList.loop
    have hl : bs.data.toList.length = bs.size := Array.length_toList
    rw [if_neg (by omega), List.drop_eq_nil_of_le (by omega), List.append_nil]
  | k + 1, i, r, h => by
    unfold ByteArray.toList.loop
    have hi : i < bs.size := by omega
    have hl : bs.data.toList.length = bs.size := Array.length_toList
    rw [if_pos hi, toList_loop bs k (i + 1) _ (by omega), List.reverse_cons, List.append_assoc]
    congr 1
    have hil : i < bs.data.toList.length := by omega
    rw [List.drop_eq_getElem_cons hil]
    have hg : bs.get! i = bs.data.toList[i]'hil := by
      have h2 : i < bs.data.size := hi
      show bs.data[i]! = _
      rw [getElem!_pos bs.data i h2, Array.getElem_toList]
    rw [hg]
    rfl
theorem toList_data (bs : ByteArray) : bs.toList = bs.data.toList := by
  unfold ByteArray.toList
  rw [toList_loop bs _ 0 [] rfl]
  simp
theorem less_is : ∀ a b : List UInt8, Op.bytesLess a b = decide (Lib.compareBytes a b < 0)
  | [], [] => rfl
  | _ :: _, [] => rfl
  | [], _ :: _ => rfl
  | x :: a, y :: b => by
    have ih := less_is a b
    rw [Op.bytesLess, Lib.compareBytes, ih]
    by_cases h1 : x < y
    · simp [h1]
    · by_cases h2 : y < x
      · have : ¬ x = y := fun e => by subst e; exact h1 h2
        simp [h1, h2, this]
      · have e : x = y := by
          apply UInt8.toNat_inj.1
          simp only [UInt8.lt_iff_toNat_lt] at *; omega
        subst e
        simp
theorem str_lt_d (a b : List UInt8) (W : World) (x y : Operand) : (do eqGuard .lss 9 x y (.string ⟨a.toArray⟩) (.string ⟨b.toArray⟩); binOp .lss 9 (.string ⟨a.toArray⟩) (.string ⟨b.toArray⟩) : Sem Value).run Try.prog W = .ok (.bool (decide (Lib.compareBytes a b < 0))) W := by
  go_simp
  exact less_is a b
set_option maxRecDepth 100000 in
set_option maxHeartbeats 1000000 in
theorem ahead_any (r s : RV) (w : World) (hr : r.ok w) (hs : s.ok w) : Calls Try.prog 14 #[r.val, s.val] w fun e w' => e = .returned (.bool (decide (cmpD r.d s.d < 0))) ∧ Below w.heap.size w w' := by
  obtain ⟨w1, q1, r1, b1, e1, _⟩ := box32 r w
  obtain ⟨w2, q2, r2, b2, f2, _⟩ := box32 s w1
  have e2 := e1.trans (f2.mono e1.size)
  replace b1 := b1.on f2
  have hD := cmpD_if r.d s.d
  refine calls_of_args [r.val, s.val] Try.func14 rfl 22 Try.ntmps14 (by show 2 ≤ 22; decide) ?_
  refine EW.seq ?_
  refine EW.region ?_
  refine WL.box rfl rfl rfl r1 ?_
  refine WL.box rfl rfl rfl r2 ?_
  first | refine WL.assign rfl rfl rfl ?_
  refine WL.done ?_
  refine EW.on ?_
  refine EW.seq ?_
  refine EW.seq ?_
  refine EW.region ?_
  refine WL.field rfl rfl rfl (rfld0 _ _) ?_
  first | refine WL.load rfl rfl rfl (ldI b1 rfl) ?_ | refine WL.load rfl rfl rfl (ldI b2 rfl) ?_
  refine WL.field rfl rfl rfl (rfld0 _ _) ?_
  first | refine WL.load rfl rfl rfl (ldI b1 rfl) ?_ | refine WL.load rfl rfl rfl (ldI b2 rfl) ?_
  first | refine WL.bin rfl rfl rfl rfl (int_ne_f rfl _ _ _) ?_ | refine WL.bin rfl rfl rfl rfl (int_ne_t ‹_› _ _ _) ?_ | refine WL.bin rfl rfl rfl rfl (int_ne_f ‹_› _ _ _) ?_ | refine WL.bin rfl rfl rfl rfl (int_ne_t (by decide) _ _ _) ?_ | refine WL.bin rfl rfl rfl rfl (int_ne_d _ _ _ _ _) ?_
  refine WL.done ?_
  refine EW.on ?_
  refine EW.cond_d rfl (fun h9 => ?_) (fun h9 => ?_)
  · refine EW.seq ?_
    have hd : decide (r.t < s.t) = decide (cmpD r.d s.d < 0) := by
      rw [hD]
      show _ = decide ((if r.t < s.t then (-1 : Int) else if s.t < r.t then 1 else Lib.compareBytes r.k s.k) < 0)
      by_cases h : r.t < s.t
      · rw [if_pos h]; simp [h]
      · rw [if_neg h, if_pos (by omega)]; simp [h]
    refine EW.region ?_
    refine WL.field rfl rfl rfl (rfld0 _ _) ?_
    first | refine WL.load rfl rfl rfl (ldI b1 rfl) ?_ | refine WL.load rfl rfl rfl (ldI b2 rfl) ?_
    refine WL.field rfl rfl rfl (rfld0 _ _) ?_
    first | refine WL.load rfl rfl rfl (ldI b1 rfl) ?_ | refine WL.load rfl rfl rfl (ldI b2 rfl) ?_
    first | refine WL.bin rfl rfl rfl rfl (int_lt_t ‹_› _ _ _) ?_ | refine WL.bin rfl rfl rfl rfl (int_lt_f ‹_› _ _ _) ?_ | refine WL.bin rfl rfl rfl rfl (int_lt_d _ _ _ _ _) ?_
    first | refine WL.assign rfl rfl rfl ?_
    refine WL.done ?_
    refine EW.on ?_
    refine EW.ret ?_
    refine pr_then ?_
    exact EW.returns Try.results14 rfl ⟨by rw [hd], e2⟩
  · refine EW.skip ?_
    refine EW.on ?_
    refine EW.seq ?_
    have hd : decide (Lib.compareBytes r.k s.k < 0) = decide (cmpD r.d s.d < 0) := by
      rw [hD]
      show _ = decide ((if r.t < s.t then (-1 : Int) else if s.t < r.t then 1 else Lib.compareBytes r.k s.k) < 0)
      have e : r.t = s.t := Decidable.not_not.1 h9
      rw [if_neg (by omega), if_neg (by omega)]
    refine EW.region ?_
    refine WL.field rfl rfl rfl (rfld1 _ _) ?_
    first | refine WL.load rfl rfl rfl (ldS b1 rfl) ?_ | refine WL.load rfl rfl rfl (ldS b2 rfl) ?_
    first | refine WL.conv rfl rfl rfl (hr.hk.below e2).convert ?_ | refine WL.conv rfl rfl rfl (hs.hk.below e2).convert ?_
    refine WL.field rfl rfl rfl (rfld1 _ _) ?_
    first | refine WL.load rfl rfl rfl (ldS b1 rfl) ?_ | refine WL.load rfl rfl rfl (ldS b2 rfl) ?_
    refine WL.conv rfl rfl rfl (hs.hk.below e2).convert ?_
    refine WL.bin rfl rfl rfl rfl (str_lt_d _ _ _ _ _) ?_
    first | refine WL.assign rfl rfl rfl ?_
    refine WL.done ?_
    refine EW.on ?_
    refine EW.ret ?_
    exact EW.returns Try.results14 rfl ⟨by rw [hd], e2⟩
theorem ahead_t {r s : RV} (h : cmpD r.d s.d < 0) (w : World) (hr : r.ok w) (hs : s.ok w) : Calls Try.prog 14 #[r.val, s.val] w fun e w' => e = .returned (.bool true) ∧ Below w.heap.size w w' := by
  have := ahead_any r s w hr hs
  rw [decide_eq_true h] at this
  exact this
theorem ahead_f {r s : RV} (h : ¬ cmpD r.d s.d < 0) (w : World) (hr : r.ok w) (hs : s.ok w) : Calls Try.prog 14 #[r.val, s.val] w fun e w' => e = .returned (.bool false) ∧ Below w.heap.size w w' := by
  have := ahead_any r s w hr hs
  rw [decide_eq_false h] at this
  exact this
theorem place_lt : ∀ (ds : List Rc) (x : Rc) (k : Nat) (y : Rc), k < placeN ds x → ds[k]? = some y → cmpD y x < 0
  | [], _, k, _, h, _ => by simp [placeN] at h
  | d :: ds, x, k, y, h, hy => by
    by_cases hd : cmpD d x < 0
    · rw [placeN, List.takeWhile_cons_of_pos (by simpa using hd), List.length_cons] at h
      cases k with
      | zero =>
        have e : d = y := by simpa using hy
        subst e; exact hd
      | succ k => exact place_lt ds x k y (by unfold placeN; omega) (by simpa using hy)
    · rw [placeN, List.takeWhile_cons_of_neg (by simpa using hd)] at h
      simp at h
theorem place_stop : ∀ (ds : List Rc) (x y : Rc), ds[placeN ds x]? = some y → 0 ≤ cmpD y x
  | [], _, _, h => by simp at h
  | d :: ds, x, y, h => by
    by_cases hd : cmpD d x < 0
    · rw [placeN, List.takeWhile_cons_of_pos (by simpa using hd), List.length_cons] at h
      exact place_stop ds x y (by unfold placeN; simpa using h)
    · rw [placeN, List.takeWhile_cons_of_neg (by simpa using hd)] at h
      have e : d = y := by simpa using h
      subst e; omega
theorem place_ge {ds : List Rc} (hs : Srt ds) {x y : Rc} {k : Nat} (hk : placeN ds x ≤ k) (hy : ds[k]? = some y) : 0 ≤ cmpD y x := by
  have hl := (List.getElem?_eq_some_iff.1 hy).1
  obtain ⟨z, hz⟩ : ∃ z, ds[placeN ds x]? = some z := ⟨_, List.getElem?_eq_getElem (by omega)⟩
  exact hs.mono hz hy hk (place_stop ds x z hz)
theorem place_gt {ds : List Rc} (hs : Srt ds) {x y : Rc} {k : Nat} (hk : placeN ds x < k) (hy : ds[k]? = some y) : 0 < cmpD y x := by
  have hl := (List.getElem?_eq_some_iff.1 hy).1
  obtain ⟨z, hz⟩ : ∃ z, ds[placeN ds x]? = some z := ⟨_, List.getElem?_eq_getElem (by omega)⟩
  have h1 := place_stop ds x z hz
  have h2 := hs.less hz hy hk
  have h3 := place_ge hs (Nat.le_of_lt hk) hy
  rcases Int.lt_or_eq_of_le h3 with e | e
  · exact e
  · have e' := cd_eq e.symm
    have := (cd_congr (r := y) (s := x) (x := z) e'.1 e'.2).2
    omega
theorem isAt_some {ds : List Rc} {x y : Rc} (hy : ds[placeN ds x]? = some y) : isAt ds x = decide (cmpD y x = 0) := by
  unfold isAt
  rw [hy]
theorem Srt.pair {ds : List Rc} (h : Srt ds) : ds.Pairwise (fun a b => cmpD a b < 0) := by
  rw [List.pairwise_iff_getElem]
  intro i j hi hj hij
  exact h.less (List.getElem?_eq_getElem hi) (List.getElem?_eq_getElem hj) hij
theorem Srt.of {ds : List Rc} (h1 : ∀ d ∈ ds, okD d) (h2 : ds.Pairwise (fun a b => cmpD a b < 0)) : Srt ds := by
  refine ⟨h1, fun i a b ha hb => ?_⟩
  obtain ⟨hi, rfl⟩ := List.getElem?_eq_some_iff.1 ha
  obtain ⟨hj, rfl⟩ := List.getElem?_eq_some_iff.1 hb
  exact List.pairwise_iff_getElem.1 h2 i (i + 1) hi hj (by omega)
theorem Srt.nil : Srt [] := ⟨fun _ h => (by cases h), fun i a b h => (by simp at h)⟩
theorem Srt.ins {ds : List Rc} (h : Srt ds) {x : Rc} (hx : okD x) : Srt (insD ds x) := by
  obtain ⟨s, hsb⟩ : ∃ s, (if isAt ds x then 1 else 0) = s := ⟨_, rfl⟩
  have hp := h.pair
  unfold insD
  rw [hsb]
  refine Srt.of (fun d hd => ?_) ?_
  · rcases List.mem_append.1 hd with e | e
    · exact h.ok d (List.mem_of_mem_take e)
    · rcases List.mem_cons.1 e with e | e
      · rw [e]; exact hx
      · exact h.ok d (List.mem_of_mem_drop e)
  · rw [List.pairwise_append, List.pairwise_cons]
    refine ⟨hp.sublist (List.take_sublist _ _), ⟨fun b hb => ?_, hp.sublist (List.drop_sublist _ _)⟩, fun a ha b hb => ?_⟩
    · obtain ⟨m, hm⟩ := List.mem_iff_getElem?.1 hb
      rw [List.getElem?_drop] at hm
      have h1 : 0 < cmpD b x := by
        rcases Nat.lt_or_ge (placeN ds x) (placeN ds x + s + m) with e | e
        · exact place_gt h e hm
        · have hm0 : placeN ds x + s + m = placeN ds x := by omega
          rw [hm0] at hm
          have h2 := place_stop ds x b hm
          rcases Int.lt_or_eq_of_le h2 with e' | e'
          · exact e'
          · have := isAt_some hm
            rw [decide_eq_true e'.symm] at this
            rw [this] at hsb
            simp at hsb
            omega
      rw [cd_anti]; omega
    · obtain ⟨m, hm⟩ := List.mem_iff_getElem?.1 ha
      rw [List.getElem?_take] at hm
      split at hm
      · rename_i hlt
        rcases List.mem_cons.1 hb with e | e
        · rw [e]; exact place_lt ds x m a hlt hm
        · obtain ⟨n, hn⟩ := List.mem_iff_getElem?.1 e
          rw [List.getElem?_drop] at hn
          exact h.less hm hn (by omega)
      · cases hm
theorem Srt.del {ds : List Rc} (h : Srt ds) (x : Rc) : Srt (delD ds x) := by
  have hp := h.pair
  unfold delD
  refine Srt.of (fun d hd => ?_) ?_
  · rcases List.mem_append.1 hd with e | e
    · exact h.ok d (List.mem_of_mem_take e)
    · exact h.ok d (List.mem_of_mem_drop e)
  · rw [List.pairwise_append]
    refine ⟨hp.sublist (List.take_sublist _ _), hp.sublist (List.drop_sublist _ _), fun a ha b hb => ?_⟩
    obtain ⟨m, hm⟩ := List.mem_iff_getElem?.1 ha
    obtain ⟨n, hn⟩ := List.mem_iff_getElem?.1 hb
    rw [List.getElem?_take] at hm
    split at hm
    · rename_i hlt
      rw [List.getElem?_drop] at hn
      exact h.less hm hn (by omega)
    · cases hm
theorem ins_len (ds : List Rc) (x : Rc) : (insD ds x).length = ds.length + 1 - (if isAt ds x then 1 else 0) := by
  have h := place_le ds x
  unfold insD
  cases hb : isAt ds x with
  | false => simp; omega
  | true =>
    have := isAt_lt hb
    simp; omega
end Go.Proofs.Yteghbkeaojbdgaa
