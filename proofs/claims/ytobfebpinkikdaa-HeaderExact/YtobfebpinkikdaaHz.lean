import Derived.Test.YtobfebpinkikdaaHy
set_option linter.unusedVariables false
set_option linter.unusedSimpArgs false
namespace Go.Proofs.Ytobfebpinkikdaa
open Go.RowKit

theorem cutB_take {c : List UInt8} {a m j : Nat} (h : a + m ≤ j) : cutB (c.take j) a m = cutB c a m := by
  unfold cutB
  rw [List.drop_take, List.take_take, Nat.min_eq_left (by omega)]
theorem cutB_app {c d : List UInt8} {a m : Nat} (h : a + m ≤ c.length) : cutB (c ++ d) a m = cutB c a m := by
  unfold cutB
  rw [List.drop_append_of_le_length (by omega), List.take_append_of_le_length (by rw [List.length_drop]; omega)]
/-- Alike as far as both go. -/
def Like (c c' : List UInt8) : Prop := ∀ a m, a + m ≤ c.length → a + m ≤ c'.length → cutB c' a m = cutB c a m
theorem like_take (c : List UInt8) (j : Nat) : Like c (c.take j) := fun a m _ h => cutB_take (by rw [List.length_take] at h; omega)
theorem like_app (c d : List UInt8) : Like c (c ++ d) := fun a m h _ => cutB_app h
theorem beg_like {c c' : List UInt8} (hl : Like c c') (h : begE c = 0) (h2 : 2 ≤ c'.length) : begE c' = 0 ∧ kdD c' = kdD c := by
  obtain ⟨h2', hv⟩ := beg_ok h
  constructor
  · unfold begE
    rw [if_neg (by omega), hl 0 1 (by omega) (by omega), if_pos hv]
  · unfold kdD
    rw [hl 1 1 (by omega) (by omega)]
theorem beg_short {c : List UInt8} (h : c.length < 2) : begE c = 10 := by unfold begE; rw [if_pos h]
theorem un_parts {c : List UInt8} (hu : unE c = 0) : begE c = 0 ∧ (kdD c = 1 ∨ kdD c = 2) ∧ fltD (kdD c : Int) (hlD c (kdD c)) (nD c (kdD c)) = 0 ∧ c.length = atD (kdD c) + 62 + nD c (kdD c) := by
  unfold unE at hu
  by_cases hE : begE c = 0
  · rw [if_pos hE] at hu
    by_cases hk : kdD c = 1 ∨ kdD c = 2
    · rw [if_pos hk] at hu
      by_cases h62 : c.length < atD (kdD c) + 62
      · rw [if_pos h62] at hu; omega
      · rw [if_neg h62] at hu
        by_cases hF : fltD (kdD c : Int) (hlD c (kdD c)) (nD c (kdD c)) = 0
        · rw [if_pos hF] at hu
          exact ⟨hE, hk, hF, tail_ok hu⟩
        · rw [if_neg hF] at hu
          exact absurd hu hF
    · rw [if_neg hk] at hu; omega
  · rw [if_neg hE] at hu
    exact absurd hu hE
theorem hl_like {c c' : List UInt8} (hl : Like c c') {k : Nat} (hk : k = 1 ∨ k = 2) (h : atD k + 62 ≤ c.length) (h' : atD k + 62 ≤ c'.length) : hlD c' k = hlD c k ∧ nD c' k = nD c k := by
  constructor
  · rcases hk with rfl | rfl
    · have h1 : 132 ≤ c.length := h
      have h2 : 132 ≤ c'.length := h'
      unfold hlD
      rw [if_pos rfl, if_pos rfl, hl 2 32 (by omega) (by omega), hl 34 32 (by omega) (by omega), hl 66 4 (by omega) (by omega)]
    · rfl
  · unfold nD
    rw [hl _ _ (by omega) (by omega)]
theorem un_short {c c' : List UInt8} (hl : Like c c') (hu : unE c = 0) (h : c'.length < c.length) : unE c' = 10 := by
  obtain ⟨hE, hk, hF, hlen⟩ := un_parts hu
  by_cases h2 : c'.length < 2
  · unfold unE
    rw [if_neg (by rw [beg_short h2]; decide), beg_short h2]
  · obtain ⟨hE', hk'⟩ := beg_like hl hE (by omega)
    unfold unE
    rw [if_pos hE', hk', if_pos hk]
    by_cases h62 : c'.length < atD (kdD c) + 62
    · rw [if_pos h62]
    · obtain ⟨e1, e2⟩ := hl_like hl hk (by omega) (by omega)
      rw [if_neg h62, e1, e2, if_pos hF]
      unfold tailE
      rw [if_pos (by omega)]
theorem un_long {c c' : List UInt8} (hl : Like c c') (hu : unE c = 0) (h : c.length < c'.length) : unE c' = 11 := by
  obtain ⟨hE, hk, hF, hlen⟩ := un_parts hu
  have h2 := (beg_ok hE).1
  obtain ⟨hE', hk'⟩ := beg_like hl hE (by omega)
  obtain ⟨e1, e2⟩ := hl_like hl hk (by omega) (by omega)
  unfold unE
  rw [if_pos hE', hk', if_pos hk, if_neg (by omega), e1, e2, if_pos hF]
  unfold tailE
  rw [if_neg (by omega), if_pos (by omega)]
theorem of_parts {c : List UInt8} (hu : ofE c = 0) : begE c = 0 ∧ kdD c = 3 ∧ c.length = 70 := by
  have h := off_back hu
  refine ⟨h.2.2.2.2, h.2.2.2.1, ?_⟩
  rw [← h.1]
  exact offB_len h.2.1
theorem of_short {c c' : List UInt8} (hl : Like c c') (hu : ofE c = 0) (h : c'.length < c.length) : ofE c' = 10 := by
  obtain ⟨hE, hk, hlen⟩ := of_parts hu
  by_cases h2 : c'.length < 2
  · unfold ofE
    rw [if_neg (by rw [beg_short h2]; decide), beg_short h2]
  · obtain ⟨hE', hk'⟩ := beg_like hl hE (by omega)
    unfold ofE
    rw [if_pos hE', hk', if_pos hk, if_pos (by omega)]
theorem of_long {c c' : List UInt8} (hl : Like c c') (hu : ofE c = 0) (h : c.length < c'.length) : ofE c' = 11 := by
  obtain ⟨hE, hk, hlen⟩ := of_parts hu
  obtain ⟨hE', hk'⟩ := beg_like hl hE (by omega)
  unfold ofE
  rw [if_pos hE', hk', if_pos hk, if_neg (by omega), if_pos (by omega)]
def cut3V (v : Value) (k : Nat) : Value := match v with
  | .slice a _ _ => sliced a 0 k k 1
  | v => v
theorem Has.cut3 {w : World} {v : Value} {bs : List UInt8} (h : Has w v bs) (k : Nat) (hk : k ≤ bs.length) : Has w (cut3V v k) (bs.take k) := by
  have hlen : (bs.take k).length = k := by rw [List.length_take]; omega
  rcases h with ⟨rfl, rfl⟩ | ⟨ad, cap, rfl, h2, h3⟩
  · simp only [List.length_nil, Nat.le_zero] at hk
    subst hk
    exact .inl ⟨rfl, rfl⟩
  · by_cases hz : k = 0
    · subst hz
      exact .inr ⟨ad, 0, rfl, Nat.le_refl _, fun i u hu => by simp at hu⟩
    · refine .inr ⟨ad, k, ?_, by rw [hlen]; exact Nat.le_refl _, fun i u hu => ?_⟩
      · rw [hlen]
        show sliced (some ad) 0 k k 1 = _
        unfold sliced
        rw [if_neg hz]
        have e0 : ad.add 0 = ad := by unfold Addr.add; rw [if_pos rfl]
        simp [e0]
      · exact h3 i u (by
          have := (List.getElem?_eq_some_iff.1 hu).1
          rw [List.getElem?_take_of_lt (by omega)] at hu
          exact hu)
theorem Has.cut3r {w : World} {v : Value} {bs : List UInt8} (h : Has w v bs) (k : Nat) (hk : k ≤ bs.length) (W : World) : (Instr.slice 31 v none (some (.int .i64 k)) (some (.int .i64 k))).run Try.prog W = .ok (cut3V v k) W := by
  have ht : Try.prog.underlying 31 = some (.slice (Try.prog.elem 31)) := by rw [elem31]; exact Try.underlying31
  obtain ⟨ao, cap, rfl, hc⟩ : ∃ ao cap, v = .slice ao bs.length cap ∧ bs.length ≤ cap := by
    rcases h with ⟨rfl, rfl⟩ | ⟨ad, cap, rfl, h2, _⟩
    · exact ⟨none, 0, rfl, Nat.le_refl _⟩
    · exact ⟨some ad, cap, rfl, h2⟩
  rw [run_slice_hm W 31 ao _ cap ht .i64 .i64 k k (by omega) (by omega) (by omega), elem31, size5]
  simp [Result.andThen, cut3V]
section
variable {P : Program} {n : Nat} {ops : Array Oper} {Q : Exit → Act → World → Prop} {i : Nat} {ty : TypeId} {ps : String} {af : Array Edge} {gd : Option (Nat × Bool)} {r : List Oper} {e : List (Nat × Value)} {w : World}
theorem WL.slice3 {t : TypeId} {x lo mx : Operand} {u ul um v : Value} (hw : wantE ops e ⟨some i, .slice t x none (some lo) (some mx), ty, ps, af, gd⟩ = some true) (hi : decide (i < n) = true) (hx : evE e x = some u) (hl : evE e lo = some ul) (hm : evE e mx = some um) (hr : (Instr.sliceAt t u none (some ul) (some um)).run P w = .ok v w) (k : WL P n ops Q r ((i, v) :: e) w) : WL P n ops Q (⟨some i, .slice t x none (some lo) (some mx), ty, ps, af, gd⟩ :: r) e w :=
  WL.op i v hw rfl hi (fun a ha => by simp [execOp, ha.ev hx, ha.ev hl, ha.ev hm, hr, Result.andThen]) k
end
theorem ofset {l : List UInt8} {j : Nat} (h : j < l.length) : ∃ u, l[j]? = some u := ⟨_, List.getElem?_eq_getElem h⟩
theorem or8_2 (a : UInt8) (W : World) (x y : Operand) : (do eqGuard .or 5 x y (byt a) (.int .u8 2); binOp .or 5 (byt a) (.int .u8 2) : Sem Value).run Try.prog W = .ok (byt (a ||| 2)) W := by
  have e : bits .or .u8 (a.toNat : Int) 2 = ((a.toNat ||| 2 : Nat) : Int) := by
    have h := or_u8 a 2
    rw [UInt8.toNat_or] at h
    exact h
  unfold byt
  go_simp
theorem set_ne (l : List UInt8) (j : Nat) (hj : j < 32) (hl : l.length = 32) (u : UInt8) : ¬ l.set j (u ||| 2) = z32 := fun h => by
  have h0 : (l.set j (u ||| 2))[j]? = z32[j]? := by rw [h]
  rw [List.getElem?_set_self (by omega)] at h0
  unfold z32 at h0
  rw [List.getElem?_replicate, if_pos hj] at h0
  have h1 : u ||| 2 = 0 := Option.some.inj h0
  have h2 : (u ||| 2).toNat = 0 := by rw [h1]; rfl
  rw [UInt8.toNat_or] at h2
  have h3 : 2 ≤ u.toNat ||| 2 := Nat.right_le_or
  have h4 : (2 : UInt8).toNat = 2 := rfl
  rw [h4] at h2
  omega
theorem ldCell5 {w : World} {q o : Nat} {cs : List Value} {t : TypeId} {u : UInt8} (hb : Blk w q cs t) (h : cs[o]? = some (byt u)) : (Instr.loadAt 5 (.pointer (some ⟨q, o, none⟩))).run Try.prog w = .ok (byt u) w := by
  have hc : w.cell? ⟨q, o, none⟩ = some (byt u) := (hb.cell o).trans h
  unfold byt at *
  go_simp
theorem stCell5 {w : World} {q o : Nat} {cs : List Value} {t : TypeId} (hb : Blk w q cs t) (ho : o < cs.length) (u : UInt8) : ∃ w', (Instr.storeAt 5 (.pointer (some ⟨q, o, none⟩)) (byt u)).run Try.prog w = .ok () w' ∧ Blk w' q (cs.set o (byt u)) t ∧ Fx (fun k => k = q) w w' := by
  have hc : w.cell? ⟨q, o, none⟩ = some cs[o] := (hb.cell o).trans (List.getElem?_eq_getElem ho)
  have hf := hb.frozen o
  refine ⟨w.setCell ⟨q, o, none⟩ (byt u), ?_, hb.set o _, Fx.setCell (S := fun k => k = q) _ _ _ _ rfl⟩
  unfold byt
  go_simp
theorem of_id {o : Of} {j : Nat} {u : UInt8} (h : o.id[j]? = some u) : o.cs[j]? = some (byt u) := by
  unfold Of.cs
  rw [List.getElem?_append_left (by rw [List.length_map]; exact (List.getElem?_eq_some_iff.1 h).1), List.getElem?_map, h]; rfl
theorem of_key {o : Of} {j : Nat} {u : UInt8} (hi : o.id.length = 32) (h : o.key[j]? = some u) : o.cs[33 + j]? = some (byt u) := by
  unfold Of.cs
  rw [List.getElem?_append_right (by rw [List.length_map]; omega), List.length_map, hi, List.getElem?_append_right (by simp; omega), List.getElem?_map, show 33 + j - 32 - [u32v o.pre].length = j from by simp; omega, h]; rfl
theorem of_set {o : Of} {j : Nat} (hj : j < o.id.length) (x : UInt8) : o.cs.set j (byt x) = Of.cs ⟨o.id.set j x, o.pre, o.key⟩ := by
  unfold Of.cs
  rw [List.set_append_left _ _ (by rw [List.length_map]; exact hj), List.map_set]
theorem of_set2 {o : Of} {j : Nat} (hi : o.id.length = 32) (x : UInt8) : o.cs.set (33 + j) (byt x) = Of.cs ⟨o.id, o.pre, o.key.set j x⟩ := by
  unfold Of.cs
  rw [List.set_append_right _ _ (by rw [List.length_map]; omega), List.length_map, hi, List.set_append_right _ _ (by simp; omega), List.map_set, show 33 + j - 32 - [u32v o.pre].length = j from by simp; omega]
end Go.Proofs.Ytobfebpinkikdaa
