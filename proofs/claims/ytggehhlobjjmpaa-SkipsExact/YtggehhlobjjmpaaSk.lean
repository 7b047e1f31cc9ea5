import Derived.Test.YtggehhlobjjmpaaSj
set_option linter.unusedVariables false
set_option linter.unusedSimpArgs false
namespace Go.Proofs.Ytggehhlobjjmpaa
open Go.RowKit

theorem EW.join {P : Program} {n : Nat} {Q : Exit → Act → World → Prop} {e : List (Nat × Value)} {w : World} {α : Type} {x y : Code} (E : α → List (Nat × Value)) (R : α → World → Prop) (h : EW P n x (Exit.then (fun a w => ∃ d, Env n a (E d) ∧ R d w) Q) e w) (k : ∀ d w, R d w → EW P n y Q (E d) w) : EW P n (.seq x y) Q e w :=
  EW.seq (fun a ha => wp_mono (h a ha) (fun ex a' w' hq => by
    cases ex with
    | normal =>
      obtain ⟨d, h1, h2⟩ := hq
      exact k d w' h2 a' h1
    | _ => exact hq))
theorem EW.met {n : Nat} {Q : Exit → Act → World → Prop} {e : List (Nat × Value)} {w : World} {α : Type} {E : α → List (Nat × Value)} {R : α → World → Prop} (d : α) (l : List Nat) (he : keepE e l = E d) (hR : R d w) : ∀ a, Env n a e → Exit.then (fun a w => ∃ d, Env n a (E d) ∧ R d w) Q .normal a w := fun a ha => ⟨d, by rw [← he]; exact ha.less (keepE_sub e l), hR⟩
theorem neg_i (a : Int) {c : Int} (h : IntKind.i64.wrap (-a) = c) (W : World) : (Op.unary .neg (.int .i64 a)).run Try.prog W = .ok (.int .i64 c) W := by
  subst h
  go_simp
theorem max_i (a b : Int) (ty : TypeId) (W : World) : (Builtin.max_ #[3, 3] ty #[.int .i64 a, .int .i64 b]).run Try.prog W = .ok (.int .i64 (max a b)) W := by
  go_simp
theorem rem_i (a b : Int) (h : b ≠ 0) {c : Int} (hc : Int.tmod a b = c) (W : World) (x y : Operand) : (do eqGuard .rem 3 x y (.int .i64 a) (.int .i64 b); binOp .rem 3 (.int .i64 a) (.int .i64 b) : Sem Value).run Try.prog W = .ok (.int .i64 c) W := by
  subst hc
  go_simp
theorem wrap_range (x : Int) : -9223372036854775808 ≤ IntKind.i64.wrap x ∧ IntKind.i64.wrap x < 9223372036854775808 := by rw [IntKind.wrap_i64]; omega
/-- The rest of a number, of whatever sign. -/
theorem red (m : Int) (h : -9223372036854775808 ≤ m ∧ m < 9223372036854775808) (b : Nat) (hb : 0 < b) : ∃ (M : Nat) (x y z : Int), IntKind.i64.wrap (m + 1) = x ∧ IntKind.i64.wrap (-x) = y ∧ max m y = z ∧ M < b ∧ Int.tmod z (b : Int) = (M : Int) := by
  have h0 : 0 ≤ max m (IntKind.i64.wrap (-(IntKind.i64.wrap (m + 1)))) := by
    rw [IntKind.wrap_i64, IntKind.wrap_i64]; omega
  obtain ⟨n, hn⟩ : ∃ n : Nat, max m (IntKind.i64.wrap (-(IntKind.i64.wrap (m + 1)))) = (n : Int) := ⟨_, (Int.toNat_of_nonneg h0).symm⟩
  exact ⟨n % b, _, _, n, rfl, rfl, hn, Nat.mod_lt _ hb, rfl⟩
theorem sl22x (t : Value) (a b c : Option Value) (W : World) : (Instr.sliceAt 22 t a b c).run Try.prog W = (Instr.slice 22 t a b c).run Try.prog W := by
  rfl
theorem sl36x (t : Value) (a b c : Option Value) (W : World) : (Instr.sliceAt 36 t a b c).run Try.prog W = (Instr.slice 36 t a b c).run Try.prog W := by
  rfl
theorem cutK (ad : Addr) (n cap k : Nat) (hk : k ≤ n) (hc : n ≤ cap) (W : World) : (Instr.sliceAt 22 (.slice (some ad) n cap) none (some (.int .i64 (k : Int))) none).run Try.prog W = .ok (.slice (some ad) k cap) W := by
  have h1 : (k : Int) ≤ (cap : Int) := by omega
  have h2 : (0 : Int) ≤ (k : Int) := by omega
  go_simp
theorem cutSx (ad : Addr) (n cap k : Nat) (hk : k ≤ n) (hc : n ≤ cap) (W : World) : (Instr.sliceAt 36 (.slice (some ad) n cap) none (some (.int .i64 (k : Int))) none).run Try.prog W = .ok (.slice (some ad) k cap) W := by
  have h1 : (k : Int) ≤ (cap : Int) := by omega
  have h2 : (0 : Int) ≤ (k : Int) := by omega
  go_simp
theorem Li.cut {k : Nat} {w : World} {ad : Addr} {cap : Nat} {l : List (List Value)} (h : Li k w (.slice (some ad) l.length cap) l) (m : Nat) (hm : m ≤ l.length) : Li k w (.slice (some ad) m cap) (l.take m) := by
  have hlen : (l.take m).length = m := by rw [List.length_take]; omega
  have hc : l.length ≤ cap := by
    rcases h.sl with ⟨e, _⟩ | ⟨ad', cap', e, hc⟩
    · cases e
    · cases e; exact hc
  refine ⟨.inr ⟨ad, cap, by rw [hlen], by omega⟩, fun x hx => h.sz x (List.mem_of_mem_take hx), fun i x hx => ?_⟩
  have hi : l[i]? = some x := by
    rw [List.getElem?_take] at hx
    split at hx
    · exact hx
    · cases hx
  obtain ⟨ad', cap', e, ha⟩ := h.at_ i x hi
  cases e
  exact ⟨ad, cap, by rw [hlen], ha⟩
theorem kcs_take (Ks : List (List UInt8)) (m : Nat) : kcs (Ks.take m) = (kcs Ks).take m := List.map_take ..
theorem Kl.cut {w : World} {v : Value} {Ks : List (List UInt8)} (h : Kl w v Ks) (m : Nat) (hm : m ≤ Ks.length) (hm0 : 0 < m) : ∃ v', (∀ W, (Instr.sliceAt 22 v none (some (.int .i64 (m : Int))) none).run Try.prog W = .ok v' W) ∧ Kl w v' (Ks.take m) ∧ v'.ownBlock = v.ownBlock := by
  rcases h.li.sl with ⟨rfl, e⟩ | ⟨ad, cap, rfl, hc⟩
  · have : Ks.length = 0 := by rw [← kcs_len, e]; rfl
    omega
  · rw [kcs_len] at hc
    refine ⟨.slice (some ad) m cap, fun W => by rw [kcs_len]; exact cutK ad Ks.length cap m hm hc W, ⟨?_⟩, rfl⟩
    rw [kcs_take]
    exact h.li.cut m (by rw [kcs_len]; exact hm)
theorem len33 (ao : Option Addr) (n c : Nat) (W : World) (ty : TypeId) : (Builtin.len_ #[33] ty #[.slice ao n c]).run Try.prog W = .ok (.int .i64 (n : Int)) W := by go_simp
theorem idx33 (q : Nat) (n cap m : Nat) (h : m < n) (W : World) : (Instr.indexAt 33 (.slice (some ⟨q, 0, none⟩) n cap) (.int .i64 (m : Int))).run Try.prog W = .ok (.pointer (some ⟨q, m, none⟩)) W := by
  have hm : (m : Int) < (n : Int) := by omega
  go_simp
theorem mk33 (w : World) (n : Nat) (hn : n ≤ 1000) : ∃ w1 q, (Instr.makeSlice 33 (.int .i64 (n : Int)) (.int .i64 (n : Int))).run Try.prog w = .ok (.slice (some ⟨q, 0, none⟩) n n) w1 ∧ Blk w1 q ((List.replicate n false).map Value.bool) 4 ∧ Below w.heap.size w w1 ∧ q = w.heap.size := by
  have hinf : (Try.prog.info? 4).map (fun i => (i.zero, i.size, i.bytes)) = some (some (.bool false), 1, 1) := by kernel_rfl
  obtain ⟨i0, hi, hz0, hz1, hz2⟩ := info_parts hinf
  have hrun := run_make (P := Try.prog) w 33 4 i0 (.bool false) Try.underlying33 hi hz0 .i64 .i64 n n (by omega) (by omega) (by rw [hz2]; omega) (by omega)
  rw [hz1, Int.toNat_natCast, Nat.mul_one, made_one _ rfl, ← List.map_replicate] at hrun
  exact ⟨_, _, hrun, Blk.new _ _ _, below_new _ _, rfl⟩
theorem st4 {w : World} {q j : Nat} {bs : List Bool} (hb : Blk w q (bs.map Value.bool) 4) (hj : j < bs.length) (b : Bool) : ∃ w', (Instr.storeAt 4 (.pointer (some ⟨q, j, none⟩)) (.bool b)).run Try.prog w = .ok () w' ∧ Blk w' q ((bs.set j b).map Value.bool) 4 ∧ Fx (fun k => k = q) w w' := by
  have h : w.cell? ⟨q, j, none⟩ = some (.bool bs[j]) := by rw [hb.cell, List.getElem?_map, List.getElem?_eq_getElem hj]; rfl
  have hf := hb.frozen j
  refine ⟨w.setCell ⟨q, j, none⟩ (.bool b), ?_, ?_, Fx.setCell (S := fun k => k = q) _ _ _ _ rfl⟩
  · go_simp
  · rw [List.map_set]; exact hb.set j _
theorem ld4 {w : World} {q j : Nat} {bs : List Bool} {b : Bool} (hb : Blk w q (bs.map Value.bool) 4) (hj : bs[j]? = some b) : (Instr.loadAt 4 (.pointer (some ⟨q, j, none⟩))).run Try.prog w = .ok (.bool b) w := by
  have h : w.cell? ⟨q, j, none⟩ = some (.bool b) := by rw [hb.cell, List.getElem?_map, hj]; rfl
  go_simp
/-- Numbers in a slice that came in. -/
structure In (w : World) (v : Value) (m : Nat) : Prop where
  sl : ∃ ao c, v = .slice ao m c
  at_ : ∀ i, i < m → ∃ z ad, (-9223372036854775808 ≤ z ∧ z < 9223372036854775808) ∧ (∀ W, (Instr.indexAt 23 v (.int .i64 (i : Int))).run Try.prog W = .ok (.pointer (some ad)) W) ∧ ∀ W, Below w.heap.size w W → (Instr.loadAt 3 (.pointer (some ad))).run Try.prog W = .ok (.int .i64 z) W
theorem In.len {w : World} {v : Value} {m : Nat} (h : In w v m) (W : World) (ty : TypeId) : (Builtin.len_ #[23] ty #[v]).run Try.prog W = .ok (.int .i64 (m : Int)) W := by
  obtain ⟨ao, c, rfl⟩ := h.sl
  exact len23 _ _ _ W ty
theorem lk_mem : ∀ {E : List Me}, (E.map fun m => (m.t, m.n)).Nodup → ∀ {m : Me}, m ∈ E → lkE E m.t m.n = some m.k
  | [], _, m, hm => by cases hm
  | a :: r, h, m, hm => by
    rw [List.map_cons, List.nodup_cons] at h
    unfold lkE
    by_cases hp : m.t = a.t ∧ m.n = a.n
    · rw [List.find?_cons_of_pos (by simpa using hp)]
      rcases List.mem_cons.1 hm with e | e
      · rw [e]; rfl
      · exact absurd (List.mem_map.2 ⟨m, e, by rw [hp.1, hp.2]⟩) h.1
    · rw [List.find?_cons_of_neg (by simpa using hp)]
      rcases List.mem_cons.1 hm with e | e
      · rw [e] at hp; exact absurd ⟨rfl, rfl⟩ hp
      · exact lk_mem h.2 e
theorem lk_any : ∀ {E : List Me} {t n : Nat} {K : List UInt8}, lkE E t n = some K → ∃ m ∈ E, m.t = t ∧ m.n = n ∧ m.k = K
  | E, t, n, K, h => by
    unfold lkE at h
    cases hf : E.find? (fun m => decide (t = m.t ∧ n = m.n)) with
    | none => rw [hf] at h; cases h
    | some m =>
      rw [hf] at h
      have h1 := List.find?_some hf
      simp only [decide_eq_true_eq] at h1
      exact ⟨m, List.mem_of_find?_eq_some hf, h1.1.symm, h1.2.symm, by simpa using h⟩
theorem adE_range (t f c : Nat) (Ks : List (List UInt8)) : adE t f c Ks = (List.range Ks.length).map fun i => ⟨t, f + i, Ks.getD i [], c + i⟩ := by
  apply List.ext_getElem?
  intro i
  unfold adE
  rcases Nat.lt_or_ge i Ks.length with h | h
  · simp [h]
  · rw [List.getElem?_eq_none (by simpa using h), List.getElem?_eq_none (by simpa using h)]
theorem asc_uniq : ∀ {L l : List Sk}, l.Perm L → Asc l → L.Pairwise Lt → l = L
  | [], l, hp, _, _ => hp.eq_nil
  | a :: L, [], hp, _, _ => by cases hp.symm.eq_nil
  | a :: L, b :: l, hp, ha, hL => by
    rw [List.pairwise_cons] at hL
    unfold Asc at ha
    rw [List.pairwise_cons] at ha
    have e : b = a := by
      refine Classical.byContradiction fun hne => ?_
      have h1 : b ∈ L := by
        rcases List.mem_cons.1 (hp.subset (List.mem_cons_self ..)) with h | h
        · exact absurd h hne
        · exact h
      have h2 : a ∈ l := by
        rcases List.mem_cons.1 (hp.symm.subset (List.mem_cons_self ..)) with h | h
        · exact absurd h.symm hne
        · exact h
      exact ha.1 a h2 (hL.1 b h1)
    subst e
    rw [asc_uniq (List.Perm.cons_inv hp) ha.2 hL.2]
theorem neP (p : Nat) (W : World) (x y : Operand) : (do eqGuard .eql 24 x y (.pointer (some ⟨p, 0, none⟩)) (.pointer none); binOp .eql 24 (.pointer (some ⟨p, 0, none⟩)) (.pointer none) : Sem Value).run Try.prog W = .ok (.bool false) W := by
  go_simp
theorem Kl.sub {w : World} {v : Value} {Ks : List (List UInt8)} (h : Kl w v Ks) {i : Nat} (hi : i < Ks.length) : Ks[i]? = some (Ks.getD i []) := by
  rw [List.getD_eq_getElem?_getD, List.getElem?_eq_getElem hi]; rfl
end Go.Proofs.Ytggehhlobjjmpaa
