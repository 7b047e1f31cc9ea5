import Derived.Test.YtggehhlobjjmpaaRa
set_option linter.unusedVariables false
set_option linter.unusedSimpArgs false
namespace Go.Proofs.Ytggehhlobjjmpaa
open Go.RowKit

theorem WL.sliceL {P : Program} {n : Nat} {ops : Array Oper} {Q : Exit → Act → World → Prop} {i : Nat} {ty : TypeId} {ps : String} {af : Array Edge} {gd : Option (Nat × Bool)} {r : List Oper} {e : List (Nat × Value)} {w : World} {t : TypeId} {x lo : Operand} {u ul v : Value} (hw : wantE ops e ⟨some i, .slice t x (some lo) none none, ty, ps, af, gd⟩ = some true) (hi : decide (i < n) = true) (hx : evE e x = some u) (hl : evE e lo = some ul) (hr : (Instr.sliceAt t u (some ul) none none).run P w = .ok v w) (k : WL P n ops Q r ((i, v) :: e) w) : WL P n ops Q (⟨some i, .slice t x (some lo) none none, ty, ps, af, gd⟩ :: r) e w :=
  WL.op i v hw rfl hi (fun a ha => by simp [execOp, ha.ev hx, ha.ev hl, hr, Result.andThen]) k
def lkL (L : List Sk) (t n : Nat) : Option (List UInt8) := (L.find? (isP t n)).map Sk.k
theorem lkL_some {L : List Sk} {t n i : Nat} (h : L.findIdx? (isP t n) = some i) : ∃ s, L[i]? = some s ∧ lkL L t n = some s.k ∧ isP t n s = true := by
  rw [List.findIdx?_eq_some_iff_getElem] at h
  obtain ⟨hi, hp, hb⟩ := h
  refine ⟨L[i], List.getElem?_eq_getElem hi, ?_, hp⟩
  unfold lkL
  have : L.find? (isP t n) = some L[i] := by
    rw [List.find?_eq_some_iff_getElem]
    exact ⟨hp, i, hi, rfl, fun j hj => by simpa using hb j hj⟩
  rw [this]; rfl
theorem lkL_none {L : List Sk} {t n : Nat} (h : L.findIdx? (isP t n) = none) : lkL L t n = none := by
  unfold lkL
  rw [List.findIdx?_eq_none_iff] at h
  rw [List.find?_eq_none.2 (fun a ha => by rw [h a ha]; decide)]
  rfl
set_option maxRecDepth 100000 in
set_option maxHeartbeats 1000000 in
theorem rfind_any {w : World} {q : Nat} {v : Value} {most : Nat} {L : List Sk} (h : Rt w q v most L) (hL : L.length ≤ 1000) (t n : Nat) : Calls Try.prog 26 #[.pointer (some ⟨q, 0, none⟩), u32v t, u32v n] w fun e w' => e = .returned (.tuple #[kv ((lkL L t n).getD z32), .int .i64 (fdN (lkL L t n))]) ∧ Below w.heap.size w w' := by
  obtain ⟨w1, q6, r1, b1, l1, hq6⟩ := new29 w
  have rt1 := h.on l1
  cases hf : L.findIdx? (isP t n) with
  | none =>
    rw [lkL_none hf]
    obtain ⟨w4, r4, b4, f4⟩ := st29 b1 z32l z32l
    have be : Below w.heap.size w w4 := l1.trans (f4.below (fun k hk e => by omega) l1.size)
    refine calls_of_args [.pointer (some ⟨q, 0, none⟩), u32v t, u32v n] Try.func26 rfl 24 Try.ntmps26 (by show 3 ≤ 24; decide) ?_
    refine EW.seq ?_
    refine EW.region ?_
    refine WL.new rfl rfl r1 ?_
    first | refine WL.assign rfl rfl rfl ?_
    refine WL.done ?_
    refine EW.on ?_
    refine EW.seq ?_
    refine EW.region ?_
    first | refine WL.move rfl rfl rfl ?_
    first | refine WL.move rfl rfl rfl ?_
    first | refine WL.move rfl rfl rfl ?_
    refine WL.call [.pointer (some ⟨q, 0, none⟩), u32v t, u32v n] enter33 rfl rfl rfl (at_any rt1 hL t n) ?_
    rintro x wx ⟨rfl, hwx⟩
    refine ⟨_, rfl, ?_⟩
    rw [hwx]
    unfold atN
    rw [hf]
    dsimp only
    first | refine WL.assign rfl rfl rfl ?_
    refine WL.done ?_
    refine EW.on ?_
    refine EW.seq ?_
    refine EW.seq ?_
    refine EW.region ?_
    first | refine WL.move rfl rfl rfl ?_
    refine WL.bin rfl rfl rfl rfl (int_lt_t (by decide) _ _ _) ?_
    refine WL.done ?_
    refine EW.on ?_
    refine EW.cond_t rfl ?_
    refine EW.seq ?_
    refine EW.region ?_
    refine WL.buildN [] rfl rfl rfl (b29 _) ?_
    refine WL.store rfl rfl rfl r4 ?_
    first | refine WL.assign rfl rfl rfl ?_
    refine WL.done ?_
    refine EW.on ?_
    refine EW.ret ?_
    refine pr_then ?_
    refine EW.retKT Try.results26 rfl rfl b4 z32l ⟨rfl, be⟩
  | some i =>
    obtain ⟨s, hs, hlk, hp⟩ := lkL_some hf
    rw [hlk]
    have hsk := (h.so.ok s (List.mem_of_getElem? hs)).k
    have hil := (List.getElem?_eq_some_iff.1 hs).1
    obtain ⟨ad, ixs, lds⟩ := h.so.sl.get hs
    obtain ⟨w4, r4, b4, f4⟩ := st29 b1 z32l hsk
    have be : Below w.heap.size w w4 := l1.trans (f4.below (fun k hk e => by omega) l1.size)
    refine calls_of_args [.pointer (some ⟨q, 0, none⟩), u32v t, u32v n] Try.func26 rfl 24 Try.ntmps26 (by show 3 ≤ 24; decide) ?_
    refine EW.seq ?_
    refine EW.region ?_
    refine WL.new rfl rfl r1 ?_
    first | refine WL.assign rfl rfl rfl ?_
    refine WL.done ?_
    refine EW.on ?_
    refine EW.seq ?_
    refine EW.region ?_
    first | refine WL.move rfl rfl rfl ?_
    first | refine WL.move rfl rfl rfl ?_
    first | refine WL.move rfl rfl rfl ?_
    refine WL.call [.pointer (some ⟨q, 0, none⟩), u32v t, u32v n] enter33 rfl rfl rfl (at_any rt1 hL t n) ?_
    rintro x wx ⟨rfl, hwx⟩
    refine ⟨_, rfl, ?_⟩
    rw [hwx]
    unfold atN
    rw [hf]
    dsimp only
    first | refine WL.assign rfl rfl rfl ?_
    refine WL.done ?_
    refine EW.on ?_
    refine EW.seq ?_
    refine EW.seq ?_
    refine EW.region ?_
    first | refine WL.move rfl rfl rfl ?_
    refine WL.bin rfl rfl rfl rfl (int_lt_f (by omega) _ _ _) ?_
    refine WL.done ?_
    refine EW.on ?_
    refine EW.cond_f rfl ?_
    refine EW.skip ?_
    refine EW.on ?_
    refine EW.seq ?_
    refine EW.region ?_
    first | refine WL.move rfl rfl rfl ?_
    first | refine WL.nilc rfl rfl rfl ?_
    refine WL.field rfl rfl rfl (g68_0 q _) ?_
    refine WL.load rfl rfl rfl (ldL rt1) ?_
    first | refine WL.move rfl rfl rfl ?_
    refine WL.index rfl rfl rfl rfl (ixs _) ?_
    refine WL.field rfl rfl rfl (f39_2 _ _) ?_
    refine WL.load rfl rfl rfl (lds _ rt1.so.sl).2.2.2 ?_
    refine WL.store rfl rfl rfl r4 ?_
    first | refine WL.assign rfl rfl rfl ?_
    refine WL.done ?_
    refine EW.on ?_
    refine EW.ret ?_
    refine EW.retKT Try.results26 rfl rfl b4 hsk ⟨rfl, be⟩
theorem cutSL (ad : Addr) (n cap k : Nat) (hk : k ≤ n) (hc : n ≤ cap) (W : World) : (Instr.sliceAt 36 (.slice (some ad) n cap) (some (.int .i64 (k : Int))) none none).run Try.prog W = .ok (.slice (some (if cap = k then ad else ad.add (k * 34))) (n - k) (cap - k)) W := by
  have h1 : (k : Int) ≤ (n : Int) := by omega
  have h2 : (n : Int) ≤ (cap : Int) := by omega
  have h3 : (0 : Int) ≤ (k : Int) := by omega
  go_simp
  split <;> rfl
theorem scs_take (l : List Sk) (m : Nat) : scs (l.take m) = (scs l).take m := List.map_take ..
theorem scs_drop (l : List Sk) (m : Nat) : scs (l.drop m) = (scs l).drop m := List.map_drop ..
theorem Li.tail {k : Nat} {w : World} {ad : Addr} {cap : Nat} {l : List (List Value)} (h : Li k w (.slice (some ad) l.length cap) l) (m : Nat) (hm : m ≤ l.length) : Li k w (.slice (some (if cap = m then ad else ad.add (m * k))) (l.length - m) (cap - m)) (l.drop m) := by
  have hlen : (l.drop m).length = l.length - m := List.length_drop
  have hc : l.length ≤ cap := by
    rcases h.sl with ⟨e, _⟩ | ⟨ad', cap', e, hc⟩
    · cases e
    · cases e; exact hc
  refine ⟨.inr ⟨_, _, by rw [hlen], by omega⟩, fun x hx => h.sz x (List.mem_of_mem_drop hx), fun i x hx => ?_⟩
  have hi : l[m + i]? = some x := by rw [← List.getElem?_drop]; exact hx
  have hil := (List.getElem?_eq_some_iff.1 hi).1
  obtain ⟨ad', cap', e, ha⟩ := h.at_ (m + i) x hi
  cases e
  refine ⟨_, _, by rw [hlen], ?_⟩
  rw [if_neg (by omega), Addr.add_add, ← Nat.add_mul]
  exact ha
theorem Sl.parts {w : World} {v : Value} {l : List Sk} (h : Sl w v l) (i : Nat) (hi : i < l.length) : ∃ v1 v2, (∀ W, (Instr.sliceAt 36 v none (some (.int .i64 (i : Int))) none).run Try.prog W = .ok v1 W) ∧ (∀ W, (Instr.sliceAt 36 v (some (.int .i64 ((i + 1 : Nat) : Int))) none none).run Try.prog W = .ok v2 W) ∧ (∀ W, Sl W v l → Sl W v1 (l.take i) ∧ Sl W v2 (l.drop (i + 1))) := by
  rcases h.li.sl with ⟨rfl, e⟩ | ⟨ad, cap, rfl, hc⟩
  · have : l.length = 0 := by rw [← scs_len, e]; rfl
    omega
  · rw [scs_len] at hc
    refine ⟨.slice (some ad) i cap, .slice (some (if cap = i + 1 then ad else ad.add ((i + 1) * 34))) (l.length - (i + 1)) (cap - (i + 1)), fun W => by rw [scs_len]; exact cutSx ad l.length cap i (by omega) hc W, fun W => by rw [scs_len]; exact cutSL ad l.length cap (i + 1) (by omega) hc W, fun W hW => ⟨⟨?_, fun s hs => hW.ok s (List.mem_of_mem_take hs)⟩, ⟨?_, fun s hs => hW.ok s (List.mem_of_mem_drop hs)⟩⟩⟩
    · rw [scs_take]
      exact hW.li.cut i (by rw [scs_len]; omega)
    · rw [scs_drop]
      have := hW.li.tail (i + 1) (by rw [scs_len]; omega)
      rwa [scs_len] at this
def delL (L : List Sk) (t n : Nat) : List Sk := L.filter fun s => !isP t n s
theorem delL_at {L : List Sk} {t n i : Nat} (hL : L.Pairwise Lt) (h : L.findIdx? (isP t n) = some i) : L.take i ++ L.drop (i + 1) = delL L t n := by
  obtain ⟨s, hs, _, hp⟩ := lkL_some h
  have hi := (List.getElem?_eq_some_iff.1 hs).1
  have hsi : L[i] = s := by rw [List.getElem?_eq_getElem hi] at hs; exact Option.some.inj hs
  have hdec : L = L.take i ++ (s :: L.drop (i + 1)) := by
    rw [← hsi, ← List.drop_eq_getElem_cons hi, List.take_append_drop]
  rw [hdec] at hL
  rw [List.pairwise_append, List.pairwise_cons] at hL
  have hps := of_decide_eq_true hp
  have hd : delL L t n = delL (L.take i) t n ++ delL (L.drop (i + 1)) t n := by
    unfold delL
    conv => lhs; rw [hdec]
    rw [List.filter_append, List.filter_cons_of_neg (by rw [hp]; decide)]
  rw [hd]
  congr 1
  · refine (List.filter_eq_self.2 fun a ha => ?_).symm
    have := hL.2.2 a ha s (List.mem_cons_self ..)
    have : isP t n a = false := decide_eq_false (by unfold Lt at this; omega)
    rw [this]; rfl
  · refine (List.filter_eq_self.2 fun a ha => ?_).symm
    have := hL.2.1.1 a ha
    have : isP t n a = false := decide_eq_false (by unfold Lt at this; omega)
    rw [this]; rfl
theorem delL_none {L : List Sk} {t n : Nat} (h : L.findIdx? (isP t n) = none) : delL L t n = L := by
  rw [List.findIdx?_eq_none_iff] at h
  exact List.filter_eq_self.2 fun a ha => by rw [h a ha]; rfl
set_option maxRecDepth 100000 in
set_option maxHeartbeats 4000000 in
theorem rtake_any {w : World} {q : Nat} {v : Value} {most : Nat} {L : List Sk} (h : Rt w q v most L) (hL : L.length ≤ 1000) (hP : L.Pairwise Lt) (hvq : ∀ b, v.ownBlock = some b → b ≠ q) (t n : Nat) : Calls Try.prog 27 #[.pointer (some ⟨q, 0, none⟩), u32v t, u32v n] w fun e w' => e = .returned (.tuple #[kv ((lkL L t n).getD z32), .int .i64 (fdN (lkL L t n))]) ∧ ∃ v', Rt w' q v' most (delL L t n) ∧ Fx (fun k => k = q) w w' ∧ (∀ b, v'.ownBlock = some b → v.ownBlock = some b ∨ w.heap.size ≤ b) := by
  obtain ⟨w1, q6, r1, b1, l1, hq6⟩ := new29 w
  have rt1 := h.on l1
  have hqw := h.bl.lt
  cases hf : L.findIdx? (isP t n) with
  | none =>
    rw [lkL_none hf, delL_none hf]
    obtain ⟨w4, r4, b4, f4⟩ := st29 b1 z32l z32l
    have be : Below w.heap.size w w4 := l1.trans (f4.below (fun k hk e => by omega) l1.size)
    refine calls_of_args [.pointer (some ⟨q, 0, none⟩), u32v t, u32v n] Try.func27 rfl 48 Try.ntmps27 (by show 3 ≤ 48; decide) ?_
    refine EW.seq ?_
    refine EW.region ?_
    refine WL.new rfl rfl r1 ?_
    first | refine WL.assign rfl rfl rfl ?_
    refine WL.done ?_
    refine EW.on ?_
    refine EW.seq ?_
    refine EW.region ?_
    first | refine WL.move rfl rfl rfl ?_
    first | refine WL.move rfl rfl rfl ?_
    first | refine WL.move rfl rfl rfl ?_
    refine WL.call [.pointer (some ⟨q, 0, none⟩), u32v t, u32v n] enter33 rfl rfl rfl (at_any rt1 hL t n) ?_
    rintro x wx ⟨rfl, hwx⟩
    refine ⟨_, rfl, ?_⟩
    rw [hwx]
    unfold atN
    rw [hf]
    dsimp only
    first | refine WL.assign rfl rfl rfl ?_
    refine WL.done ?_
    refine EW.on ?_
    refine EW.seq ?_
    refine EW.seq ?_
    refine EW.region ?_
    first | refine WL.move rfl rfl rfl ?_
    refine WL.bin rfl rfl rfl rfl (int_lt_t (by decide) _ _ _) ?_
    refine WL.done ?_
    refine EW.on ?_
    refine EW.cond_t rfl ?_
    refine EW.seq ?_
    refine EW.region ?_
    refine WL.buildN [] rfl rfl rfl (b29 _) ?_
    refine WL.store rfl rfl rfl r4 ?_
    first | refine WL.assign rfl rfl rfl ?_
    refine WL.done ?_
    refine EW.on ?_
    refine EW.ret ?_
    refine pr_then ?_
    refine EW.retKT Try.results27 rfl rfl b4 z32l ⟨rfl, v, h.on be, Fx.of_below be, fun b hb => .inl hb⟩
  | some i =>
    obtain ⟨s, hs, hlk, hp⟩ := lkL_some hf
    rw [hlk, ← delL_at hP hf]
    have hsk := (h.so.ok s (List.mem_of_getElem? hs)).k
    have hil := (List.getElem?_eq_some_iff.1 hs).1
    obtain ⟨ad, ixs, lds⟩ := h.so.sl.get hs
    obtain ⟨q9, w2, w3, a9, s9, b9, l3, hq9⟩ := newK w1 s.k hsk
    have rtA := rt1.on l3
    obtain ⟨v1, v2, cutH, cutL, hparts⟩ := h.so.sl.parts i hil
    obtain ⟨u1, wa, ra, soa, fa, na⟩ := (So.nil w3).app (hparts w3 rtA.so.sl).1 (by simp only [List.length_nil, List.length_take]; omega) 36
    rw [List.nil_append] at soa
    have la : Below w3.heap.size w3 wa := fa.below (fun k hk e => by cases e) (Nat.le_refl _)
    have rtB := rtA.on la
    have hu1 : ∀ b, u1.ownBlock = some b → w3.heap.size ≤ b := fun b hb => by
      rcases na b hb with e | e
      · cases e
      · exact e
    obtain ⟨u2, wb, rb, sob, fb, nb⟩ := soa.app (hparts wa rtB.so.sl).2 (by simp only [List.length_drop, List.length_take]; omega) 36
    have lb : Below w3.heap.size w3 wb := la.trans (fb.below (fun k hk e => by have := hu1 k e; omega) la.size)
    have hu2 : ∀ b, u2.ownBlock = some b → w3.heap.size ≤ b := fun b hb => by
      rcases nb b hb with e | e
      · exact hu1 b e
      · have := la.size; omega
    have l13 : Below w.heap.size w w3 := bt l1 l3
    have hq3 := rtA.bl.lt
    have h13s := l13.size
    have h3s := l3.size
    have h1s := l1.size
    have hlbs := lb.size
    have hb9 := b9.lt
    have hb1 := b1.lt
    obtain ⟨ws, rs, bs, fs⟩ := stL (rtA.bl.on lb) sob.shape
    have b9s : Blk ws q9 (s.k.map byt) 29 := (b9.on lb).fx fs (by omega)
    have hq6w : q6 < w3.heap.size := by have h1 := b1.lt; have h2 := l3.size; omega
    obtain ⟨w4, r4, b4, f4⟩ := st29 (((b1.on l3).on lb).fx fs (by omega)) z32l hsk
    have so4 : So w4 u2 (L.take i ++ L.drop (i + 1)) := (sob.fx fs (fun b hb e => by have := hu2 b hb; omega)).fx f4 (fun b hb e => by have := hu2 b hb; omega)
    refine calls_of_args [.pointer (some ⟨q, 0, none⟩), u32v t, u32v n] Try.func27 rfl 48 Try.ntmps27 (by show 3 ≤ 48; decide) ?_
    refine EW.seq ?_
    refine EW.region ?_
    refine WL.new rfl rfl r1 ?_
    first | refine WL.assign rfl rfl rfl ?_
    refine WL.done ?_
    refine EW.on ?_
    refine EW.seq ?_
    refine EW.region ?_
    first | refine WL.move rfl rfl rfl ?_
    first | refine WL.move rfl rfl rfl ?_
    first | refine WL.move rfl rfl rfl ?_
    refine WL.call [.pointer (some ⟨q, 0, none⟩), u32v t, u32v n] enter33 rfl rfl rfl (at_any rt1 hL t n) ?_
    rintro x wx ⟨rfl, hwx⟩
    refine ⟨_, rfl, ?_⟩
    rw [hwx]
    unfold atN
    rw [hf]
    dsimp only
    first | refine WL.assign rfl rfl rfl ?_
    refine WL.done ?_
    refine EW.on ?_
    refine EW.seq ?_
    refine EW.seq ?_
    refine EW.region ?_
    first | refine WL.move rfl rfl rfl ?_
    refine WL.bin rfl rfl rfl rfl (int_lt_f (by omega) _ _ _) ?_
    refine WL.done ?_
    refine EW.on ?_
    refine EW.cond_f rfl ?_
    refine EW.skip ?_
    refine EW.on ?_
    refine EW.seq ?_
    refine EW.region ?_
    first | refine WL.move rfl rfl rfl ?_
    first | refine WL.nilc rfl rfl rfl ?_
    refine WL.field rfl rfl rfl (g68_0 q _) ?_
    refine WL.load rfl rfl rfl (ldL rt1) ?_
    first | refine WL.move rfl rfl rfl ?_
    refine WL.index rfl rfl rfl rfl (ixs _) ?_
    refine WL.field rfl rfl rfl (f39_2 _ _) ?_
    refine WL.load rfl rfl rfl (lds _ rt1.so.sl).2.2.2 ?_
    refine WL.new rfl rfl a9 ?_
    refine WL.store rfl rfl rfl s9 ?_
    refine WL.done ?_
    refine EW.on ?_
    refine EW.seq ?_
    refine EW.region ?_
    first | refine WL.assign rfl rfl rfl ?_
    refine WL.done ?_
    refine EW.on ?_
    refine EW.seq ?_
    refine EW.region ?_
    first | refine WL.move rfl rfl rfl ?_
    first | refine WL.move rfl rfl rfl ?_
    first | refine WL.nilc rfl rfl rfl ?_
    refine WL.field rfl rfl rfl (g68_0 q _) ?_
    refine WL.load rfl rfl rfl (ldL rtA) ?_
    first | refine WL.move rfl rfl rfl ?_
    refine WL.sliceH rfl rfl rfl rfl (cutH _) ?_
    refine WL.app rfl rfl rfl rfl ra ?_
    first | refine WL.assign rfl rfl rfl ?_
    refine WL.done ?_
    refine EW.on ?_
    refine EW.seq ?_
    refine EW.region ?_
    first | refine WL.move rfl rfl rfl ?_
    first | refine WL.move rfl rfl rfl ?_
    first | refine WL.nilc rfl rfl rfl ?_
    refine WL.field rfl rfl rfl (g68_0 q _) ?_
    refine WL.load rfl rfl rfl (ldL rtB) ?_
    first | refine WL.move rfl rfl rfl ?_
    refine WL.bin rfl rfl rfl rfl (int_add (c := ((i + 1 : Nat) : Int)) (by rw [IntKind.wrap_i64]; omega) _ _ _) ?_
    refine WL.sliceL rfl rfl rfl rfl (cutL _) ?_
    refine WL.app rfl rfl rfl rfl rb ?_
    first | refine WL.assign rfl rfl rfl ?_
    refine WL.done ?_
    refine EW.on ?_
    refine EW.seq ?_
    refine EW.region ?_
    first | refine WL.move rfl rfl rfl ?_
    first | refine WL.move rfl rfl rfl ?_
    first | refine WL.nilc rfl rfl rfl ?_
    refine WL.field rfl rfl rfl (g68_0 q _) ?_
    refine WL.store rfl rfl rfl rs ?_
    refine WL.done ?_
    refine EW.on ?_
    refine EW.seq ?_
    refine EW.region ?_
    refine WL.load rfl rfl rfl (ld29 b9s hsk) ?_
    refine WL.store rfl rfl rfl r4 ?_
    first | refine WL.assign rfl rfl rfl ?_
    refine WL.done ?_
    refine EW.on ?_
    refine EW.ret ?_
    refine EW.retKT Try.results27 rfl rfl b4 hsk ⟨rfl, u2, ⟨bs.fx f4 (by omega), so4⟩, ((Fx.of_below (S := fun k => k = q) (bt l13 lb)).and fs).trans f4 (fun j hj e => by omega), fun b hb => .inr (by have := hu2 b hb; have := l13.size; omega)⟩
end Go.Proofs.Ytggehhlobjjmpaa
