import Derived.Test.YtnakeieeopbeiaaSwap
import Derived.Test.YtnakeieeopbeiaaPows
import Derived.Test.YtnakeieeopbeiaaGtG
import Derived.Test.YtnakeieeopbeiaaOz
import Derived.Test.YtnakeieeopbeiaaRtsG
import Derived.Deep.MidRow
set_option linter.unusedVariables false
set_option linter.unusedSimpArgs false
namespace Go.Proofs.Ytnakeieeopbeiaa
open Go.RowKit Prm

def fitE (k : List UInt8) : Bool := decide (tellE (readE k) = k)
theorem fitsE (k : List UInt8) (hk : k.length = 32) (w : World) : Calls Try.prog 11 #[.agg (k.map byt).toArray] w fun e w' => e = .returned (.bool (fitE k)) ∧ Below w.heap.size w w' := fits_any k hk w
theorem two255 : (57896044618658097711785492504343953926634992332820282019728792003956564819968 : Nat) = P + 19 := by decide +kernel
theorem tell_read (k : List UInt8) : tellE (readE k) = nb (kn k % 57896044618658097711785492504343953926634992332820282019728792003956564819968 % P) := by
  rw [tell_is _ (read_ok k), read_val]
theorem fit_is (k : List UInt8) (hk : k.length = 32) : fitE k = decide (kn k < P) := by
  unfold fitE
  rw [tell_read]
  by_cases h : kn k < P
  · rw [Nat.mod_eq_of_lt (show kn k < 57896044618658097711785492504343953926634992332820282019728792003956564819968 by rw [two255]; omega), Nat.mod_eq_of_lt h, nb_kn k hk, decide_eq_true h]
    simp
  · rw [decide_eq_false h]
    refine decide_eq_false fun he => h ?_
    have h1 := kn_nb _ (P_lt (kn k % 57896044618658097711785492504343953926634992332820282019728792003956564819968))
    rw [he] at h1
    rw [h1]
    exact Nat.mod_lt _ (by decide)
theorem kn_tell {a : L5} (h : a.Ok) : kn (tellE a) = a.val % P := by
  rw [tell_is a h, kn_nb _ (P_lt _)]
theorem tell_fits {a : L5} (h : a.Ok) : fitE (tellE a) = true := by
  rw [fit_is _ (tell_length a), kn_tell h]
  exact decide_eq_true (Nat.mod_lt _ (by decide))
theorem tell_top {a : L5} (h : a.Ok) : ((tellE a).getD 31 0).toNat ≤ 127 := by
  have h1 := kn_tell h
  have h2 : a.val % P < P := Nat.mod_lt _ (by decide)
  rw [← h1] at h2
  refine Classical.byContradiction fun hb => ?_
  have h3 := kn_high (k := tellE a) (by omega)
  rw [Nat.div_eq_of_lt (by rw [two255]; omega)] at h3
  cases h3
theorem tell_back {a : L5} (h : a.Ok) : eqE (readE (tellE a)) a = true := by
  refine eq_of (read_ok _) h ?_
  have h2 : a.val % P < P := Nat.mod_lt _ (by decide)
  rw [read_val, kn_tell h, Nat.mod_eq_of_lt (show a.val % P < 57896044618658097711785492504343953926634992332820282019728792003956564819968 by rw [two255]; omega), Nat.mod_mod]

def topK (k : List UInt8) : List UInt8 := k.set 31 (k.getD 31 0 ^^^ 128)
theorem topK_length {k : List UInt8} (h : k.length = 32) : (topK k).length = 32 := by rw [topK, List.length_set, h]
theorem xor128_nat : ∀ n : Fin 256, (n.val ^^^ 128) = if n.val < 128 then n.val + 128 else n.val - 128 := by decide +kernel
theorem xor128 (u : UInt8) : (u ^^^ 128).toNat = if u.toNat < 128 then u.toNat + 128 else u.toNat - 128 := by
  rw [UInt8.toNat_xor]
  exact xor128_nat ⟨u.toNat, u.toNat_lt⟩
theorem xor128_u8 (b : UInt8) : bits .xor .u8 (b.toNat : Int) (128 : Int) = ((b ^^^ 128).toNat : Int) := by
  have h1 := b.toNat_lt
  have ha' : b.toNat % 2 ^ 8 = b.toNat := Nat.mod_eq_of_lt h1
  have e : (BitVec.ofNat 8 b.toNat ^^^ BitVec.ofNat 8 128).toNat = b.toNat ^^^ 128 := by
    rw [BitVec.toNat_xor, BitVec.toNat_ofNat, BitVec.toNat_ofNat, ha']
  show IntKind.u8.wrap (((BitVec.ofInt 8 (b.toNat : Int)) ^^^ (BitVec.ofInt 8 ((128 : Nat) : Int))).toNat : Int) = _
  rw [BitVec.ofInt_natCast, BitVec.ofInt_natCast, e, UInt8.toNat_xor]
  have := Nat.xor_lt_two_pow h1 (show 128 < 2 ^ 8 by decide)
  exact wraps_u8 _ (Int.natCast_nonneg _) (by exact_mod_cast this)
theorem kn_topK {k : List UInt8} (h : k.length = 32) : kn (topK k) + (k.getD 31 0).toNat * 256 ^ 31 = kn k + (k.getD 31 0 ^^^ 128).toNat * 256 ^ 31 := by
  have e0 : ∀ v : UInt8, (k.set 31 v).getD 31 0 = v := fun v => by
    rw [List.getD_eq_getElem?_getD, List.getElem?_set_self (by omega)]; rfl
  unfold kn topK
  rw [show psum (k.set 31 (k.getD 31 0 ^^^ 128)) 0 32 = psum (k.set 31 (k.getD 31 0 ^^^ 128)) 0 31 + ((k.set 31 (k.getD 31 0 ^^^ 128)).getD (0 + 31) 0).toNat * 256 ^ 31 from rfl, show psum k 0 32 = psum k 0 31 + (k.getD (0 + 31) 0).toNat * 256 ^ 31 from rfl, psum_set k 31 _ 31 (by omega), Nat.zero_add, e0]
  omega
theorem top_same {k : List UInt8} (h : k.length = 32) : eqE (readE (topK k)) (readE k) = true := by
  refine eq_of (read_ok _) (read_ok _) ?_
  rw [read_val, read_val]
  have e := kn_topK h
  have x := xor128 (k.getD 31 0)
  have hl := (k.getD 31 0).toNat_lt
  congr 1
  simp only [Nat.reducePow] at e
  generalize (k.getD 31 0 ^^^ 128).toNat = v at e x
  generalize (k.getD 31 0).toNat = u at e x hl
  split at x <;> omega
theorem top_fits {k : List UInt8} (h : k.length = 32) (hf : fitE k = true) : fitE (topK k) = false := by
  rw [fit_is k h] at hf
  have hk := of_decide_eq_true hf
  rw [fit_is _ (topK_length h)]
  refine decide_eq_false ?_
  have e := kn_topK h
  have x := xor128 (k.getD 31 0)
  have hu : (k.getD 31 0).toNat < 128 := by
    refine Classical.byContradiction fun hb => ?_
    have h3 := kn_high (k := k) (by omega)
    rw [Nat.div_eq_of_lt (by rw [two255]; omega)] at h3
    cases h3
  rw [if_pos hu] at x
  rw [x] at e
  have hp : (128 : Nat) * 256 ^ 31 = P + 19 := by decide +kernel
  rw [Nat.add_mul, hp] at e
  omega

theorem over_key (N : UInt8) (h : N.toNat < 19) : (primeK (UInt8.ofNat 237)).set 0 (UInt8.ofNat 237 + N) = primeK (UInt8.ofNat 237 + N) := by
  rw [primeK_eq, primeK_eq]
  rfl
theorem over_nat (N : UInt8) (h : N.toNat < 19) : (UInt8.ofNat 237 + N).toNat = 237 + N.toNat := by
  rw [UInt8.toNat_add, UInt8.toNat_ofNat']
  omega
theorem kn_over (N : UInt8) (h : N.toNat < 19) : kn (primeK (UInt8.ofNat 237 + N)) = P + N.toNat := by
  rw [kn_primeK, over_nat N h]
  unfold P
  omega
theorem over_fits (N : UInt8) (h : N.toNat < 19) : fitE (primeK (UInt8.ofNat 237 + N)) = false := by
  rw [fit_is _ (primeK_length _), kn_over N h]
  exact decide_eq_false (by omega)
theorem over_tell (N : UInt8) (h : N.toNat < 19) : tellE (readE (primeK (UInt8.ofNat 237 + N))) = keyN N := by
  rw [tell_read, kn_over N h, Nat.mod_eq_of_lt (show P + N.toNat < 57896044618658097711785492504343953926634992332820282019728792003956564819968 by rw [two255]; omega), Nat.add_mod_left, Nat.mod_eq_of_lt (show N.toNat < P from Nat.lt_trans h (by decide)), ← kn_keyN N, nb_kn _ (keyN_length N)]
theorem under_fits (N : UInt8) (h : N.toNat < 19) : fitE (primeK (UInt8.ofNat (237 - (N + 1).toNat))) = true := by
  have e : (N + 1).toNat = N.toNat + 1 := by
    rw [UInt8.toNat_add]
    show (N.toNat + 1) % 256 = _
    omega
  rw [fit_is _ (primeK_length _), kn_prime _ (by omega), e]
  refine decide_eq_true ?_
  have : 0 < P := by decide
  omega
end Go.Proofs.Ytnakeieeopbeiaa

set_option linter.unusedVariables false
set_option linter.unusedSimpArgs false
namespace Go.Proofs.Ytnakeieeopbeiaa
open Go.RowKit Prm

theorem flat_set {α : Type} (n : Nat) (y : List α) (hy : y.length = n) : ∀ (xs : List (List α)) (t : List α) (i : Nat), (∀ x ∈ xs, x.length = n) → i < xs.length → (xs.flatten ++ t).take (n * i) ++ y ++ (xs.flatten ++ t).drop (n * i + n) = (xs.set i y).flatten ++ t
  | [], _, _, _, h => absurd h (Nat.not_lt_zero _)
  | x :: xs, t, 0, hx, _ => by
    have h := hx x (by simp)
    rw [Nat.mul_zero, Nat.zero_add, List.take_zero, List.nil_append, List.flatten_cons, List.append_assoc, List.drop_append, h, Nat.sub_self, List.drop_zero, ← h, List.drop_length, List.nil_append, List.set_cons_zero, List.flatten_cons, List.append_assoc]
  | x :: xs, t, i + 1, hx, hi => by
    have h := hx x (by simp)
    have ih := flat_set n y hy xs t i (fun z hz => hx z (by simp [hz])) (by simpa using hi)
    have e1 : n * (i + 1) = x.length + n * i := by rw [h, Nat.mul_add]; omega
    have e2 : n * (i + 1) + n = x.length + (n * i + n) := by omega
    rw [List.set_cons_succ, List.flatten_cons, List.flatten_cons, List.append_assoc, List.append_assoc, List.append_assoc x, ← ih, e2, e1, List.take_append, List.drop_append]
    rw [List.take_of_length_le (by omega), List.drop_eq_nil_of_le (by omega), Nat.add_sub_cancel_left, Nat.add_sub_cancel_left]
    simp only [List.nil_append, List.append_assoc]
theorem tb_lens {W : World} {g : Nat} {p : List L5} {r : List (List Nat)} {s : Int} (h : Tb W g p r s) : (∀ x ∈ p.map L5.cs, x.length = 5) ∧ (∀ x ∈ r.map dv, x.length = 16) :=
  ⟨fun y hy => by
    obtain ⟨z, _, rfl⟩ := List.mem_map.1 hy
    rfl, fun y hy => by
    obtain ⟨z, hz, rfl⟩ := List.mem_map.1 hy
    obtain ⟨m, hm⟩ := List.mem_iff_getElem?.1 hz
    rw [dv_length, (h.nm m z hm).ln]⟩
theorem tb_len {W : World} {g : Nat} {p : List L5} {r : List (List Nat)} {s : Int} (h : Tb W g p r s) : ((p.map L5.cs).flatten).length = 20 ∧ ((r.map dv).flatten).length = 64 := by
  have h1 := flat_len 5 _ (tb_lens h).1
  have h2 := flat_len 16 _ (tb_lens h).2
  rw [List.length_map, h.lp] at h1
  rw [List.length_map, h.lr] at h2
  exact ⟨h1, h2⟩
theorem Blk.there {w : World} {g : Nat} {cs : List Value} {t : TypeId} (h : Blk w g cs t) {o n : Nat} (hn : o + n ≤ cs.length) : w.there g o n := fun j hj => by
  refine ⟨?_, h.frozen _⟩
  rw [h.cell, List.getElem?_eq_getElem (by omega)]
  rfl
/-- An element is put into the table. -/
theorem Tb.putE {W : World} {g : Nat} {p : List L5} {r : List (List Nat)} {s : Int} (h : Tb W g p r s) {c : Nat} (hc : c < 4) (x : L5) : ∃ W', (Instr.storeAt 27 (.pointer (some ⟨g, 5 * c, none⟩)) x.v).run Try.prog W = .ok () W' ∧ Tb W' g (p.set c x) r s ∧ Fx (fun k => k = g) W W' := by
  obtain ⟨l1, l2⟩ := tb_len h
  have hl : (tbC p r s).length = 85 := by simp [tbC, l1, l2]
  refine ⟨W.setCells g (5 * c) x.cs, ?_, ⟨?_, by simp [h.lp], h.lr, h.nm⟩, Fx.setCells (S := fun k => k = g) g rfl _ _ _⟩
  · exact run_storeAt_mid W g (5 * c) 27 x.cs.toArray (h.bl.there (by rw [hl]; show 5 * c + 5 ≤ 85; omega)) (cs_info x) (cs_one x)
  · have := Blk.setCells x.cs (5 * c) W (tbC p r s) h.bl (by rw [hl]; show 5 * c + 5 ≤ 85; omega)
    rw [tbC, show x.cs.length = 5 from rfl, flat_set 5 x.cs rfl _ _ c (tb_lens h).1 (by rw [List.length_map, h.lp]; exact hc), ← List.map_set] at this
    exact this
/-- A number is put into the table. -/
theorem Tb.putN {W : World} {g : Nat} {p : List L5} {r : List (List Nat)} {s : Int} (h : Tb W g p r s) {c : Nat} (hc : c < 4) (y : List Nat) (hy : Nm y) : ∃ W', (Instr.storeAt 49 (.pointer (some ⟨g, 20 + 16 * c, none⟩)) (.agg (dv y).toArray)).run Try.prog W = .ok () W' ∧ Tb W' g p (r.set c y) s ∧ Fx (fun k => k = g) W W' := by
  obtain ⟨l1, l2⟩ := tb_len h
  have hl : (tbC p r s).length = 85 := by simp [tbC, l1, l2]
  have hyl : (dv y).length = 16 := by rw [dv_length, hy.ln]
  refine ⟨W.setCells g (20 + 16 * c) (dv y), ?_, ⟨?_, h.lp, by simp [h.lr], fun i x hx => ?_⟩, Fx.setCells (S := fun k => k = g) g rfl _ _ _⟩
  · exact run_storeAt_mid W g (20 + 16 * c) 49 (dv y).toArray (h.bl.there (by rw [hl, List.size_toArray, hyl]; omega)) (by rw [List.size_toArray]; exact info49 hy.ln) (dv_one y)
  · have := Blk.setCells (dv y) (20 + 16 * c) W (tbC p r s) h.bl (by rw [hl, hyl]; omega)
    have e := flat_set 16 (dv y) hyl (r.map dv) [.int .i64 s] c (tb_lens h).2 (by rw [List.length_map, h.lr]; exact hc)
    rw [tbC, hyl, List.take_append, List.drop_append, l1, List.take_of_length_le (by omega), List.drop_eq_nil_of_le (by omega), show 20 + 16 * c - 20 = 16 * c by omega, show 20 + 16 * c + 16 - 20 = 16 * c + 16 by omega, List.nil_append, List.append_assoc, List.append_assoc, ← List.append_assoc (List.take _ _), e, ← List.map_set] at this
    exact this
  · rw [List.getElem?_set] at hx
    split at hx
    · split at hx
      · cases hx; exact hy
      · cases hx
    · exact h.nm i x hx
/-- The counter is put. -/
theorem Tb.putS {W : World} {g : Nat} {p : List L5} {r : List (List Nat)} {s : Int} (h : Tb W g p r s) (s' : Int) : ∃ W', (Instr.storeAt 3 (.pointer (some ⟨g, 84, none⟩)) (.int .i64 s')).run Try.prog W = .ok () W' ∧ Tb W' g p r s' ∧ Fx (fun k => k = g) W W' := by
  obtain ⟨l1, l2⟩ := tb_len h
  have hc : W.cell? ⟨g, 84, none⟩ = some (.int .i64 s) := by
    rw [h.bl.cell, tbC, List.getElem?_append_right (by omega), List.getElem?_append_right (by omega), l1, l2]
    rfl
  have hf := h.bl.frozen 84
  refine ⟨W.setCell ⟨g, 84, none⟩ (.int .i64 s'), by go_simp, ⟨?_, h.lp, h.lr, h.nm⟩, Fx.setCell (S := fun k => k = g) _ _ _ _ rfl⟩
  have := h.bl.set 84 (.int .i64 s')
  rw [tbC, List.set_append_right _ _ (by omega), List.set_append_right _ _ (by omega), l1, l2] at this
  exact this
theorem Tb.ldS {W : World} {g : Nat} {p : List L5} {r : List (List Nat)} {s : Int} (h : Tb W g p r s) : (Instr.loadAt 3 (.pointer (some ⟨g, 84, none⟩))).run Try.prog W = .ok (.int .i64 s) W := by
  obtain ⟨l1, l2⟩ := tb_len h
  have hc : W.cell? ⟨g, 84, none⟩ = some (.int .i64 s) := by
    rw [h.bl.cell, tbC, List.getElem?_append_right (by omega), List.getElem?_append_right (by omega), l1, l2]
    rfl
  go_simp
theorem tfld2 (g : Nat) (W : World) : (Instr.fieldAt 52 (.pointer (some ⟨g, 0, none⟩)) 2).run Try.prog W = .ok (.pointer (some ⟨g, 84, none⟩)) W := by
  go_simp
  try simp
  try rw [add_plain]
/-- One call of a script. -/
structure Opf where
  kind : Int
  a : Int
  b : Int
  c : Int
  k : List UInt8
  n : BitVec 32
  bit : Int
def opF (o : Opf) : List Value := .int .i64 o.kind :: .int .i64 o.a :: .int .i64 o.b :: .int .i64 o.c :: (o.k.map byt ++ [.int .u32 (o.n.toNat : Int), .int .i64 o.bit])
theorem opF_len (o : Opf) (h : o.k.length = 32) : (opF o).length = 38 := by simp [opF, h]
theorem opF_n (o : Opf) (h : o.k.length = 32) : (opF o)[36]? = some (.int .u32 (o.n.toNat : Int)) := by
  show (o.k.map byt ++ [.int .u32 (o.n.toNat : Int), .int .i64 o.bit])[32]? = _
  rw [List.getElem?_append_right (by simp [h]), List.length_map, h]; rfl
theorem opF_bit (o : Opf) (h : o.k.length = 32) : (opF o)[37]? = some (.int .i64 o.bit) := by
  show (o.k.map byt ++ [.int .u32 (o.n.toNat : Int), .int .i64 o.bit])[33]? = _
  rw [List.getElem?_append_right (by simp [h]), List.length_map, h]; rfl
theorem opF_k {W : World} {q : Nat} {o : Opf} (hb : Blk W q (opF o) 55) : At W ⟨q, 4, none⟩ (o.k.map byt) := fun j v hj => by
  rw [add_off, hb.cell, opF, show 4 + j = j + 4 by omega]
  show (o.k.map byt ++ _)[j]? = some v
  rw [List.getElem?_append_left (List.getElem?_eq_some_iff.1 hj).1]
  exact hj
theorem ldI {W : World} {q j : Nat} {cs : List Value} {t : TypeId} {v : Int} (hb : Blk W q cs t) (hv : cs[j]? = some (.int .i64 v)) : (Instr.loadAt 3 (.pointer (some ⟨q, j, none⟩))).run Try.prog W = .ok (.int .i64 v) W := by
  have hc : W.cell? ⟨q, j, none⟩ = some (.int .i64 v) := (hb.cell j).trans hv
  go_simp
theorem ldU {W : World} {q j : Nat} {cs : List Value} {t : TypeId} {v : Int} (hb : Blk W q cs t) (hv : cs[j]? = some (.int .u32 v)) : (Instr.loadAt 34 (.pointer (some ⟨q, j, none⟩))).run Try.prog W = .ok (.int .u32 v) W := by
  have hc : W.cell? ⟨q, j, none⟩ = some (.int .u32 v) := (hb.cell j).trans hv
  go_simp
theorem ldK {W : World} {q : Nat} {o : Opf} (h : o.k.length = 32) (hb : Blk W q (opF o) 55) : (Instr.loadAt 23 (.pointer (some ⟨q, 4, none⟩))).run Try.prog W = .ok (.agg (o.k.map byt).toArray) W :=
  run_loadA (opF_k hb) Try.underlying23 rfl (by rw [List.length_map, h]; rfl)
theorem ofld0 (q : Nat) (W : World) : (Instr.fieldAt 55 (.pointer (some ⟨q, 0, none⟩)) 0).run Try.prog W = .ok (.pointer (some ⟨q, 0, none⟩)) W := by
  go_simp
  try simp
  try rw [add_plain]
theorem ofld1 (q : Nat) (W : World) : (Instr.fieldAt 55 (.pointer (some ⟨q, 0, none⟩)) 1).run Try.prog W = .ok (.pointer (some ⟨q, 1, none⟩)) W := by
  go_simp
  try simp
  try rw [add_plain]
theorem ofld2 (q : Nat) (W : World) : (Instr.fieldAt 55 (.pointer (some ⟨q, 0, none⟩)) 2).run Try.prog W = .ok (.pointer (some ⟨q, 2, none⟩)) W := by
  go_simp
  try simp
  try rw [add_plain]
theorem ofld3 (q : Nat) (W : World) : (Instr.fieldAt 55 (.pointer (some ⟨q, 0, none⟩)) 3).run Try.prog W = .ok (.pointer (some ⟨q, 3, none⟩)) W := by
  go_simp
  try simp
  try rw [add_plain]
theorem ofld4 (q : Nat) (W : World) : (Instr.fieldAt 55 (.pointer (some ⟨q, 0, none⟩)) 4).run Try.prog W = .ok (.pointer (some ⟨q, 4, none⟩)) W := by
  go_simp
  try simp
  try rw [add_plain]
theorem ofld5 (q : Nat) (W : World) : (Instr.fieldAt 55 (.pointer (some ⟨q, 0, none⟩)) 5).run Try.prog W = .ok (.pointer (some ⟨q, 36, none⟩)) W := by
  go_simp
  try simp
  try rw [add_plain]
theorem ofld6 (q : Nat) (W : World) : (Instr.fieldAt 55 (.pointer (some ⟨q, 0, none⟩)) 6).run Try.prog W = .ok (.pointer (some ⟨q, 37, none⟩)) W := by
  go_simp
  try simp
  try rw [add_plain]
/-- The element and the number of one step. -/
theorem Agr.set {p : List L5} {r : List (List Nat)} (h : Agr p r) (hl : p.length = r.length) (c : Nat) (x : L5) (hx : x.Ok) : Agr (p.set c x) (r.set c (numD (x.val % PP))) := by
  refine ⟨fun i y hy => ?_, fun i y hy => ?_⟩
  · rw [List.getElem?_set] at hy
    split at hy
    · split at hy
      · cases hy; exact hx
      · cases hy
    · exact h.ok i y hy
  · rw [List.getElem?_set] at hy ⊢
    rw [← hl]
    split at hy
    · rename_i e
      rw [if_pos e]
      split at hy
      · rename_i e'
        rw [if_pos e']
        cases hy; rfl
      · cases hy
    · rename_i e
      rw [if_neg e]
      exact h.eq i y hy
end Go.Proofs.Ytnakeieeopbeiaa
