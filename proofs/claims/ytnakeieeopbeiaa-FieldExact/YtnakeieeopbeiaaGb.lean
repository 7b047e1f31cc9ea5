import Derived.Test.YtnakeieeopbeiaaGaG
import Derived.Test.YtnakeieeopbeiaaEo
set_option linter.unusedVariables false
set_option linter.unusedSimpArgs false
namespace Go.Proofs.Ytnakeieeopbeiaa
open Go.RowKit

theorem below_new (W : World) (o : Obj) : Below W.heap.size W (W.alloc o) := (Below.refl _ _).alloc (Nat.le_refl _) _
theorem info3i : (Try.prog.info? 3).map (fun i => (i.zero, i.size, i.bytes)) = some (some (.int .i64 0), 1, 8) := by kernel_rfl
theorem bs78 (d : Int) (W : World) : (Instr.buildSlice 78 1 #[(0, .int .i64 d)]).run Try.prog W = .ok (.slice (some ⟨W.heap.size, 0, none⟩) 1 1) (W.alloc (.cells [Value.int .i64 d].toArray 3)) := by kernel_rfl
theorem len78 (ad : Option Addr) (n cap : Nat) (W : World) (ty : TypeId) : (Builtin.len_ #[78] ty #[.slice ad n cap]).run Try.prog W = .ok (.int .i64 (n : Int)) W := by go_simp
theorem idx78 (g n cap m : Nat) (h : m < n) (W : World) : (Instr.indexAt 78 (.slice (some ⟨g, 0, none⟩) n cap) (.int .i64 (m : Int))).run Try.prog W = .ok (.pointer (some ⟨g, m, none⟩)) W := by
  have hm : (m : Int) < (n : Int) := by omega
  go_simp
  try simp
  try rw [add_plain]
theorem ld78 {ad : Addr} {v : Value} {W : World} (h : W.cell? ad = some v) : (Instr.loadAt 78 (.pointer (some ad))).run Try.prog W = .ok v W := by go_simp
theorem ld3 {ad : Addr} {v : Value} {W : World} (h : W.cell? ad = some v) : (Instr.loadAt 3 (.pointer (some ad))).run Try.prog W = .ok v W := by go_simp
theorem st3 {ad : Addr} {u : Value} {z : Int} {W : World} (h : W.cell? ad = some u) (hf : W.frozen? ad = false) : (Instr.storeAt 3 (.pointer (some ad)) (.int .i64 z)).run Try.prog W = .ok () (W.setCell ad (.int .i64 z)) := by go_simp
theorem st78 {ao : Option Addr} {b : Addr} {u : Value} {l c : Nat} {W : World} (h : W.cell? b = some u) (hf : W.frozen? b = false) : (Instr.storeAt 78 (.pointer (some b)) (.slice ao l c)).run Try.prog W = .ok () (W.setCell b (.slice ao l c)) := by go_simp
theorem ile_t {a b : Int} (h : a ≤ b) (W : World) (x y : Operand) : (do eqGuard .leq 3 x y (.int .i64 a) (.int .i64 b); binOp .leq 3 (.int .i64 a) (.int .i64 b) : Sem Value).run Try.prog W = .ok (.bool true) W := by go_simp
theorem ile_f {a b : Int} (h : ¬ a ≤ b) (W : World) (x y : Operand) : (do eqGuard .leq 3 x y (.int .i64 a) (.int .i64 b); binOp .leq 3 (.int .i64 a) (.int .i64 b) : Sem Value).run Try.prog W = .ok (.bool false) W := by go_simp
theorem remN (k c : Nat) (hc : 0 < c) (W : World) (x y : Operand) (hx : (c : Int) ≠ 0) : (do eqGuard .rem 3 x y (.int .i64 (k : Int)) (.int .i64 (c : Int)); binOp .rem 3 (.int .i64 (k : Int)) (.int .i64 (c : Int)) : Sem Value).run Try.prog W = .ok (.int .i64 ((k % c : Nat) : Int)) W := by
  have q1 : (k : Int).tmod (c : Int) = ((k % c : Nat) : Int) := by rw [Int.tmod_eq_emod_of_nonneg (by omega)]; omega
  have hc0 : ¬ c = 0 := by omega
  go_simp
theorem quoN (k c : Nat) (hc : 0 < c) (hk : k < 9223372036854775808) (W : World) (x y : Operand) (hx : (c : Int) ≠ 0) : (do eqGuard .quo 3 x y (.int .i64 (k : Int)) (.int .i64 (c : Int)); binOp .quo 3 (.int .i64 (k : Int)) (.int .i64 (c : Int)) : Sem Value).run Try.prog W = .ok (.int .i64 ((k / c : Nat) : Int)) W := by
  have q1 : (k : Int).tdiv (c : Int) = ((k / c : Nat) : Int) := by rw [Int.tdiv_eq_ediv_of_nonneg (by omega)]; omega
  have q2 : k / c ≤ k := Nat.div_le_self _ _
  have hc0 : ¬ c = 0 := by omega
  have q3 : IntKind.i64.wrap ((k / c : Nat) : Int) = ((k / c : Nat) : Int) := by
    generalize k / c = n at q2 ⊢
    rw [IntKind.wrap_i64]; omega
  obtain ⟨Q, hQ⟩ : ∃ Q : Int, ((k / c : Nat) : Int) = Q := ⟨_, rfl⟩
  rw [hQ] at q1 q3 ⊢
  go_simp
  try rw [q1, q3]
theorem own_shape {w : World} {e size : Nat} {v : Value} {n : Nat} {xs : List Value} (h : w.ownsRow 0 e size v n xs) : ∃ ao ln cp, v = Value.slice ao ln cp := by
  obtain ⟨_, ⟨rfl, _⟩ | ⟨g, cap, cur, rfl, _⟩⟩ := h
  · exact ⟨_, _, _, rfl⟩
  · exact ⟨_, _, _, rfl⟩
theorem ownsRow_fx {S : Nat → Prop} {w w' : World} {base : Nat} {e size : Nat} {v : Value} {n : Nat} {xs : List Value} (h : w.ownsRow base e size v n xs) (hf : Fx S w w') (hd : ∀ k, v.ownBlock = some k → ¬ S k) : w'.ownsRow base e size v n xs := by
  obtain ⟨h1, h | ⟨g, cap, cur, hv, hg, hh, r⟩⟩ := h
  · exact ⟨h1, .inl h⟩
  · refine ⟨h1, .inr ⟨g, cap, cur, hv, hg, ?_, r⟩⟩
    rw [hf.block g ?_ (hd g (by rw [hv]; rfl)), hh]
    rcases Nat.lt_or_ge g w.heap.size with hl | hl
    · exact hl
    · rw [Array.getElem?_eq_none hl] at hh; cases hh
theorem ownsRow_lt {w : World} {base : Nat} {e size : Nat} {v : Value} {n : Nat} {xs : List Value} (h : w.ownsRow base e size v n xs) (k : Nat) (hk : v.ownBlock = some k) : k < w.heap.size := by
  obtain ⟨h1, ⟨rfl, _⟩ | ⟨g, cap, cur, rfl, hg, hh, r⟩⟩ := h
  · simp [Value.ownBlock] at hk
  · obtain rfl : g = k := by simpa [Value.ownBlock] using hk
    rcases Nat.lt_or_ge g w.heap.size with hl | hl
    · exact hl
    · rw [Array.getElem?_eq_none hl] at hh; cases hh
/-- A row of digits: where it lies. -/
theorem own_parts {w : World} {v : Value} {ds : List Nat} (h : w.ownsRow 0 3 1 v ds.length (dv ds)) (hp : 0 < ds.length) : ∃ g cap, v = .slice (some ⟨g, 0, none⟩) ds.length cap ∧ ds.length ≤ cap ∧ (∀ j, j < ds.length → w.cell? ⟨g, j, none⟩ = some (.int .i64 ((ds.getD j 0 : Nat) : Int))) ∧ (∀ j, w.frozen? ⟨g, j, none⟩ = false) ∧ ∀ j d, j < ds.length → (w.setCell ⟨g, j, none⟩ (.int .i64 ((d : Nat) : Int))).ownsRow 0 3 1 v (ds.set j d).length (dv (ds.set j d)) := by
  obtain ⟨h0, ⟨e, hz⟩ | ⟨g, cap, cur, e, _, hh, hn, hc, hs, ht⟩⟩ := h
  · omega
  · refine ⟨g, cap, e, hn, fun j hj => ?_, fun j => by simp [World.frozen?, hh], fun j d hj => ?_⟩
    · have hv := dv_at ds j hj
      rw [← ht, List.getElem?_take_of_lt (by omega), Array.getElem?_toList] at hv
      simp [World.cell?, hh, hv]
    · refine ⟨by simp [dv_length], .inr ⟨g, cap, cur.setIfInBounds j (.int .i64 (d : Int)), by rw [List.length_set]; exact e, Nat.zero_le _, heap_setCell_same _ _ _ _ _ _ hh, by simpa using hn, hc, by rw [Array.size_setIfInBounds]; exact hs, ?_⟩⟩
      rw [Array.toList_setIfInBounds, List.length_set, List.take_set, ht, dv_set]
theorem own_dig {w : World} {v : Value} {ds : List Nat} (h : w.ownsRow 0 3 1 v ds.length (dv ds)) (hp : 0 < ds.length) : Dig w v ds := OwnD.dig (base := 0) h hp
theorem own_len {w : World} {v : Value} {n : Nat} {xs : List Value} (h : w.ownsRow 0 3 1 v n xs) (W : World) (ty : TypeId) : (Builtin.len_ #[78] ty #[v]).run Try.prog W = .ok (.int .i64 (n : Int)) W := by
  obtain ⟨h0, ⟨rfl, rfl⟩ | ⟨g, cap, cur, rfl, _⟩⟩ := h
  · exact len78 _ _ _ _ _
  · exact len78 _ _ _ _ _
/-- One digit more. -/
theorem push78 (w : World) (v : Value) (ds : List Nat) (hown : w.ownsRow 0 3 1 v ds.length (dv ds)) (d : Nat) (hl : ds.length ≤ 1000) (ty : TypeId) :
    ∃ w1 ao l c w2, (Instr.buildSlice 78 1 #[(0, .int .i64 (d : Int))]).run Try.prog w = .ok (.slice (some ⟨w.heap.size, 0, none⟩) 1 1) w1 ∧ (Builtin.append_ #[78, 78] ty #[v, .slice (some ⟨w.heap.size, 0, none⟩) 1 1]).run Try.prog w1 = .ok (.slice ao l c) w2 ∧ w2.ownsRow 0 3 1 (.slice ao l c) (ds ++ [d]).length (dv (ds ++ [d])) ∧ Fx (fun k => v.ownBlock = some k) w w2 ∧ (∀ k, Value.ownBlock (.slice ao l c) = some k → v.ownBlock = some k ∨ w.heap.size ≤ k) := by
  have be1 : Below w.heap.size w (w.alloc (.cells [Value.int .i64 (d : Int)].toArray 3)) := below_new _ _
  have hP : Blk (w.alloc (.cells [Value.int .i64 (d : Int)].toArray 3)) w.heap.size [Value.int .i64 (d : Int)] 3 := Blk.new _ _ _
  obtain ⟨i0, hi, hz0, hz1, hz2⟩ := info_parts info3i
  obtain ⟨v', w2, hr, ho, hg, hn⟩ := run_appx _ 78 ty 3 i0 _ 1 8 Try.underlying78 hi hz0 hz1 hz2 (by simp [Value.cells]) (by decide) v _ _ (ownsRow_fx hown (Fx.of_below (S := fun _ => False) be1) (fun _ _ s => s)) ⟨w.heap.size, 0, none⟩ 1 1 [Value.int .i64 (d : Int)] rfl (fun j u hu => by rw [add_plain, hP.cell]; exact hu) (fun u hu => by
    simp only [List.mem_cons, List.not_mem_nil, or_false] at hu
    subst hu; rfl) (by omega) (by omega)
  have hsz : w.heap.size < (w.alloc (.cells [Value.int .i64 (d : Int)].toArray 3)).heap.size := by simp
  obtain ⟨ao, l, c, rfl⟩ := own_shape ho
  refine ⟨_, ao, l, c, w2, bs78 _ w, hr, ?_, (Fx.of_below be1).and (grown_fx hg), fun k hk => ?_⟩
  · have e : dv ds ++ [Value.int .i64 (d : Int)] = dv (ds ++ [d]) := by simp [dv]
    rw [← e, List.length_append]
    exact ho
  · rcases hn k hk with e | e
    · exact .inl e
    · exact .inr (by omega)
def caE (v : Value) (ds : List Nat) (x : Nat × Value) : List (Nat × Value) := [(0, v), (3, x.2), (4, .int .i64 ((crC ds x.1 : Nat) : Int)), (5, .int .i64 (x.1 : Int))]
theorem tnD (t : Nat) (h : t < 1000) : IntKind.i64.wrap ((t : Int) + 1) = ((t + 1 : Nat) : Int) := by rw [IntKind.wrap_i64]; omega
theorem waddN (a b : Nat) (h : a + b < 9223372036854775808) : IntKind.i64.wrap ((a : Int) + (b : Int)) = ((a + b : Nat) : Int) := by rw [IntKind.wrap_i64]; omega
set_option maxRecDepth 100000 in
set_option maxHeartbeats 1000000 in
theorem carried_law (v : Value) (ds : List Nat) (w : World) (hv : Dig w v ds) (h16 : 16 ≤ ds.length) (hl : ds.length ≤ 40) (hd : ∀ j, ds.getD j 0 < 1125899906842624) : Calls Try.prog 54 #[v] w fun e w' => ∃ v' L, e = .returned v' ∧ ds.length ≤ L ∧ L ≤ ds.length + 4 ∧ crC ds L = 0 ∧ (L = ds.length ∨ 0 < crC ds (L - 1)) ∧ w'.ownsRow 0 3 1 v' (crO ds L).length (dv (crO ds L)) ∧ Below w.heap.size w w' := by
  have hv0 := hv
  obtain ⟨g, cap, hve, h2, h3, h4⟩ := hv
  have hlen : ∀ W ty, (Builtin.len_ #[78] ty #[v]).run Try.prog W = .ok (.int .i64 (ds.length : Int)) W := fun W ty => by rw [hve]; exact len78 _ _ _ _ _
  refine calls_of_args [v] Try.func54 rfl 41 Try.ntmps54 (by show 1 ≤ 41; decide) ?_
  refine EW.seq ?_
  refine EW.region ?_
  first | refine WL.assign rfl rfl rfl ?_
  refine WL.done ?_
  refine EW.on ?_
  refine EW.seq ?_
  refine EW.region ?_
  first | refine WL.assign rfl rfl rfl ?_
  refine WL.done ?_
  refine EW.on ?_
  refine EW.seq ?_
  refine EW.region ?_
  first | refine WL.assign rfl rfl rfl ?_
  refine WL.done ?_
  refine EW.on ?_
  refine EW.seq ?_
  refine EW.seq ?_
  refine EW.region ?_
  first | refine WL.assign rfl rfl rfl ?_
  refine WL.done ?_
  refine EW.on ?_
  refine EW.block ?_
  refine EW.loop (caE v ds) (fun x w' => x.1 ≤ ds.length + 4 ∧ (x.1 ≤ ds.length ∨ 0 < crC ds (x.1 - 1)) ∧ w'.ownsRow 0 3 1 x.2 (crO ds x.1).length (dv (crO ds x.1)) ∧ Below w.heap.size w w' ∧ ∀ k, x.2.ownBlock = some k → w.heap.size ≤ k) (fun x => ds.length + 5 - x.1) (0, .slice none 0 0) [0, 3, 4, 5] rfl ⟨by omega, .inl (Nat.zero_le _), World.ownsRow_nil _ _ _ _, Below.refl _ _, fun k hk => by simp [Value.ownBlock] at hk⟩ ?_
  rintro ⟨t, vt⟩ wr ⟨ht4, htc, hown, hbe, hnw⟩
  have ht4 : t ≤ ds.length + 4 := ht4
  have htc : t ≤ ds.length ∨ 0 < crC ds (t - 1) := htc
  have hown : wr.ownsRow 0 3 1 vt (crO ds t).length (dv (crO ds t)) := hown
  show EW _ _ _ _ [(0, v), (3, vt), (4, .int .i64 ((crC ds t : Nat) : Int)), (5, .int .i64 (t : Int))] _
  have hcl := crO_length ds t
  have hlo := own_len hown
  rw [hcl] at hlo
  have hclt := crC_lt hd t
  by_cases h1 : t < ds.length
  · have z1 : (t : Int) < (ds.length : Int) := Int.ofNat_lt.2 h1
    have hdt := hd t
    have hix : ∀ V, (Instr.indexAt 78 v (.int .i64 (t : Int))).run Try.prog V = .ok (.pointer (some ⟨g, t, none⟩)) V := fun V => by rw [hve]; exact idx78 g _ _ t h1 V
    have hc : wr.cell? ⟨g, t, none⟩ = some (.int .i64 ((ds.getD t 0 : Nat) : Int)) := (hbe.cell (cell_lt (h4 t h1))).trans (h4 t h1)
    have had := waddN (crC ds t) (ds.getD t 0) (by omega)
    have tn := tnD t (by omega)
    obtain ⟨w1, ao, l, c, w2, hbs, hap, hown2, hfx, hnw1⟩ := push78 wr vt (crO ds t) hown ((crC ds t + ds.getD t 0) % 65536) (by omega) 78
    have hbe2 : Below w.heap.size w w2 := hbe.trans (hfx.below (fun k hk e => by have := hnw k e; omega) hbe.size)
    have hnw2 : ∀ k, Value.ownBlock (.slice ao l c) = some k → w.heap.size ≤ k := fun k hk => by
      rcases hnw1 k hk with e | e
      · exact hnw k e
      · exact Nat.le_trans hbe.size e
    rw [show crO ds t ++ [(crC ds t + ds.getD t 0) % 65536] = crO ds (t + 1) from rfl] at hown2
    have hcr : crC ds (t + 1) = (crC ds t + ds.getD t 0) / 65536 := rfl
    have hnx : t + 1 ≤ ds.length ∨ 0 < crC ds (t + 1 - 1) := .inl h1
    refine EW.seq ?_
    refine EW.seq ?_
    refine EW.region ?_
    first | refine WL.move rfl rfl rfl ?_
    first | refine WL.move rfl rfl rfl ?_
    refine WL.len rfl rfl rfl (hlen _ _) ?_
    refine WL.bin rfl rfl rfl rfl (int_lt_t z1 _ _ _) ?_
    first | refine WL.move rfl rfl rfl ?_
    refine WL.skip _ rfl rfl rfl ?_
    refine WL.skip _ rfl rfl rfl ?_
    first | refine WL.pick rfl rfl rfl rfl ?_
    first | refine WL.move rfl rfl rfl ?_
    refine WL.skip _ rfl rfl rfl ?_
    refine WL.skip _ rfl rfl rfl ?_
    refine WL.skip _ rfl rfl rfl ?_
    first | refine WL.pick rfl rfl rfl rfl ?_
    refine WL.done ?_
    refine EW.on ?_
    refine EW.cond_t rfl ?_
    refine EW.skip ?_
    refine EW.on ?_
    refine EW.seq ?_
    refine EW.block ?_
    refine EW.seq ?_
    refine EW.region ?_
    first | refine WL.move rfl rfl rfl ?_
    first | refine WL.assign rfl rfl rfl ?_
    refine WL.done ?_
    refine EW.on ?_
    refine EW.seq ?_
    refine EW.seq ?_
    refine EW.region ?_
    first | refine WL.move rfl rfl rfl ?_
    first | refine WL.move rfl rfl rfl ?_
    refine WL.len rfl rfl rfl (hlen _ _) ?_
    refine WL.bin rfl rfl rfl rfl (int_lt_t z1 _ _ _) ?_
    refine WL.done ?_
    refine EW.on ?_
    refine EW.cond_t rfl ?_
    refine EW.region ?_
    first | refine WL.move rfl rfl rfl ?_
    first | refine WL.move rfl rfl rfl ?_
    first | refine WL.move rfl rfl rfl ?_
    refine WL.index rfl rfl rfl rfl (hix _) ?_
    refine WL.load rfl rfl rfl (ld3 hc) ?_
    refine WL.bin rfl rfl rfl rfl (int_add had _ _ _) ?_
    first | refine WL.assign rfl rfl rfl ?_
    refine WL.done ?_
    refine EW.on ?_
    refine EW.seq ?_
    refine EW.region ?_
    first | refine WL.move rfl rfl rfl ?_
    first | refine WL.move rfl rfl rfl ?_
    refine WL.bin rfl rfl rfl rfl (remN _ 65536 (by decide) _ _ _ (by decide)) ?_
    refine WL.bsl rfl rfl rfl hbs ?_
    refine WL.app rfl rfl rfl rfl hap ?_
    first | refine WL.assign rfl rfl rfl ?_
    refine WL.done ?_
    refine EW.on ?_
    refine EW.region ?_
    first | refine WL.move rfl rfl rfl ?_
    refine WL.bin rfl rfl rfl rfl (quoN _ 65536 (by decide) (by omega) _ _ _ (by decide)) ?_
    first | refine WL.assign rfl rfl rfl ?_
    refine WL.done ?_
    refine pn_block ?_
    refine EW.on ?_
    refine EW.region ?_
    first | refine WL.move rfl rfl rfl ?_
    first | refine WL.bin rfl rfl rfl rfl (int_add ‹_› _ _ _) ?_
    first | refine WL.assign rfl rfl rfl ?_
    refine WL.done ?_
    refine EW.again (E := caE v ds) (R := fun x w' => x.1 ≤ ds.length + 4 ∧ (x.1 ≤ ds.length ∨ 0 < crC ds (x.1 - 1)) ∧ w'.ownsRow 0 3 1 x.2 (crO ds x.1).length (dv (crO ds x.1)) ∧ Below w.heap.size w w' ∧ ∀ k, x.2.ownBlock = some k → w.heap.size ≤ k) (m := fun x => ds.length + 5 - x.1) (x := (t, vt)) (t + 1, .slice ao l c) [0, 3, 4, 5] ?_ ⟨by show t + 1 ≤ _; omega, hnx, hown2, hbe2, hnw2⟩ (by show ds.length + 5 - (t + 1) < ds.length + 5 - t; omega)
    unfold caE
    rw [hcr]
    rfl
  · have z1 : ¬ (t : Int) < (ds.length : Int) := fun hh => h1 (Int.ofNat_lt.1 hh)
    by_cases h0 : 0 < crC ds t
    · have z2 : (0 : Int) < ((crC ds t : Nat) : Int) := by omega
      have hend := crC_end hd (Nat.le_of_not_lt h1) h0
      have hz : ds.getD t 0 = 0 := getD_past (Nat.le_of_not_lt h1)
      have tn := tnD t (by omega)
      obtain ⟨w1, ao, l, c, w2, hbs, hap, hown2, hfx, hnw1⟩ := push78 wr vt (crO ds t) hown (crC ds t % 65536) (by omega) 78
      have hbe2 : Below w.heap.size w w2 := hbe.trans (hfx.below (fun k hk e => by have := hnw k e; omega) hbe.size)
      have hnw2 : ∀ k, Value.ownBlock (.slice ao l c) = some k → w.heap.size ≤ k := fun k hk => by
        rcases hnw1 k hk with e | e
        · exact hnw k e
        · exact Nat.le_trans hbe.size e
      rw [show crO ds t ++ [crC ds t % 65536] = crO ds (t + 1) from by rw [crO, hz, Nat.add_zero]] at hown2
      have hcr : crC ds (t + 1) = crC ds t / 65536 := by rw [crC, hz, Nat.add_zero]
      have hnx : t + 1 ≤ ds.length ∨ 0 < crC ds (t + 1 - 1) := .inr h0
      refine EW.seq ?_
      refine EW.seq ?_
      refine EW.region ?_
      first | refine WL.move rfl rfl rfl ?_
      first | refine WL.move rfl rfl rfl ?_
      refine WL.len rfl rfl rfl (hlen _ _) ?_
      refine WL.bin rfl rfl rfl rfl (int_lt_f z1 _ _ _) ?_
      first | refine WL.move rfl rfl rfl ?_
      first | refine WL.move rfl rfl rfl ?_ | refine WL.skip _ rfl rfl rfl ?_
      refine WL.bin rfl rfl rfl rfl (int_gt_t z2 _ _ _) ?_
      first | refine WL.pick rfl rfl rfl rfl ?_
      first | refine WL.move rfl rfl rfl ?_
      refine WL.skip _ rfl rfl rfl ?_
      refine WL.skip _ rfl rfl rfl ?_
      refine WL.skip _ rfl rfl rfl ?_
      first | refine WL.pick rfl rfl rfl rfl ?_
      refine WL.done ?_
      refine EW.on ?_
      refine EW.cond_t rfl ?_
      refine EW.skip ?_
      refine EW.on ?_
      refine EW.seq ?_
      refine EW.block ?_
      refine EW.seq ?_
      refine EW.region ?_
      first | refine WL.move rfl rfl rfl ?_
      first | refine WL.assign rfl rfl rfl ?_
      refine WL.done ?_
      refine EW.on ?_
      refine EW.seq ?_
      refine EW.seq ?_
      refine EW.region ?_
      first | refine WL.move rfl rfl rfl ?_
      first | refine WL.move rfl rfl rfl ?_
      refine WL.len rfl rfl rfl (hlen _ _) ?_
      refine WL.bin rfl rfl rfl rfl (int_lt_f z1 _ _ _) ?_
      refine WL.done ?_
      refine EW.on ?_
      refine EW.cond_f rfl ?_
      refine EW.skip ?_
      refine EW.on ?_
      refine EW.seq ?_
      refine EW.region ?_
      first | refine WL.move rfl rfl rfl ?_
      first | refine WL.move rfl rfl rfl ?_
      refine WL.bin rfl rfl rfl rfl (remN _ 65536 (by decide) _ _ _ (by decide)) ?_
      refine WL.bsl rfl rfl rfl hbs ?_
      refine WL.app rfl rfl rfl rfl hap ?_
      first | refine WL.assign rfl rfl rfl ?_
      refine WL.done ?_
      refine EW.on ?_
      refine EW.region ?_
      first | refine WL.move rfl rfl rfl ?_
      refine WL.bin rfl rfl rfl rfl (quoN _ 65536 (by decide) (by omega) _ _ _ (by decide)) ?_
      first | refine WL.assign rfl rfl rfl ?_
      refine WL.done ?_
      refine pn_block ?_
      refine EW.on ?_
      refine EW.region ?_
      first | refine WL.move rfl rfl rfl ?_
      first | refine WL.bin rfl rfl rfl rfl (int_add ‹_› _ _ _) ?_
      first | refine WL.assign rfl rfl rfl ?_
      refine WL.done ?_
      refine EW.again (E := caE v ds) (R := fun x w' => x.1 ≤ ds.length + 4 ∧ (x.1 ≤ ds.length ∨ 0 < crC ds (x.1 - 1)) ∧ w'.ownsRow 0 3 1 x.2 (crO ds x.1).length (dv (crO ds x.1)) ∧ Below w.heap.size w w' ∧ ∀ k, x.2.ownBlock = some k → w.heap.size ≤ k) (m := fun x => ds.length + 5 - x.1) (x := (t, vt)) (t + 1, .slice ao l c) [0, 3, 4, 5] ?_ ⟨by show t + 1 ≤ _; omega, hnx, hown2, hbe2, hnw2⟩ (by show ds.length + 5 - (t + 1) < ds.length + 5 - t; omega)
      unfold caE
      rw [hcr]
      rfl
    · have z2 : ¬ (0 : Int) < ((crC ds t : Nat) : Int) := by omega
      have z3 : ¬ (t : Int) < 16 := by omega
      have hc0 : crC ds t = 0 := by omega
      have hmin : t = ds.length ∨ 0 < crC ds (t - 1) := htc.imp (fun e => by omega) id
      refine EW.seq ?_
      refine EW.seq ?_
      refine EW.region ?_
      first | refine WL.move rfl rfl rfl ?_
      first | refine WL.move rfl rfl rfl ?_
      refine WL.len rfl rfl rfl (hlen _ _) ?_
      refine WL.bin rfl rfl rfl rfl (int_lt_f z1 _ _ _) ?_
      first | refine WL.move rfl rfl rfl ?_
      first | refine WL.move rfl rfl rfl ?_ | refine WL.skip _ rfl rfl rfl ?_
      refine WL.bin rfl rfl rfl rfl (int_gt_f z2 _ _ _) ?_
      first | refine WL.pick rfl rfl rfl rfl ?_
      first | refine WL.move rfl rfl rfl ?_
      first | refine WL.move rfl rfl rfl ?_ | refine WL.skip _ rfl rfl rfl ?_
      refine WL.len rfl rfl rfl (hlo _ _) ?_
      refine WL.bin rfl rfl rfl rfl (int_lt_f z3 _ _ _) ?_
      first | refine WL.pick rfl rfl rfl rfl ?_
      refine WL.done ?_
      refine EW.on ?_
      refine EW.cond_f rfl ?_
      refine EW.exit ?_
      repeat refine px_then ?_
      refine px_block ?_
      refine EW.on ?_
      refine EW.seq ?_
      refine EW.region ?_
      first | refine WL.move rfl rfl rfl ?_
      first | refine WL.assign rfl rfl rfl ?_
      refine WL.done ?_
      refine EW.on ?_
      refine EW.ret ?_
      repeat (first | refine pr_then ?_ | refine pr_block ?_)
      exact EW.returns Try.results54 rfl ⟨vt, t, rfl, Nat.le_of_not_lt h1, ht4, hc0, hmin, hown, hbe⟩
end Go.Proofs.Ytnakeieeopbeiaa
