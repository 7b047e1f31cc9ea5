import Derived.Test.YthlpfpggjkocmaaXb
set_option linter.unusedVariables false
set_option linter.unusedSimpArgs false
namespace Go.Proofs.Ythlpfpggjkocmaa
open Go.RowKit

theorem run_mk114 (w : World) (l : Nat) (h : l ≤ 17592186044416) : (Instr.makeSlice 114 (.int .i64 (l : Int)) (.int .i64 (l : Int))).run Try.prog w = .ok (.slice (some ⟨w.heap.size, 0, none⟩) l l) (w.alloc (.cells (List.replicate l (Value.bool false)).toArray 4)) := by
  obtain ⟨i0, hi, hz⟩ := Option.map_eq_some_iff.1 (show (Try.prog.info? 4).map (fun i => (i.zero, i.size, i.bytes)) = some (some (.bool false), 1, 1) by kernel_rfl)
  simp only [Prod.mk.injEq] at hz
  obtain ⟨hz0, hz1, hz2⟩ := hz
  have hrun := run_make (P := Try.prog) w 114 4 i0 (.bool false) Try.underlying114 hi hz0 .i64 .i64 l l (by omega) (by omega) (by rw [hz2]; omega) (by omega)
  rw [hz1, Int.toNat_natCast, Nat.mul_one, made_one _ rfl] at hrun
  exact hrun
theorem idx114 (q i n : Nat) (h : i < n) (W : World) : (Instr.indexAt 114 (.slice (some ⟨q, 0, none⟩) n n) (.int .i64 (i : Int))).run Try.prog W = .ok (.pointer (some ⟨q, i, none⟩)) W := by
  have hm : (i : Int) < (n : Int) := by omega
  have e : (⟨q, 0, none⟩ : Addr).add i = ⟨q, i, none⟩ := add_plain0 q i
  rw [← e]
  go_simp
/-- Which numbers were seen. -/
def snC (n : Nat) (l : List Pw) : List Value := (List.range n).map fun j => Value.bool (decide (j ∈ l.map Pw.n))
theorem snC_nil (n : Nat) : snC n [] = List.replicate n (Value.bool false) := by
  unfold snC
  simp [List.map_const']
theorem snC_get (n : Nat) (l : List Pw) (i : Nat) (h : i < n) : (snC n l)[i]? = some (.bool (decide (i ∈ l.map Pw.n))) := by
  unfold snC
  rw [List.getElem?_map, List.getElem?_range h]
  rfl
theorem snC_set (n : Nat) (l : List Pw) (x : Pw) (h : x.n < n) : (snC n l).set x.n (.bool true) = snC n (l ++ [x]) := by
  apply List.ext_getElem?
  intro j
  rw [List.getElem?_set]
  by_cases hj : j < n
  · rw [snC_get n _ j hj]
    by_cases e : x.n = j
    · rw [if_pos e, if_pos (by unfold snC; rw [List.length_map, List.length_range]; exact h), snC_get n (l ++ [x]) j hj, decide_eq_true (show j ∈ (l ++ [x]).map Pw.n by rw [← e]; simp)]
    · rw [if_neg e, snC_get n _ j hj]
      have : (j ∈ (l ++ [x]).map Pw.n) ↔ (j ∈ l.map Pw.n) := by
        simp only [List.map_append, List.mem_append, List.map_cons, List.map_nil, List.mem_singleton]
        exact ⟨fun h => h.elim id (fun h => absurd h.symm e), .inl⟩
      rw [decide_eq_decide.2 this]
  · rw [List.getElem?_eq_none (by simp [snC]; omega), List.getElem?_eq_none (by simp [snC]; omega), if_neg (by omega)]
theorem ldb {W : World} {q i : Nat} {cs : List Value} {b : Bool} (hb : Blk W q cs 4) (h : cs[i]? = some (.bool b)) : (Instr.loadAt 4 (.pointer (some ⟨q, i, none⟩))).run Try.prog W = .ok (.bool b) W := by
  have hc : W.cell? ⟨q, i, none⟩ = some (.bool b) := (hb.cell i).trans h
  have hf := hb.frozen i
  go_simp
theorem stb {W : World} {q i : Nat} {cs : List Value} {v0 : Value} (b : Bool) (hb : Blk W q cs 4) (h : cs[i]? = some v0) : ∃ W', (Instr.storeAt 4 (.pointer (some ⟨q, i, none⟩)) (.bool b)).run Try.prog W = .ok () W' ∧ Blk W' q (cs.set i (.bool b)) 4 ∧ Fx (fun k => k = q) W W' := by
  have hc : W.cell? ⟨q, i, none⟩ = some v0 := (hb.cell i).trans h
  have hf := hb.frozen i
  exact ⟨W.setCell ⟨q, i, none⟩ (.bool b), by go_simp, hb.set i _, Fx.setCell _ _ _ _ rfl⟩
def rfE (q : Nat) (v : Value) (qs n k : Nat) (t : Nat) : List (Nat × Value) := [(0, .pointer (some ⟨q, 0, none⟩)), (6, .slice (some ⟨qs, 0, none⟩) n n), (12, v), (13, .int .i64 (k : Int)), (14, .int .i64 (t : Int))]
structure RfR (w : World) (l : List Pw) (qs n : Nat) (t : Nat) (W : World) : Prop where
  b : Below w.heap.size w W
  s : Blk W qs (snC n (l.take t)) 4
  le : t ≤ l.length
theorem nodup_new {l : List Pw} {t : Nat} {x : Pw} (h : (l.map Pw.n).Nodup) (hx : l[t]? = some x) : ¬ x.n ∈ (l.take t).map Pw.n := by
  have ht := (List.getElem?_eq_some_iff.1 hx).1
  intro hm
  obtain ⟨y, hy, e⟩ := List.mem_map.1 hm
  obtain ⟨i, hi⟩ := List.getElem?_of_mem hy
  have hit : i < t := by have := (List.getElem?_eq_some_iff.1 hi).1; rw [List.length_take] at this; omega
  rw [List.getElem?_take_of_lt hit] at hi
  have h1 : (l.map Pw.n)[i]? = some x.n := by rw [List.getElem?_map, hi, ← e]; rfl
  have h2 : (l.map Pw.n)[t]? = some x.n := by rw [List.getElem?_map, hx]; rfl
  have := (List.getElem?_inj (by simp; omega) h).1 (h1.trans h2.symm)
  omega
set_option maxRecDepth 100000 in
set_option maxHeartbeats 1000000 in
theorem refusal_ok {w : World} {q p n : Nat} {y : Value} (hb : Blk w q (lgC p n y) 66) (v : Value) (l : List Pw) (hp : Pws w v l) (hk : l.length ≤ 1000) (hn : ∀ x ∈ l, x.n < n) (hn2 : n ≤ 1000) (hd : (l.map Pw.n).Nodup) : Calls Try.prog 60 #[.pointer (some ⟨q, 0, none⟩), v] w fun e w' => e = .returned (.tuple #[.int .i64 0, .int .i64 0]) ∧ Below w.heap.size w w' := by
  refine calls_of_args [.pointer (some ⟨q, 0, none⟩), v] Try.func60 rfl 41 Try.ntmps60 (by show 2 ≤ 41; decide) ?_
  refine EW.seq ?_
  refine EW.region ?_
  first | refine WL.assign rfl rfl rfl ?_
  first | refine WL.assign rfl rfl rfl ?_
  refine WL.done ?_
  refine EW.on ?_
  refine EW.seq ?_
  refine EW.region ?_
  first | refine WL.move rfl rfl rfl ?_
  refine WL.call [.pointer (some ⟨q, 0, none⟩)] enter35 rfl rfl rfl (pages_any hb) ?_
  rintro _ w1 ⟨rfl, hz⟩
  rw [hz]
  refine ⟨_, rfl, ?_⟩
  have e1 := below_new w (.cells (List.replicate n (Value.bool false)).toArray 4)
  have s1 : Blk (w.alloc (.cells (List.replicate n (Value.bool false)).toArray 4)) w.heap.size (snC n []) 4 := by rw [snC_nil]; exact Blk.new _ _ _
  obtain ⟨qs, hqs⟩ : ∃ qs, w.heap.size = qs := ⟨_, rfl⟩
  have rm := run_mk114 w n (by omega)
  rw [hqs] at s1 rm
  refine WL.mks rfl rfl rfl rfl rm ?_
  first | refine WL.assign rfl rfl rfl ?_
  refine WL.done ?_
  refine EW.on ?_
  refine EW.seq ?_
  refine EW.seq ?_
  refine EW.region ?_
  first | refine WL.move rfl rfl rfl ?_
  refine WL.len rfl rfl rfl (hp.len _ _) ?_
  first | refine WL.move rfl rfl rfl ?_
  refine WL.done ?_
  refine EW.on ?_
  refine EW.block ?_
  refine EW.loop (rfE q v qs n l.length) (RfR w l qs n) (fun t => l.length - t) 0 [0, 6, 12, 13, 14] rfl ⟨e1, s1, Nat.zero_le _⟩ ?_
  rintro t wi ⟨ei, si, hle⟩
  show EW _ _ _ _ [(0, .pointer (some ⟨q, 0, none⟩)), (6, .slice (some ⟨qs, 0, none⟩) n n), (12, v), (13, .int .i64 (l.length : Int)), (14, .int .i64 (t : Int))] _
  refine EW.seq ?_
  refine EW.region ?_
  first | refine WL.bin rfl rfl rfl rfl (int_lt_t ‹_› _ _ _) ?_ | refine WL.bin rfl rfl rfl rfl (int_lt_f ‹_› _ _ _) ?_ | refine WL.bin rfl rfl rfl rfl (int_lt_d _ _ _ _ _) ?_
  refine WL.done ?_
  refine EW.on ?_
  refine EW.seq ?_
  refine EW.cond_d rfl (fun h15 => ?_) (fun h15 => ?_)
  · refine EW.skip ?_
    refine EW.on ?_
    refine EW.seq ?_
    refine EW.block ?_
    refine EW.seq ?_
    have ht : t < l.length := by omega
    have tn : IntKind.i64.wrap ((t : Int) + 1) = ((t + 1 : Nat) : Int) := by rw [IntKind.wrap_i64]; omega
    obtain ⟨x, hx⟩ : ∃ x, l[t]? = some x := ⟨_, List.getElem?_eq_getElem ht⟩
    have hxm := List.mem_of_getElem? hx
    have hxn := hn x hxm
    have hnew := nodup_new hd hx
    refine EW.region ?_
    first | refine WL.move rfl rfl rfl ?_
    obtain ⟨ad, ix, lx⟩ := (hp.below ei).item hx
    refine WL.index rfl rfl rfl rfl (ix _) ?_
    refine WL.load rfl rfl rfl lx ?_
    obtain ⟨wv, w3, q3, r3, s3, b3, e3, hq3⟩ := var111 x ((hp.below ei).has x hxm)
    refine WL.new rfl rfl r3 ?_
    first | refine WL.assign rfl rfl rfl ?_
    have e03 := ei.trans (e3.mono ei.size)
    have sn3 := si.on e3
    refine WL.store rfl rfl rfl s3 ?_
    refine WL.done ?_
    refine EW.on ?_
    refine EW.seq ?_
    refine EW.seq ?_
    refine EW.region ?_
    first | refine WL.move rfl rfl rfl ?_
    refine WL.field rfl rfl rfl (fld111_0 q3 _) ?_
    refine WL.load rfl rfl rfl (ldpn b3) ?_
    refine WL.call [.pointer (some ⟨q, 0, none⟩), .int .i64 (x.n : Int)] enter65 rfl rfl rfl (has_ok (hb.on e03) x.n hxn) ?_
    rintro _ w4 ⟨rfl, hz4⟩
    rw [hz4]
    refine ⟨_, rfl, ?_⟩
    first | refine WL.un rfl rfl rfl (not_t _ _) ?_
    refine WL.done ?_
    refine EW.on ?_
    refine EW.cond_f rfl ?_
    refine EW.skip ?_
    refine EW.on ?_
    refine EW.seq ?_
    refine EW.seq ?_
    refine EW.region ?_
    refine WL.field rfl rfl rfl (fld111_1 q3 _) ?_
    refine WL.load rfl rfl rfl (ldpb b3) ?_
    refine WL.len rfl rfl rfl (((hp.has x hxm).1).len _ _) ?_
    refine WL.bin rfl rfl rfl rfl (int_ne_f (by rw [(hp.has x hxm).2]; rfl) _ _ _) ?_
    refine WL.done ?_
    refine EW.on ?_
    refine EW.cond_f rfl ?_
    refine EW.skip ?_
    refine EW.on ?_
    refine EW.seq ?_
    refine EW.seq ?_
    refine EW.region ?_
    first | refine WL.move rfl rfl rfl ?_
    refine WL.field rfl rfl rfl (fld111_0 q3 _) ?_
    refine WL.load rfl rfl rfl (ldpn b3) ?_
    refine WL.index rfl rfl rfl rfl (idx114 qs x.n n hxn _) ?_
    refine WL.load rfl rfl rfl (ldb sn3 ((snC_get n _ x.n hxn).trans (by rw [decide_eq_false hnew]))) ?_
    refine WL.done ?_
    refine EW.on ?_
    refine EW.cond_f rfl ?_
    refine EW.skip ?_
    refine EW.on ?_
    refine EW.region ?_
    first | refine WL.move rfl rfl rfl ?_
    refine WL.field rfl rfl rfl (fld111_0 q3 _) ?_
    refine WL.load rfl rfl rfl (ldpn b3) ?_
    refine WL.index rfl rfl rfl rfl (idx114 qs x.n n hxn _) ?_
    obtain ⟨w5, s5, b5, x5⟩ := stb true sn3 (snC_get n _ x.n hxn)
    rw [snC_set n _ x hxn] at b5
    refine WL.store rfl rfl rfl s5 ?_
    refine WL.done ?_
    refine pn_block ?_
    refine EW.on ?_
    refine EW.region ?_
    first | refine WL.bin rfl rfl rfl rfl (int_add ‹_› _ _ _) ?_
    first | refine WL.move rfl rfl rfl ?_
    refine WL.done ?_
    refine EW.again (E := rfE q v qs n l.length) (R := RfR w l qs n) (m := fun t => l.length - t) (x := t) (t + 1) [0, 6, 12, 13, 14] rfl ⟨below_of_new e03 x5 (fun k hk => by omega), by rw [List.take_add_one, hx]; exact b5, by omega⟩ (by show _ - (t + 1) < _ - t; omega)
  · refine EW.exit ?_
    refine px_then ?_
    refine px_then ?_
    refine px_block ?_
    refine EW.on ?_
    refine EW.seq ?_
    refine EW.region ?_
    first | refine WL.assign rfl rfl rfl ?_
    first | refine WL.assign rfl rfl rfl ?_
    refine WL.done ?_
    refine EW.on ?_
    refine EW.ret ?_
    exact EW.returns2 Try.results60 rfl rfl ⟨rfl, ei⟩
theorem bsl72n (w : World) : (Instr.buildSlice 72 0 ([] : List (Nat × Value)).toArray).run Try.prog w = .ok (.slice (some ⟨w.heap.size, 0, none⟩) 0 0) (w.alloc (.cells #[] 111)) := by
  go_simp
  try rfl
theorem eq72f (ad : Addr) (n c : Nat) (W : World) (x y : Operand) : (do eqGuard .eql 72 x y (.slice (some ad) n c) (.slice none 0 0); binOp .eql 72 (.slice (some ad) n c) (.slice none 0 0) : Sem Value).run Try.prog W = .ok (.bool false) W := by kernel_rfl
theorem info111f : (Try.prog.info? 111).map (fun i => (i.zero, i.size, i.bytes)) = some (some (.agg #[.int .i64 0, .slice none 0 0]), 2, 32) := by kernel_rfl
theorem pg_one {w : World} {l : List Pw} (h : ∀ x ∈ l, x.ok w) : ∀ u ∈ l.flatMap pgC, u.oneCell' = true := fun u hu => by
  obtain ⟨x, hx, hm⟩ := List.mem_flatMap.1 hu
  obtain ⟨ao, n, c, e⟩ := has_shape (h x hx).1
  simp only [pgC, e, List.mem_cons, List.not_mem_nil, or_false] at hm
  rcases hm with rfl | rfl <;> rfl
theorem pg_len (l : List Pw) : (l.flatMap pgC).length = l.length * 2 := by
  induction l with
  | nil => rfl
  | cons a r ih => rw [List.flatMap_cons, List.length_append, ih]; simp [pgC]; omega
theorem pgs_app {w : World} {g0 : Nat} (hg0 : Blk w g0 [] 111) {g cp : Nat} {l : List Pw} (h : Pws w (.slice (some ⟨g, 0, none⟩) l.length cp) l) (hl : l.length ≤ 1000) (ty : TypeId) : ∃ v' w', (Builtin.append_ #[72, 72] ty #[.slice (some ⟨g0, 0, none⟩) 0 0, .slice (some ⟨g, 0, none⟩) l.length cp]).run Try.prog w = .ok v' w' ∧ w'.ownsRow 0 111 2 v' l.length (l.flatMap pgC) ∧ Fx (fun k => k = g0) w w' ∧ (∀ k, v'.ownBlock = some k → k = g0 ∨ w.heap.size ≤ k) := by
  obtain ⟨i, hi, hz⟩ := Option.map_eq_some_iff.1 info111f
  simp only [Prod.mk.injEq] at hz
  have h0 : w.ownsRow 0 111 2 (.slice (some ⟨g0, 0, none⟩) 0 0) 0 [] := ⟨rfl, .inr ⟨g0, 0, #[], rfl, Nat.zero_le _, hg0, Nat.le_refl _, Nat.zero_le _, rfl, rfl⟩⟩
  obtain ⟨v', w', r1, r2, r3, r4⟩ := run_appx w 72 ty 111 i _ 2 32 Try.underlying72 hi hz.1 hz.2.1 hz.2.2 rfl (by decide) _ 0 [] h0 ⟨g, 0, none⟩ l.length cp (l.flatMap pgC) (pg_len l) (fun j u hj => World.ownsRow.cells h.row (g := g) rfl j u hj) (pg_one h.has) (by omega) (by decide)
  refine ⟨v', w', r1, by simpa using r2, (grown_fx r3).mono (fun k _ h => by simp [Value.ownBlock] at h; exact h.symm), fun k hk => ?_⟩
  rcases r4 k hk with e | e
  · left; simp [Value.ownBlock] at e; exact e.symm
  · exact .inr e
set_option maxRecDepth 100000 in
set_option maxHeartbeats 1000000 in
theorem clonep_any {w : World} {g cp : Nat} {l : List Pw} (hp : Pws w (.slice (some ⟨g, 0, none⟩) l.length cp) l) (hk : l.length ≤ 1000) : Calls Try.prog 72 #[.slice (some ⟨g, 0, none⟩) l.length cp] w fun e w' => ∃ u, e = .returned u ∧ Pws w' u l ∧ Below w.heap.size w w' ∧ (∀ k, u.ownBlock = some k → w.heap.size ≤ k) := by
  refine calls_of_args [.slice (some ⟨g, 0, none⟩) l.length cp] Try.func72 rfl 8 Try.ntmps72 (by show 1 ≤ 8; decide) ?_
  refine EW.seq ?_
  refine EW.region ?_
  first | refine WL.assign rfl rfl rfl ?_
  refine WL.done ?_
  refine EW.on ?_
  refine EW.seq ?_
  refine EW.seq ?_
  refine EW.region ?_
  first | refine WL.move rfl rfl rfl ?_
  refine WL.bin rfl rfl rfl rfl (eq72f _ _ _ _ _ _) ?_
  refine WL.done ?_
  refine EW.on ?_
  refine EW.cond_f rfl ?_
  refine EW.skip ?_
  refine EW.on ?_
  refine EW.seq ?_
  refine EW.region ?_
  refine WL.bslN [] rfl rfl rfl (bsl72n w) ?_
  first | refine WL.move rfl rfl rfl ?_
  have eb := below_new w (.cells #[] 111)
  obtain ⟨v', w', r1, r2, r3, r4⟩ := pgs_app (Blk.new w [] 111) (hp.below eb) hk 72
  refine WL.appR rfl rfl rfl rfl r1 ?_
  first | refine WL.assign rfl rfl rfl ?_
  refine WL.done ?_
  refine EW.on ?_
  refine EW.ret ?_
  exact EW.returns Try.results72 rfl (by
    have e2 : Below w.heap.size w w' := below_of_new eb r3 (fun k hk => by omega)
    exact ⟨_, rfl, ⟨r2, (hp.below e2).has⟩, e2, fun k hk => (r4 k hk).elim (fun e => by omega) (fun e => Nat.le_trans eb.size e)⟩)
end Go.Proofs.Ythlpfpggjkocmaa
