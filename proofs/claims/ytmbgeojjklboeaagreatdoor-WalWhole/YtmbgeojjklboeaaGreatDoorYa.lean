import Derived.Test.YtmbgeojjklboeaaGreatDoorOyG
set_option linter.unusedVariables false
set_option linter.unusedSimpArgs false
namespace Go.Proofs.YtmbgeojjklboeaaGreatDoor
open Go.RowKit

theorem sq0 {q : World → Prop} {C : World → Prop} : ∀ W, C W → SZ (SQ q) 0 0 C W := fun _ _ => .inl rfl
def strV (bs : List UInt8) : Value := .string ⟨bs.toArray⟩
theorem ba_app (a b : List UInt8) : (⟨a.toArray⟩ : ByteArray) ++ (⟨b.toArray⟩ : ByteArray) = ⟨(a ++ b).toArray⟩ := by
  rw [ByteArray.ext_iff, ByteArray.data_append]
  simp
theorem str_add (a b : List UInt8) (h : a.length + b.length ≤ 9223372036854775807) (W : World) (x y : Operand) : (do eqGuard .add 9 x y (strV a) (strV b); binOp .add 9 (strV a) (strV b) : Sem Value).run Tryz.prog W = .ok (strV (a ++ b)) W := by
  unfold strV
  have e := ba_app a b
  have h' : (⟨a.toArray⟩ : ByteArray).size + (⟨b.toArray⟩ : ByteArray).size ≤ 9223372036854775807 := by simpa [ByteArray.size] using h
  rw [← e]
  generalize (⟨a.toArray⟩ : ByteArray) = s at *
  generalize (⟨b.toArray⟩ : ByteArray) = s' at *
  go_simp
theorem str_eq (a : List UInt8) (W : World) (x y : Operand) : (do eqGuard .eql 9 x y (strV a) (strV a); binOp .eql 9 (strV a) (strV a) : Sem Value).run Tryz.prog W = .ok (.bool true) W := by
  unfold strV
  go_simp
/-- Strings of their own, that may grow. -/
structure Os (w : World) (b : Nat) (v : Value) (ss : List (List UInt8)) : Prop where
  row : w.ownsRow 0 9 1 v ss.length (ss.map strV)
  base : ∀ k, v.ownBlock = some k → b ≤ k
theorem Os.nil (w : World) (b : Nat) : Os w b (.slice none 0 0) [] := ⟨⟨rfl, .inl ⟨rfl, rfl⟩⟩, fun _ h => by cases h⟩
theorem Os.fx {S : Nat → Prop} {w w' : World} {b : Nat} {v : Value} {xs : List (List UInt8)} (h : Os w b v xs) (hf : Fx S w w') (ho : ∀ k, v.ownBlock = some k → ¬ S k) : Os w' b v xs := ⟨ownsRow_fx h.row hf ho, h.base⟩
theorem Os.below {w w' : World} {b : Nat} {v : Value} {xs : List (List UInt8)} (h : Os w b v xs) (hb : Below w.heap.size w w') : Os w' b v xs := h.fx (Fx.of_below (S := fun _ => False) hb) (fun _ _ s => s)
theorem Os.shape {w : World} {b : Nat} {v : Value} {xs : List (List UInt8)} (h : Os w b v xs) : ∃ ao n c, v = .slice ao n c := own_shape h.row
theorem idx42 (ad : Addr) (n cap m : Nat) (h : m < n) (W : World) : (Instr.indexAt 38 (.slice (some ad) n cap) (.int .i64 (m : Int))).run Tryz.prog W = .ok (.pointer (some (ad.add m))) W := by
  have hm : (m : Int) < (n : Int) := by omega
  go_simp
theorem ld9c {W : World} {ad : Addr} {bs : List UInt8} (hc : W.cell? ad = some (strV bs)) (hf : W.frozen? ad = false) : (Instr.loadAt 9 (.pointer (some ad))).run Tryz.prog W = .ok (strV bs) W := by
  unfold strV at *
  go_simp
theorem st9c {W : World} {ad : Addr} {v0 : Value} (bs : List UInt8) (hc : W.cell? ad = some v0) (hf : W.frozen? ad = false) : (Instr.storeAt 9 (.pointer (some ad)) (strV bs)).run Tryz.prog W = .ok () (W.setCell ad (strV bs)) := by
  unfold strV
  go_simp
theorem Os.item {w : World} {b : Nat} {v : Value} {xs : List (List UInt8)} (h : Os w b v xs) {i : Nat} {x : List UInt8} (hi : xs[i]? = some x) : ∃ ad, (∀ W, (Instr.indexAt 38 v (.int .i64 (i : Int))).run Tryz.prog W = .ok (.pointer (some ad)) W) ∧ (Instr.loadAt 9 (.pointer (some ad))).run Tryz.prog w = .ok (strV x) w := by
  have hlt := (List.getElem?_eq_some_iff.1 hi).1
  obtain ⟨hx, ⟨rfl, h0⟩ | ⟨g, cp, cur, rfl, hg, hh2, hnc, hc, hs, htk⟩⟩ := h.row
  · simp only [h0] at hlt; omega
  · refine ⟨_, fun W => idx42 ⟨g, 0, none⟩ _ cp i hlt W, ?_⟩
    have hbl : Blk w g cur.toList 9 := by unfold Blk; simpa using hh2
    have hc : w.cell? ⟨g, i, none⟩ = some (strV x) := by
      rw [hbl.cell i]
      have e1 : (List.take (xs.length * 1) cur.toList)[i]? = cur.toList[i]? := by rw [List.getElem?_take_of_lt (by omega)]
      rw [← e1, htk, List.getElem?_map, hi]
      rfl
    rw [add_plain0]
    exact ld9c hc (hbl.frozen i)
theorem Os.setAt {w : World} {b : Nat} {v : Value} {xs : List (List UInt8)} (h : Os w b v xs) (i : Nat) (hi : i < xs.length) (u : List UInt8) : ∃ ad w', (∀ W, (Instr.indexAt 38 v (.int .i64 (i : Int))).run Tryz.prog W = .ok (.pointer (some ad)) W) ∧ (Instr.storeAt 9 (.pointer (some ad)) (strV u)).run Tryz.prog w = .ok () w' ∧ Os w' b v (xs.set i u) ∧ Fx (fun k => v.ownBlock = some k) w w' := by
  obtain ⟨hx, ⟨rfl, h0⟩ | ⟨g, cp, cur, rfl, hg, hh2, hnc, hc, hs, htk⟩⟩ := h.row
  · simp only [h0] at hi; omega
  · have hcur : i < cur.size := by simp at hs; omega
    have hbl : Blk w g cur.toList 9 := by unfold Blk; simpa using hh2
    have hcell : w.cell? ⟨g, i, none⟩ = some cur[i] := by
      rw [hbl.cell i, Array.getElem?_toList, Array.getElem?_eq_getElem hcur]
    refine ⟨⟨g, i, none⟩, w.setCell ⟨g, i, none⟩ (strV u), fun W => ?_, st9c u hcell (hbl.frozen i), ?_, Fx.setCell _ _ _ _ (by simp [Value.ownBlock])⟩
    · have := idx42 ⟨g, 0, none⟩ xs.length cp i hi W; rwa [add_plain0] at this
    · refine ⟨⟨by simp, .inr ⟨g, cp, (cur.toList.set i (strV u)).toArray, by simp, hg, hbl.set i (strV u), by simpa using hnc, hc, by simpa using hs, ?_⟩⟩, fun k hk => h.base k (by simpa [Value.ownBlock] using hk)⟩
      have e1 : (xs.set i u).map strV = (xs.map strV).set i (strV u) := by rw [List.map_set]
      rw [e1, List.length_set, ← htk]
      simp [List.take_set]
theorem Os.push {w : World} {b : Nat} {v : Value} {xs : List (List UInt8)} (h : Os w b v xs) (hbw : b ≤ w.heap.size) (hl : xs.length ≤ 1000) (x : List UInt8) (q c : Nat) (hq : Blk w q [strV x] 9) (ty : TypeId) : ∃ v' w', (Builtin.append_ #[38, 38] ty #[v, .slice (some ⟨q, 0, none⟩) 1 c]).run Tryz.prog w = .ok v' w' ∧ Os w' b v' (xs ++ [x]) ∧ Fx (fun k => v.ownBlock = some k) w w' ∧ (∀ k, v'.ownBlock = some k → v.ownBlock = some k ∨ w.heap.size ≤ k) := by
  obtain ⟨i, hi, hz⟩ := Option.map_eq_some_iff.1 (show (Tryz.prog.info? 9).map (fun i => (i.zero, i.size, i.bytes)) = some (some (.string ⟨#[]⟩), 1, 16) by kernel_rfl)
  simp only [Prod.mk.injEq] at hz
  obtain ⟨v', w', r1, r2, r3, r4⟩ := run_appx w 38 ty 9 i _ 1 16 Tryz.underlying38 hi hz.1 hz.2.1 hz.2.2 rfl (by decide) v xs.length _ h.row ⟨q, 0, none⟩ 1 c [strV x] rfl (fun j u hj => by rw [add_plain0, hq.cell]; exact hj) (fun u hu => by rw [List.mem_singleton.1 hu]; rfl) (by omega) (by decide)
  refine ⟨v', w', r1, ⟨by simpa using r2, fun k hk => ?_⟩, grown_fx r3, r4⟩
  rcases r4 k hk with e | e
  · exact h.base k e
  · omega
/-- The law's room: its disk, its log, how many pages, how many sectors more, the pages. -/
def rmC (d l : Option Addr) (p more : Nat) (v : Value) : List Value := [.pointer d, .pointer l, .int .i64 (p : Int), .int .i64 (more : Int), v]
theorem fld44 (q j : Nat) (hj : j < 5) (W : World) : (Instr.fieldAt 40 (.pointer (some ⟨q, 0, none⟩)) j).run Tryz.prog W = .ok (.pointer (some ⟨q, j, none⟩)) W := by
  have h : j = 0 ∨ j = 1 ∨ j = 2 ∨ j = 3 ∨ j = 4 := by omega
  rcases h with rfl | rfl | rfl | rfl | rfl <;> go_simp
theorem ldc41 {W : World} {q j : Nat} {cs : List Value} {t : TypeId} {i : Option Addr} (hb : Blk W q cs t) (h : cs[j]? = some (.pointer i)) : (Instr.loadAt 36 (.pointer (some ⟨q, j, none⟩))).run Tryz.prog W = .ok (.pointer i) W := by
  have hc : W.cell? ⟨q, j, none⟩ = some (.pointer i) := (hb.cell j).trans h
  have hf := hb.frozen j
  go_simp
theorem ldc42 {W : World} {q j : Nat} {cs : List Value} {t : TypeId} {v : Value} (hb : Blk W q cs t) (h : cs[j]? = some v) : (Instr.loadAt 38 (.pointer (some ⟨q, j, none⟩))).run Tryz.prog W = .ok v W := by
  have hc : W.cell? ⟨q, j, none⟩ = some v := (hb.cell j).trans h
  have hf := hb.frozen j
  go_simp
theorem int_mulc {a b c : Int} (h : IntKind.i64.wrap (a * b) = c) (W : World) (x y : Operand) : (do eqGuard .mul 3 x y (.int .i64 a) (.int .i64 b); binOp .mul 3 (.int .i64 a) (.int .i64 b) : Sem Value).run Tryz.prog W = .ok (.int .i64 c) W := by go_simp
def zerL (k : Nat) : List UInt8 := List.replicate k 0
theorem mk37z (w : World) (k : Nat) (hk : k ≤ 100000000) : ∃ u w', (Instr.makeSlice 49 (.int .i64 (k : Int)) (.int .i64 (k : Int))).run Tryz.prog w = .ok u w' ∧ Ob w' w.heap.size u (zerL k) ∧ Below w.heap.size w w' := by
  refine ⟨_, _, run_mk34 w k (by omega), ?_, below_new _ _⟩
  have := Ob.blk (bs := zerL k) (Blk.new w ((zerL k).map byt) 5) (by rw [zerL, List.length_replicate]; omega)
  rw [show (zerL k).length = k from List.length_replicate] at this
  exact this
def clE (q : Nat) (a h : Value) (t : Nat) : List (Nat × Value) := [(0, .pointer (some ⟨q, 0, none⟩)), (3, a), (4, h), (5, .int .i64 (t : Int))]
theorem flat_snoc {ps : List (List UInt8)} {t : Nat} {x : List UInt8} (h : ps[t]? = some x) : (ps.take (t + 1)).flatten = (ps.take t).flatten ++ x := by
  rw [List.take_add_one, h]
  simp
theorem flat_len {ps : List (List UInt8)} (h : ∀ x ∈ ps, x.length ≤ 2000) : ps.flatten.length ≤ 2000 * ps.length := by
  induction ps with
  | nil => simp
  | cons a r ih =>
    have := ih (fun x hx => h x (List.mem_cons_of_mem _ hx))
    have := h a (List.mem_cons_self ..)
    rw [List.flatten_cons, List.length_append, List.length_cons]
    omega
set_option maxRecDepth 100000 in
set_option maxHeartbeats 1000000 in
theorem clean_ok {w : World} {L : Lay} {N : Nat} {s : Nat → List UInt8} {c q p more b : Nat} {l : Option Addr} {v : Value} {ps : List (List UInt8)} (h : Dk w L N s 0 c) (hb : Blk w q (rmC (some ⟨L.p, 0, none⟩) l p more v) 40) (hs : Os w b v ps) (hpp : ps.length = p) (hp : p ≤ 1000) (hmore : more ≤ 1000) (hpl : ∀ x ∈ ps, x.length = 1024) (himg : imgS N s = zerL (512 * (1 + 2 * p)) ++ ps.flatten ++ zerL (512 * more)) : Calls Tryz.prog 13 #[.pointer (some ⟨q, 0, none⟩)] w fun e w' => e = .returned (.bool true) ∧ Below w.heap.size w w' := by
  refine calls_of_args [.pointer (some ⟨q, 0, none⟩)] Tryz.func13 rfl 59 Tryz.ntmps13 (by show 1 ≤ 59; decide) ?_; refine EW.seq ?_; refine EW.region ?_; refine WL.assign rfl rfl rfl ?_; refine WL.done ?_; refine EW.on ?_; refine EW.seq ?_; refine EW.region ?_; refine WL.move rfl rfl rfl ?_; refine WL.nilc rfl rfl rfl ?_; refine WL.field rfl rfl rfl (fld44 q 2 (by decide) _) ?_; refine WL.load rfl rfl rfl (ldc3 hb rfl) ?_; refine WL.bin rfl rfl rfl rfl (int_mulc (c := ((2 * p : Nat) : Int)) (by rw [IntKind.wrap_i64]; omega) _ _ _) ?_; refine WL.bin rfl rfl rfl rfl (int_add (c := ((1 + 2 * p : Nat) : Int)) (by rw [IntKind.wrap_i64]; omega) _ _ _) ?_; refine WL.bin rfl rfl rfl rfl (int_mulc (c := ((512 * (1 + 2 * p) : Nat) : Int)) (by rw [IntKind.wrap_i64]; omega) _ _ _) ?_
  obtain ⟨u0, w1, r1, o1, e1⟩ := mk37z w (512 * (1 + 2 * p)) (by omega)
  refine WL.mks rfl rfl rfl rfl r1 ?_; refine WL.conv rfl rfl rfl o1.has.convert ?_; refine WL.assign rfl rfl rfl ?_; refine WL.done ?_; refine EW.on ?_; refine EW.seq ?_; refine EW.region ?_; refine WL.assign rfl rfl rfl ?_; refine WL.done ?_; refine EW.on ?_; refine EW.seq ?_; refine EW.seq ?_; refine EW.region ?_; refine WL.assign rfl rfl rfl ?_; refine WL.done ?_; refine EW.on ?_; refine EW.block ?_; refine EW.loop (fun t => clE q (strV (zerL (512 * (1 + 2 * p)))) (strV (ps.take t).flatten) t) (fun t W => W = w1 ∧ t ≤ p) (fun t => p - t) 0 [0, 3, 4, 5] rfl ⟨rfl, Nat.zero_le _⟩ ?_
  rintro t wi ⟨hwi, hle⟩
  subst hwi
  show EW _ _ _ _ [(0, .pointer (some ⟨q, 0, none⟩)), (3, strV (zerL (512 * (1 + 2 * p)))), (4, strV (ps.take t).flatten), (5, .int .i64 (t : Int))] _
  refine EW.seq ?_; refine EW.seq ?_; refine EW.region ?_; refine WL.move rfl rfl rfl ?_; refine WL.move rfl rfl rfl ?_; refine WL.nilc rfl rfl rfl ?_; refine WL.field rfl rfl rfl (fld44 q 2 (by decide) _) ?_; refine WL.load rfl rfl rfl (ldc3 (hb.on e1) rfl) ?_
  first | refine WL.bin rfl rfl rfl rfl (int_lt_t ‹_› _ _ _) ?_ | refine WL.bin rfl rfl rfl rfl (int_lt_f ‹_› _ _ _) ?_ | refine WL.bin rfl rfl rfl rfl (int_lt_d _ _ _ _ _) ?_
  refine WL.done ?_; refine EW.on ?_; refine EW.cond_d rfl (fun h20 => ?_) (fun h20 => ?_)
  · refine EW.skip ?_; refine EW.on ?_; refine EW.seq ?_; refine EW.block ?_
    have ht : t < ps.length := by omega
    have tn : IntKind.i64.wrap ((t : Int) + 1) = ((t + 1 : Nat) : Int) := by rw [IntKind.wrap_i64]; omega
    refine EW.region ?_; refine WL.move rfl rfl rfl ?_; refine WL.move rfl rfl rfl ?_; refine WL.nilc rfl rfl rfl ?_; refine WL.field rfl rfl rfl (fld44 q 4 (by decide) _) ?_; refine WL.load rfl rfl rfl (ldc42 (hb.on e1) rfl) ?_; refine WL.move rfl rfl rfl ?_
    obtain ⟨x, hx⟩ : ∃ x, ps[t]? = some x := ⟨_, List.getElem?_eq_getElem ht⟩
    obtain ⟨a1, i1, l1⟩ := (hs.below e1).item hx
    refine WL.index rfl rfl rfl rfl (i1 _) ?_; refine WL.load rfl rfl rfl l1 ?_
    have hfl := flat_len (ps := ps.take t) (fun x hx => by rw [hpl x (List.mem_of_mem_take hx)]; decide)
    have hfl2 : (ps.take t).length ≤ t := by rw [List.length_take]; omega
    have hxl := hpl x (List.mem_of_getElem? hx)
    refine WL.bin rfl rfl rfl rfl (str_add _ _ (by omega) _ _ _) ?_
    rw [← flat_snoc hx]
    refine WL.assign rfl rfl rfl ?_; refine WL.done ?_; refine pn_block ?_; refine EW.on ?_; refine EW.region ?_; refine WL.move rfl rfl rfl ?_; refine WL.bin rfl rfl rfl rfl (int_add ‹_› _ _ _) ?_; refine WL.assign rfl rfl rfl ?_; refine WL.done ?_; refine EW.again (E := fun t => clE q (strV (zerL (512 * (1 + 2 * p)))) (strV (ps.take t).flatten) t) (R := fun t W => W = wi ∧ t ≤ p) (m := fun t => p - t) (x := t) (t + 1) [0, 3, 4, 5] rfl ⟨rfl, by omega⟩ (by show p - (t + 1) < p - t; omega)
  · refine EW.exit ?_; refine px_then ?_; refine px_then ?_; refine px_block ?_; refine EW.on ?_; refine EW.seq ?_
    have hte : t = p := by omega
    have hfl := flat_len (ps := ps) (fun x hx => by rw [hpl x hx]; decide)
    have hz1 : (zerL (512 * (1 + 2 * p))).length = 512 * (1 + 2 * p) := List.length_replicate
    have hz2 : (zerL (512 * more)).length = 512 * more := List.length_replicate
    rw [hte, ← hpp, List.take_length, hpp]
    have hb1 : (zerL (512 * (1 + 2 * p))).length + ps.flatten.length ≤ 9223372036854775807 := by omega
    have hb2 : (zerL (512 * (1 + 2 * p)) ++ ps.flatten).length + (zerL (512 * more)).length ≤ 9223372036854775807 := by rw [List.length_append]; omega
    refine EW.az (SQ (fun W => Below wi.heap.size wi W)) (levZ [(4, 1, 1), (12, 1, 1), (22, 1, 1)]) (fun W => Below wi.heap.size wi W) 28 (by kernel_rfl) rfl (below_drawn wi) ?_; refine AZ.seg [(0, 0, 0), (1, 0, 0), (2, 0, 0), (3, 0, 1), (4, 1, 1), (5, 0, 0), (6, 0, 0), (7, 0, 0), (8, 0, 0), (9, 0, 0), (10, 0, 0), (11, 0, 1), (14, 0, 0), (15, 0, 0), (16, 0, 0), (17, 0, 0), (18, 0, 0), (19, 0, 0), (20, 0, 1), (21, 0, 0)] 8 rfl (by kernel_rfl) (sq_anti _) (by kernel_rfl) ?_; simp only [opsZ, List.getD_cons_zero, List.getD_cons_succ]; refine ZE.move rfl rfl rfl rfl sq0 ?_; refine ZE.nilc rfl rfl rfl rfl sq0 ?_; refine ZE.field rfl rfl rfl rfl sq0 (fun W => fld44 q 0 (by decide) W) ?_; refine ZE.load rfl rfl rfl rfl (fun W hW => .inr hW) (fun W hW => ldc41 ((hb.on e1).on (sq_of hW)) rfl) ?_; refine ZE.callR [.pointer (some ⟨L.p, 0, none⟩)] (fun v W => (∃ ao, v = .slice ao 0 0) ∧ Below wi.heap.size wi W) enter40 rfl rfl rfl (fun _ _ h => .inr h.2) (fun W hW => (kcache_any ((h.below e1).below hW)).mono fun e w' ⟨⟨ao, g1⟩, g2⟩ => ⟨_, g1, ⟨ao, rfl⟩, hW.trans (g2.mono hW.size)⟩) ?_
    rintro vc ⟨_, ⟨ao, hvc⟩, _⟩
    refine ZE.len rfl rfl rfl rfl sq0 (fun W => by rw [hvc]; exact len49 _ _ _ W _) ?_; refine ZE.bin rfl rfl rfl rfl rfl sq0 (fun W => int_eq_t rfl W _ _) ?_; refine ZE.move rfl rfl rfl rfl sq0 ?_
    first | refine ZE.move rfl rfl rfl rfl sq0 ?_ | refine ZE.skip rfl rfl rfl sq0 ?_
    refine ZE.nilc rfl rfl rfl rfl sq0 ?_; refine ZE.field rfl rfl rfl rfl sq0 (fun W => fld44 q 0 (by decide) W) ?_; refine ZE.load rfl rfl rfl rfl (fun W hW => .inr hW.2) (fun W hW => ldc41 ((hb.on e1).on (sq_of hW)) rfl) ?_
    first | refine ZE.move rfl rfl rfl rfl sq0 ?_ | refine ZE.skip rfl rfl rfl sq0 ?_
    first | refine ZE.move rfl rfl rfl rfl sq0 ?_ | refine ZE.skip rfl rfl rfl sq0 ?_
    refine ZE.bin rfl rfl rfl rfl rfl sq0 (fun W => str_add _ _ hb1 W _ _) ?_
    first | refine ZE.move rfl rfl rfl rfl sq0 ?_ | refine ZE.skip rfl rfl rfl sq0 ?_
    refine ZE.nilc rfl rfl rfl rfl sq0 ?_; refine ZE.field rfl rfl rfl rfl sq0 (fun W => fld44 q 3 (by decide) W) ?_; refine ZE.load rfl rfl rfl rfl (fun W hW => .inr hW.2) (fun W hW => ldc3 ((hb.on e1).on (sq_of hW)) rfl) ?_; refine ZE.bin rfl rfl rfl rfl rfl sq0 (fun W => int_mulc (c := ((512 * more : Nat) : Int)) (by rw [IntKind.wrap_i64]; omega) W _ _) ?_; refine AZ.two 7 12 1 22 1 rfl (by kernel_rfl) ?_ ?_
    · simp only [List.getD_cons_zero, List.getD_cons_succ]
      refine ZE.callR [.pointer (some ⟨L.p, 0, none⟩)] (fun v W => Has W v (imgS N s) ∧ Below wi.heap.size wi W) enter17 rfl rfl rfl (fun _ _ h => .inr h.2) (fun W hW => (kimage_any ((h.below e1).below hW.2)).mono fun e w' ⟨u, g1, g2, g3⟩ => ⟨u, g1, g2.has, hW.2.trans (g3.mono hW.2.size)⟩) ?_
      rintro ui ⟨_, _, _⟩
      refine AZ.strong (SQ (fun W => Below wi.heap.size wi W ∧ Has W ui (imgS N s))) (fun n W h => h.imp id And.left) ?_; refine AZ.seg [(13, 0, 1), (22, 1, 1), (23, 2, 0), (24, 0, 0), (25, 0, 0), (26, 0, 0), (27, 0, 0)] 0 rfl (by kernel_rfl) (sq_anti _) (by kernel_rfl) ?_; simp only [opsZ, List.getD_cons_zero, List.getD_cons_succ]; refine ZE.conv rfl rfl rfl rfl (fun W hW => .inr ⟨hW.2, hW.1⟩) (fun W hW => (sq_of hW).2.convert) ?_
      refine ZE.mks (fun v W => Has W v (zerL (512 * more)) ∧ Below wi.heap.size wi W ∧ Has W ui (imgS N s)) rfl rfl rfl rfl (fun _ _ h => .inr ⟨h.2.1, h.2.2⟩) (fun W hW => by
      obtain ⟨u, w', g1, g2, g3⟩ := mk37z W (512 * more) (by omega)
      exact ⟨u, w', g1, g2.has, hW.2.trans (g3.mono hW.2.size), hW.1.below g3⟩) ?_
      rintro um ⟨_, _, _⟩
      refine ZE.conv rfl rfl rfl rfl szC (fun W hW => (szc_of hW).1.convert) ?_; refine ZE.bin rfl rfl rfl rfl rfl sq0 (fun W => str_add _ _ hb2 W _ _) ?_; refine ZE.bin (v := .bool true) rfl rfl rfl rfl rfl sq0 (fun W => by rw [himg]; exact str_eq _ W _ _) ?_; refine ZE.pick rfl rfl rfl rfl rfl sq0 ?_; refine ZE.assign rfl rfl rfl rfl sq0 ?_; refine AZ.done (by kernel_rfl) ?_
      rintro w9 ⟨_, e9, _⟩
      refine EW.on ?_; refine EW.ret ?_
      exact EW.returns Tryz.results13 rfl ⟨rfl, e1.trans (e9.mono e1.size)⟩
    · simp only [List.getD_cons_zero, List.getD_cons_succ]
      refine ZE.mks (fun v W => Has W v (zerL (512 * more)) ∧ Below wi.heap.size wi W) rfl rfl rfl rfl (fun _ _ h => .inr h.2) (fun W hW => by
      obtain ⟨u, w', g1, g2, g3⟩ := mk37z W (512 * more) (by omega)
      exact ⟨u, w', g1, g2.has, hW.2.trans (g3.mono hW.2.size)⟩) ?_
      rintro um ⟨_, _, _⟩
      refine AZ.strong (SQ (fun W => Below wi.heap.size wi W ∧ Has W um (zerL (512 * more)))) (fun n W h => h.imp id And.left) ?_; refine AZ.seg [(23, 0, 1), (24, 0, 0), (12, 1, 1), (13, 2, 0), (25, 0, 0), (26, 0, 0), (27, 0, 0)] 0 rfl (by kernel_rfl) (sq_anti _) (by kernel_rfl) ?_; simp only [opsZ, List.getD_cons_zero, List.getD_cons_succ]; refine ZE.conv rfl rfl rfl rfl (fun W hW => .inr ⟨hW.2, hW.1⟩) (fun W hW => (sq_of hW).2.convert) ?_; refine ZE.bin rfl rfl rfl rfl rfl sq0 (fun W => str_add _ _ hb2 W _ _) ?_; refine ZE.callR [.pointer (some ⟨L.p, 0, none⟩)] (fun v W => Has W v (imgS N s) ∧ Below wi.heap.size wi W ∧ Has W um (zerL (512 * more))) enter17 rfl rfl rfl (fun _ _ h => .inr ⟨h.2.1, h.2.2⟩) (fun W hW => (kimage_any ((h.below e1).below hW.2)).mono fun e w' ⟨u, g1, g2, g3⟩ => ⟨u, g1, g2.has, hW.2.trans (g3.mono hW.2.size), hW.1.below g3⟩) ?_
      rintro ui ⟨_, _, _⟩
      refine ZE.conv rfl rfl rfl rfl szC (fun W hW => (szc_of hW).1.convert) ?_; refine ZE.bin (v := .bool true) rfl rfl rfl rfl rfl sq0 (fun W => by rw [himg]; exact str_eq _ W _ _) ?_; refine ZE.pick rfl rfl rfl rfl rfl sq0 ?_; refine ZE.assign rfl rfl rfl rfl sq0 ?_; refine AZ.done (by kernel_rfl) ?_
      rintro w9 ⟨_, e9, _⟩
      refine EW.on ?_; refine EW.ret ?_
      exact EW.returns Tryz.results13 rfl ⟨rfl, e1.trans (e9.mono e1.size)⟩
end Go.Proofs.YtmbgeojjklboeaaGreatDoor
