import Derived.Test.YteghbkeaojbdgaaPp
set_option linter.unusedVariables false
set_option linter.unusedSimpArgs false
namespace Go.Proofs.Yteghbkeaojbdgaa
open Go.RowKit

/-- A list of numbers of its own. -/
structure Oi (w : World) (b : Nat) (v : Value) (xs : List Int) : Prop where
  row : w.ownsRow 0 3 1 v xs.length (iv xs)
  base : ∀ k, v.ownBlock = some k → b ≤ k
theorem Oi.nil (w : World) (b : Nat) : Oi w b (.slice none 0 0) [] := ⟨⟨rfl, .inl ⟨rfl, rfl⟩⟩, fun _ h => by cases h⟩
theorem Oi.below {w w' : World} {b : Nat} {v : Value} {xs : List Int} (h : Oi w b v xs) (hb : Below w.heap.size w w') : Oi w' b v xs := by
  refine ⟨?_, h.base⟩
  obtain ⟨hx, h1 | ⟨g, cp, cur, rfl, hg, hh2, hr⟩⟩ := h.row
  · exact ⟨hx, .inl h1⟩
  · refine ⟨hx, .inr ⟨g, cp, cur, rfl, hg, ?_, hr⟩⟩
    rw [hb.block g (by
      rcases Nat.lt_or_ge g w.heap.size with hl | hl
      · exact hl
      · rw [Array.getElem?_eq_none hl] at hh2; cases hh2)]
    exact hh2
theorem info3f : (Try.prog.info? 3).map (fun i => (i.zero, i.size, i.bytes)) = some (some (.int .i64 0), 1, 8) := by kernel_rfl
theorem Oi.push {w : World} {b : Nat} {v : Value} {xs : List Int} (h : Oi w b v xs) (hbw : b ≤ w.heap.size) (hl : xs.length ≤ 500000000) (x : Int) (q c : Nat) (hq : Blk w q (iv [x]) 3) (ty : TypeId) : ∃ v' w', (Builtin.append_ #[43, 43] ty #[v, .slice (some ⟨q, 0, none⟩) 1 c]).run Try.prog w = .ok v' w' ∧ Oi w' b v' (xs ++ [x]) ∧ Fx (fun k => v.ownBlock = some k) w w' := by
  obtain ⟨i, hi, hz⟩ := Option.map_eq_some_iff.1 info3f
  simp only [Prod.mk.injEq] at hz
  obtain ⟨v', w', r1, r2, r3, r4⟩ := run_appx w 43 ty 3 i _ 1 8 Try.underlying43 hi hz.1 hz.2.1 hz.2.2 rfl (by decide) v xs.length (iv xs) h.row ⟨q, 0, none⟩ 1 c (iv [x]) rfl (fun j u hj => by rw [add_plain, hq.cell]; exact hj) (fun u hu => by
    have : u = .int .i64 x := by simpa [iv] using hu
    rw [this]; rfl) (by omega) (by decide)
  refine ⟨v', w', r1, ⟨by simpa [iv] using r2, fun k hk => ?_⟩, grown_fx r3⟩
  rcases r4 k hk with e | e
  · exact h.base k e
  · omega
theorem bsl43_1 (x : Int) (w : World) : (Instr.buildSlice 43 1 [(0, .int .i64 x)].toArray).run Try.prog w = .ok (.slice (some ⟨w.heap.size, 0, none⟩) 1 1) (w.alloc (.cells (iv [x]).toArray 3)) := by
  go_simp
  try rfl
theorem Oi.len {w : World} {b : Nat} {v : Value} {xs : List Int} (h : Oi w b v xs) (W : World) (ty : TypeId) : (Builtin.len_ #[43] ty #[v]).run Try.prog W = .ok (.int .i64 (xs.length : Int)) W := by
  obtain ⟨hx, ⟨rfl, h1⟩ | ⟨g, cp, cur, rfl, _⟩⟩ := h.row
  · rw [h1]; exact len43 _ _ _ _ _
  · exact len43 _ _ _ _ _
theorem Oi.item {w : World} {b : Nat} {v : Value} {xs : List Int} (h : Oi w b v xs) {i : Nat} {x : Int} (hi : xs[i]? = some x) : ∃ g, (∀ W, (Instr.indexAt 43 v (.int .i64 (i : Int))).run Try.prog W = .ok (.pointer (some ⟨g, i, none⟩)) W) ∧ ∃ cs, Blk w g cs 3 ∧ cs[i]? = some (.int .i64 x) := by
  have hl := (List.getElem?_eq_some_iff.1 hi).1
  obtain ⟨hx, ⟨rfl, h1⟩ | ⟨g, cp, cur, rfl, hg, hh2, hnc, hc, hs, htk⟩⟩ := h.row
  · omega
  · refine ⟨g, fun W => idx43 g _ cp i hl W, cur.toList, ?_, ?_⟩
    · unfold Blk; rw [hh2]
    · have e := iv_at hi
      rw [← htk, List.getElem?_take] at e
      split at e
      · exact e
      · cases e
theorem Oi.sl {w : World} {b : Nat} {v : Value} {xs : List Int} (h : Oi w b v xs) : ∃ ao n c, v = .slice ao n c := by
  obtain ⟨_, ⟨rfl, _⟩ | ⟨g, cp, cur, rfl, _⟩⟩ := h.row
  · exact ⟨_, _, _, rfl⟩
  · exact ⟨_, _, _, rfl⟩
/-- The pages of a list. -/
inductive PkR : List Rc → List Int → Prop
  | nil : PkR [] []
  | cons {ds : List Rc} {cs : List Int} (h : ds ≠ []) (k : PkR (ds.drop (fitN 1008 ds)) cs) : PkR ds ((fitN 1008 ds : Int) :: cs)
theorem PkR.uniq {ds : List Rc} {cs cs' : List Int} (h : PkR ds cs) (h' : PkR ds cs') : cs = cs' := by
  induction h generalizing cs' with
  | nil => cases h' with
    | nil => rfl
    | cons h k => exact absurd rfl h
  | cons h k ih => cases h' with
    | nil => exact absurd rfl h
    | cons h' k' => rw [ih k']
theorem fit_le : ∀ (ds : List Rc) (l : Int), fitN l ds ≤ ds.length
  | [], _ => Nat.le_refl _
  | d :: ds, l => by
    rw [fitN]
    split
    · exact Nat.zero_le _
    · have := fit_le ds (l - (sizeD d : Int))
      rw [List.length_cons]; omega
theorem fit_left : ∀ (ds : List Rc) (l : Int) (k : Nat), 0 ≤ l → k ≤ fitN l ds → 0 ≤ leftN l (ds.take k)
  | ds, l, 0, h, _ => by simpa [leftN] using h
  | [], l, k + 1, h, hk => by simp [fitN] at hk
  | d :: ds, l, k + 1, h, hk => by
    rw [fitN] at hk
    split at hk
    · omega
    · rw [List.take_succ_cons, leftN]
      exact fit_left ds _ k (by omega) (by omega)
theorem fit_next : ∀ (ds : List Rc) (l : Int) (y : Rc), ds[fitN l ds]? = some y → leftN l (ds.take (fitN l ds)) - (sizeD y : Int) < 0
  | [], _, _, h => by simp at h
  | d :: ds, l, y, h => by
    rw [fitN] at h ⊢
    split at h
    · rename_i hlt
      have e : d = y := by simpa using h
      subst e
      rw [if_pos hlt]; exact hlt
    · rename_i hge
      rw [if_neg hge, List.take_succ_cons, leftN]
      exact fit_next ds _ y (by simpa using h)
theorem fit_pos {ds : List Rc} (h : ds ≠ []) (hok : ∀ d ∈ ds, okD d) : 1 ≤ fitN 1008 ds := by
  cases ds with
  | nil => exact absurd rfl h
  | cons d ds =>
    have := hok d (by simp)
    obtain ⟨_, _, _, h4, h5⟩ := this
    rw [fitN, if_neg (by unfold sizeD; omega)]
    omega
def pkE (x : Value × List RV × Value × List Int) : List (Nat × Value) := [(0, x.1), (5, x.2.2.1)]
def PkI (w : World) (ds : List Rc) (x : Value × List RV × Value × List Int) (W : World) : Prop := Below w.heap.size w W ∧ Ls w x.1 x.2.1 ∧ (∀ d ∈ x.2.1.map RV.d, okD d) ∧ Oi W w.heap.size x.2.2.1 x.2.2.2 ∧ x.2.1.length + x.2.2.2.length ≤ ds.length ∧ ∀ cs, PkR (x.2.1.map RV.d) cs → PkR ds (x.2.2.2 ++ cs)
set_option maxRecDepth 100000 in
set_option maxHeartbeats 1000000 in
theorem pack_any (v : Value) (rs : List RV) (w : World) (hL : Ls w v rs) (hs : Srt (rs.map RV.d)) (hn : rs.length ≤ 100000000) : Calls Try.prog 18 #[v] w fun e w' => ∃ v' cs, e = .returned (.tuple #[v', .int .i64 0]) ∧ Oi w' w.heap.size v' cs ∧ PkR (rs.map RV.d) cs ∧ Below w.heap.size w w' := by
  refine calls_of_args [v] Try.func18 rfl 25 Try.ntmps18 (by show 1 ≤ 25; decide) ?_
  refine EW.seq ?_
  refine EW.region ?_
  first | refine WL.assign rfl rfl rfl ?_
  first | refine WL.assign rfl rfl rfl ?_
  refine WL.done ?_
  refine EW.on ?_
  refine EW.seq ?_
  refine EW.seq ?_
  refine EW.region ?_
  first | refine WL.move rfl rfl rfl ?_
  refine WL.call [v] enter22 rfl rfl rfl (fault_ok v rs _ hL hs (by omega)) ?_
  rintro _ w3 ⟨rfl, be3⟩
  refine ⟨_, rfl, ?_⟩
  first | refine WL.assign rfl rfl rfl ?_
  refine WL.done ?_
  refine EW.on ?_
  refine EW.seq ?_
  refine EW.region ?_
  first | refine WL.move rfl rfl rfl ?_
  first | refine WL.bin rfl rfl rfl rfl (int_ne_f rfl _ _ _) ?_ | refine WL.bin rfl rfl rfl rfl (int_ne_t ‹_› _ _ _) ?_ | refine WL.bin rfl rfl rfl rfl (int_ne_f ‹_› _ _ _) ?_ | refine WL.bin rfl rfl rfl rfl (int_ne_t (by decide) _ _ _) ?_ | refine WL.bin rfl rfl rfl rfl (int_ne_d _ _ _ _ _) ?_
  refine WL.done ?_
  refine EW.on ?_
  refine EW.cond_f rfl ?_
  refine EW.skip ?_
  refine EW.on ?_
  refine EW.seq ?_
  refine EW.region ?_
  first | refine WL.assign rfl rfl rfl ?_
  refine WL.done ?_
  refine EW.on ?_
  refine EW.seq ?_
  refine EW.block ?_
  refine EW.loop pkE (PkI w (rs.map RV.d)) (fun x => x.2.1.length) (v, rs, .slice none 0 0, []) [0, 5] rfl ⟨be3, hL, hs.ok, Oi.nil _ _, by simp, fun cs h => h⟩ ?_
  rintro ⟨vl, rl, vc, cl⟩ wi ⟨hbe, hl0, hok, hc, hle, hpk⟩
  dsimp only at hl0 hok hc hle hpk
  have hl := hl0.below hbe
  rw [List.length_map] at hle
  show EW _ _ _ _ [(0, vl), (5, vc)] _
  refine EW.seq ?_
  refine EW.seq ?_
  refine EW.region ?_
  first | refine WL.move rfl rfl rfl ?_
  refine WL.len rfl rfl rfl (hl.len _ _) ?_
  first | refine WL.bin rfl rfl rfl rfl (int_gt_t ‹_› _ _ _) ?_ | refine WL.bin rfl rfl rfl rfl (int_gt_f ‹_› _ _ _) ?_ | refine WL.bin rfl rfl rfl rfl (int_gt_d _ _ _ _ _) ?_
  refine WL.done ?_
  refine EW.on ?_
  refine EW.cond_d rfl (fun h14 => ?_) (fun h14 => ?_)
  · refine EW.skip ?_
    refine EW.on ?_
    refine EW.block ?_
    refine EW.seq ?_
    have hlp : 0 < rl.length := by omega
    have hsm : ∀ r ∈ rl, r.k.length ≤ 140737488355328 ∧ r.v.length ≤ 140737488355328 := fun r hr => by
      obtain ⟨_, _, _, h4, h5⟩ := hok _ (List.mem_map_of_mem hr)
      have h4' : r.k.length ≤ 64 := h4
      have h5' : r.v.length ≤ 900 := h5
      omega
    have hnl0 := fit_le (rl.map RV.d) 1008
    have hnp := fit_pos (ds := rl.map RV.d) (by rw [← List.length_pos_iff, List.length_map]; omega) hok
    rw [List.length_map] at hnl0
    refine EW.region ?_
    first | refine WL.move rfl rfl rfl ?_
    refine WL.call [vl] enter23 rfl rfl rfl (fit_any vl rl _ hl hsm (by omega)) ?_
    rintro _ w4 ⟨rfl, be4⟩
    refine ⟨_, rfl, ?_⟩
    first | refine WL.assign rfl rfl rfl ?_
    refine WL.done ?_
    refine EW.on ?_
    refine EW.seq ?_
    refine EW.region ?_
    first | refine WL.move rfl rfl rfl ?_
    first | refine WL.move rfl rfl rfl ?_
    obtain ⟨n, hn⟩ : ∃ n, fitN 1008 (rl.map RV.d) = n := ⟨_, rfl⟩
    rw [hn]
    refine WL.bslN [(0, .int .i64 (n : Int))] rfl rfl rfl (bsl43_1 _ _) ?_
    have nn := below_new w4 (.cells (iv [(n : Int)]).toArray 3)
    have b5 := be4.trans (nn.mono be4.size)
    obtain ⟨v', w6, a1, a2, a3⟩ := (hc.below b5).push (by have := b5.size; have := hbe.size; omega) (by omega) (n : Int) w4.heap.size 1 (Blk.new _ _ _) 43
    refine WL.app rfl rfl rfl rfl a1 ?_
    first | refine WL.assign rfl rfl rfl ?_
    refine WL.done ?_
    refine EW.on ?_
    have hnl : n ≤ rl.length := by omega
    refine EW.region ?_
    first | refine WL.move rfl rfl rfl ?_
    first | refine WL.move rfl rfl rfl ?_
    refine WL.sliceL rfl rfl rfl rfl (hl.cutL n hnl _) ?_
    first | refine WL.assign rfl rfl rfl ?_
    refine WL.done ?_
    refine pn_block ?_
    have c2 := hl0.cut n rl.length hnl (Nat.le_refl _)
    rw [List.take_of_length_le (by simp)] at c2
    refine EW.again (E := pkE) (R := PkI w (rs.map RV.d)) (m := fun x => x.2.1.length) (x := (vl, rl, vc, cl)) (cut3 vl n rl.length, rl.drop n, v', cl ++ [(n : Int)]) [0, 5] rfl ⟨?_, c2, fun d hd => hok d (by rw [List.map_drop] at hd; exact List.mem_of_mem_drop hd), a2, by show (rl.drop n).length + (cl ++ [(n : Int)]).length ≤ _; simp; omega, fun cs h => ?_⟩ (by show (rl.drop n).length < rl.length; simp; omega)
    · have b1 := hbe.trans (b5.mono hbe.size)
      exact b1.trans (a3.below (fun k hk e => by have := hc.base k e; omega) b1.size)
    · show PkR (rs.map RV.d) (cl ++ [(n : Int)] ++ cs)
      rw [List.append_assoc]
      refine hpk _ ?_
      have hcons := PkR.cons (ds := rl.map RV.d) (cs := cs) (by rw [← List.length_pos_iff, List.length_map]; omega) (by rw [hn, ← List.map_drop]; exact h)
      rw [hn] at hcons
      exact hcons
  · refine EW.exit ?_
    refine px_then ?_
    refine px_then ?_
    refine px_block ?_
    refine EW.on ?_
    refine EW.seq ?_
    have hz : rl = [] := List.eq_nil_of_length_eq_zero (by omega)
    have hfin := hpk [] (by rw [hz]; exact PkR.nil)
    rw [List.append_nil] at hfin
    refine EW.region ?_
    first | refine WL.move rfl rfl rfl ?_
    first | refine WL.assign rfl rfl rfl ?_
    first | refine WL.assign rfl rfl rfl ?_
    refine WL.done ?_
    refine EW.on ?_
    refine EW.ret ?_
    exact EW.returns2 Try.results18 rfl rfl ⟨vc, cl, rfl, hc, hfin, hbe⟩
def saE (a b : Value) (t : Nat) : List (Nat × Value) := [(0, a), (1, b), (5, .int .i64 (t : Int))]
def SaR (w : World) (n t : Nat) (W : World) : Prop := Below w.heap.size w W ∧ t ≤ n
theorem rfldB (ad : Addr) (j : Nat) (hj : j < 3) (W : World) : (Instr.fieldAt 32 (.pointer (some ad)) j).run Try.prog W = .ok (.pointer (some (ad.add j))) W := by
  rcases j with _ | _ | _ | j
  · go_simp
  · go_simp
  · go_simp
  · omega
theorem ldIA {w : World} {ad : Addr} {r : RV} (h : At w ad r.cs) : (Instr.loadAt 3 (.pointer (some (ad.add 0)))).run Try.prog w = .ok (.int .i64 r.t) w := by
  have hc : w.cell? (ad.add 0) = some (.int .i64 r.t) := h 0 _ rfl
  obtain ⟨a2, ha2⟩ : ∃ a2, ad.add 0 = a2 := ⟨_, rfl⟩
  rw [ha2] at hc ⊢
  go_simp
theorem ldKA {w : World} {ad : Addr} {r : RV} (h : At w ad r.cs) : (Instr.loadAt 22 (.pointer (some (ad.add 1)))).run Try.prog w = .ok r.vk w := by
  have hc : w.cell? (ad.add 1) = some r.vk := h 1 _ rfl
  obtain ⟨a2, ha2⟩ : ∃ a2, ad.add 1 = a2 := ⟨_, rfl⟩
  rw [ha2] at hc ⊢
  go_simp
set_option maxRecDepth 100000 in
set_option maxHeartbeats 1000000 in
theorem same_any (va vb : Value) (rs ss : List RV) (w : World) (hA : Ls w va rs) (hB : Ls w vb ss) (hd : rs.map RV.d = ss.map RV.d) (hn : rs.length ≤ 1000000000000) : Calls Try.prog 20 #[va, vb] w fun e w' => e = .returned (.bool true) ∧ Below w.heap.size w w' := by
  have hl := d_len hd
  have zl : (rs.length : Int) = (ss.length : Int) := by omega
  refine calls_of_args [va, vb] Try.func20 rfl 56 Try.ntmps20 (by show 2 ≤ 56; decide) ?_
  refine EW.seq ?_
  refine EW.region ?_
  first | refine WL.assign rfl rfl rfl ?_
  refine WL.done ?_
  refine EW.on ?_
  refine EW.seq ?_
  refine EW.seq ?_
  refine EW.region ?_
  first | refine WL.move rfl rfl rfl ?_
  refine WL.len rfl rfl rfl (hA.len _ _) ?_
  first | refine WL.move rfl rfl rfl ?_
  refine WL.len rfl rfl rfl (hB.len _ _) ?_
  first | refine WL.bin rfl rfl rfl rfl (int_ne_f rfl _ _ _) ?_ | refine WL.bin rfl rfl rfl rfl (int_ne_t ‹_› _ _ _) ?_ | refine WL.bin rfl rfl rfl rfl (int_ne_f ‹_› _ _ _) ?_ | refine WL.bin rfl rfl rfl rfl (int_ne_t (by decide) _ _ _) ?_ | refine WL.bin rfl rfl rfl rfl (int_ne_d _ _ _ _ _) ?_
  refine WL.done ?_
  refine EW.on ?_
  refine EW.cond_f rfl ?_
  refine EW.skip ?_
  refine EW.on ?_
  refine EW.seq ?_
  refine EW.seq ?_
  refine EW.region ?_
  first | refine WL.assign rfl rfl rfl ?_
  refine WL.done ?_
  refine EW.on ?_
  refine EW.block ?_
  refine EW.loop (saE va vb) (SaR w rs.length) (fun t => rs.length - t) 0 [0, 1, 5] rfl ⟨Below.refl _ _, Nat.zero_le _⟩ ?_
  rintro t wi ⟨hbe, htl⟩
  show EW _ _ _ _ [(0, va), (1, vb), (5, .int .i64 (t : Int))] _
  refine EW.seq ?_
  refine EW.seq ?_
  refine EW.region ?_
  first | refine WL.move rfl rfl rfl ?_
  first | refine WL.move rfl rfl rfl ?_
  refine WL.len rfl rfl rfl (hA.len _ _) ?_
  first | refine WL.bin rfl rfl rfl rfl (int_lt_t ‹_› _ _ _) ?_ | refine WL.bin rfl rfl rfl rfl (int_lt_f ‹_› _ _ _) ?_ | refine WL.bin rfl rfl rfl rfl (int_lt_d _ _ _ _ _) ?_
  refine WL.done ?_
  refine EW.on ?_
  refine EW.cond_d rfl (fun h14 => ?_) (fun h14 => ?_)
  · refine EW.skip ?_
    refine EW.on ?_
    refine EW.seq ?_
    refine EW.block ?_
    refine EW.seq ?_
    have ht : t < rs.length := by omega
    have tn : IntKind.i64.wrap ((t : Int) + 1) = ((t + 1 : Nat) : Int) := by rw [IntKind.wrap_i64]; omega
    obtain ⟨x, hx⟩ : ∃ x, rs[t]? = some x := ⟨_, List.getElem?_eq_getElem ht⟩
    obtain ⟨y, hy⟩ : ∃ y, ss[t]? = some y := ⟨_, List.getElem?_eq_getElem (by omega)⟩
    have hAi := hA.below hbe
    have hBi := hB.below hbe
    obtain ⟨ax, ix, atx⟩ := hAi.item hx
    obtain ⟨ay, iy, aty⟩ := hBi.item hy
    have okx := hAi.ok x (List.mem_of_getElem? hx)
    have oky := hBi.ok y (List.mem_of_getElem? hy)
    have hxy : x.d = y.d := by
      have e1 := d_at hx
      rw [hd, d_at hy] at e1
      exact (Option.some.inj e1).symm
    have hte : x.t = y.t := congrArg Rc.t hxy
    have hke : decide (x.k = y.k) = true := decide_eq_true (congrArg Rc.k hxy)
    have hve : decide (x.v = y.v) = true := decide_eq_true (congrArg Rc.v hxy)
    refine EW.ordB [(0, 0, 0), (1, 0, 0), (2, 0, 0), (3, 0, 0), (4, 0, 1), (5, 0, 0), (6, 0, 0), (7, 0, 0), (8, 0, 0), (9, 0, 1), (10, 0, 0), (11, 0, 0), (12, 0, 0), (13, 0, 0), (14, 0, 0), (15, 0, 0), (16, 0, 1), (17, 0, 0), (18, 0, 0), (19, 0, 0), (20, 0, 0), (21, 0, 1), (22, 1, 1), (23, 0, 0), (24, 0, 0), (25, 0, 0), (26, 0, 0), (27, 0, 0), (28, 0, 0), (29, 0, 0), (30, 0, 1), (31, 0, 0), (32, 0, 0), (33, 0, 0), (34, 0, 0), (35, 0, 1), (36, 1, 1), (37, 0, 0), (38, 0, 0)] (by kernel_rfl) rfl (by kernel_rfl) ?_
    simp only [opsZ, List.getD_cons_zero, List.getD_cons_succ]
    first | refine ZE.move rfl rfl rfl rfl sz0 ?_
    first | refine ZE.move rfl rfl rfl rfl sz0 ?_
    first | refine ZE.index rfl rfl rfl rfl rfl sz0 (fun W => ix W) ?_ | refine ZE.index rfl rfl rfl rfl rfl sz0 (fun W => iy W) ?_
    first | refine ZE.field rfl rfl rfl rfl sz0 (fun W => rfldB ax 0 (by decide) W) ?_ | refine ZE.field rfl rfl rfl rfl sz0 (fun W => rfldB ay 0 (by decide) W) ?_
    first | refine ZE.load rfl rfl rfl rfl sz1 (fun W hW => ldIA (atx.below (sb_of hW))) ?_ | refine ZE.load rfl rfl rfl rfl sz1 (fun W hW => ldIA (aty.below (sb_of hW))) ?_
    first | refine ZE.move rfl rfl rfl rfl sz0 ?_
    first | refine ZE.move rfl rfl rfl rfl sz0 ?_
    first | refine ZE.index rfl rfl rfl rfl rfl sz0 (fun W => ix W) ?_ | refine ZE.index rfl rfl rfl rfl rfl sz0 (fun W => iy W) ?_
    first | refine ZE.field rfl rfl rfl rfl sz0 (fun W => rfldB ax 0 (by decide) W) ?_ | refine ZE.field rfl rfl rfl rfl sz0 (fun W => rfldB ay 0 (by decide) W) ?_
    first | refine ZE.load rfl rfl rfl rfl sz1 (fun W hW => ldIA (atx.below (sb_of hW))) ?_ | refine ZE.load rfl rfl rfl rfl sz1 (fun W hW => ldIA (aty.below (sb_of hW))) ?_
    first | refine ZE.bin rfl rfl rfl rfl rfl sz0 (fun W => int_ne_f rfl W _ _) ?_ | refine ZE.bin rfl rfl rfl rfl rfl sz0 (fun W => int_ne_t ‹_› W _ _) ?_ | refine ZE.bin rfl rfl rfl rfl rfl sz0 (fun W => int_ne_f ‹_› W _ _) ?_ | refine ZE.bin rfl rfl rfl rfl rfl sz0 (fun W => int_ne_t (by decide) W _ _) ?_ | refine ZE.bin rfl rfl rfl rfl rfl sz0 (fun W => int_ne_d _ _ W _ _) ?_
    first | refine ZE.move rfl rfl rfl rfl sz0 ?_
    first | refine ZE.move rfl rfl rfl rfl sz0 ?_ | refine ZE.skip rfl rfl rfl sz0 ?_
    first | refine ZE.move rfl rfl rfl rfl sz0 ?_ | refine ZE.skip rfl rfl rfl sz0 ?_
    first | refine ZE.index rfl rfl rfl rfl rfl sz0 (fun W => ix W) ?_ | refine ZE.index rfl rfl rfl rfl rfl sz0 (fun W => iy W) ?_
    first | refine ZE.field rfl rfl rfl rfl sz0 (fun W => rfldB ax 1 (by decide) W) ?_ | refine ZE.field rfl rfl rfl rfl sz0 (fun W => rfldB ay 1 (by decide) W) ?_
    first | refine ZE.load rfl rfl rfl rfl sz1 (fun W hW => ldKA (atx.below (sb_of hW))) ?_ | refine ZE.load rfl rfl rfl rfl sz1 (fun W hW => ldKA (aty.below (sb_of hW))) ?_ | refine ZE.load rfl rfl rfl rfl sz1 (fun W hW => ldSA (atx.below (sb_of hW))) ?_ | refine ZE.load rfl rfl rfl rfl sz1 (fun W hW => ldSA (aty.below (sb_of hW))) ?_
    first | refine ZE.move rfl rfl rfl rfl sz0 ?_ | refine ZE.skip rfl rfl rfl sz0 ?_
    first | refine ZE.move rfl rfl rfl rfl sz0 ?_ | refine ZE.skip rfl rfl rfl sz0 ?_
    first | refine ZE.index rfl rfl rfl rfl rfl sz0 (fun W => ix W) ?_ | refine ZE.index rfl rfl rfl rfl rfl sz0 (fun W => iy W) ?_
    first | refine ZE.field rfl rfl rfl rfl sz0 (fun W => rfldB ax 1 (by decide) W) ?_ | refine ZE.field rfl rfl rfl rfl sz0 (fun W => rfldB ay 1 (by decide) W) ?_
    first | refine ZE.load rfl rfl rfl rfl sz1 (fun W hW => ldKA (atx.below (sb_of hW))) ?_ | refine ZE.load rfl rfl rfl rfl sz1 (fun W hW => ldKA (aty.below (sb_of hW))) ?_ | refine ZE.load rfl rfl rfl rfl sz1 (fun W hW => ldSA (atx.below (sb_of hW))) ?_ | refine ZE.load rfl rfl rfl rfl sz1 (fun W hW => ldSA (aty.below (sb_of hW))) ?_
    refine ZE.callB (v := .bool true) [x.vk, y.vk] enter9 rfl rfl rfl (fun W h => .inr h) (fun W hW => (eq_any _ _ _ _ W (okx.hk.below hW) (oky.hk.below hW)).mono fun e w' h => ⟨by rw [h.1, hke], by rw [h.2]; exact Below.refl _ _⟩) ?_
    first | refine ZE.un rfl rfl rfl rfl sz0 (fun W => not_t _ W) ?_ | refine ZE.skip rfl rfl rfl sz0 ?_
    first | refine ZE.pick rfl rfl rfl rfl rfl sz0 ?_
    first | refine ZE.move rfl rfl rfl rfl sz0 ?_
    first | refine ZE.move rfl rfl rfl rfl sz0 ?_ | refine ZE.skip rfl rfl rfl sz0 ?_
    first | refine ZE.move rfl rfl rfl rfl sz0 ?_ | refine ZE.skip rfl rfl rfl sz0 ?_
    first | refine ZE.index rfl rfl rfl rfl rfl sz0 (fun W => ix W) ?_ | refine ZE.index rfl rfl rfl rfl rfl sz0 (fun W => iy W) ?_
    first | refine ZE.field rfl rfl rfl rfl sz0 (fun W => rfldB ax 2 (by decide) W) ?_ | refine ZE.field rfl rfl rfl rfl sz0 (fun W => rfldB ay 2 (by decide) W) ?_
    first | refine ZE.load rfl rfl rfl rfl sz1 (fun W hW => ldKA (atx.below (sb_of hW))) ?_ | refine ZE.load rfl rfl rfl rfl sz1 (fun W hW => ldKA (aty.below (sb_of hW))) ?_ | refine ZE.load rfl rfl rfl rfl sz1 (fun W hW => ldSA (atx.below (sb_of hW))) ?_ | refine ZE.load rfl rfl rfl rfl sz1 (fun W hW => ldSA (aty.below (sb_of hW))) ?_
    first | refine ZE.move rfl rfl rfl rfl sz0 ?_ | refine ZE.skip rfl rfl rfl sz0 ?_
    first | refine ZE.move rfl rfl rfl rfl sz0 ?_ | refine ZE.skip rfl rfl rfl sz0 ?_
    first | refine ZE.index rfl rfl rfl rfl rfl sz0 (fun W => ix W) ?_ | refine ZE.index rfl rfl rfl rfl rfl sz0 (fun W => iy W) ?_
    first | refine ZE.field rfl rfl rfl rfl sz0 (fun W => rfldB ax 2 (by decide) W) ?_ | refine ZE.field rfl rfl rfl rfl sz0 (fun W => rfldB ay 2 (by decide) W) ?_
    first | refine ZE.load rfl rfl rfl rfl sz1 (fun W hW => ldKA (atx.below (sb_of hW))) ?_ | refine ZE.load rfl rfl rfl rfl sz1 (fun W hW => ldKA (aty.below (sb_of hW))) ?_ | refine ZE.load rfl rfl rfl rfl sz1 (fun W hW => ldSA (atx.below (sb_of hW))) ?_ | refine ZE.load rfl rfl rfl rfl sz1 (fun W hW => ldSA (aty.below (sb_of hW))) ?_
    refine ZE.callB (v := .bool true) [x.vv, y.vv] enter9 rfl rfl rfl (fun W h => .inr h) (fun W hW => (eq_any _ _ _ _ W (okx.hv.below hW) (oky.hv.below hW)).mono fun e w' h => ⟨by rw [h.1, hve], by rw [h.2]; exact Below.refl _ _⟩) ?_
    first | refine ZE.un rfl rfl rfl rfl sz0 (fun W => not_t _ W) ?_ | refine ZE.skip rfl rfl rfl sz0 ?_
    first | refine ZE.pick rfl rfl rfl rfl rfl sz0 ?_
    intro w6 h6
    refine EW.on ?_
    refine EW.cond_f rfl ?_
    refine EW.skip ?_
    refine pn_block ?_
    refine EW.on ?_
    refine EW.region ?_
    first | refine WL.move rfl rfl rfl ?_
    first | refine WL.bin rfl rfl rfl rfl (int_add ‹_› _ _ _) ?_
    first | refine WL.assign rfl rfl rfl ?_
    refine WL.done ?_
    refine EW.again (E := saE va vb) (R := SaR w rs.length) (m := fun t => rs.length - t) (x := t) (t + 1) [0, 1, 5] rfl ⟨hbe.trans (h6.mono hbe.size), by omega⟩ (by show rs.length - (t + 1) < rs.length - t; omega)
  · refine EW.exit ?_
    refine px_then ?_
    refine px_then ?_
    refine px_block ?_
    refine EW.on ?_
    refine EW.seq ?_
    refine EW.region ?_
    first | refine WL.assign rfl rfl rfl ?_
    refine WL.done ?_
    refine EW.on ?_
    refine EW.ret ?_
    exact EW.returns Try.results20 rfl ⟨rfl, hbe⟩
set_option maxRecDepth 100000 in
set_option maxHeartbeats 1000000 in
theorem ints_any (va vb : Value) (xs : List Int) (b b' : Nat) (w : World) (hA : Oi w b va xs) (hB : Oi w b' vb xs) (hn : xs.length ≤ 1000000000000) : Calls Try.prog 21 #[va, vb] w fun e w' => e = .returned (.bool true) ∧ Below w.heap.size w w' := by
  refine calls_of_args [va, vb] Try.func21 rfl 26 Try.ntmps21 (by show 2 ≤ 26; decide) ?_
  refine EW.seq ?_
  refine EW.region ?_
  first | refine WL.assign rfl rfl rfl ?_
  refine WL.done ?_
  refine EW.on ?_
  refine EW.seq ?_
  refine EW.seq ?_
  refine EW.region ?_
  first | refine WL.move rfl rfl rfl ?_
  refine WL.len rfl rfl rfl (hA.len _ _) ?_
  first | refine WL.move rfl rfl rfl ?_
  refine WL.len rfl rfl rfl (hB.len _ _) ?_
  first | refine WL.bin rfl rfl rfl rfl (int_ne_f rfl _ _ _) ?_ | refine WL.bin rfl rfl rfl rfl (int_ne_t ‹_› _ _ _) ?_ | refine WL.bin rfl rfl rfl rfl (int_ne_f ‹_› _ _ _) ?_ | refine WL.bin rfl rfl rfl rfl (int_ne_t (by decide) _ _ _) ?_ | refine WL.bin rfl rfl rfl rfl (int_ne_d _ _ _ _ _) ?_
  refine WL.done ?_
  refine EW.on ?_
  refine EW.cond_f rfl ?_
  refine EW.skip ?_
  refine EW.on ?_
  refine EW.seq ?_
  refine EW.seq ?_
  refine EW.region ?_
  first | refine WL.assign rfl rfl rfl ?_
  refine WL.done ?_
  refine EW.on ?_
  refine EW.block ?_
  refine EW.loop (saE va vb) (SaR w xs.length) (fun t => xs.length - t) 0 [0, 1, 5] rfl ⟨Below.refl _ _, Nat.zero_le _⟩ ?_
  rintro t wi ⟨hbe, htl⟩
  show EW _ _ _ _ [(0, va), (1, vb), (5, .int .i64 (t : Int))] _
  refine EW.seq ?_
  refine EW.seq ?_
  refine EW.region ?_
  first | refine WL.move rfl rfl rfl ?_
  first | refine WL.move rfl rfl rfl ?_
  refine WL.len rfl rfl rfl (hA.len _ _) ?_
  first | refine WL.bin rfl rfl rfl rfl (int_lt_t ‹_› _ _ _) ?_ | refine WL.bin rfl rfl rfl rfl (int_lt_f ‹_› _ _ _) ?_ | refine WL.bin rfl rfl rfl rfl (int_lt_d _ _ _ _ _) ?_
  refine WL.done ?_
  refine EW.on ?_
  refine EW.cond_d rfl (fun h14 => ?_) (fun h14 => ?_)
  · refine EW.skip ?_
    refine EW.on ?_
    refine EW.seq ?_
    refine EW.block ?_
    refine EW.seq ?_
    have ht : t < xs.length := by omega
    have tn : IntKind.i64.wrap ((t : Int) + 1) = ((t + 1 : Nat) : Int) := by rw [IntKind.wrap_i64]; omega
    obtain ⟨x, hx⟩ : ∃ x, xs[t]? = some x := ⟨_, List.getElem?_eq_getElem ht⟩
    obtain ⟨gx, ix, csx, bx, hcx⟩ := (hA.below hbe).item hx
    obtain ⟨gy, iy, csy, by_, hcy⟩ := (hB.below hbe).item hx
    refine EW.ordB [(0, 0, 0), (1, 0, 0), (2, 0, 0), (3, 0, 1), (4, 0, 0), (5, 0, 0), (6, 0, 0), (7, 0, 1), (8, 0, 0)] (by kernel_rfl) rfl (by kernel_rfl) ?_
    simp only [opsZ, List.getD_cons_zero, List.getD_cons_succ]
    first | refine ZE.move rfl rfl rfl rfl sz0 ?_
    first | refine ZE.move rfl rfl rfl rfl sz0 ?_
    first | refine ZE.index rfl rfl rfl rfl rfl sz0 (fun W => ix W) ?_ | refine ZE.index rfl rfl rfl rfl rfl sz0 (fun W => iy W) ?_
    first | refine ZE.load rfl rfl rfl rfl sz1 (fun W hW => ldI (bx.on (sb_of hW)) hcx) ?_ | refine ZE.load rfl rfl rfl rfl sz1 (fun W hW => ldI (by_.on (sb_of hW)) hcy) ?_
    first | refine ZE.move rfl rfl rfl rfl sz0 ?_
    first | refine ZE.move rfl rfl rfl rfl sz0 ?_
    first | refine ZE.index rfl rfl rfl rfl rfl sz0 (fun W => ix W) ?_ | refine ZE.index rfl rfl rfl rfl rfl sz0 (fun W => iy W) ?_
    first | refine ZE.load rfl rfl rfl rfl sz1 (fun W hW => ldI (bx.on (sb_of hW)) hcx) ?_ | refine ZE.load rfl rfl rfl rfl sz1 (fun W hW => ldI (by_.on (sb_of hW)) hcy) ?_
    first | refine ZE.bin rfl rfl rfl rfl rfl sz0 (fun W => int_ne_f rfl W _ _) ?_ | refine ZE.bin rfl rfl rfl rfl rfl sz0 (fun W => int_ne_t ‹_› W _ _) ?_ | refine ZE.bin rfl rfl rfl rfl rfl sz0 (fun W => int_ne_f ‹_› W _ _) ?_ | refine ZE.bin rfl rfl rfl rfl rfl sz0 (fun W => int_ne_t (by decide) W _ _) ?_ | refine ZE.bin rfl rfl rfl rfl rfl sz0 (fun W => int_ne_d _ _ W _ _) ?_
    intro w6 h6
    refine EW.on ?_
    refine EW.cond_f rfl ?_
    refine EW.skip ?_
    refine pn_block ?_
    refine EW.on ?_
    refine EW.region ?_
    first | refine WL.move rfl rfl rfl ?_
    first | refine WL.bin rfl rfl rfl rfl (int_add ‹_› _ _ _) ?_
    first | refine WL.assign rfl rfl rfl ?_
    refine WL.done ?_
    refine EW.again (E := saE va vb) (R := SaR w xs.length) (m := fun t => xs.length - t) (x := t) (t + 1) [0, 1, 5] rfl ⟨hbe.trans (h6.mono hbe.size), by omega⟩ (by show xs.length - (t + 1) < xs.length - t; omega)
  · refine EW.exit ?_
    refine px_then ?_
    refine px_then ?_
    refine px_block ?_
    refine EW.on ?_
    refine EW.seq ?_
    refine EW.region ?_
    first | refine WL.assign rfl rfl rfl ?_
    refine WL.done ?_
    refine EW.on ?_
    refine EW.ret ?_
    exact EW.returns Try.results21 rfl ⟨rfl, hbe⟩
end Go.Proofs.Yteghbkeaojbdgaa
