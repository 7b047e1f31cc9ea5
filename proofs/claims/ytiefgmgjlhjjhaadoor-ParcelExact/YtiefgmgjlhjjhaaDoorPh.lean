import Derived.Test.YtiefgmgjlhjjhaaDoorPg
set_option linter.unusedVariables false
set_option linter.unusedSimpArgs false
namespace Go.Proofs.YtiefgmgjlhjjhaaDoor
open Go.RowKit

/-- The sum of a text. -/
def sm (M : List UInt8) : List UInt8 := (sumOf M).take 8
theorem sumOf_len' (M : List UInt8) : (sumOf M).length = 32 := sumOf_length M
theorem sm_len (M : List UInt8) : (sm M).length = 8 := by unfold sm; rw [List.length_take, sumOf_len']; rfl
theorem zv92 (w : World) : (zeroValue 92).run Tryd.prog w = .ok (kv z32) w := (zero_of_info (show (Tryd.prog.info? 92).map (fun i => (i.zero, i.size)) = some (some (kv z32), 32) by kernel_rfl)).1 w
theorem i92 {K : List UInt8} (h : K.length = 32) : (Tryd.prog.info? 92).map (·.size) = some (K.map byt).length := by rw [List.length_map, h]; kernel_rfl
theorem s92 (q : Nat) (W : World) : (Instr.sliceAt 92 (.pointer (some ⟨q, 0, none⟩)) none (some (.int .i64 8)) none).run Tryd.prog W = .ok (.slice (some ⟨q, 0, none⟩) 8 32) W := by
  go_simp
  try simp
theorem Parts.on {w w' : World} {v : Value} {ps : List (Value × List UInt8)} (h : Parts w v ps) (hb : Below w.heap.size w w') : Parts w' v ps := by
  rcases h with h | ⟨ad, cap, h1, h2, h3⟩
  · exact .inl h
  · refine .inr ⟨ad, cap, h1, h2, fun i p hp => ?_⟩
    obtain ⟨a1, a2⟩ := h3 i p hp
    exact ⟨(hb.cell (cell_lt a1)).trans a1, a2.below hb⟩
set_option maxRecDepth 100000 in
set_option maxHeartbeats 4000000 in
theorem sm_any (v : Value) (ps : List (Value × List UInt8)) (M : List UInt8) (hM : ps.flatMap (·.2) = M) (w : World) (hP : Parts w v ps) (hK : Kst w) (hn : M.length ≤ 1000000000) (hl : ps.length ≤ 1000) : Calls Tryd.prog 19 #[v] w fun e w' => e = .returned (kv (sm M)) ∧ Below w.heap.size w w' := by
  refine calls_of_args [v] Tryd.func19 rfl 9 Tryd.ntmps19 (by show 1 ≤ 9; decide) ?_
  refine EW.seq ?_
  refine EW.region ?_
  obtain ⟨w1, q1, rn1, b1, l1, hq1⟩ := newB (cs := e8.map byt) zv54 w
  refine WL.new rfl rfl rn1 ?_
  refine WL.done ?_
  refine EW.on ?_
  refine EW.seq ?_
  refine EW.region ?_
  first | refine WL.move rfl rfl rfl ?_
  refine WL.call [v] enter36 rfl rfl rfl (sum_gen v ps M (sumOf M) hM rfl w1 (hP.on l1) (hK.below l1 hK.lt) (by omega) (by omega)) ?_
  rintro _ w2 ⟨rfl, l2⟩
  refine ⟨_, rfl, ?_⟩
  obtain ⟨w3, q3, rn3, b3, l3, hq3⟩ := newB (cs := z32.map byt) zv92 w2
  refine WL.new rfl rfl rn3 ?_
  obtain ⟨w4, s4, b4, f4⟩ := b3.stA (ty := 92) (vs := (sumOf M).map byt) (o := 0) (a := []) (m := z32.map byt) (b := []) (i92 (sumOf_len' M)) (byts_one' _) (by simp) rfl (by rw [List.length_map, List.length_map, sumOf_len']; rfl)
  refine WL.store rfl rfl rfl s4 ?_
  rw [List.append_nil, List.nil_append] at b4
  have z1 := b1.lt
  have n13 : q1 ≠ q3 := by have := l2.size; omega
  have c1 := ((b1.on l2).on l3).fx f4 n13
  refine WL.done ?_
  refine EW.on ?_
  refine EW.seq ?_
  refine EW.region ?_
  refine WL.sliceH rfl rfl rfl rfl (s92 _ _) ?_
  refine WL.s2a rfl rfl rfl (s2a54 _ _ _ (Nat.le_refl _) _) ?_
  refine WL.load rfl rfl rfl (show _ = Result.ok (kv (sm M)) _ from b4.ldA (a := []) (m := (sm M).map byt) (b := ((sumOf M).drop 8).map byt) u54 rfl (i54 (sm_len M)) (by rw [List.nil_append, ← List.map_append]; unfold sm; rw [List.take_append_drop]) rfl) ?_
  obtain ⟨w5, s5, b5, f5⟩ := c1.stA (ty := 54) (vs := (sm M).map byt) (o := 0) (a := []) (m := e8.map byt) (b := []) (i54 (sm_len M)) (byts_one' _) (by simp) rfl (by rw [List.length_map, List.length_map, sm_len]; rfl)
  refine WL.store rfl rfl rfl s5 ?_
  rw [List.append_nil, List.nil_append] at b5
  refine WL.done ?_
  refine EW.on ?_
  refine EW.ret ?_
  exact EW.returnsC Tryd.results19 rfl b5 u54 rfl (i54 (sm_len M)) ⟨rfl, (bt (bt l1 l2) l3).trans ((f4.below (fun k hk e => by have e' : k = q3 := e; have := (bt l1 l2).size; omega) (bt (bt l1 l2) l3).size).trans (f5.below (fun k hk e => by have e' : k = q1 := e; omega) (by have := f4.size; have := (bt (bt l1 l2) l3).size; omega)))⟩
/-- Bytes one behind the other. -/
def flM (ps : List (Value × List UInt8)) (i : Nat) : List UInt8 := (ps.take i).flatMap (·.2)
theorem flM_succ {ps : List (Value × List UInt8)} {i : Nat} {p : Value × List UInt8} (h : ps[i]? = some p) : flM ps (i + 1) = flM ps i ++ p.2 := by
  unfold flM
  rw [List.take_add_one, h, List.flatMap_append]; simp
theorem flM_le {ps : List (Value × List UInt8)} {n : Nat} (h : (ps.flatMap (·.2)).length ≤ n) (i : Nat) : (flM ps i).length ≤ n := by
  have e : ps.flatMap (·.2) = flM ps i ++ (ps.drop i).flatMap (·.2) := by unfold flM; rw [← List.flatMap_append, List.take_append_drop]
  rw [e, List.length_append] at h; omega
def jE (v : Value) (n : Nat) (x : Nat × Value) : List (Nat × Value) := [(3, x.2), (6, v), (7, .int .i64 (n : Int)), (8, .int .i64 (x.1 : Int))]
structure JR (ps : List (Value × List UInt8)) (w : World) (x : Nat × Value) (W : World) : Prop where
  le : x.1 ≤ ps.length
  ow : Own W w.heap.size x.2 (flM ps x.1)
  be : Below w.heap.size w W
theorem x26 (ad : Addr) (n cap m : Nat) (h : m < n) (W : World) : (Instr.indexAt 26 (.slice (some ad) n cap) (.int .i64 (m : Int))).run Tryd.prog W = .ok (.pointer (some (ad.add m))) W := by
  have hm : (m : Int) < (n : Int) := by omega
  go_simp
theorem ldC {W : World} {ad : Addr} {v : Value} (hc : W.cell? ad = some v) : (Instr.loadAt 24 (.pointer (some ad))).run Tryd.prog W = .ok v W := by go_simp
theorem Own.nil' (w : World) (b : Nat) : Own w b (.slice none 0 0) [] := ⟨rfl, .inl ⟨rfl, rfl⟩⟩
theorem Parts.slice {w : World} {v : Value} {ps : List (Value × List UInt8)} (h : Parts w v ps) : ∃ ao c, v = .slice ao ps.length c := by
  rcases h with ⟨h, h2⟩ | ⟨ad, cap, h1, _⟩
  · rw [h2]; exact ⟨_, _, h⟩
  · exact ⟨_, _, h1⟩
set_option maxRecDepth 100000 in
set_option maxHeartbeats 4000000 in
theorem join_any (v : Value) (ps : List (Value × List UInt8)) (w : World) (hP : Parts w v ps) (hn : (ps.flatMap (·.2)).length ≤ 1000000000) (hl : ps.length ≤ 1000) : Calls Tryd.prog 30 #[v] w fun e w' => ∃ u, e = .returned u ∧ Ob w' w.heap.size u (ps.flatMap (·.2)) ∧ Below w.heap.size w w' := by
  obtain ⟨ao, cp, hv⟩ := hP.slice
  refine calls_of_args [v] Tryd.func30 rfl 17 Tryd.ntmps30 (by show 1 ≤ 17; decide) ?_
  refine EW.seq ?_
  refine EW.region ?_
  first | refine WL.assign rfl rfl rfl ?_
  refine WL.done ?_
  refine EW.on ?_
  refine EW.seq ?_
  refine EW.region ?_
  first | refine WL.assign rfl rfl rfl ?_
  refine WL.done ?_
  refine EW.on ?_
  refine EW.seq ?_
  refine EW.seq ?_
  refine EW.region ?_
  first | refine WL.move rfl rfl rfl ?_
  rw [hv]
  refine WL.len rfl rfl rfl (len26 _ _ _ _ _) ?_
  rw [← hv]
  first | refine WL.move rfl rfl rfl ?_
  refine WL.done ?_
  refine EW.on ?_
  refine EW.block ?_
  refine EW.loop (jE v ps.length) (JR ps w) (fun x => ps.length - x.1) (0, .slice none 0 0) [3, 6, 7, 8] rfl ⟨Nat.zero_le _, Own.nil' _ _, Below.refl _ _⟩ ?_
  rintro x W hR
  show EW _ _ _ _ [(3, x.2), (6, v), (7, .int .i64 (ps.length : Int)), (8, .int .i64 (x.1 : Int))] _
  have hle := hR.le
  have s1 : IntKind.i64.wrap ((x.1 : Int) + 1) = ((x.1 + 1 : Nat) : Int) := by rw [IntKind.wrap_i64]; omega
  refine EW.seq ?_
  refine EW.region ?_
  refine WL.bin rfl rfl rfl rfl (int_lt_d _ _ _ _ _) ?_
  refine WL.done ?_
  refine EW.on ?_
  refine EW.seq ?_
  refine EW.cond_d rfl (fun h9 => ?_) (fun h9 => ?_)
  · have ht : x.1 < ps.length := by omega
    obtain ⟨p, hp⟩ : ∃ p, ps[x.1]? = some p := ⟨_, List.getElem?_eq_getElem ht⟩
    rcases (hP.on hR.be) with ⟨_, e2⟩ | ⟨ad, cap, e1, _, hcW⟩
    · rw [e2] at ht; cases ht
    refine EW.skip ?_
    refine EW.on ?_
    refine EW.seq ?_
    refine EW.block ?_
    refine EW.seq ?_
    refine EW.region ?_
    rw [e1]
    refine WL.index rfl rfl rfl rfl (x26 _ _ _ _ ht _) ?_
    rw [← e1]
    refine WL.load rfl rfl rfl (ldC (hcW x.1 p hp).1) ?_
    first | refine WL.assign rfl rfl rfl ?_
    refine WL.done ?_
    refine EW.on ?_
    refine EW.region ?_
    first | refine WL.move rfl rfl rfl ?_
    first | refine WL.move rfl rfl rfl ?_
    obtain ⟨v2, W2, r2, o2, be2, fx2⟩ := hR.ow.app (hcW x.1 p hp).2 (by have := flM_le hn (x.1 + 1); rw [flM_succ hp, List.length_append] at this; omega) hR.be.size 24
    refine WL.app rfl rfl rfl rfl r2 ?_
    first | refine WL.assign rfl rfl rfl ?_
    refine WL.done ?_
    refine pn_block ?_
    refine EW.on ?_
    refine EW.region ?_
    first | refine WL.bin rfl rfl rfl rfl (int_add ‹_› _ _ _) ?_
    first | refine WL.move rfl rfl rfl ?_
    refine WL.done ?_
    refine EW.again (x.1 + 1, v2) [3, 6, 7, 8] rfl ⟨by show x.1 + 1 ≤ ps.length; omega, by show Own W2 _ v2 (flM ps (x.1 + 1)); rw [flM_succ hp]; exact o2, hR.be.trans be2⟩ (by show ps.length - (x.1 + 1) < ps.length - x.1; omega)
  · refine EW.exit ?_
    refine px_then ?_
    refine px_then ?_
    refine px_block ?_
    refine EW.on ?_
    refine EW.seq ?_
    refine EW.region ?_
    first | refine WL.move rfl rfl rfl ?_
    first | refine WL.assign rfl rfl rfl ?_
    refine WL.done ?_
    refine EW.on ?_
    refine EW.ret ?_
    exact EW.returns Tryd.results30 rfl ⟨x.2, rfl, by have e : flM ps x.1 = ps.flatMap (·.2) := (by unfold flM; rw [List.take_of_length_le (by omega)]); rw [← e]; exact hR.ow.ob, hR.be⟩
/-- The contents, with their slices. -/
def Pc.ps (p : Pc) : List (Value × List UInt8) := (p.v.zip p.t).take p.n
/-- The text. -/
def Pc.txt (p : Pc) : List UInt8 := (p.t.take p.n).flatten
theorem zip_flat : ∀ (v : List Value) (t : List (List UInt8)) (n : Nat), v.length = t.length → ((v.zip t).take n).flatMap (·.2) = (t.take n).flatten
  | [], [], n, _ => by simp
  | a :: v, b :: t, 0, _ => by simp
  | a :: v, b :: t, n + 1, h => by
    simp only [List.zip_cons_cons, List.take_succ_cons, List.flatMap_cons, List.flatten_cons]
    rw [zip_flat v t n (by simpa using h)]
theorem Pc.ps_txt {p : Pc} (h : p.sh) : p.ps.flatMap (·.2) = p.txt := zip_flat _ _ _ (by rw [h.v, h.t])
theorem Pc.ps_len {p : Pc} (h : p.sh) : p.ps.length = p.n := by
  have := h.n2
  simp [Pc.ps, h.v, h.t]; omega
theorem flat_le : ∀ (t : List (List UInt8)) (k : Nat), (∀ b ∈ t, b.length ≤ k) → t.flatten.length ≤ t.length * k
  | [], k, _ => by simp
  | a :: t, k, h => by
    have h1 := h a (by simp)
    have h2 := flat_le t k (fun b hb => h b (by simp [hb]))
    rw [List.flatten_cons, List.length_append, List.length_cons, Nat.add_mul]; omega
theorem Pc.txt_len {w : World} {p : Pc} (hp : p.sh) (h : p.hs w) : p.txt.length ≤ 31808 := by
  have h1 := flat_le (p.t.take p.n) 497 (fun b hb => h.le b (List.mem_of_mem_take hb))
  have h2 : (p.t.take p.n).length ≤ 64 := by simp [hp.t] <;> omega
  unfold Pc.txt
  have h3 : (p.t.take p.n).length * 497 ≤ 64 * 497 := Nat.mul_le_mul_right _ h2
  omega
theorem Pc.parts {w : World} {p : Pc} (hp : p.sh) (h : p.hs w) {q : Nat} (hb : Blk w q p.cs 71) : Parts w (.slice (some ⟨q, 73, none⟩) p.n 64) p.ps := by
  refine .inr ⟨⟨q, 73, none⟩, 64, by rw [Pc.ps_len hp], by rw [Pc.ps_len hp]; exact hp.n2, fun i x hx => ?_⟩
  unfold Pc.ps at hx
  rw [List.getElem?_take] at hx
  split at hx
  · rw [List.getElem?_zip_eq_some] at hx
    refine ⟨?_, h.has i x.1 x.2 hx.1 hx.2⟩
    rw [Addr.add_mid, hb.cell]
    exact Pc.c3 hp hx.1
  · cases hx
set_option maxRecDepth 100000 in
set_option maxHeartbeats 1000000 in
theorem ord_any (p : Pc) (hp : p.sh) (w : World) (h : p.hs w) : Calls Tryd.prog 27 #[p.val] w fun e w' => ∃ v, e = .returned v ∧ Parts w' v p.ps ∧ Below w.heap.size w w' := by
  refine calls_of_args [p.val] Tryd.func27 rfl 7 Tryd.ntmps27 (by show 1 ≤ 7; decide) ?_
  refine EW.seq ?_
  refine EW.region ?_
  obtain ⟨w1, q, rb1, b1, l1, hq⟩ := box_any 71 p.cs w
  refine WL.box rfl rfl rfl rb1 ?_
  first | refine WL.assign rfl rfl rfl ?_
  refine WL.done ?_
  refine EW.on ?_
  refine EW.seq ?_
  refine EW.region ?_
  refine WL.field rfl rfl rfl (f71_3 _ _) ?_
  refine WL.field rfl rfl rfl (f71_0 _ _) ?_
  refine WL.load rfl rfl rfl (ldI b1 p.c0) ?_
  refine WL.sliceH rfl rfl rfl rfl (s69 _ _ hp.n2 _) ?_
  first | refine WL.assign rfl rfl rfl ?_
  refine WL.done ?_
  refine EW.on ?_
  refine EW.ret ?_
  exact EW.returns Tryd.results27 rfl ⟨_, rfl, Pc.parts hp (h.on l1) b1, l1⟩
end Go.Proofs.YtiefgmgjlhjjhaaDoor
