import Derived.Test.YteghbkeaojbdgaaPb
set_option linter.unusedVariables false
set_option linter.unusedSimpArgs false
namespace Go.Proofs.Yteghbkeaojbdgaa
open Go.RowKit

theorem addr_add (ad : Addr) (l i : Nat) : (ad.add l).add i = ad.add (l + i) := by
  unfold Addr.add
  by_cases h0 : l = 0
  · subst h0; simp
  · by_cases h1 : i = 0
    · subst h1; simp
    · rw [if_neg h1, if_neg h0, if_neg (by omega)]; simp; omega
/-- A list of records lies there. -/
structure Ls (w : World) (v : Value) (rs : List RV) : Prop where
  sh : (v = .slice none 0 0 ∧ rs = []) ∨ ∃ ad cap, v = .slice (some ad) rs.length cap ∧ rs.length ≤ cap ∧ ∀ i r, rs[i]? = some r → At w (ad.add (3 * i)) r.cs
  ok : ∀ r ∈ rs, r.ok w
theorem Ls.nil (w : World) : Ls w (.slice none 0 0) [] := ⟨.inl ⟨rfl, rfl⟩, fun _ h => by cases h⟩
theorem Ls.below {w w' : World} {v : Value} {rs : List RV} (h : Ls w v rs) (hb : Below w.heap.size w w') : Ls w' v rs := by
  refine ⟨?_, fun r hr => (h.ok r hr).below hb⟩
  rcases h.sh with h1 | ⟨ad, cap, h1, h2, h3⟩
  · exact .inl h1
  · exact .inr ⟨ad, cap, h1, h2, fun i r hi => (h3 i r hi).below hb⟩
theorem Ls.shape {w : World} {v : Value} {rs : List RV} (h : Ls w v rs) : ∃ ao cap, v = .slice ao rs.length cap ∧ rs.length ≤ cap := by
  rcases h.sh with ⟨rfl, rfl⟩ | ⟨ad, cap, rfl, h2, _⟩
  · exact ⟨_, _, rfl, Nat.le_refl _⟩
  · exact ⟨_, _, rfl, h2⟩
theorem Ls.len {w : World} {v : Value} {rs : List RV} (h : Ls w v rs) (W : World) (ty : TypeId) : (Builtin.len_ #[23] ty #[v]).run Try.prog W = .ok (.int .i64 (rs.length : Int)) W := by
  obtain ⟨ao, cap, rfl, _⟩ := h.shape
  go_simp
theorem idx23 (ad : Addr) (n cap m : Nat) (h : m < n) (W : World) : (Instr.indexAt 23 (.slice (some ad) n cap) (.int .i64 (m : Int))).run Try.prog W = .ok (.pointer (some (ad.add (3 * m)))) W := by
  have hm : (m : Int) < (n : Int) := by omega
  have h1 : m * 3 = 3 * m := by omega
  go_simp
  try simp [h1]
theorem Ls.item {w : World} {v : Value} {rs : List RV} (h : Ls w v rs) {i : Nat} {r : RV} (hi : rs[i]? = some r) : ∃ ad, (∀ W, (Instr.indexAt 23 v (.int .i64 (i : Int))).run Try.prog W = .ok (.pointer (some ad)) W) ∧ At w ad r.cs := by
  rcases h.sh with ⟨rfl, rfl⟩ | ⟨ad, cap, rfl, h2, h3⟩
  · simp at hi
  · exact ⟨_, fun W => idx23 ad _ cap i (List.getElem?_eq_some_iff.1 hi).1 W, h3 i r hi⟩
theorem ldA {w : World} {ad : Addr} {r : RV} (h : At w ad r.cs) : (Instr.loadAt 32 (.pointer (some ad))).run Try.prog w = .ok r.val w := run_loadA h Try.underlying32 rfl (info32 r)
def cut3 (v : Value) (l h : Nat) : Value := match v with
  | .slice a _ cap => sliced a l h cap 3
  | v => v
theorem size32 (W : World) : (sizeOf 32).run Try.prog W = .ok 3 W := by go_simp
theorem elem23 : Try.prog.elem 23 = 32 := by simp [Program.elem, Try.underlying23]
theorem Ls.cut {w : World} {v : Value} {rs : List RV} (h : Ls w v rs) (l k : Nat) (hlk : l ≤ k) (hk : k ≤ rs.length) : Ls w (cut3 v l k) ((rs.drop l).take (k - l)) := by
  have hlen : ((rs.drop l).take (k - l)).length = k - l := by simp; omega
  refine ⟨?_, fun r hr => h.ok r (List.mem_of_mem_drop (List.mem_of_mem_take hr))⟩
  rcases h.sh with ⟨rfl, rfl⟩ | ⟨ad, cap, rfl, h2, h3⟩
  · simp at hk; subst hk; simp at hlk; subst hlk
    exact .inl ⟨by simp [cut3, sliced], by simp⟩
  · simp only [cut3, sliced]
    by_cases hc : cap = l
    · rw [if_pos hc]
      have hb : rs.drop l = [] := List.drop_eq_nil_of_le (by omega)
      refine .inr ⟨ad, cap - l, by rw [hlen], by rw [hlen]; omega, fun i u hu => ?_⟩
      rw [hb] at hu; simp at hu
    · rw [if_neg hc]
      refine .inr ⟨ad.add (l * 3), cap - l, by rw [hlen]; rfl, by rw [hlen]; omega, fun i u hu => ?_⟩
      have hi : i < k - l := by
        rcases Nat.lt_or_ge i (k - l) with h | h
        · exact h
        · rw [List.getElem?_eq_none (by omega)] at hu; cases hu
      rw [List.getElem?_take_of_lt hi, List.getElem?_drop] at hu
      have hcell := h3 (l + i) u hu
      rw [addr_add, show l * 3 + 3 * i = 3 * (l + i) by omega]; exact hcell
theorem ul23 : Try.prog.underlying 23 = some (.slice (Try.prog.elem 23)) := by rw [elem23]; exact Try.underlying23
theorem sl23 (t : Value) (a b c : Option Value) (W : World) : (Instr.sliceAt 23 t a b c).run Try.prog W = (Instr.slice 23 t a b c).run Try.prog W := by
  simp [Instr.sliceAt, run_underlying Try.underlying23]
theorem Ls.cutLH {w : World} {v : Value} {rs : List RV} (h : Ls w v rs) (l k : Nat) (hlk : l ≤ k) (hk : k ≤ rs.length) (W : World) : (Instr.sliceAt 23 v (some (.int .i64 (l : Int))) (some (.int .i64 (k : Int))) none).run Try.prog W = .ok (cut3 v l k) W := by
  obtain ⟨ao, cap, rfl, hc⟩ := h.shape
  rw [sl23, run_slice_lh W 23 ao _ cap ul23 .i64 .i64 l k (by omega) (by omega) (by omega), elem23, size32]
  simp [Result.andThen, cut3]
theorem Ls.cutH {w : World} {v : Value} {rs : List RV} (h : Ls w v rs) (k : Nat) (hk : k ≤ rs.length) (W : World) : (Instr.sliceAt 23 v none (some (.int .i64 (k : Int))) none).run Try.prog W = .ok (cut3 v 0 k) W := by
  obtain ⟨ao, cap, rfl, hc⟩ := h.shape
  rw [sl23, run_slice_h W 23 ao _ cap ul23 .i64 k (by omega) (by omega), elem23, size32]
  simp [Result.andThen, cut3]
theorem Ls.cutL {w : World} {v : Value} {rs : List RV} (h : Ls w v rs) (l : Nat) (hl : l ≤ rs.length) (W : World) : (Instr.sliceAt 23 v (some (.int .i64 (l : Int))) none none).run Try.prog W = .ok (cut3 v l rs.length) W := by
  obtain ⟨ao, cap, rfl, hc⟩ := h.shape
  rw [sl23, run_slice_l W 23 ao _ cap ul23 .i64 l (by omega) (by omega), elem23, size32]
  simp [Result.andThen, cut3]
/-- What the bytes of a slice lie in. -/
def Off (v : Value) (bs : List UInt8) (k : Nat) : Prop := bs = [] ∨ v.ownBlock ≠ some k
theorem Has.blk {w : World} {v : Value} {bs : List UInt8} (h : Has w v bs) {k : Nat} (hk : v.ownBlock = some k) : bs = [] ∨ k < w.heap.size := by
  rcases h with ⟨rfl, rfl⟩ | ⟨ad, cap, rfl, h2, h3⟩
  · exact .inl rfl
  · cases bs with
    | nil => exact .inl rfl
    | cons u r =>
      right
      have := cell_lt (h3 0 u rfl)
      rw [add_block] at this
      simp only [Value.ownBlock, Option.some.injEq] at hk
      omega
theorem Has.fxo {S : Nat → Prop} {w w' : World} {v : Value} {bs : List UInt8} (h : Has w v bs) (hf : Fx S w w') (ho : ∀ k, S k → Off v bs k) : Has w' v bs := by
  rcases h with h | ⟨ad, cap, rfl, h2, h3⟩
  · exact .inl h
  · refine .inr ⟨ad, cap, rfl, h2, fun i u hu => hf.cell (h3 i u hu) fun hS => ?_⟩
    rw [add_block] at hS
    rcases ho _ hS with e | e
    · rw [e] at hu; simp at hu
    · exact e rfl
def RV.off (r : RV) (k : Nat) : Prop := Off r.vk r.k k ∧ Off r.vv r.v k
theorem RV.ok.fx {S : Nat → Prop} {r : RV} {w w' : World} (h : r.ok w) (hf : Fx S w w') (ho : ∀ k, S k → r.off k) : r.ok w' := ⟨h.hk.fxo hf fun k hk => (ho k hk).1, h.hv.fxo hf fun k hk => (ho k hk).2⟩
theorem RV.ok.off {r : RV} {w : World} (h : r.ok w) {k : Nat} (hk : w.heap.size ≤ k) : r.off k := by
  have key : ∀ {v : Value} {bs : List UInt8}, Has w v bs → Off v bs k := fun {v bs} hh => by
    by_cases e : v.ownBlock = some k
    · rcases hh.blk e with h1 | h1
      · exact .inl h1
      · omega
    · exact .inr e
  exact ⟨key h.hk, key h.hv⟩
/-- A list of its own, that may grow: from block b on. -/
structure Ol (w : World) (b : Nat) (v : Value) (rs : List RV) : Prop where
  row : w.ownsRow 0 32 3 v rs.length (rs.flatMap RV.cs)
  base : ∀ k, v.ownBlock = some k → b ≤ k
  ok : ∀ r ∈ rs, r.ok w
  off : ∀ r ∈ rs, ∀ k, v.ownBlock = some k → r.off k
theorem flat_cs (rs : List RV) : (rs.flatMap RV.cs).length = rs.length * 3 := by
  induction rs with
  | nil => rfl
  | cons r rs ih => rw [List.flatMap_cons, List.length_append, ih, List.length_cons, show r.cs.length = 3 from rfl]; omega
theorem flat_at3 : ∀ (rs : List RV) (i j : Nat) (r : RV) (v : Value), rs[i]? = some r → r.cs[j]? = some v → (rs.flatMap RV.cs)[3 * i + j]? = some v
  | [], i, _, _, _, h, _ => by simp at h
  | y :: ys, 0, j, r, v, h, hj => by
    have e : y = r := by simpa using h
    subst e
    rw [Nat.mul_zero, Nat.zero_add, List.flatMap_cons, List.getElem?_append_left (List.getElem?_eq_some_iff.1 hj).1]
    exact hj
  | y :: ys, i + 1, j, r, v, h, hj => by
    rw [List.flatMap_cons, List.getElem?_append_right (by show 3 ≤ _; omega), show 3 * (i + 1) + j - y.cs.length = 3 * i + j by show 3 * (i + 1) + j - 3 = _; omega]
    exact flat_at3 ys i j r v (by simpa using h) hj
theorem Ol.ls {w : World} {b : Nat} {v : Value} {rs : List RV} (h : Ol w b v rs) : Ls w v rs := by
  refine ⟨?_, h.ok⟩
  obtain ⟨hx, ⟨rfl, hz0⟩ | ⟨g, cp, cur, rfl, hg, hh2, hnc, hc, hs, htk⟩⟩ := h.row
  · exact .inl ⟨rfl, List.eq_nil_of_length_eq_zero hz0⟩
  · refine .inr ⟨_, cp, rfl, hnc, fun i r hi j u hj => ?_⟩
    have h1 := flat_at3 rs i j r u hi hj
    rw [addr_add, add_plain]
    unfold World.cell?
    rw [hh2]
    rw [← htk, List.getElem?_take] at h1
    split at h1
    · simpa using h1
    · cases h1
theorem Ol.nil (w : World) (b : Nat) : Ol w b (.slice none 0 0) [] := ⟨⟨rfl, .inl ⟨rfl, rfl⟩⟩, fun _ h => (by cases h), fun _ h => (by cases h), fun _ h => (by cases h)⟩
theorem Ol.below {w w' : World} {b : Nat} {v : Value} {rs : List RV} (h : Ol w b v rs) (hb : Below w.heap.size w w') : Ol w' b v rs := by
  refine ⟨?_, h.base, fun r hr => (h.ok r hr).below hb, h.off⟩
  obtain ⟨hx, h1 | ⟨g, cp, cur, rfl, hg, hh2, hr⟩⟩ := h.row
  · exact ⟨hx, .inl h1⟩
  · refine ⟨hx, .inr ⟨g, cp, cur, rfl, hg, ?_, hr⟩⟩
    rw [hb.block g (by
      rcases Nat.lt_or_ge g w.heap.size with hl | hl
      · exact hl
      · rw [Array.getElem?_eq_none hl] at hh2; cases hh2)]
    exact hh2
theorem info32f : (Try.prog.info? 32).map (fun i => (i.zero, i.size, i.bytes)) = some (some (.agg #[.int .i64 0, .slice none 0 0, .slice none 0 0]), 3, 56) := by kernel_rfl
/-- One more record. -/
theorem Ol.push {w : World} {b : Nat} {v : Value} {rs : List RV} (h : Ol w b v rs) (hbw : b ≤ w.heap.size) (hl : rs.length ≤ 500000000) (r : RV) (q c : Nat) (hq : Blk w q r.cs 32) (hr : r.ok w) (ho : ∀ k, v.ownBlock = some k → r.off k) (ty : TypeId) : ∃ v' w', (Builtin.append_ #[23, 23] ty #[v, .slice (some ⟨q, 0, none⟩) 1 c]).run Try.prog w = .ok v' w' ∧ Ol w' b v' (rs ++ [r]) ∧ Fx (fun k => v.ownBlock = some k) w w' := by
  obtain ⟨i, hi, hz⟩ := Option.map_eq_some_iff.1 info32f
  simp only [Prod.mk.injEq] at hz
  obtain ⟨v', w', r1, r2, r3, r4⟩ := run_appx w 23 ty 32 i _ 3 56 Try.underlying23 hi hz.1 hz.2.1 hz.2.2 rfl (by decide) v rs.length (rs.flatMap RV.cs) h.row ⟨q, 0, none⟩ 1 c r.cs rfl (fun j u hj => by rw [add_plain, hq.cell]; exact hj) (fun u hu => by
    have := hr.one
    rw [Array.all_eq_true_iff_forall_mem] at this
    exact this u (by simpa using hu)) (by omega) (by decide)
  have hf := grown_fx r3
  refine ⟨v', w', r1, ⟨by simpa using r2, fun k hk => ?_, fun s hs => ?_, fun s hs k hk => ?_⟩, hf⟩
  · rcases r4 k hk with e | e
    · exact h.base k e
    · omega
  · rcases List.mem_append.1 hs with e | e
    · exact (h.ok s e).fx hf (fun k hk => h.off s e k hk)
    · rw [List.mem_singleton.1 e]
      exact hr.fx hf ho
  · rcases List.mem_append.1 hs with e | e
    · rcases r4 k hk with e' | e'
      · exact h.off s e k e'
      · exact (h.ok s e).off e'
    · rw [List.mem_singleton.1 e]
      rcases r4 k hk with e' | e'
      · exact ho k e'
      · exact hr.off e'
theorem bsl23 (r : RV) (w : World) : (Instr.buildSlice 23 1 [(0, r.val)].toArray).run Try.prog w = .ok (.slice (some ⟨w.heap.size, 0, none⟩) 1 1) (w.alloc (.cells r.cs.toArray 32)) := by
  unfold RV.val RV.cs
  go_simp
  try rfl
/-- What append does with one more record, in one step: buildSlice and append. -/
theorem Ol.add {w : World} {b : Nat} {v : Value} {rs : List RV} (h : Ol w b v rs) (hbw : b ≤ w.heap.size) (hl : rs.length ≤ 500000000) (r : RV) (hr : r.ok w) (ho : ∀ k, v.ownBlock = some k → r.off k) : ∃ w1, (∀ u, (Instr.buildSlice 23 1 [(0, r.val)].toArray).run Try.prog w = .ok u w1 → True) ∧ (Instr.buildSlice 23 1 [(0, r.val)].toArray).run Try.prog w = .ok (.slice (some ⟨w.heap.size, 0, none⟩) 1 1) w1 ∧ ∀ ty, ∃ v' w', (Builtin.append_ #[23, 23] ty #[v, .slice (some ⟨w.heap.size, 0, none⟩) 1 1]).run Try.prog w1 = .ok v' w' ∧ Ol w' b v' (rs ++ [r]) ∧ Fx (fun k => v.ownBlock = some k) w w' := by
  have hb := below_new w (.cells r.cs.toArray 32)
  refine ⟨_, fun _ _ => trivial, bsl23 r w, fun ty => ?_⟩
  obtain ⟨v', w', h1, h2, h3⟩ := (h.below hb).push (by have := hb.size; omega) hl r w.heap.size 1 (Blk.new _ _ _) (hr.below hb) ho ty
  exact ⟨v', w', h1, h2, (Fx.of_below hb).and h3⟩
theorem bsl22n (w : World) : (Instr.buildSlice 22 0 ([] : List (Nat × Value)).toArray).run Try.prog w = .ok (.slice (some ⟨w.heap.size, 0, none⟩) 0 0) (w.alloc (.cells #[] 5)) := by
  go_simp
  try rfl
theorem eqnil_t (W : World) (x y : Operand) : (do eqGuard .eql 22 x y (.slice none 0 0) (.slice none 0 0); binOp .eql 22 (.slice none 0 0) (.slice none 0 0) : Sem Value).run Try.prog W = .ok (.bool true) W := by rfl
theorem eqnil_f (ad : Addr) (n c : Nat) (W : World) (x y : Operand) : (do eqGuard .eql 22 x y (.slice (some ad) n c) (.slice none 0 0); binOp .eql 22 (.slice (some ad) n c) (.slice none 0 0) : Sem Value).run Try.prog W = .ok (.bool false) W := by rfl
/-- Bytes in memory of their own. -/
def Fresh (w : World) (v : Value) : Prop := ∀ k, v.ownBlock = some k → w.heap.size ≤ k
set_option maxRecDepth 100000 in
set_option maxHeartbeats 1000000 in
theorem clone_any (v : Value) (bs : List UInt8) (w : World) (h : Has w v bs) (hl : bs.length ≤ 140737488355328) : Calls Try.prog 43 #[v] w fun e w' => ∃ v', e = .returned v' ∧ Has w' v' bs ∧ Fresh w v' ∧ Below w.heap.size w w' := by
  rcases h with ⟨rfl, rfl⟩ | ⟨ad, cap, rfl, h2, h3⟩
  · refine calls_of_args [.slice none 0 0] Try.func43 rfl 8 Try.ntmps43 (by show 1 ≤ 8; decide) ?_
    refine EW.seq ?_
    refine EW.region ?_
    first | refine WL.assign rfl rfl rfl ?_
    refine WL.done ?_
    refine EW.on ?_
    refine EW.seq ?_
    refine EW.seq ?_
    refine EW.region ?_
    first | refine WL.move rfl rfl rfl ?_
    first | refine WL.bin rfl rfl rfl rfl (eqnil_t _ _ _) ?_ | refine WL.bin rfl rfl rfl rfl (eqnil_f _ _ _ _ _ _) ?_
    refine WL.done ?_
    refine EW.on ?_
    refine EW.cond_t rfl ?_
    refine EW.seq ?_
    refine EW.region ?_
    first | refine WL.assign rfl rfl rfl ?_
    refine WL.done ?_
    refine EW.on ?_
    refine EW.ret ?_
    refine pr_then ?_
    exact EW.returns Try.results43 rfl ⟨_, rfl, Has.nil _, fun _ h => (by cases h), Below.refl _ _⟩
  · have hb0 : Own (w.alloc (.cells #[] 5)) w.heap.size (.slice (some ⟨w.heap.size, 0, none⟩) 0 0) [] := ⟨rfl, .inr ⟨w.heap.size, 0, #[], rfl, Nat.le_refl _, heap_alloc_new w _, Nat.le_refl _, Nat.zero_le _, rfl, rfl⟩⟩
    have eb := below_new w (.cells #[] 5)
    obtain ⟨v', w', r1, r2, r3⟩ := run_app _ w.heap.size _ [] hb0 ad cap bs (fun i u hu => (eb.cell (cell_lt (h3 i u hu))).trans (h3 i u hu)) (by simp; omega) eb.size 22
    refine calls_of_args [.slice (some ad) bs.length cap] Try.func43 rfl 8 Try.ntmps43 (by show 1 ≤ 8; decide) ?_
    refine EW.seq ?_
    refine EW.region ?_
    first | refine WL.assign rfl rfl rfl ?_
    refine WL.done ?_
    refine EW.on ?_
    refine EW.seq ?_
    refine EW.seq ?_
    refine EW.region ?_
    first | refine WL.move rfl rfl rfl ?_
    first | refine WL.bin rfl rfl rfl rfl (eqnil_t _ _ _) ?_ | refine WL.bin rfl rfl rfl rfl (eqnil_f _ _ _ _ _ _) ?_
    refine WL.done ?_
    refine EW.on ?_
    refine EW.cond_f rfl ?_
    refine EW.skip ?_
    refine EW.on ?_
    refine EW.seq ?_
    refine EW.region ?_
    refine WL.bslN [] rfl rfl rfl (bsl22n _) ?_
    first | refine WL.move rfl rfl rfl ?_
    refine WL.app rfl rfl rfl rfl r1 ?_
    first | refine WL.assign rfl rfl rfl ?_
    refine WL.done ?_
    refine EW.on ?_
    refine EW.ret ?_
    exact EW.returns Try.results43 rfl ⟨_, rfl, by simpa using r2.has, fun k hk => r2.ownBlock k hk, eb.trans ((grown_fx r3).below (fun k hk e => by simp [Value.ownBlock] at e; omega) eb.size)⟩
end Go.Proofs.Yteghbkeaojbdgaa
