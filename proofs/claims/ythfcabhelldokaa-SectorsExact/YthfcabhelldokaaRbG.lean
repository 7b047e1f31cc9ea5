import Derived.Test.YthfcabhelldokaaEzG
import Derived.Test.YthfcabhelldokaaCa
import Derived.Test.YthfcabhelldokaaUpG
import Derived.Test.YthfcabhelldokaaCl
set_option linter.unusedVariables false
set_option linter.unusedSimpArgs false
namespace Go.Proofs.Ythfcabhelldokaa
open Go.RowKit

section
variable {P : Program} {n : Nat} {e : List (Nat × Value)} {w : World}
theorem EW.returns2 {fn : Func} {R : Ending → World → Prop} {t u : Nat} {v v' : Value} (hres : fn.results = #[.tmp t, .tmp u]) (hv : e.lookup t = some v) (hv' : e.lookup u = some v') (h : R (.returned (.tuple #[v, v'])) w) : ∀ a, Env n a e → bodyPost P fn R .ret a w := fun a ha =>
  bodyPost_ret (v := .tuple #[v, v']) (by rw [results_tmp2 hres, ha.kn t v hv, ha.kn u v' hv']) ha.df h
theorem EW.falls {fn : Func} {R : Ending → World → Prop} (hres : fn.results = #[]) (h : R (.returned (.tuple #[])) w) : ∀ a, Env n a e → bodyPost P fn R .normal a w := fun a ha =>
  bodyPost_end (v := .tuple #[]) (by rw [results_none hres]) ha.df h
end
theorem Has64.fx' {S : Nat → Prop} {w w' : World} {v : Value} {bs : List (BitVec 64)} (h : Has64 w v bs) (hf : Fx S w w') (hd : ∀ k, bs ≠ [] → v.ownBlock = some k → ¬ S k) : Has64 w' v bs := by
  by_cases hb : bs = []
  · subst hb
    rcases h with h | ⟨ad, cap, e, h2, _⟩
    · exact .inl h
    · exact .inr ⟨ad, cap, e, h2, fun i u hu => by simp at hu⟩
  · exact h.fx hf (fun k hk => hd k hb hk)
theorem Has.fx' {S : Nat → Prop} {w w' : World} {v : Value} {bs : List UInt8} (h : Has w v bs) (hf : Fx S w w') (hd : ∀ k, bs ≠ [] → v.ownBlock = some k → ¬ S k) : Has w' v bs := by
  by_cases hb : bs = []
  · subst hb
    rcases h with h | ⟨ad, cap, e, h2, _⟩
    · exact .inl h
    · exact .inr ⟨ad, cap, e, h2, fun i u hu => by simp at hu⟩
  · exact h.fx hf (fun k hk => hd k hb hk)
/-- Where the document's device lies, and the loss that stands there. -/
structure Rl where
  p : Nat
  vb : Value
  vl : Value
  vk : Value
  vs : List Value
  ks : List (BitVec 64)
  torn : Int
  off : Int
def Rl.F (L : Rl) (k : Nat) : Prop := k = L.p ∨ L.vb.ownBlock = some k ∨ L.vl.ownBlock = some k ∨ L.vk.ownBlock = some k ∨ ∃ v ∈ L.vs, v.ownBlock = some k
def rvC (L : Rl) (D : Dv) : List Value := [L.vb, L.vl, .bool D.down, .int .i64 (D.left : Int), L.vk, .int .i64 L.torn, .int .i64 L.off, .int .i64 (D.calls : Int)]
def pvC : List Value → List (Nat × List UInt8) → List Value
  | v :: vs, x :: r => .int .i64 (x.1 : Int) :: v :: pvC vs r
  | _, _ => []
theorem pvC_snoc : ∀ (vs : List Value) (pen : List (Nat × List UInt8)) (v : Value) (x : Nat × List UInt8), vs.length = pen.length → pvC (vs ++ [v]) (pen ++ [x]) = pvC vs pen ++ [.int .i64 (x.1 : Int), v]
  | [], [], v, x, _ => rfl
  | v0 :: vs, x0 :: r, v, x, h => by
    have := pvC_snoc vs r v x (by simpa using h)
    simp only [List.cons_append, pvC, this]
theorem pvC_at : ∀ (vs : List Value) (pen : List (Nat × List UInt8)) (k : Nat) (v : Value) (x : Nat × List UInt8), vs[k]? = some v → pen[k]? = some x → (pvC vs pen)[k * 2]? = some (.int .i64 (x.1 : Int)) ∧ (pvC vs pen)[k * 2 + 1]? = some v
  | [], _, k, v, x, h, _ => by simp at h
  | _ :: _, [], k, v, x, _, h => by simp at h
  | v0 :: vs, x0 :: r, 0, v, x, h1, h2 => by
    simp at h1 h2
    subst h1 h2
    exact ⟨rfl, rfl⟩
  | v0 :: vs, x0 :: r, k + 1, v, x, h1, h2 => by
    have := pvC_at vs r k v x (by simpa using h1) (by simpa using h2)
    rw [show (k + 1) * 2 = k * 2 + 2 by omega]
    exact this
/-- The document's device lies there. -/
structure RDev (w : World) (L : Rl) (D : Dv) : Prop where
  dev : Blk w L.p (rvC L D) 96
  img : w.ownsRow 0 5 1 L.vb D.img.length (D.img.map byt)
  pen : w.ownsRow 0 78 2 L.vl D.pen.length (pvC L.vs D.pen)
  bys : ∀ (k : Nat) (v : Value) (x : Nat × List UInt8), L.vs[k]? = some v → D.pen[k]? = some x → Has w v x.2
  vsl : L.vs.length = D.pen.length
  kp : Has64 w L.vk L.ks
  los : D.left ≠ 0 → L.ks = D.keep ∧ L.torn = D.torn ∧ L.off = D.off
  ok : D.ok
  bp : L.vb.ownBlock ≠ some L.p
  lp : L.vl.ownBlock ≠ some L.p
  bl : ∀ k, L.vb.ownBlock = some k → L.vl.ownBlock ≠ some k
  kn : ∀ k, L.vk.ownBlock = some k → k ≠ L.p ∧ L.vb.ownBlock ≠ some k ∧ L.vl.ownBlock ≠ some k ∧ k < w.heap.size
  vn : ∀ v ∈ L.vs, ∀ k, v.ownBlock = some k → k ≠ L.p ∧ L.vb.ownBlock ≠ some k ∧ L.vl.ownBlock ≠ some k ∧ k < w.heap.size
theorem RDev.lt {w : World} {L : Rl} {D : Dv} (h : RDev w L D) (k : Nat) (hk : L.F k) : k < w.heap.size := by
  rcases hk with rfl | hk | hk | hk | ⟨v, hv, hk⟩
  · exact h.dev.lt
  · exact ownsRow_lt h.img k hk
  · exact ownsRow_lt h.pen k hk
  · exact (h.kn k hk).2.2.2
  · exact (h.vn v hv k hk).2.2.2
theorem RDev.fx {S : Nat → Prop} {w w' : World} {L : Rl} {D : Dv} (h : RDev w L D) (hf : Fx S w w') (hd : ∀ k, L.F k → ¬ S k) : RDev w' L D :=
  { dev := h.dev.fx hf (hd _ (.inl rfl)), img := ownsRow_fx h.img hf (fun k hk => hd k (.inr (.inl hk))), pen := ownsRow_fx h.pen hf (fun k hk => hd k (.inr (.inr (.inl hk)))),
    bys := fun k v x h1 h2 => (h.bys k v x h1 h2).fx hf (fun j hj => hd j (.inr (.inr (.inr (.inr ⟨v, List.mem_of_getElem? h1, hj⟩))))), vsl := h.vsl,
    kp := h.kp.fx hf (fun k hk => hd k (.inr (.inr (.inr (.inl hk))))), los := h.los, ok := h.ok, bp := h.bp, lp := h.lp, bl := h.bl, kn := fun k hk => ⟨(h.kn k hk).1, (h.kn k hk).2.1, (h.kn k hk).2.2.1, Nat.lt_of_lt_of_le (h.kn k hk).2.2.2 hf.size⟩, vn := fun v hv k hk => ⟨(h.vn v hv k hk).1, (h.vn v hv k hk).2.1, (h.vn v hv k hk).2.2.1, Nat.lt_of_lt_of_le (h.vn v hv k hk).2.2.2 hf.size⟩ }
theorem RDev.below {w w' : World} {L : Rl} {D : Dv} (h : RDev w L D) (hb : Below w.heap.size w w') : RDev w' L D := h.fx (Fx.of_below (S := fun _ => False) hb) (fun _ _ s => s)
/-- It has turned, in its own blocks and new ones. -/
structure RT (w w' : World) (L L' : Rl) : Prop where
  fx : Fx L.F w w'
  own : ∀ k, L'.F k → L.F k ∨ w.heap.size ≤ k
  p : L'.p = L.p
theorem RT.refl (w : World) (L : Rl) : RT w w L L := ⟨Fx.refl _ _, fun _ h => .inl h, rfl⟩
theorem RT.trans {w w1 w2 : World} {L L1 L2 : Rl} (h : RT w w1 L L1) (k : RT w1 w2 L1 L2) : RT w w2 L L2 :=
  ⟨h.fx.trans k.fx (fun i hi h1 => (h.own i h1).resolve_right (by omega)), fun i h2 => by
    rcases k.own i h2 with h3 | h3
    · exact h.own i h3
    · exact .inr (Nat.le_trans h.fx.size h3), k.p.trans h.p⟩
theorem RT.below {w w' : World} {L : Rl} (hb : Below w.heap.size w w') : RT w w' L L := ⟨Fx.of_below hb, fun _ h => .inl h, rfl⟩
/-- Numbers of the device's own block have turned. -/
theorem RDev.num {w : World} {L : Rl} {D : Dv} (h : RDev w L D) (i : Nat) (v : Value) (D' : Dv) (hC : (rvC L D).set i v = rvC L D') (hi : D'.img = D.img) (hp : D'.pen = D.pen) (hl : D'.left ≠ 0 → L.ks = D'.keep ∧ L.torn = D'.torn ∧ L.off = D'.off) (ho : D'.ok) :
    RDev (w.setCell ⟨L.p, i, none⟩ v) L D' ∧ RT w (w.setCell ⟨L.p, i, none⟩ v) L L := by
  have hf : Fx (fun j => j = L.p) w (w.setCell ⟨L.p, i, none⟩ v) := Fx.setCell w L.p i _ rfl
  refine ⟨{ dev := ?_, img := ?_, pen := ?_, bys := ?_, vsl := (by rw [hp]; exact h.vsl), kp := h.kp.fx hf (fun k hk e => (h.kn k hk).1 e), los := hl, ok := ho, bp := h.bp, lp := h.lp, bl := h.bl, kn := fun k hk => ⟨(h.kn k hk).1, (h.kn k hk).2.1, (h.kn k hk).2.2.1, Nat.lt_of_lt_of_le (h.kn k hk).2.2.2 hf.size⟩, vn := fun u hu k hk => ⟨(h.vn u hu k hk).1, (h.vn u hu k hk).2.1, (h.vn u hu k hk).2.2.1, Nat.lt_of_lt_of_le (h.vn u hu k hk).2.2.2 hf.size⟩ }, ⟨hf.mono (fun k _ e => .inl e), fun _ h => .inl h, rfl⟩⟩
  · rw [← hC]; exact h.dev.set i v
  · rw [hi]; exact ownsRow_fx h.img hf (fun k hk e => h.bp (by rw [← e]; exact hk))
  · rw [hp]; exact ownsRow_fx h.pen hf (fun k hk e => h.lp (by rw [← e]; exact hk))
  · rw [hp]; exact fun k u x h1 h2 => (h.bys k u x h1 h2).fx hf (fun j hj e => (h.vn u (List.mem_of_getElem? h1) j hj).1 e)
/-- The list is emptied. -/
def Rl.bare (L : Rl) : Rl := ⟨L.p, L.vb, .slice none 0 0, L.vk, [], L.ks, L.torn, L.off⟩
theorem RDev.noList {w : World} {L : Rl} {D : Dv} (h : RDev w L D) : RDev (w.setCell ⟨L.p, 1, none⟩ (.slice none 0 0)) L.bare { D with pen := [] } ∧ RT w (w.setCell ⟨L.p, 1, none⟩ (.slice none 0 0)) L L.bare := by
  have hf : Fx (fun j => j = L.p) w (w.setCell ⟨L.p, 1, none⟩ (.slice none 0 0)) := Fx.setCell w L.p 1 _ rfl
  refine ⟨{ dev := h.dev.set 1 _, img := ownsRow_fx h.img hf (fun k hk e => h.bp (by rw [← e]; exact hk)), pen := World.ownsRow_nil _ _ _ _, bys := fun k v x h1 _ => (by simp [Rl.bare] at h1), vsl := rfl, kp := h.kp.fx hf (fun k hk e => (h.kn k hk).1 e), los := h.los, ok := ⟨h.ok.n1, h.ok.n2, h.ok.len, fun x hx => by simp at hx, by simp, h.ok.cal⟩, bp := h.bp, lp := (by simp [Rl.bare, Value.ownBlock]), bl := fun k _ => (by simp [Rl.bare, Value.ownBlock]), kn := fun k hk => ⟨(h.kn k hk).1, (h.kn k hk).2.1, by simp [Rl.bare, Value.ownBlock], Nat.lt_of_lt_of_le (h.kn k hk).2.2.2 hf.size⟩, vn := fun u hu => by simp [Rl.bare] at hu }, ⟨hf.mono (fun k _ e => .inl e), fun k hk => ?_, rfl⟩⟩
  rcases hk with hk | hk | hk | hk | ⟨v, hv, hk⟩
  · exact .inl (.inl hk)
  · exact .inl (.inr (.inl hk))
  · simp [Rl.bare, Value.ownBlock] at hk
  · exact .inl (.inr (.inr (.inr (.inl hk))))
  · simp [Rl.bare] at hv
/-- The image: where it lies. -/
theorem RDev.image {w : World} {L : Rl} {D : Dv} (h : RDev w L D) : ∃ g cap, L.vb = .slice (some ⟨g, 0, none⟩) (D.n * 512) cap ∧ D.n * 512 ≤ cap ∧ (∀ k b, D.img[k]? = some b → w.cell? ⟨g, k, none⟩ = some (byt b)) ∧ (∀ k, w.frozen? ⟨g, k, none⟩ = false) := by
  have hi := h.img
  have hl := h.ok.len
  have hn := h.ok.n1
  obtain ⟨h0, ⟨e, hz⟩ | ⟨g, cap, cur, e, _, hh, hn2, hc, hs, ht⟩⟩ := hi
  · omega
  · refine ⟨g, cap, by rw [e, hl], by omega, fun k b hb => ?_, fun k => by simp [World.frozen?, hh]⟩
    have hk : k < D.img.length := (List.getElem?_eq_some_iff.1 hb).1
    have hv : (D.img.map byt)[k]? = some (byt b) := by rw [List.getElem?_map, hb]; rfl
    rw [← ht, List.getElem?_take_of_lt (by omega), Array.getElem?_toList] at hv
    simp [World.cell?, hh, hv]
/-- A byte of the image. -/
theorem RDev.byte {w : World} {L : Rl} {D : Dv} (h : RDev w L D) (g cap j : Nat) (u : UInt8) (hg : L.vb = .slice (some ⟨g, 0, none⟩) (D.n * 512) cap) (hj : j < D.img.length) :
    RDev (w.setCell ⟨g, j, none⟩ (byt u)) L { D with img := D.img.set j u } ∧ RT w (w.setCell ⟨g, j, none⟩ (byt u)) L L := by
  have hf : Fx (fun k => k = g) w (w.setCell ⟨g, j, none⟩ (byt u)) := Fx.setCell w g j _ rfl
  have hgb : L.vb.ownBlock = some g := by rw [hg]; rfl
  refine ⟨{ dev := h.dev.fx hf (fun e => h.bp (by rw [e]; exact hgb)), img := ?_, pen := ownsRow_fx h.pen hf (fun k hk e => h.bl g hgb (by rw [← e]; exact hk)), bys := fun k v x h1 h2 => (h.bys k v x h1 h2).fx hf (fun i hi e => (h.vn v (List.mem_of_getElem? h1) i hi).2.1 (by rw [e]; exact hgb)), vsl := h.vsl, kp := h.kp.fx hf (fun k hk e => (h.kn k hk).2.1 (by rw [e]; exact hgb)), los := h.los, ok := ⟨h.ok.n1, h.ok.n2, by simp [h.ok.len], h.ok.sec, h.ok.few, h.ok.cal⟩, bp := h.bp, lp := h.lp, bl := h.bl, kn := fun k hk => ⟨(h.kn k hk).1, (h.kn k hk).2.1, (h.kn k hk).2.2.1, Nat.lt_of_lt_of_le (h.kn k hk).2.2.2 hf.size⟩, vn := fun u hu k hk => ⟨(h.vn u hu k hk).1, (h.vn u hu k hk).2.1, (h.vn u hu k hk).2.2.1, Nat.lt_of_lt_of_le (h.vn u hu k hk).2.2.2 hf.size⟩ }, ⟨hf.mono (fun k _ e => .inr (.inl (by rw [e]; exact hgb))), fun _ h => .inl h, rfl⟩⟩
  obtain ⟨h0, ⟨e, hz⟩ | ⟨g', cap', cur, e, hg0, hh, hn2, hc, hs, ht⟩⟩ := h.img
  · omega
  · obtain rfl : g' = g := by rw [e] at hgb; simpa [Value.ownBlock] using hgb
    refine ⟨by simp, .inr ⟨g', cap', cur.setIfInBounds j (byt u), by rw [e]; simp, Nat.zero_le _, heap_setCell_same _ _ _ _ _ _ hh, by simpa using hn2, hc, by rw [Array.size_setIfInBounds]; exact hs, ?_⟩⟩
    rw [Array.toList_setIfInBounds, List.length_set, List.take_set, ht, List.map_set]
/-- A pending write in its place. -/
theorem RDev.item {w : World} {L : Rl} {D : Dv} (h : RDev w L D) (k : Nat) (v : Value) (x : Nat × List UInt8) (h1 : L.vs[k]? = some v) (h2 : D.pen[k]? = some x) :
    ∃ g, (∀ W, (Instr.indexAt 30 L.vl (.int .i64 (k : Int))).run Try.prog W = .ok (.pointer (some ⟨g, k * 2, none⟩)) W) ∧ At w ⟨g, k * 2, none⟩ (pwC x.1 v) := by
  have hk : k < D.pen.length := (List.getElem?_eq_some_iff.1 h2).1
  obtain ⟨h0, ⟨e, hz⟩ | ⟨g, cap, cur, e, hg0, hh, hn2, hc, hs, ht⟩⟩ := h.pen
  · omega
  · refine ⟨g, fun W => by rw [e]; exact idx30 g D.pen.length cap k hk W, fun j u hj => ?_⟩
    have hat := pvC_at L.vs D.pen k v x h1 h2
    rw [← ht] at hat
    rw [add_off]
    have hj2 : j < 2 := by have := (List.getElem?_eq_some_iff.1 hj).1; simpa [pwC] using this
    match j, hj2, hj with
    | 0, _, hj =>
      have := hat.1
      rw [List.getElem?_take_of_lt (by omega), Array.getElem?_toList] at this
      simp [pwC] at hj
      subst hj
      simp [World.cell?, hh, this]
    | 1, _, hj =>
      have := hat.2
      rw [List.getElem?_take_of_lt (by omega), Array.getElem?_toList] at this
      simp [pwC] at hj
      subst hj
      simp [World.cell?, hh, this]
theorem RDev.plen {w : World} {L : Rl} {D : Dv} (h : RDev w L D) (W : World) (ty : TypeId) : (Builtin.len_ #[30] ty #[L.vl]).run Try.prog W = .ok (.int .i64 (D.pen.length : Int)) W := by
  obtain ⟨h0, ⟨e, hz⟩ | ⟨g, cap, cur, e, _⟩⟩ := h.pen
  · rw [e, hz]; exact len30 _ _ _ _ _
  · rw [e]; exact len30 _ _ _ _ _
end Go.Proofs.Ythfcabhelldokaa

set_option linter.unusedVariables false
set_option linter.unusedSimpArgs false
namespace Go.Proofs.Ythfcabhelldokaa
open Go.RowKit
theorem quo512 (n : Nat) (h : n ≤ 4096) (W : World) (x y : Operand) : (do eqGuard .quo 3 x y (.int .i64 ((n * 512 : Nat) : Int)) (.int .i64 512); binOp .quo 3 (.int .i64 ((n * 512 : Nat) : Int)) (.int .i64 512) : Sem Value).run Try.prog W = .ok (.int .i64 (n : Int)) W := by
  have e : ((n * 512 : Nat) : Int) / 512 = (n : Int) := by omega
  have l : (n : Int) ≤ 4096 := by omega
  have l0 : 0 ≤ (n : Int) := by omega
  obtain ⟨N, hN⟩ : ∃ N : Int, ((n * 512 : Nat) : Int) = N := ⟨_, rfl⟩
  have hN0 : 0 ≤ N := by omega
  rw [hN] at e ⊢
  clear hN
  go_simp
  rw [Int.tdiv_eq_ediv_of_nonneg hN0, e, IntKind.wrap_i64]; omega
theorem quo64 (k : Nat) (h : k < 1000000000000) (W : World) (x y : Operand) : (do eqGuard .quo 3 x y (.int .i64 (k : Int)) (.int .i64 64); binOp .quo 3 (.int .i64 (k : Int)) (.int .i64 64) : Sem Value).run Try.prog W = .ok (.int .i64 ((k / 64 : Nat) : Int)) W := by
  have q1 : (k : Int) / 64 = ((k / 64 : Nat) : Int) := by omega
  have q4 : k / 64 < 1000000000000 := by omega
  obtain ⟨q, hq⟩ : ∃ q, k / 64 = q := ⟨_, rfl⟩
  rw [hq] at q1 q4 ⊢
  clear hq
  go_simp
  rw [IntKind.wrap_i64]; omega
theorem rem64 (k : Nat) (h : k < 1000000000000) (W : World) (x y : Operand) : (do eqGuard .rem 3 x y (.int .i64 (k : Int)) (.int .i64 64); binOp .rem 3 (.int .i64 (k : Int)) (.int .i64 64) : Sem Value).run Try.prog W = .ok (.int .i64 ((k % 64 : Nat) : Int)) W := by
  have q1 : (k : Int) % 64 = ((k % 64 : Nat) : Int) := by omega
  have q4 : k % 64 < 64 := by omega
  obtain ⟨q, hq⟩ : ∃ q, k % 64 = q := ⟨_, rfl⟩
  rw [hq] at q1 q4 ⊢
  clear hq
  go_simp
  rw [Int.tmod_eq_emod_of_nonneg (by omega)]; exact q1
theorem shr39 (u : BitVec 64) (r : Nat) (h : r < 64) (W : World) (x y : Operand) : (do eqGuard .shr 39 x y (wv u) (.int .i64 (r : Int)); binOp .shr 39 (wv u) (.int .i64 (r : Int)) : Sem Value).run Try.prog W = .ok (wv (u >>> r)) W := by
  have s1 := wshr u r
  unfold wv
  go_simp
theorem and39 (u : BitVec 64) (W : World) (x y : Operand) : (do eqGuard .and 39 x y (wv u) (.int .u64 1); binOp .and 39 (wv u) (.int .u64 1) : Sem Value).run Try.prog W = .ok (wv (u &&& 1#64)) W := by
  have s2 := wand1 u
  unfold wv
  go_simp
theorem eq39 (u : BitVec 64) (W : World) (x y : Operand) : (do eqGuard .eql 39 x y (wv u) (.int .u64 1); binOp .eql 39 (wv u) (.int .u64 1) : Sem Value).run Try.prog W = .ok (.bool (decide (wn u = 1))) W := by
  unfold wv
  obtain ⟨N, hN⟩ : ∃ N, wn u = N := ⟨_, rfl⟩
  rw [hN]
  go_simp
  rfl
theorem min512 (o : Int) (W : World) (ty : TypeId) : (Builtin.min_ #[3, 3] ty #[.int .i64 512, .int .i64 o]).run Try.prog W = .ok (.int .i64 (min 512 o)) W := by
  by_cases h : o < 512
  · rw [Int.min_eq_right (by omega)]; go_simp
  · rw [Int.min_eq_left (by omega)]; go_simp
theorem max0 (o : Int) (W : World) (ty : TypeId) : (Builtin.max_ #[3, 3] ty #[.int .i64 0, .int .i64 o]).run Try.prog W = .ok (.int .i64 (max 0 o)) W := by
  by_cases h : o < 0
  · rw [Int.max_eq_left (by omega)]; go_simp; omega
  · rw [Int.max_eq_right (by omega)]; go_simp; omega
theorem st3 {ad : Addr} {u : Value} {z : Int} {W : World} (h : W.cell? ad = some u) (hf : W.frozen? ad = false) : (Instr.storeAt 3 (.pointer (some ad)) (.int .i64 z)).run Try.prog W = .ok () (W.setCell ad (.int .i64 z)) := by go_simp
theorem st4 {ad : Addr} {u : Value} {z : Bool} {W : World} (h : W.cell? ad = some u) (hf : W.frozen? ad = false) : (Instr.storeAt 4 (.pointer (some ad)) (.bool z)).run Try.prog W = .ok () (W.setCell ad (.bool z)) := by go_simp
theorem st5 {ad : Addr} {u : Value} {z : UInt8} {W : World} (h : W.cell? ad = some u) (hf : W.frozen? ad = false) : (Instr.storeAt 5 (.pointer (some ad)) (byt z)).run Try.prog W = .ok () (W.setCell ad (byt z)) := by unfold byt; go_simp
theorem ld4 {ad : Addr} {v : Value} {W : World} (h : W.cell? ad = some v) : (Instr.loadAt 4 (.pointer (some ad))).run Try.prog W = .ok v W := by go_simp
theorem ld36 {ad : Addr} {v : Value} {W : World} (h : W.cell? ad = some v) : (Instr.loadAt 36 (.pointer (some ad))).run Try.prog W = .ok v W := by go_simp
theorem ld39 {ad : Addr} {v : Value} {W : World} (h : W.cell? ad = some v) : (Instr.loadAt 39 (.pointer (some ad))).run Try.prog W = .ok v W := by go_simp
theorem fld96_0 (g : Nat) (W : World) : (Instr.fieldAt 96 (.pointer (some ⟨g, 0, none⟩)) 0).run Try.prog W = .ok (.pointer (some ⟨g, 0, none⟩)) W := by go_simp
theorem fld96_1 (g : Nat) (W : World) : (Instr.fieldAt 96 (.pointer (some ⟨g, 0, none⟩)) 1).run Try.prog W = .ok (.pointer (some ⟨g, 1, none⟩)) W := by go_simp
theorem fld96_2 (g : Nat) (W : World) : (Instr.fieldAt 96 (.pointer (some ⟨g, 0, none⟩)) 2).run Try.prog W = .ok (.pointer (some ⟨g, 2, none⟩)) W := by go_simp
theorem fld96_3 (g : Nat) (W : World) : (Instr.fieldAt 96 (.pointer (some ⟨g, 0, none⟩)) 3).run Try.prog W = .ok (.pointer (some ⟨g, 3, none⟩)) W := by go_simp
theorem fld96_4 (g : Nat) (W : World) : (Instr.fieldAt 96 (.pointer (some ⟨g, 0, none⟩)) 4).run Try.prog W = .ok (.pointer (some ⟨g, 4, none⟩)) W := by go_simp
theorem fld96_5 (g : Nat) (W : World) : (Instr.fieldAt 96 (.pointer (some ⟨g, 0, none⟩)) 5).run Try.prog W = .ok (.pointer (some ⟨g, 7, none⟩)) W := by go_simp
theorem fld38_0 (g : Nat) (W : World) : (Instr.fieldAt 38 (.pointer (some ⟨g, 0, none⟩)) 0).run Try.prog W = .ok (.pointer (some ⟨g, 0, none⟩)) W := by go_simp
theorem fld38_1' (g : Nat) (W : World) : (Instr.fieldAt 38 (.pointer (some ⟨g, 0, none⟩)) 1).run Try.prog W = .ok (.pointer (some ⟨g, 1, none⟩)) W := by go_simp
theorem fld38_2 (g : Nat) (W : World) : (Instr.fieldAt 38 (.pointer (some ⟨g, 0, none⟩)) 2).run Try.prog W = .ok (.pointer (some ⟨g, 2, none⟩)) W := by go_simp
theorem ige_t {a b : Int} (h : b ≤ a) (W : World) (x y : Operand) : (do eqGuard .geq 3 x y (.int .i64 a) (.int .i64 b); binOp .geq 3 (.int .i64 a) (.int .i64 b) : Sem Value).run Try.prog W = .ok (.bool true) W := by go_simp
theorem ige_f {a b : Int} (h : ¬ b ≤ a) (W : World) (x y : Operand) : (do eqGuard .geq 3 x y (.int .i64 a) (.int .i64 b); binOp .geq 3 (.int .i64 a) (.int .i64 b) : Sem Value).run Try.prog W = .ok (.bool false) W := by go_simp
theorem app_nil (W : World) (ty : TypeId) : (Builtin.append_ #[34, 34] ty #[.slice none 0 0, .slice none 0 0]).run Try.prog W = .ok (.slice none 0 0) W := by go_simp
theorem info5i : (Try.prog.info? 5).map (fun i => (i.zero, i.size, i.bytes)) = some (some (.int .u8 0), 1, 1) := by kernel_rfl
end Go.Proofs.Ythfcabhelldokaa
