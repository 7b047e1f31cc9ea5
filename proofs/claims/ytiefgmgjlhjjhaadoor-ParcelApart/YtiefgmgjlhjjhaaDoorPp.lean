import Derived.Test.YtiefgmgjlhjjhaaDoorPo
set_option linter.unusedVariables false
set_option linter.unusedSimpArgs false
namespace Go.Proofs.YtiefgmgjlhjjhaaDoor
open Go.RowKit

theorem neg_i (a : Int) {c : Int} (h : IntKind.i64.wrap (-a) = c) (W : World) : (Op.unary .neg (.int .i64 a)).run Tryd.prog W = .ok (.int .i64 c) W := by
  subst h
  go_simp
theorem rem_i (a b : Int) (h : b ≠ 0) {c : Int} (hc : Int.tmod a b = c) (W : World) (x y : Operand) : (do eqGuard .rem 3 x y (.int .i64 a) (.int .i64 b); binOp .rem 3 (.int .i64 a) (.int .i64 b) : Sem Value).run Tryd.prog W = .ok (.int .i64 c) W := by
  subst hc
  go_simp

/-- Numbers in a slice. -/
def Hi (w : World) (v : Value) (zs : List Int) : Prop := Li 1 w v (ir zs)
theorem Oi.hi {w : World} {b : Nat} {v : Value} {l : List Int} (h : Oi w b v l) : Hi w v l := h.ow.li
theorem Hi.on {w w' : World} {v : Value} {zs : List Int} (h : Hi w v zs) (hb : Below w.heap.size w w') : Hi w' v zs := Li.on h hb
theorem Hi.slice {w : World} {v : Value} {zs : List Int} (h : Hi w v zs) : ∃ ao c, v = .slice ao zs.length c := by
  rcases h.sl with ⟨h1, h2⟩ | ⟨ad, cap, h1, _⟩
  · have : zs = [] := by cases zs with | nil => rfl | cons a r => simp [ir] at h2
    subst this; exact ⟨_, _, h1⟩
  · rw [ir_len] at h1; exact ⟨_, _, h1⟩
theorem Hi.len {w : World} {v : Value} {zs : List Int} (h : Hi w v zs) (ty : TypeId) (W : World) : (Builtin.len_ #[23] ty #[v]).run Tryd.prog W = .ok (.int .i64 (zs.length : Int)) W := by
  obtain ⟨ao, c, rfl⟩ := h.slice
  exact len23 _ _ _ _ _
theorem x23 (ad : Addr) (n cap m : Nat) (h : m < n) (W : World) : (Instr.indexAt 23 (.slice (some ad) n cap) (.int .i64 (m : Int))).run Tryd.prog W = .ok (.pointer (some (ad.add m))) W := by
  have hm : (m : Int) < (n : Int) := by omega
  go_simp
theorem ldZ {W : World} {ad : Addr} {v : Int} (hc : W.cell? ad = some (.int .i64 v)) : (Instr.loadAt 3 (.pointer (some ad))).run Tryd.prog W = .ok (.int .i64 v) W := by go_simp
theorem Hi.get {w : World} {v : Value} {zs : List Int} (h : Hi w v zs) {i : Nat} {z : Int} (hz : zs[i]? = some z) : ∃ ad, (∀ W, (Instr.indexAt 23 v (.int .i64 (i : Int))).run Tryd.prog W = .ok (.pointer (some ad)) W) ∧ (Instr.loadAt 3 (.pointer (some ad))).run Tryd.prog w = .ok (.int .i64 z) w := by
  obtain ⟨ad, cap, rfl, ha⟩ := h.at_ i [.int .i64 z] (by unfold ir; rw [List.getElem?_map, hz]; rfl)
  have hi : i < zs.length := (List.getElem?_eq_some_iff.1 hz).1
  refine ⟨ad.add i, fun W => x23 _ _ _ _ (by rw [ir_len]; exact hi) W, ldZ ?_⟩
  have := ha 0 _ rfl
  rw [Nat.mul_one, addr_add, Nat.add_zero] at this
  exact this
theorem c23H (ad : Addr) (n cap k : Nat) (hk : k ≤ n) (hc : n ≤ cap) (W : World) : (Instr.sliceAt 23 (.slice (some ad) n cap) none (some (.int .i64 (k : Int))) none).run Tryd.prog W = .ok (.slice (some ad) k cap) W := by
  have h2 : (k : Int) ≤ (cap : Int) := by omega
  go_simp
  try simp
theorem Hi.cutH {w : World} {v : Value} {zs : List Int} (h : Hi w v zs) {k : Nat} (hk : k < zs.length) : ∃ v', (∀ W, (Instr.sliceAt 23 v none (some (.int .i64 (k : Int))) none).run Tryd.prog W = .ok v' W) ∧ Hi w v' (zs.take k) := by
  obtain ⟨ad, cap, rfl, hcap⟩ : ∃ ad cap, v = .slice (some ad) (ir zs).length cap ∧ (ir zs).length ≤ cap := by
    rcases h.sl with ⟨h1, h2⟩ | ⟨ad, cap, h1, h2⟩
    · have : (ir zs).length = 0 := by rw [h2]; rfl
      rw [ir_len] at this; omega
    · exact ⟨ad, cap, h1, h2⟩
  refine ⟨.slice (some ad) k cap, fun W => c23H _ _ _ _ (by rw [ir_len]; omega) hcap W, ?_, fun x hx => h.sz x (by unfold ir at hx ⊢; rw [List.map_take] at hx; exact List.mem_of_mem_take hx), fun i x hx => ?_⟩
  · right; refine ⟨ad, cap, by rw [ir_len, List.length_take, Nat.min_eq_left (by omega)], by rw [ir_len, List.length_take]; rw [ir_len] at hcap; omega⟩
  · unfold ir at hx
    rw [List.map_take, List.getElem?_take] at hx
    split at hx
    · obtain ⟨ad', cap', e, ha⟩ := h.at_ i x hx
      cases e
      exact ⟨ad, cap, by rw [ir_len, List.length_take, Nat.min_eq_left (by omega)], ha⟩
    · cases hx
theorem c23L (ad : Addr) (n cap k : Nat) (hk : k ≤ n) (hc : n ≤ cap) (W : World) : (Instr.sliceAt 23 (.slice (some ad) n cap) (some (.int .i64 (k : Int))) none none).run Tryd.prog W = .ok (.slice (some (if cap = k then ad else ad.add (k * 1))) (n - k) (cap - k)) W := by
  have h2 : (k : Int) ≤ (n : Int) := by omega
  go_simp
  split <;> rfl
theorem Hi.cutL {w : World} {v : Value} {zs : List Int} (h : Hi w v zs) {k : Nat} (hk : k < zs.length) : ∃ v', (∀ W, (Instr.sliceAt 23 v (some (.int .i64 ((k + 1 : Nat) : Int))) none none).run Tryd.prog W = .ok v' W) ∧ Hi w v' (zs.drop (k + 1)) := by
  obtain ⟨ad, cap, rfl, hcap⟩ : ∃ ad cap, v = .slice (some ad) (ir zs).length cap ∧ (ir zs).length ≤ cap := by
    rcases h.sl with ⟨h1, h2⟩ | ⟨ad, cap, h1, h2⟩
    · have : (ir zs).length = 0 := by rw [h2]; rfl
      rw [ir_len] at this; omega
    · exact ⟨ad, cap, h1, h2⟩
  refine ⟨_, fun W => c23L _ _ _ (k + 1) (by rw [ir_len]; omega) hcap W, ?_, fun x hx => h.sz x (by unfold ir at hx ⊢; rw [List.map_drop] at hx; exact List.mem_of_mem_drop hx), fun i x hx => ?_⟩
  · right; refine ⟨_, _, by rw [ir_len, ir_len, List.length_drop], by rw [ir_len, List.length_drop]; rw [ir_len] at hcap; omega⟩
  · unfold ir at hx
    rw [List.map_drop, List.getElem?_drop] at hx
    obtain ⟨ad', cap', e, ha⟩ := h.at_ (k + 1 + i) x hx
    cases e
    have hlt := (List.getElem?_eq_some_iff.1 hx).1
    rw [List.length_map] at hlt
    rw [ir_len] at hcap
    refine ⟨_, _, by rw [ir_len, ir_len, List.length_drop], ?_⟩
    rw [if_neg (by omega), addr_add]
    rw [show (k + 1) * 1 + i * 1 = (k + 1 + i) * 1 by omega]
    exact ha
/-- What lies beside a map stays when the map turns. -/
theorem Has.fxM {w w' : World} {v : Value} {bs : List UInt8} (h : Has w v bs) {r : Nat} {es : Array MapEntry} {c : Nat} (hr : w.heap[r]? = some (.map es c)) (hf : Fx (fun k => k = r) w w') : Has w' v bs := h.fxo hf (fun k hk => by have e : k = r := hk; rw [e]; exact h.offM hr)
theorem Blk.neM {w : World} {q : Nat} {cs : List Value} {t : TypeId} (h : Blk w q cs t) {r : Nat} {es : Array MapEntry} {c : Nat} (hr : w.heap[r]? = some (.map es c)) : ¬ q = r := fun e => by
  unfold Blk at h
  rw [e, hr] at h; cases h
theorem Ob.neM {w : World} {b : Nat} {v : Value} {bs : List UInt8} (h : Ob w b v bs) {r : Nat} {es : Array MapEntry} {c : Nat} (hr : w.heap[r]? = some (.map es c)) : v.ownBlock ≠ some r := fun e => by
  obtain ⟨_, cur, hc⟩ := h.lt e
  rw [hr] at hc; cases hc
theorem Ow.neM {e : TypeId} {k : Nat} {w : World} {v : Value} {l : List (List Value)} (h : Ow e k w v l) {r : Nat} {es : Array MapEntry} {c : Nat} (hr : w.heap[r]? = some (.map es c)) : v.ownBlock ≠ some r := fun he => by
  obtain ⟨hx, ⟨rfl, _⟩ | ⟨g, cp, cur, rfl, hg, hh2, _⟩⟩ := h.row
  · cases he
  · simp only [Value.ownBlock, Option.some.injEq] at he
    rw [he, hr] at hh2; cases hh2
theorem Li.fxM {w w' : World} {v : Value} {l : List (List Value)} (h : Li 1 w v l) {r : Nat} {es : Array MapEntry} {c : Nat} (hr : w.heap[r]? = some (.map es c)) (hf : Fx (fun k => k = r) w w') : Li 1 w' v l := by
  refine h.fx hf (fun b hb => ?_)
  by_cases e : b = r
  · right
    subst e
    cases l with
    | nil => rfl
    | cons x t =>
      obtain ⟨ad, cap, rfl, ha⟩ := h.at_ 0 x rfl
      have hs := h.sz x (by simp)
      have := ha 0 _ (List.getElem?_eq_getElem (show 0 < x.length by omega))
      simp only [Value.ownBlock, Option.some.injEq] at hb
      unfold World.cell? at this
      rw [show ((ad.add (0 * 1)).add 0).block = b by rw [add_block, add_block]; exact hb, hr] at this
      cases this
  · exact .inl e
theorem Spl.fxM {W W' : World} {b g : Nat} {vs : List Value} {ls : List (List UInt8)} (h : Spl W b g vs ls) {r : Nat} {es : Array MapEntry} {c : Nat} (hr : W.heap[r]? = some (.map es c)) (hf : Fx (fun k => k = r) W W') : Spl W' b g vs ls := ⟨h.bl.fx hf (h.bl.neM hr), h.ln, fun i v l hv hl => (h.ob i v l hv hl).fx hf (fun k hk e => by have e' : k = r := hk; rw [e'] at e; exact (h.ob i v l hv hl).neM hr e), h.gb, h.ap, h.ag⟩
theorem Oi.fxM {w w' : World} {b : Nat} {v : Value} {l : List Int} (h : Oi w b v l) {r : Nat} {es : Array MapEntry} {c : Nat} (hr : w.heap[r]? = some (.map es c)) (hf : Fx (fun k => k = r) w w') : Oi w' b v l := Lb.fx h hf (fun j hj e => by have e' : j = r := e; rw [e'] at hj; exact h.ow.neM hr hj)
theorem Kst.fxM {w w' : World} (h : Kst w) {r : Nat} {es : Array MapEntry} {c : Nat} (hr : w.heap[r]? = some (.map es c)) (hf : Fx (fun k => k = r) w w') : Kst w' := by
  intro t ht
  refine hf.cell (h t ht) (fun e => ?_)
  have h0 := h t ht
  unfold World.cell? at h0
  have e' : _ = r := e
  rw [e', hr] at h0
  cases h0
/-- A byte of a number. -/
def byZ (z : Int) : UInt8 := UInt8.ofNat (z % 256).toNat
theorem conv_z (z : Int) (W : World) : (Go.convert 3 5 (.int .i64 z)).run Tryd.prog W = .ok (byt (byZ z)) W := by
  have e : IntKind.u8.wrap z = ((byZ z).toNat : Int) := by rw [IntKind.wrap_u8]; unfold byZ; rw [UInt8.toNat_ofNat']; omega
  unfold byt
  go_simp
def lgB (seed : Int) (i : Nat) : UInt8 := byZ (IntKind.i64.wrap (((i * 7 + i / 251 : Nat) : Int) + seed))
def lgL (n : Nat) (seed : Int) : List UInt8 := (List.range n).map (lgB seed)
theorem lgL_len (n : Nat) (seed : Int) : (lgL n seed).length = n := by simp [lgL]
theorem lgL_succ (n : Nat) (seed : Int) : lgL (n + 1) seed = lgL n seed ++ [lgB seed n] := by simp [lgL, List.range_succ]
def lE (n : Nat) (seed : Int) (x : Nat × Value) : List (Nat × Value) := [(0, .int .i64 (n : Int)), (1, .int .i64 seed), (5, x.2), (6, .int .i64 (x.1 : Int))]
structure LR (n : Nat) (seed : Int) (w : World) (x : Nat × Value) (W : World) : Prop where
  le : x.1 ≤ n
  ow : Own W w.heap.size x.2 (lgL x.1 seed)
  be : Below w.heap.size w W
set_option maxRecDepth 100000 in
set_option maxHeartbeats 4000000 in
theorem long_any (n : Nat) (seed : Int) (hn : n ≤ 1000000) (w : World) : Calls Tryd.prog 7 #[.int .i64 (n : Int), .int .i64 seed] w fun e w' => ∃ v, e = .returned v ∧ Ob w' w.heap.size v (lgL n seed) ∧ Below w.heap.size w w' := by
  refine calls_of_args [.int .i64 (n : Int), .int .i64 seed] Tryd.func7 rfl 24 Tryd.ntmps7 (by show 2 ≤ 24; decide) ?_
  refine EW.seq ?_
  refine EW.region ?_
  first | refine WL.assign rfl rfl rfl ?_
  refine WL.done ?_
  refine EW.on ?_
  refine EW.seq ?_
  refine EW.region ?_
  first | refine WL.assign rfl rfl rfl ?_
  refine WL.done ?_
  refine EW.on ?_
  refine EW.seq ?_
  refine EW.seq ?_
  refine EW.region ?_
  first | refine WL.assign rfl rfl rfl ?_
  refine WL.done ?_
  refine EW.on ?_
  refine EW.block ?_
  refine EW.loop (lE n seed) (LR n seed w) (fun x => n - x.1) (0, .slice none 0 0) [0, 1, 5, 6] rfl ⟨Nat.zero_le _, Own.nil' _ _, Below.refl _ _⟩ ?_
  rintro x W hR
  show EW _ _ _ _ [(0, .int .i64 (n : Int)), (1, .int .i64 seed), (5, x.2), (6, .int .i64 (x.1 : Int))] _
  have hle := hR.le
  have s1 : IntKind.i64.wrap ((x.1 : Int) + 1) = ((x.1 + 1 : Nat) : Int) := by rw [IntKind.wrap_i64]; omega
  have sA : IntKind.i64.wrap (((x.1 * 7 : Nat) : Int) + ((x.1 / 251 : Nat) : Int)) = ((x.1 * 7 + x.1 / 251 : Nat) : Int) := by rw [IntKind.wrap_i64]; omega
  refine EW.seq ?_
  refine EW.seq ?_
  refine EW.region ?_
  first | refine WL.move rfl rfl rfl ?_
  first | refine WL.move rfl rfl rfl ?_
  refine WL.bin rfl rfl rfl rfl (int_lt_d _ _ _ _ _) ?_
  refine WL.done ?_
  refine EW.on ?_
  refine EW.cond_d rfl (fun h9 => ?_) (fun h9 => ?_)
  · refine EW.skip ?_
    refine EW.on ?_
    refine EW.seq ?_
    refine EW.block ?_
    refine EW.region ?_
    first | refine WL.move rfl rfl rfl ?_
    first | refine WL.move rfl rfl rfl ?_
    refine WL.bin rfl rfl rfl rfl (mul_n x.1 7 (by omega) _ _ _) ?_
    first | refine WL.move rfl rfl rfl ?_
    refine WL.bin rfl rfl rfl rfl (quo_n x.1 251 (by decide) (by omega) _ _ _) ?_
    refine WL.bin rfl rfl rfl rfl (int_add sA _ _ _) ?_
    first | refine WL.move rfl rfl rfl ?_
    refine WL.bin rfl rfl rfl rfl (int_add rfl _ _ _) ?_
    refine WL.conv rfl rfl rfl (conv_z _ _) ?_
    obtain ⟨s, W1, v2, W2, ra, rb, o2, be2, _⟩ := hR.ow.push (lgB seed x.1) (by rw [lgL_len]; omega) hR.be.size 24
    refine WL.bslN [(0, byt (lgB seed x.1))] rfl rfl rfl ra ?_
    refine WL.app rfl rfl rfl rfl rb ?_
    first | refine WL.assign rfl rfl rfl ?_
    refine WL.done ?_
    refine pn_block ?_
    refine EW.on ?_
    refine EW.region ?_
    first | refine WL.move rfl rfl rfl ?_
    refine WL.bin rfl rfl rfl rfl (int_add s1 _ _ _) ?_
    first | refine WL.assign rfl rfl rfl ?_
    refine WL.done ?_
    refine EW.again (x.1 + 1, v2) [0, 1, 5, 6] rfl ⟨by show x.1 + 1 ≤ n; omega, by show Own W2 _ v2 (lgL (x.1 + 1) seed); rw [lgL_succ]; exact o2, hR.be.trans be2⟩ (by show n - (x.1 + 1) < n - x.1; omega)
  · refine EW.exit ?_
    refine px_then ?_
    refine px_then ?_
    refine px_block ?_
    refine EW.on ?_
    refine EW.seq ?_
    refine EW.region ?_
    first | refine WL.move rfl rfl rfl ?_
    first | refine WL.assign rfl rfl rfl ?_
    refine WL.done ?_
    refine EW.on ?_
    refine EW.ret ?_
    exact EW.returns Tryd.results7 rfl ⟨x.2, rfl, (show x.1 = n by omega) ▸ hR.ow.ob, hR.be⟩
theorem abs_i (n : Int) (h1 : -9223372036854775808 ≤ n) (h2 : n ≤ 9223372036854775807) : ∃ r : Nat, max n (IntKind.i64.wrap (-(IntKind.i64.wrap (n + 1)))) = (r : Int) := by
  refine ⟨(max n (IntKind.i64.wrap (-(IntKind.i64.wrap (n + 1))))).toNat, ?_⟩
  rw [Int.toNat_of_nonneg]
  rw [IntKind.wrap_i64, IntKind.wrap_i64]
  omega
theorem mod_n (r m : Nat) : Int.tmod (r : Int) (m : Int) = ((r % m : Nat) : Int) := by rw [Int.ofNat_tmod]
set_option maxRecDepth 100000 in
theorem bool_ne (a b : Bool) (W : World) (x y : Operand) : (do eqGuard .neq 4 x y (.bool a) (.bool b); binOp .neq 4 (.bool a) (.bool b) : Sem Value).run Tryd.prog W = .ok (.bool (a != b)) W := by
  cases a <;> cases b <;> rfl
set_option maxRecDepth 100000 in
theorem ptr_nn (q : Nat) (W : World) (x y : Operand) : (do eqGuard .eql 30 x y (.pointer (some ⟨q, 0, none⟩)) (.pointer none); binOp .eql 30 (.pointer (some ⟨q, 0, none⟩)) (.pointer none) : Sem Value).run Tryd.prog W = .ok (.bool false) W := by rfl
theorem c24L (ao : Option Addr) (n c i : Nat) (hi : i ≤ n) (hc : n ≤ c) (W : World) : (Instr.sliceAt 24 (.slice ao n c) (some (.int .i64 (i : Int))) none none).run Tryd.prog W = .ok (cutV (.slice ao n c) i n) W := by
  have h1 : (i : Int) ≤ (n : Int) := by omega
  unfold cutV
  go_simp
theorem same_len {L M : List Nat} (h1 : L.Nodup) (h2 : M.Nodup) (h : ∀ x, x ∈ L ↔ x ∈ M) : L.length = M.length := Nat.le_antisymm (nd_sub h1 (fun x hx => (h x).1 hx)) (nd_sub h2 (fun x hx => (h x).2 hx))
/-- The parts that have come, by those that are left. -/
def lfF (m : Nat) (L : List Nat) (i : Nat) : Bool := decide (i < m) && !decide (i ∈ L)
theorem lf_len {m : Nat} {L : List Nat} (hn : L.Nodup) (hl : ∀ x ∈ L, x < m) : ((List.range m).filter fun i => !(lfF m L i)).length = L.length := by
  refine same_len ((List.filter_sublist).nodup List.nodup_range) hn fun x => ?_
  rw [List.mem_filter, List.mem_range]
  unfold lfF
  constructor
  · rintro ⟨h1, h2⟩
    simpa [h1] using h2
  · intro h
    exact ⟨hl x h, by simp [h]⟩
theorem lf_all {m : Nat} {L : List Nat} (hl : ∀ x ∈ L, x < m) : decide (∀ i, i < m → lfF m L i = true) = decide (L.length = 0) := by
  rw [decide_eq_decide]
  constructor
  · intro h
    cases L with
    | nil => rfl
    | cons a r => have := h a (hl a (by simp)); simp [lfF] at this
  · intro h i hi
    rw [List.length_eq_zero_iff.1 h]; simp [lfF, hi]
theorem lf_upd {m : Nat} {L : List Nat} (hn : L.Nodup) (hl : ∀ x ∈ L, x < m) {k x : Nat} (hx : L[k]? = some x) : upd (lfF m L) x = lfF m (L.take k ++ L.drop (k + 1)) := by
  have hk : k < L.length := (List.getElem?_eq_some_iff.1 hx).1
  have e : L = L.take k ++ x :: L.drop (k + 1) := by
    have h2 := List.getElem?_eq_some_iff.1 hx
    conv => lhs; rw [← List.take_append_drop k L]
    rw [List.drop_eq_getElem_cons hk, h2.2]
  have hn' := hn
  rw [e, List.nodup_append] at hn'
  obtain ⟨n1, n2, n3⟩ := hn'
  rw [List.nodup_cons] at n2
  funext i
  unfold upd lfF
  have hxm := hl x (List.mem_of_getElem? hx)
  by_cases ei : i = x
  · subst ei
    rw [if_pos rfl, decide_eq_true hxm, decide_eq_false]
    · rfl
    · intro h
      rcases List.mem_append.1 h with h | h
      · exact n3 i h i (by simp) rfl
      · exact n2.1 h
  · rw [if_neg ei]
    congr 2
    rw [decide_eq_decide]
    conv => lhs; rw [e]
    simp [ei]
theorem lf_nd {L : List Nat} (hn : L.Nodup) (k : Nat) : (L.take k ++ L.drop (k + 1)).Nodup := by
  rw [← List.eraseIdx_eq_take_drop_succ]
  exact (List.eraseIdx_sublist L k).nodup hn
end Go.Proofs.YtiefgmgjlhjjhaaDoor
