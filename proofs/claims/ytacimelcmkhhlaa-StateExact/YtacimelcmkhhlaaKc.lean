import Derived.Test.YtacimelcmkhhlaaKb
set_option linter.unusedVariables false
set_option linter.unusedSimpArgs false
namespace Go.Proofs.Ytacimelcmkhhlaa
open Go.RowKit

section
variable {P : Program} {n : Fm} {ops : Array Oper} {S : Nat → World → Prop} {K : List (Nat × Value) → (World → Prop) → Prop} {i c lv : Nat} {ty : TypeId} {ps : String} {af : Array Edge} {gd : Option (Nat × Bool)} {r : List (Oper × Nat × Nat)} {e : List (Nat × Value)} {C : World → Prop}
end
theorem Has.offB' {w : World} {v : Value} {bs : List UInt8} (h : Has w v bs) {k : Nat} (hk : w.heap.size ≤ k) : Off v bs k := by
  by_cases e2 : v.ownBlock = some k
  · rcases h.blk e2 with e3 | e3
    · exact .inl e3
    · omega
  · exact .inr e2
section
variable {P : Program} {n : Fm} {ops : Array Oper} {S : Nat → World → Prop} {K : List (Nat × Value) → (World → Prop) → Prop} {i c lv : Nat} {ty : TypeId} {ps : String} {af : Array Edge} {gd : Option (Nat × Bool)} {r : List (Oper × Nat × Nat)} {e : List (Nat × Value)} {C : World → Prop}
theorem ZE.app2 {t s : TypeId} {x y : Operand} {u u' : Value} (C' : Value → World → Prop) (hw : wantE ops e ⟨some i, .call { callee := .builtin .append, args := #[x, y], argTypes := #[t, s] }, ty, ps, af, gd⟩ = some true) (hi : decide (i < n.k) = true) (hx : evE e x = some u) (hy : evE e y = some u') (h1 : ∀ v w, C' v w → S lv w) (hr : ∀ w, C w → ∃ v w', (Builtin.append_ #[t, s] ty #[u, u']).run P w = .ok v w' ∧ C' v w') (k : ∀ v, (∃ w, C' v w) → wpZE P n ops S K r ((i, v) :: e) (C' v)) : wpZE P n ops S K ((⟨some i, .call { callee := .builtin .append, args := #[x, y], argTypes := #[t, s] }, ty, ps, af, gd⟩, 1, lv) :: r) e C :=
  ZE.eff C' hw hi h1 (fun W hW => by
    obtain ⟨v, w', h2, h3⟩ := hr W hW
    exact ⟨v, w', fun a ha => by simp [execOp, resolve, invoke, builtin, ha.ev hx, ha.ev hy, h2, Result.andThen], h3⟩) k
end
theorem Ob.len {w : World} {b : Nat} {v : Value} {bs : List UInt8} (h : Ob w b v bs) (W : World) (ty : TypeId) : (Builtin.len_ #[38] ty #[v]).run Try.prog W = .ok (.int .i64 bs.length) W := h.has.len W ty
def SQ (q : World → Prop) (l : Nat) (W : World) : Prop := l = 0 ∨ q W
theorem sq_anti (q : World → Prop) (m n : Nat) (W : World) (h : m ≤ n) (k : SQ q n W) : SQ q m W := by
  rcases k with k | k
  · exact .inl (by omega)
  · exact .inr k
theorem sq_of {q : World → Prop} {W : World} {l : Nat} {C : World → Prop} (h : SZ (SQ q) 0 (l + 1) C W) : q W := by
  rcases h with h | h
  · cases h
  · exact h
theorem sq0 {q : World → Prop} {C : World → Prop} : ∀ W, C W → SZ (SQ q) 0 0 C W := fun _ _ => .inl rfl
def noE (qb : Nat) (l : Value) (m : Nat) (x : Nat × Value) : List (Nat × Value) := [(0, .pointer (some ⟨qb, 0, none⟩)), (1, l), (4, .int .i64 (m : Int)), (5, x.2), (6, .int .i64 (x.1 : Int))]
def NoI (w : World) (b : Nat) (l : Value) (ls : List UInt8) (m : Nat) (x : Nat × Value) (W : World) : Prop := x.1 ≤ ls.length ∧ Ob W b l (mkL m x.1 ++ ls.drop x.1) ∧ Ob W w.heap.size x.2 (mkL m x.1) ∧ Fx (fun k => l.ownBlock = some k) w W
set_option maxRecDepth 100000 in
set_option maxHeartbeats 4000000 in
theorem note_any (w : World) (b qb : Nat) (L V : Value) (es : List En3) (hB : Bk w b qb L V es) (l : Value) (ls : List UInt8) (hl : Ob w b l ls) (hls : ls.length ≤ 1000000) (hes : es.length ≤ 900) (hd : ∀ e ∈ es, ∀ k, l.ownBlock = some k → Off e.1 e.2.2 k ∧ Off e.2.1 e.2.2 k) : Calls Try.prog 49 #[.pointer (some ⟨qb, 0, none⟩), l] w fun e w' => e = .returned (.tuple #[]) ∧ ∃ L' V' es', Bk w' b qb L' V' es' ∧ es'.length = es.length + 2 ∧ Fx (fun k => bookB qb L V k ∨ l.ownBlock = some k) w w' ∧ Nw w L L' ∧ Nw w V V' := by
  have hbw : b ≤ w.heap.size := by have := hB.bq; have := hB.bl.lt; omega
  have hllt : ∀ k, l.ownBlock = some k → k < w.heap.size := fun k hk => (row_lt hl.row hk).1
  obtain ⟨m, hm⟩ : ∃ m, m = es.length * 29 + 7 := ⟨_, rfl⟩
  refine calls_of_args [.pointer (some ⟨qb, 0, none⟩), l] Try.func49 rfl 71 Try.ntmps49 (by show 2 ≤ 71; decide) ?_
  refine EW.seq ?_
  refine EW.region ?_
  first | refine WL.move rfl rfl rfl ?_
  first | refine WL.nilc rfl rfl rfl ?_
  refine WL.field rfl rfl rfl (f59_0 qb 0 _) ?_
  refine WL.load rfl rfl rfl (ldL hB.bl rfl) ?_
  refine WL.len rfl rfl rfl (len55' hB.ol _ _) ?_
  refine WL.bin rfl rfl rfl rfl (int_mul (c := ((es.length * 29 : Nat) : Int)) (by rw [IntKind.wrap_i64]; omega) _ _ _) ?_
  refine WL.bin rfl rfl rfl rfl (int_add (c := (m : Int)) (by rw [IntKind.wrap_i64]; omega) _ _ _) ?_
  first | refine WL.assign rfl rfl rfl ?_
  refine WL.done ?_
  refine EW.on ?_
  refine EW.seq ?_
  refine EW.region ?_
  first | refine WL.assign rfl rfl rfl ?_
  refine WL.done ?_
  refine EW.on ?_
  refine EW.seq ?_
  refine EW.seq ?_
  refine EW.region ?_
  first | refine WL.assign rfl rfl rfl ?_
  refine WL.done ?_
  refine EW.on ?_
  refine EW.block ?_
  refine EW.loop (noE qb l m) (NoI w b l ls m) (fun x => ls.length - x.1) (0, .slice none 0 0) [0, 1, 4, 5, 6] rfl ⟨Nat.zero_le _, hl, Ob.nil _ _, Fx.refl _ _⟩ ?_
  rintro ⟨t, vi⟩ wi ⟨htl, ol, ow, hfi⟩
  dsimp only at htl ol ow
  have hll : (mkL m t ++ ls.drop t).length = ls.length := by rw [List.length_append, mkL_len, List.length_drop]; omega
  show EW _ _ _ _ [(0, .pointer (some ⟨qb, 0, none⟩)), (1, l), (4, .int .i64 (m : Int)), (5, vi), (6, .int .i64 (t : Int))] _
  refine EW.seq ?_
  refine EW.seq ?_
  refine EW.region ?_
  first | refine WL.move rfl rfl rfl ?_
  first | refine WL.move rfl rfl rfl ?_
  refine WL.len rfl rfl rfl (by have h := ol.len (wi) 3; rw [hll] at h; exact h) ?_
  refine WL.bin rfl rfl rfl rfl (int_lt_d _ _ _ _ _) ?_
  refine WL.done ?_
  refine EW.on ?_
  refine EW.cond_d rfl (fun h18 => ?_) (fun h18 => ?_)
  · refine EW.skip ?_
    refine EW.on ?_
    refine EW.seq ?_
    refine EW.block ?_
    refine EW.seq ?_
    have hlt : t < ls.length := by omega
    refine EW.region ?_
    first | refine WL.move rfl rfl rfl ?_
    first | refine WL.move rfl rfl rfl ?_
    first | refine WL.move rfl rfl rfl ?_
    first | refine WL.move rfl rfl rfl ?_
    refine WL.bin rfl rfl rfl rfl (int_add (c := ((m + t : Nat) : Int)) (by rw [IntKind.wrap_i64]; omega) _ _ _) ?_
    refine WL.conv rfl rfl rfl (conv_mod _) ?_
    obtain ⟨ad, w5, ix, se, ol5, fx5⟩ := ol.setAtF t (by rw [hll]; exact hlt) (mkB m t)
    rw [mk_set m t ls hlt] at ol5
    refine WL.index rfl rfl rfl rfl (ix _) ?_
    refine WL.store rfl rfl rfl se ?_
    refine WL.done ?_
    refine EW.on ?_
    refine EW.region ?_
    first | refine WL.move rfl rfl rfl ?_
    first | refine WL.move rfl rfl rfl ?_
    first | refine WL.move rfl rfl rfl ?_
    obtain ⟨ad2, ix2, ld2⟩ := ol5.has.item (mk_at m t ls)
    refine WL.index rfl rfl rfl rfl (ix2 _) ?_
    refine WL.load rfl rfl rfl ld2 ?_
    refine WL.bslN [(0, byt (mkB m t))] rfl rfl rfl (bsl22_1 _ _) ?_
    have bn := below_new w5 (.cells ([mkB m t].map byt).toArray 5)
    have hh6 : Has (w5.alloc (.cells ([mkB m t].map byt).toArray 5)) (.slice (some ⟨w5.heap.size, 0, none⟩) 1 1) [mkB m t] := Has.new (Blk.new _ _ _) 1 (Nat.le_refl _)
    obtain ⟨w6, hw6⟩ : ∃ w6, w5.alloc (.cells ([mkB m t].map byt).toArray 5) = w6 := ⟨_, rfl⟩
    rw [hw6] at bn hh6 ⊢
    have ow6 : Ob w6 w.heap.size vi (mkL m t) := (ow.fx fx5 (fun k hk e => absurd (row_lt ow.row e).1 (fun _ => by have h1 := ow.base k e; have h2 := hllt k hk; omega))).below bn
    obtain ⟨v7, w7, ap7, ow7, fx7, nw7⟩ := ow6.push (Nat.le_trans hfi.size (Nat.le_trans fx5.size bn.size)) _ _ hh6 (by rw [mkL_len]; show t + 1 ≤ _; omega) 38
    refine WL.app rfl rfl rfl rfl ap7 ?_
    first | refine WL.assign rfl rfl rfl ?_
    refine WL.done ?_
    refine pn_block ?_
    refine EW.on ?_
    refine EW.region ?_
    first | refine WL.move rfl rfl rfl ?_
    refine WL.bin rfl rfl rfl rfl (int_add (c := ((t + 1 : Nat) : Int)) (by rw [IntKind.wrap_i64]; omega) _ _ _) ?_
    first | refine WL.assign rfl rfl rfl ?_
    refine WL.done ?_
    refine EW.again (E := noE qb l m) (R := NoI w b l ls m) (m := fun x => ls.length - x.1) (x := (t, vi)) (t + 1, v7) [0, 1, 4, 5, 6] rfl ⟨by show t + 1 ≤ _; omega, ?_, ?_, ?_⟩ (by show ls.length - (t + 1) < ls.length - t; omega)
    · exact (ol5.below bn).fx fx7 (fun k e hk => by have h1 := ow.base k e; have h2 := hllt k hk; omega)
    · rw [mkL_succ]; exact ow7
    · exact ((hfi.and fx5).then_below bn).trans fx7 (fun k hk e => by have h1 := ow.base k e; omega)
  · refine EW.exit ?_
    refine px_then ?_
    refine px_then ?_
    refine px_block ?_
    refine EW.on ?_
    refine EW.seq ?_
    refine EW.region ?_
    first | refine WL.move rfl rfl rfl ?_
    refine WL.bin rfl rfl rfl rfl (int_mul (c := ((m * 3 : Nat) : Int)) (by rw [IntKind.wrap_i64]; omega) _ _ _) ?_
    refine WL.bin rfl rfl rfl rfl (int_add (c := ((m * 3 + 1 : Nat) : Int)) (by rw [IntKind.wrap_i64]; omega) _ _ _) ?_
    refine WL.conv rfl rfl rfl (conv_mod _) ?_
    obtain ⟨x, hx⟩ : ∃ x, UInt8.ofNat ((m * 3 + 1) % 256) = x := ⟨_, rfl⟩
    rw [hx]
    first | refine WL.assign rfl rfl rfl ?_
    refine WL.done ?_
    refine EW.on ?_
    refine EW.seq ?_
    have hte : t = ls.length := by omega
    subst hte
    rw [List.drop_length, List.append_nil] at ol
    have B8 : Bk wi b qb L V es := hB.fx hfi (fun k hk hb => by
      rcases hb with e | e | e
      · exact row_blk hl.row hB.bl (by decide) (by rw [← e]; exact hk)
      · exact row_ne hl.row hB.ol (by decide) hk e
      · exact row_ne hl.row hB.ov (by decide) hk e) hd
    refine EW.ordZ [(0, 0, 0), (1, 0, 0), (2, 0, 0), (3, 0, 0), (4, 0, 1), (5, 0, 0), (6, 0, 0), (7, 0, 0), (8, 0, 0), (9, 0, 0), (10, 1, 1), (11, 1, 1), (12, 1, 1), (13, 1, 1), (14, 0, 0), (15, 0, 0), (16, 1, 0)] (SQ fun W => Blk W qb [L, V] 59) (fun W => Below wi.heap.size wi W) (by kernel_rfl) rfl (by kernel_rfl) (sq_anti _) (below_drawn wi) ?_
    simp only [opsZ, List.getD_cons_zero, List.getD_cons_succ]
    refine ZE.move rfl rfl rfl rfl sq0 ?_
    refine ZE.move rfl rfl rfl rfl sq0 ?_
    refine ZE.nilc rfl rfl rfl rfl sq0 ?_
    refine ZE.field rfl rfl rfl rfl sq0 (fun W => f59_0 qb 0 W) ?_
    refine ZE.load rfl rfl rfl rfl (fun W hW => .inr (B8.bl.on hW)) (fun W hW => ldL (sq_of hW) rfl) ?_
    refine ZE.move rfl rfl rfl rfl sq0 ?_
    refine ZE.move rfl rfl rfl rfl sq0 ?_
    refine ZE.move rfl rfl rfl rfl sq0 ?_
    refine ZE.move rfl rfl rfl rfl sq0 ?_
    refine ZE.move rfl rfl rfl rfl sq0 ?_
    refine ZE.bsl [(0, byt x), (1, byt x), (2, byt x)] (fun v W => (∃ g, v = .slice (some ⟨g, 0, none⟩) 3 3 ∧ wi.heap.size ≤ g ∧ Has W v [x, x, x]) ∧ Below wi.heap.size wi W) rfl rfl rfl (fun _ _ h => .inr (B8.bl.on h.2)) (fun W hW => ⟨_, _, bsl22_3 x x x W, ⟨W.heap.size, rfl, hW.size, Has.new (Blk.new _ _ _) 3 (Nat.le_refl _)⟩, hW.trans ((below_new _ _).mono hW.size)⟩) ?_
    rintro v3 ⟨_, ⟨g3, hv3, hg3, _⟩, _⟩
    subst hv3
    refine ZE.app2 (fun v W => Kin wi W l v (mkL m ls.length) x ∧ Fx (fun k => l.ownBlock = some k) wi W) rfl rfl rfl rfl (fun _ _ h => .inr (B8.bl.fx h.2 (fun e => row_blk ol.row B8.bl (by decide) e))) (fun W hW => by
      obtain ⟨⟨g, hg, _, hh⟩, hbe⟩ := hW
      obtain ⟨s', W', a1, a2, a3⟩ := kin_app (w1 := wi) (row_fx (S := fun _ => False) ol.row (Fx.of_below hbe) (fun _ _ h => h)) (by rw [mkL_len]; omega) g3 hh hbe.size 38
      exact ⟨s', W', a1, a2, (Fx.of_below hbe).and a3⟩) ?_
    rintro sxl ⟨_, ksxl, _⟩
    refine ZE.bsl [(0, l), (1, sxl)] (fun v W => (∃ g, v = .slice (some ⟨g, 0, none⟩) 2 2 ∧ Blk W g [l, sxl] 38) ∧ Kin wi W l sxl (mkL m ls.length) x ∧ Fx (fun k => l.ownBlock = some k) wi W) rfl rfl rfl (fun _ _ h => .inr (B8.bl.fx h.2.2 (fun e => row_blk ol.row B8.bl (by decide) e))) (fun W hW => ⟨_, _, bsl74_2 _ _ ksxl.hs.sl ksxl.has.sl W, ⟨W.heap.size, rfl, Blk.new _ _ _⟩, hW.1.below (below_new _ _), hW.2.then_below (below_new _ _)⟩) ?_
    rintro v2 ⟨_, ⟨g2, hv2, _⟩, _⟩
    subst hv2
    refine ZE.app2 (fun v W => W.ownsRow 0 38 1 v (es.length + 2) ((es.map (·.1)) ++ [l, sxl]) ∧ Kin wi W l sxl (mkL m ls.length) x ∧ Fx (fun k => L.ownBlock = some k ∨ l.ownBlock = some k) wi W ∧ Nw wi L v) rfl rfl rfl rfl (fun _ W h => .inr (B8.bl.fx h.2.2.1 (fun e => by
      rcases e with e | e
      · exact row_blk B8.ol B8.bl (by decide) e
      · exact row_blk ol.row B8.bl (by decide) e))) (fun W hW => by
      obtain ⟨⟨g, hg, hbk⟩, hkin, hfx⟩ := hW
      rw [sl_inj hg] at hbk
      obtain ⟨R', W', a1, a2, a3, a4⟩ := row_app (row_fx B8.ol hfx (fun k hk => row_ne B8.ol ol.row (by decide) hk)) (by omega) g2 l sxl hbk hkin.hs.sl hkin.has.sl 57
      refine ⟨R', W', a1, a2, ⟨row_fx hkin.ob a3 (fun k hk e => ?_), hkin.hs.fxo a3 (fun k hk => .inr (fun e => row_ne B8.ol ol.row (by decide) hk e)), hkin.nw⟩, (hfx.mono (fun k _ e => .inr e)).trans a3 (fun k _ e => .inl e), fun k hk => ?_⟩
      · rcases hkin.nw k hk with e' | e'
        · exact row_ne B8.ol ol.row (by decide) e e'
        · have := (row_lt B8.ol e).1; omega
      · rcases a4 k hk with e' | e'
        · exact .inl e'
        · exact .inr (by have := hfx.size; omega)) ?_
    rintro vL ⟨_, rR8, _⟩
    have hvL := row_sl3 rR8
    refine ZE.nilc rfl rfl rfl rfl sq0 ?_
    refine ZE.field rfl rfl rfl rfl sq0 (fun W => f59_0 qb 0 W) ?_
    refine ZE.store (fun W => Lin wi W qb 0 L V L vL l sxl es.length (es.map (·.1)) (mkL m ls.length) x) rfl rfl rfl (fun _ _ => .inl rfl) (fun W hW => by
      obtain ⟨h1, h2, h3, h4⟩ := hW
      have hblW := B8.bl.fx h3 (fun e => by
        rcases e with e | e
        · exact row_blk B8.ol B8.bl (by decide) e
        · exact row_blk ol.row B8.bl (by decide) e)
      obtain ⟨W', a1, a2, a3⟩ := stL' (j := 0) hblW (by show 0 < 2; decide) hvL
      refine ⟨W', a1, ⟨a2, row_fx h1 a3 (fun k hk e => row_blk h1 hblW (by decide) (by have e : k = qb := e; rw [← e]; exact hk)), ⟨row_fx h2.ob a3 (fun k hk e => row_blk h2.ob hblW (by decide) (by have e : k = qb := e; rw [← e]; exact hk)), h2.hs.fxo a3 (fun k hk => by have hk : k = qb := hk; rw [hk]; exact .inr (fun e => row_blk ol.row B8.bl (by decide) e)), h2.nw⟩, (h3.mono (fun k _ e => .inr e)).trans a3 (fun k _ e => .inl e), h4⟩⟩) ?_
    rintro w9 lin8
    refine EW.on ?_
    have bl9 : Blk w9 qb [vL, V] 59 := lin8.bl
    have hsz9 := lin8.fx.size
    have ow9 : Ob w9 w.heap.size vi (mkL m ls.length) := ow.fx lin8.fx (fun k e hk => by
      rcases e with e | e | e
      · exact row_blk ow.row B8.bl (by decide) (by rw [← e]; exact hk)
      · exact row_ne ow.row B8.ol (by decide) hk e
      · have h1 := ow.base k hk; have h2 := hllt k e; omega)
    have rowV9 : w9.ownsRow 0 38 1 V es.length (es.map (·.2.1)) := row_fx B8.ov lin8.fx (fun k hk e => by
      rcases e with e | e | e
      · exact row_blk B8.ov B8.bl (by decide) (by rw [← e]; exact hk)
      · exact B8.lv k e hk
      · exact row_ne ol.row B8.ov (by decide) e hk)
    refine EW.ordZ [(0, 0, 0), (1, 0, 0), (2, 0, 0), (3, 0, 0), (4, 0, 1), (5, 0, 0), (6, 0, 0), (7, 0, 0), (8, 0, 0), (9, 0, 0), (10, 1, 1), (11, 1, 1), (12, 1, 1), (13, 1, 1), (14, 0, 0), (15, 0, 0), (16, 1, 0)] (SQ fun W => Blk W qb [vL, V] 59) (fun W => Below w9.heap.size w9 W) (by kernel_rfl) rfl (by kernel_rfl) (sq_anti _) (below_drawn w9) ?_
    simp only [opsZ, List.getD_cons_zero, List.getD_cons_succ]
    refine ZE.move rfl rfl rfl rfl sq0 ?_
    refine ZE.move rfl rfl rfl rfl sq0 ?_
    refine ZE.nilc rfl rfl rfl rfl sq0 ?_
    refine ZE.field rfl rfl rfl rfl sq0 (fun W => f59_1 qb 0 W) ?_
    refine ZE.load rfl rfl rfl rfl (fun W hW => .inr (bl9.on hW)) (fun W hW => ldL (sq_of hW) rfl) ?_
    refine ZE.move rfl rfl rfl rfl sq0 ?_
    refine ZE.move rfl rfl rfl rfl sq0 ?_
    refine ZE.move rfl rfl rfl rfl sq0 ?_
    refine ZE.move rfl rfl rfl rfl sq0 ?_
    refine ZE.move rfl rfl rfl rfl sq0 ?_
    refine ZE.bsl [(0, byt x), (1, byt x), (2, byt x)] (fun v W => (∃ g, v = .slice (some ⟨g, 0, none⟩) 3 3 ∧ w9.heap.size ≤ g ∧ Has W v [x, x, x]) ∧ Below w9.heap.size w9 W) rfl rfl rfl (fun _ _ h => .inr (bl9.on h.2)) (fun W hW => ⟨_, _, bsl22_3 x x x W, ⟨W.heap.size, rfl, hW.size, Has.new (Blk.new _ _ _) 3 (Nat.le_refl _)⟩, hW.trans ((below_new _ _).mono hW.size)⟩) ?_
    rintro v3 ⟨_, ⟨g3, hv3, hg3, _⟩, _⟩
    subst hv3
    refine ZE.app2 (fun v W => Kin w9 W vi v (mkL m ls.length) x ∧ Fx (fun k => vi.ownBlock = some k) w9 W) rfl rfl rfl rfl (fun _ _ h => .inr (bl9.fx h.2 (fun e => row_blk ow9.row bl9 (by decide) e))) (fun W hW => by
      obtain ⟨⟨g, hg, _, hh⟩, hbe⟩ := hW
      obtain ⟨s', W', a1, a2, a3⟩ := kin_app (w1 := w9) (row_fx (S := fun _ => False) ow9.row (Fx.of_below hbe) (fun _ _ h => h)) (by rw [mkL_len]; omega) g3 hh hbe.size 38
      exact ⟨s', W', a1, a2, (Fx.of_below hbe).and a3⟩) ?_
    rintro sxv ⟨_, ksxv, _⟩
    refine ZE.bsl [(0, vi), (1, sxv)] (fun v W => (∃ g, v = .slice (some ⟨g, 0, none⟩) 2 2 ∧ Blk W g [vi, sxv] 38) ∧ Kin w9 W vi sxv (mkL m ls.length) x ∧ Fx (fun k => vi.ownBlock = some k) w9 W) rfl rfl rfl (fun _ _ h => .inr (bl9.fx h.2.2 (fun e => row_blk ow9.row bl9 (by decide) e))) (fun W hW => ⟨_, _, bsl74_2 _ _ ksxv.hs.sl ksxv.has.sl W, ⟨W.heap.size, rfl, Blk.new _ _ _⟩, hW.1.below (below_new _ _), hW.2.then_below (below_new _ _)⟩) ?_
    rintro v2 ⟨_, ⟨g2, hv2, _⟩, _⟩
    subst hv2
    refine ZE.app2 (fun v W => W.ownsRow 0 38 1 v (es.length + 2) ((es.map (·.2.1)) ++ [vi, sxv]) ∧ Kin w9 W vi sxv (mkL m ls.length) x ∧ Fx (fun k => V.ownBlock = some k ∨ vi.ownBlock = some k) w9 W ∧ Nw w9 V v) rfl rfl rfl rfl (fun _ W h => .inr (bl9.fx h.2.2.1 (fun e => by
      rcases e with e | e
      · exact row_blk rowV9 bl9 (by decide) e
      · exact row_blk ow9.row bl9 (by decide) e))) (fun W hW => by
      obtain ⟨⟨g, hg, hbk⟩, hkin, hfx⟩ := hW
      rw [sl_inj hg] at hbk
      obtain ⟨R', W', a1, a2, a3, a4⟩ := row_app (row_fx rowV9 hfx (fun k hk => row_ne rowV9 ow9.row (by decide) hk)) (by omega) g2 vi sxv hbk hkin.hs.sl hkin.has.sl 57
      refine ⟨R', W', a1, a2, ⟨row_fx hkin.ob a3 (fun k hk e => ?_), hkin.hs.fxo a3 (fun k hk => .inr (fun e => row_ne rowV9 ow9.row (by decide) hk e)), hkin.nw⟩, (hfx.mono (fun k _ e => .inr e)).trans a3 (fun k _ e => .inl e), fun k hk => ?_⟩
      · rcases hkin.nw k hk with e' | e'
        · exact row_ne rowV9 ow9.row (by decide) e e'
        · have := (row_lt rowV9 e).1; omega
      · rcases a4 k hk with e' | e'
        · exact .inl e'
        · exact .inr (by have := hfx.size; omega)) ?_
    rintro vV ⟨_, rR9, _⟩
    have hvV := row_sl3 rR9
    refine ZE.nilc rfl rfl rfl rfl sq0 ?_
    refine ZE.field rfl rfl rfl rfl sq0 (fun W => f59_1 qb 0 W) ?_
    refine ZE.store (fun W => Lin w9 W qb 1 vL V V vV vi sxv es.length (es.map (·.2.1)) (mkL m ls.length) x) rfl rfl rfl (fun _ _ => .inl rfl) (fun W hW => by
      obtain ⟨h1, h2, h3, h4⟩ := hW
      have hblW := bl9.fx h3 (fun e => by
        rcases e with e | e
        · exact row_blk rowV9 bl9 (by decide) e
        · exact row_blk ow9.row bl9 (by decide) e)
      obtain ⟨W', a1, a2, a3⟩ := stL' (j := 1) hblW (by show 1 < 2; decide) hvV
      refine ⟨W', a1, ⟨a2, row_fx h1 a3 (fun k hk e => row_blk h1 hblW (by decide) (by have e : k = qb := e; rw [← e]; exact hk)), ⟨row_fx h2.ob a3 (fun k hk e => row_blk h2.ob hblW (by decide) (by have e : k = qb := e; rw [← e]; exact hk)), h2.hs.fxo a3 (fun k hk => by have hk : k = qb := hk; rw [hk]; exact .inr (fun e => row_blk ow9.row bl9 (by decide) e)), h2.nw⟩, (h3.mono (fun k _ e => .inr e)).trans a3 (fun k _ e => .inl e), h4⟩⟩) ?_
    rintro w10 lin9
    have hs10 := lin9.fx.size
    have kL9 : Kin wi w9 l sxl (mkL m ls.length) x := lin8.kin
    have hvLV : ∀ k, vL.ownBlock = some k → V.ownBlock ≠ some k := fun k hk e => by
      rcases lin8.nw k hk with h | h
      · exact B8.lv k h e
      · have := (row_lt B8.ov e).1; omega
    have rL10 : w10.ownsRow 0 38 1 vL (es.length + 2) (es.map (·.1) ++ [l, sxl]) := row_fx lin8.row lin9.fx (fun k hk e => by
      rcases e with e | e | e
      · exact row_blk lin8.row bl9 (by decide) (by rw [← e]; exact hk)
      · exact hvLV k hk e
      · exact row_ne lin8.row ow9.row (by decide) hk e)
    have fxA : Fx (fun k => bookB qb L V k ∨ l.ownBlock = some k) w w9 := (hfi.mono (fun k _ e => .inr e)).trans lin8.fx (fun k _ e => by
      rcases e with e | e | e
      · exact .inl (.inl e)
      · exact .inl (.inr (.inl e))
      · exact .inr e)
    have fxB : Fx (fun k => bookB qb L V k ∨ l.ownBlock = some k) w w10 := fxA.trans lin9.fx (fun k hk e => by
      rcases e with e | e | e
      · exact .inl (.inl e)
      · exact .inl (.inr (.inr e))
      · have := ow.base k e; omega)
    have hszi := hfi.size
    have offE : ∀ e ∈ es, ∀ k, (bookB qb L V k ∨ l.ownBlock = some k ∨ w.heap.size ≤ k) → Off e.1 e.2.2 k ∧ Off e.2.1 e.2.2 k := fun e he k hk => by
      rcases hk with h | h | h
      · exact hB.ap e he k h
      · exact hd e he k h
      · exact ⟨(hB.hs e he).1.offB' h, (hB.hs e he).2.offB' h⟩
    have sxlB : ∀ k, sxl.ownBlock = some k → l.ownBlock = some k ∨ wi.heap.size ≤ k := kL9.nw
    refine EW.falls Try.results49 ⟨rfl, vL, vV, es ++ [(l, vi, mkL m ls.length), (sxl, sxv, mkL m ls.length ++ [x, x, x])], ?_, by simp, fxB, fun k hk => ?_, fun k hk => ?_⟩
    · have bl10 : Blk w10 qb [vL, vV] 59 := lin9.bl
      have offN1 : ∀ k, (k = qb ∨ V.ownBlock = some k ∨ vi.ownBlock = some k) → Off l (mkL m ls.length) k := fun k hk => .inr (fun e => by
        rcases hk with h | h | h
        · exact row_blk hl.row hB.bl (by decide) (by rw [← h]; exact e)
        · exact row_ne hl.row hB.ov (by decide) e h
        · have h1 := ow.base k h; have h2 := hllt k e; omega)
      have offN2 : ∀ k, (k = qb ∨ V.ownBlock = some k ∨ vi.ownBlock = some k) → Off sxl (mkL m ls.length ++ [x, x, x]) k := fun k hk => .inr (fun e => by
        rcases hk with h | h | h
        · exact row_blk kL9.ob bl9 (by decide) (by rw [← h]; exact e)
        · exact row_ne kL9.ob rowV9 (by decide) e h
        · rcases sxlB k e with h3 | h3
          · have h1 := ow.base k h; have h2 := hllt k h3; omega
          · have := (row_lt ow.row h).1; omega)
      refine ⟨bl10, by rw [List.length_append, List.map_append]; exact rL10, by rw [List.length_append, List.map_append]; exact lin9.row, fun e he => ?_, hB.bq, fun k hk => ?_, fun k hk => ?_, fun k hk e => ?_, fun e he k hk => ?_⟩
      · rcases List.mem_append.1 he with h | h
        · have ho : ∀ k, (bookB qb L V k ∨ l.ownBlock = some k) → Off e.1 e.2.2 k ∧ Off e.2.1 e.2.2 k := fun k hk => offE e h k (by
            rcases hk with h | h
            · exact .inl h
            · exact .inr (.inl h))
          exact ⟨(hB.hs e h).1.fxo fxB (fun k hk => (ho k hk).1), (hB.hs e h).2.fxo fxB (fun k hk => (ho k hk).2)⟩
        · simp only [List.mem_cons, List.not_mem_nil, or_false] at h
          rcases h with rfl | rfl
          · exact ⟨kL9.hs.fxo lin9.fx offN1, lin9.kin.hs⟩
          · exact ⟨kL9.has.fxo lin9.fx offN2, lin9.kin.has⟩
      · rcases lin8.nw k hk with h | h
        · exact hB.bL k h
        · omega
      · rcases lin9.nw k hk with h | h
        · exact hB.bV k h
        · omega
      · rcases lin9.nw k e with h | h
        · exact hvLV k hk h
        · have := (row_lt lin8.row hk).1; omega
      · rcases List.mem_append.1 he with h | h
        · refine offE e h k ?_
          rcases hk with h | h | h
          · exact .inl (.inl h)
          · rcases lin8.nw k h with h | h
            · exact .inl (.inr (.inl h))
            · exact .inr (.inr (by omega))
          · rcases lin9.nw k h with h | h
            · exact .inl (.inr (.inr h))
            · exact .inr (.inr (by omega))
        · simp only [List.mem_cons, List.not_mem_nil, or_false] at h
          rcases h with rfl | rfl
          · refine ⟨.inr fun e => ?_, .inr fun e => ?_⟩
            · have hk2 := hllt k e
              rcases hk with h | h | h
              · exact row_blk hl.row hB.bl (by decide) (by rw [← h]; exact e)
              · rcases lin8.nw k h with h | h
                · exact row_ne hl.row hB.ol (by decide) e h
                · omega
              · rcases lin9.nw k h with h | h
                · exact row_ne hl.row hB.ov (by decide) e h
                · omega
            · have hk2 := (row_lt ow.row e).1
              rcases hk with h | h | h
              · exact row_blk ow.row B8.bl (by decide) (by rw [← h]; exact e)
              · rcases lin8.nw k h with h | h
                · exact row_ne ow.row B8.ol (by decide) e h
                · omega
              · rcases lin9.nw k h with h | h
                · exact row_ne ow9.row rowV9 (by decide) e h
                · omega
          · refine ⟨.inr fun e => ?_, .inr fun e => ?_⟩
            · have hk2 := (row_lt kL9.ob e).1
              rcases hk with h | h | h
              · exact row_blk kL9.ob bl9 (by decide) (by rw [← h]; exact e)
              · exact row_ne kL9.ob lin8.row (by decide) e h
              · rcases lin9.nw k h with h | h
                · exact row_ne kL9.ob rowV9 (by decide) e h
                · omega
            · rcases hk with h | h | h
              · exact row_blk lin9.kin.ob bl10 (by decide) (by rw [← h]; exact e)
              · exact row_ne lin9.kin.ob rL10 (by decide) e h
              · exact row_ne lin9.kin.ob lin9.row (by decide) e h
    · rcases lin8.nw k hk with h | h
      · exact .inl h
      · exact .inr (by omega)
    · rcases lin9.nw k hk with h | h
      · exact .inl h
      · exact .inr (by omega)
end Go.Proofs.Ytacimelcmkhhlaa
