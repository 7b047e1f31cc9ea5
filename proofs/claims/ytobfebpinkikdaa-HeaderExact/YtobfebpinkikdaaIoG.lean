import Derived.Test.YtobfebpinkikdaaIm
set_option linter.unusedVariables false
set_option linter.unusedSimpArgs false
namespace Go.Proofs.Ytobfebpinkikdaa
open Go.RowKit

theorem row_item {w : World} {v : Value} {n : Nat} {xs : List Value} (h : w.ownsRow 0 31 1 v n xs) (i : Nat) {u : Value} (hi : xs[i]? = some u) : ∃ ad, (∀ W, (Instr.indexAt 55 v (.int .i64 (i : Int))).run Try.prog W = .ok (.pointer (some ad)) W) ∧ ∀ W, Below w.heap.size w W → (Instr.loadAt 31 (.pointer (some ad))).run Try.prog W = .ok u W := by
  have hn := h.1
  obtain ⟨hx, ⟨rfl, h0⟩ | ⟨g, cp, cur, rfl, hg, hh2, hnc, hc, hs, htk⟩⟩ := h
  · have := (List.getElem?_eq_some_iff.1 hi).1
    simp at hx
    omega
  · have hil := (List.getElem?_eq_some_iff.1 hi).1
    have hbl : Blk w g cur.toList 31 := by unfold Blk; simpa using hh2
    have hx' : xs.length = n := by simpa using hx
    refine ⟨⟨g, i, none⟩, fun W => idx55 g n cp i (by omega) W, fun W hW => ldS (hbl.on hW) ?_⟩
    rw [← htk] at hi
    rw [List.getElem?_take] at hi
    split at hi
    · exact hi
    · cases hi
def HoI (w : World) (n : Nat) (t : Nat) (W : World) : Prop := t ≤ n ∧ Below w.heap.size w W
def hoE (qb t : Nat) : List (Nat × Value) := [(0, .pointer (some ⟨qb, 0, none⟩)), (3, .int .i64 (t : Int))]
set_option maxRecDepth 100000 in
set_option maxHeartbeats 4000000 in
theorem holds_any (w : World) (b qb : Nat) (L V : Value) (es : List En3) (hB : Bk w b qb L V es) (hes : es.length ≤ 2000) : Calls Try.prog 18 #[.pointer (some ⟨qb, 0, none⟩)] w fun e w' => e = .returned (.bool true) ∧ Below w.heap.size w w' := by
  refine calls_of_args [.pointer (some ⟨qb, 0, none⟩)] Try.func18 rfl 29 Try.ntmps18 (by show 1 ≤ 29; decide) ?_
  refine EW.seq ?_
  refine EW.region ?_
  first | refine WL.assign rfl rfl rfl ?_
  refine WL.done ?_
  refine EW.on ?_
  refine EW.seq ?_
  refine EW.seq ?_
  refine EW.region ?_
  first | refine WL.assign rfl rfl rfl ?_
  refine WL.done ?_
  refine EW.on ?_
  refine EW.block ?_
  refine EW.loop (hoE qb) (HoI w es.length) (fun t => es.length - t) 0 [0, 3] rfl ⟨Nat.zero_le _, Below.refl _ _⟩ ?_
  rintro t wi ⟨htl, be⟩
  show EW _ _ _ _ [(0, .pointer (some ⟨qb, 0, none⟩)), (3, .int .i64 (t : Int))] _
  refine EW.seq ?_
  refine EW.seq ?_
  refine EW.region ?_
  first | refine WL.move rfl rfl rfl ?_
  first | refine WL.move rfl rfl rfl ?_
  first | refine WL.nilc rfl rfl rfl ?_
  refine WL.field rfl rfl rfl (f57_0 qb 0 _) ?_
  refine WL.load rfl rfl rfl (ldL (hB.bl.on be) rfl) ?_
  refine WL.len rfl rfl rfl (len55' hB.ol _ _) ?_
  refine WL.bin rfl rfl rfl rfl (int_lt_d _ _ _ _ _) ?_
  refine WL.done ?_
  refine EW.on ?_
  refine EW.cond_d rfl (fun h10 => ?_) (fun h10 => ?_)
  · refine EW.skip ?_
    refine EW.on ?_
    refine EW.seq ?_
    refine EW.block ?_
    refine EW.seq ?_
    have hlt : t < es.length := by omega
    obtain ⟨en, hen⟩ : ∃ en, es[t]? = some en := ⟨_, List.getElem?_eq_getElem hlt⟩
    have hem : en ∈ es := List.mem_of_getElem? hen
    obtain ⟨adl, ixl, ldl⟩ := row_item hB.ol t (u := en.1) (by rw [List.getElem?_map, hen]; rfl)
    obtain ⟨adv, ixv, ldv⟩ := row_item hB.ov t (u := en.2.1) (by rw [List.getElem?_map, hen]; rfl)
    refine EW.ordB [(0, 0, 0), (1, 0, 0), (2, 0, 0), (3, 0, 1), (4, 0, 0), (5, 0, 0), (6, 0, 1), (7, 0, 0), (8, 0, 0), (9, 0, 0), (10, 0, 1), (11, 0, 0), (12, 0, 0), (13, 0, 1), (14, 1, 1), (15, 0, 0)] (by kernel_rfl) rfl (by kernel_rfl) ?_
    simp only [opsZ, List.getD_cons_zero, List.getD_cons_succ]
    first | refine ZE.move rfl rfl rfl rfl sz0 ?_
    first | refine ZE.nilc rfl rfl rfl rfl sz0 ?_
    refine ZE.field rfl rfl rfl rfl sz0 (fun W => f57_0 qb 0 W) ?_
    refine ZE.load rfl rfl rfl rfl sz1 (fun W hW => ldL ((hB.bl.on be).on (sb_of hW)) rfl) ?_
    first | refine ZE.move rfl rfl rfl rfl sz0 ?_
    refine ZE.index rfl rfl rfl rfl rfl sz0 (ixl) ?_
    refine ZE.load rfl rfl rfl rfl sz1 (fun W hW => ldl W (be.trans ((sb_of hW).mono be.size))) ?_
    first | refine ZE.move rfl rfl rfl rfl sz0 ?_
    first | refine ZE.nilc rfl rfl rfl rfl sz0 ?_
    refine ZE.field rfl rfl rfl rfl sz0 (fun W => f57_1 qb 0 W) ?_
    refine ZE.load rfl rfl rfl rfl sz1 (fun W hW => ldL ((hB.bl.on be).on (sb_of hW)) rfl) ?_
    first | refine ZE.move rfl rfl rfl rfl sz0 ?_
    refine ZE.index rfl rfl rfl rfl rfl sz0 (ixv) ?_
    refine ZE.load rfl rfl rfl rfl sz1 (fun W hW => ldv W (be.trans ((sb_of hW).mono be.size))) ?_
    refine ZE.callV [en.1, en.2.1] (.bool true) (fun W => Below wi.heap.size wi W) enter14 rfl rfl rfl (fun _ h => .inr h) (fun W hW => (eq_yes _ _ en.2.2 W ((hB.hs en hem).1.below (be.trans (hW.mono be.size))) ((hB.hs en hem).2.below (be.trans (hW.mono be.size)))).mono fun e w' ⟨h1, h2⟩ => ⟨h1, by rw [h2]; exact hW⟩) ?_
    first | refine ZE.un rfl rfl rfl rfl sz0 (fun W => not_t _ W) ?_
    rintro w4 b4
    refine EW.on ?_
    refine EW.cond_f rfl ?_
    refine EW.skip ?_
    refine pn_block ?_
    refine EW.on ?_
    refine EW.region ?_
    first | refine WL.move rfl rfl rfl ?_
    refine WL.bin rfl rfl rfl rfl (int_add (c := ((t + 1 : Nat) : Int)) (by rw [IntKind.wrap_i64]; omega) _ _ _) ?_
    first | refine WL.assign rfl rfl rfl ?_
    refine WL.done ?_
    exact EW.again (E := hoE qb) (R := HoI w es.length) (m := fun t => es.length - t) (x := t) (t + 1) [0, 3] rfl ⟨by omega, be.trans (b4.mono be.size)⟩ (by show es.length - (t + 1) < es.length - t; omega)
  · refine EW.exit ?_
    refine px_then ?_
    refine px_then ?_
    refine px_block ?_
    refine EW.on ?_
    refine EW.seq ?_
    refine EW.region ?_
    first | refine WL.assign rfl rfl rfl ?_
    refine WL.done ?_
    refine EW.on ?_
    refine EW.ret ?_
    exact EW.returns Try.results18 rfl ⟨rfl, be⟩
end Go.Proofs.Ytobfebpinkikdaa

set_option linter.unusedVariables false
set_option linter.unusedSimpArgs false
namespace Go.Proofs.Ytobfebpinkikdaa
open Go.RowKit

/-- An operation's cells. -/
def opC (kd : Int) (p : Pk) (o : Of) (bv : Value) : List Value := [.int .i64 kd] ++ (p.cs ++ (o.cs ++ [bv]))
theorem opC_len {kd : Int} {p : Pk} {o : Of} {bv : Value} (kp : p.ok) (ko : o.ok) : (opC kd p o bv).length = 185 := by simp [opC, Pk.len kp, Of.len ko]
section
variable {w : World} {q : Nat} {kd : Int} {p : Pk} {o : Of} {bv : Value} {t : TypeId}
theorem ldOpK (hb : Blk w q (opC kd p o bv) t) : (Instr.loadAt 3 (.pointer (some ⟨q, 0, none⟩))).run Try.prog w = .ok (.int .i64 kd) w := by
  have h := hb.at1 (o := 0) (a := []) (x := .int .i64 kd) rfl rfl
  go_simp
theorem ldOpB (hb : Blk w q (opC kd p o bv) t) (kp : p.ok) (ko : o.ok) : (Instr.loadAt 31 (.pointer (some ⟨q, 184, none⟩))).run Try.prog w = .ok bv w := by
  have h := hb.at1 (o := 184) (a := [.int .i64 kd] ++ (p.cs ++ o.cs)) (b := []) (x := bv) (by simp [opC]) (by simp [Pk.len kp, Of.len ko])
  rw [hb.cell] at h
  exact ldS hb h
theorem ldOpPB (hb : Blk w q (opC kd p o bv) t) (kp : p.ok) : (Instr.loadAt 31 (.pointer (some ⟨q, 118, none⟩))).run Try.prog w = .ok p.bv w := by
  have h := hb.at1 (o := 118) (a := [.int .i64 kd] ++ ([.int .i64 p.k] ++ (p.hl.cs ++ p.hd.cs))) (b := o.cs ++ [bv]) (x := p.bv) (by simp [opC, Pk.cs]) (by simp [Hl.len kp.l, Hd.len kp.d])
  rw [hb.cell] at h
  exact ldS hb h
theorem ldOpP (hb : Blk w q (opC kd p o bv) t) (kp : p.ok) : (Instr.loadAt 33 (.pointer (some ⟨q, 1, none⟩))).run Try.prog w = .ok p.v w := hb.ldA (a := [.int .i64 kd]) (m := p.cs) (b := o.cs ++ [bv]) Try.underlying33 rfl (i33 kp) rfl rfl
theorem ldOpH (hb : Blk w q (opC kd p o bv) t) (kp : p.ok) : (Instr.loadAt 30 (.pointer (some ⟨q, 67, none⟩))).run Try.prog w = .ok p.hd.v w := hb.ldA (a := [.int .i64 kd] ++ ([.int .i64 p.k] ++ p.hl.cs)) (m := p.hd.cs) (b := [p.bv] ++ (o.cs ++ [bv])) Try.underlying30 rfl (i30 kp.d) (by simp [opC, Pk.cs]) (by simp [Hl.len kp.l])
theorem ldOpO (hb : Blk w q (opC kd p o bv) t) (kp : p.ok) (ko : o.ok) : (Instr.loadAt 42 (.pointer (some ⟨q, 119, none⟩))).run Try.prog w = .ok o.v w := hb.ldA (a := [.int .i64 kd] ++ p.cs) (m := o.cs) (b := [bv]) Try.underlying42 rfl (i42 ko) (by simp [opC]) (by simp [Pk.len kp])
end
/-- What a play starts from. -/
structure Pl0 (w : World) (b qb : Nat) (L V : Value) (es : List En3) (p : Pk) (o : Of) (bv : Value) (bs body : List UInt8) : Prop where
  kp : p.ok
  ko : o.ok
  bk : Bk w b qb L V es
  hb : Has w bv bs
  hy : Has w p.bv body
  ob : ∀ k, bookB qb L V k → Off bv bs k
  oy : ∀ k, bookB qb L V k → Off p.bv body k
  lb : bs.length ≤ 140737488355328
  ly : body.length ≤ 140737488355328
  le : es.length ≤ 900
/-- Ahead of what is noted. -/
structure Stp (w0 : World) (kd : Int) (p : Pk) (o : Of) (bv : Value) (bs body : List UInt8) (qx qp : Nat) (vx vy : Value) (M : Nat) (W : World) : Prop where
  bx : Blk W qx (opC kd p o bv) 60
  bp : Blk W qp (Pk.cs ⟨p.k, p.hl, p.hd, cutV vy 0 body.length⟩) 33
  ox : Has W vx (bs ++ marks)
  oy : Has W vy (body ++ marks)
  be : Below w0.heap.size w0 W
  qM : w0.heap.size ≤ qx ∧ qx < M
  xM : ∀ k, vx.ownBlock = some k → w0.heap.size ≤ k ∧ k < M
  yM : ∀ k, vy.ownBlock = some k → w0.heap.size ≤ k ∧ k < M
  mW : M ≤ W.heap.size
section
variable {w0 W W' : World} {b qb : Nat} {L V : Value} {es : List En3} {kd : Int} {p : Pk} {o : Of} {bv : Value} {bs body : List UInt8} {qx qp : Nat} {vx vy : Value} {M : Nat}
theorem Stp.below (h : Stp w0 kd p o bv bs body qx qp vx vy M W) (hb : Below W.heap.size W W') : Stp w0 kd p o bv bs body qx qp vx vy M W' := ⟨h.bx.on hb, h.bp.on hb, h.ox.below hb, h.oy.below hb, h.be.trans (hb.mono h.be.size), h.qM, h.xM, h.yM, Nat.le_trans h.mW hb.size⟩
theorem Stp.hin (h : Stp w0 kd p o bv bs body qx qp vx vy M W) : Has W (cutV vx 0 bs.length) bs := by
  have := h.ox.cut 0 bs.length (Nat.zero_le _) (by simp)
  simpa using this
theorem Stp.hyn (h : Stp w0 kd p o bv bs body qx qp vx vy M W) : Has W (cutV vy 0 body.length) body := by
  have := h.oy.cut 0 body.length (Nat.zero_le _) (by simp)
  simpa using this
/-- Behind what is noted. -/
structure Pn (w0 : World) (b qb : Nat) (L V : Value) (es : List En3) (kd : Int) (p : Pk) (o : Of) (bv : Value) (bs body : List UInt8) (qx : Nat) (vx vy : Value) (W : World) : Prop where
  bx : Blk W qx (opC kd p o bv) 60
  ox : Has W vx (bs ++ marks)
  oy : Has W vy (body ++ marks)
  hb : Has W bv bs
  hy : Has W p.bv body
  bk : ∃ L' V' es', Bk W b qb L' V' es' ∧ es'.length ≤ es.length + 2 ∧ Nw w0 L L' ∧ Nw w0 V V'
  fx : Fx (bookB qb L V) w0 W
theorem Pn.below (h : Pn w0 b qb L V es kd p o bv bs body qx vx vy W) (hb : Below W.heap.size W W') : Pn w0 b qb L V es kd p o bv bs body qx vx vy W' := by
  obtain ⟨L', V', es', h1, h2, h3, h4⟩ := h.bk
  exact ⟨h.bx.on hb, h.ox.below hb, h.oy.below hb, h.hb.below hb, h.hy.below hb, ⟨L', V', es', h1.below hb, h2, h3, h4⟩, h.fx.then_below hb⟩
theorem Stp.pn (h : Stp w0 kd p o bv bs body qx qp vx vy M W) (h0 : Pl0 w0 b qb L V es p o bv bs body) : Pn w0 b qb L V es kd p o bv bs body qx vx vy W :=
  ⟨h.bx, h.ox, h.oy, h0.hb.below h.be, h0.hy.below h.be, ⟨L, V, es, h0.bk.below h.be, by omega, fun k hk => .inl hk, fun k hk => .inl hk⟩, Fx.of_below h.be⟩
theorem note_st (h : Stp w0 kd p o bv bs body qx qp vx vy M W) (h0 : Pl0 w0 b qb L V es p o bv bs body) {l : Value} {ls : List UInt8} (hl : Ob W M l ls) (hls : ls.length ≤ 1000000) : Calls Try.prog 38 #[.pointer (some ⟨qb, 0, none⟩), l] W fun e w' => e = .returned (.tuple #[]) ∧ Pn w0 b qb L V es kd p o bv bs body qx vx vy w' := by
  have hM : w0.heap.size ≤ M := by have := h.qM; omega
  have hbw : b ≤ w0.heap.size := by have := h0.bk.bq; have := h0.bk.bl.lt; omega
  have hlo : ∀ k, l.ownBlock = some k → M ≤ k := hl.base
  refine (note_any W b qb L V es (h0.bk.below h.be) l ls (hl.lower (by omega)) hls h0.le (fun e he k hk => ⟨(h0.bk.hs e he).1.offB' (by have := hlo k hk; omega), (h0.bk.hs e he).2.offB' (by have := hlo k hk; omega)⟩)).mono ?_
  rintro e w' ⟨h1, L', V', es', hB', hn, hf, hnL, hnV⟩
  have hoff : ∀ v ys, (∀ k, v.ownBlock = some k → w0.heap.size ≤ k ∧ k < M) → ∀ k, (bookB qb L V k ∨ l.ownBlock = some k) → Off v ys k := fun v ys hv k hk => .inr (fun e => by
    have h3 := hv k e
    rcases hk with hk | hk
    · have := (h0.bk.lt hk).2; omega
    · have := hlo k hk; omega)
  have hofA : ∀ v ys, Has w0 v ys → (∀ k, bookB qb L V k → Off v ys k) → ∀ k, (bookB qb L V k ∨ l.ownBlock = some k) → Off v ys k := fun v ys hv ho k hk => by
    rcases hk with hk | hk
    · exact ho k hk
    · exact hv.offB' (by have := hlo k hk; omega)
  have hsz := h.be.size
  refine ⟨h1, h.bx.fx hf (fun e => ?_), h.ox.fxo hf (hoff _ _ h.xM), h.oy.fxo hf (hoff _ _ h.yM), (h0.hb.below h.be).fxo hf (hofA _ _ h0.hb h0.ob), (h0.hy.below h.be).fxo hf (hofA _ _ h0.hy h0.oy), ⟨L', V', es', hB', by omega, fun k hk => ?_, fun k hk => ?_⟩, (Fx.of_below h.be).trans hf (fun k hk e => ?_)⟩
  · have h3 := h.qM
    rcases e with e | e
    · have := (h0.bk.lt e).2; omega
    · have := hlo _ e; omega
  · rcases hnL k hk with e | e
    · exact .inl e
    · exact .inr (by omega)
  · rcases hnV k hk with e | e
    · exact .inl e
    · exact .inr (by omega)
  · rcases e with e | e
    · exact e
    · have := hlo _ e; omega
end
def unP (c : List UInt8) : Pk := if unE c = 0 then pkD c (.slice none 0 0) else Pk.z
def bdD (c : List UInt8) : List UInt8 := if unE c = 0 then boD c else []
theorem bdD_len (c : List UInt8) : (bdD c).length ≤ 544 := by
  unfold bdD
  split
  · rename_i h
    have := (flt_ok (pack_back h).2.2.1).2.2.2
    omega
  · exact Nat.zero_le _
theorem unA_of {w : World} {c : List UInt8} {e : Ending} {w' : World} (h : UnA w c e w') : ∃ p : Pk, e = .returned (.tuple #[p.v, .int .i64 (unE c)]) ∧ p.ok ∧ Ob w' w.heap.size p.bv (bdD c) ∧ p.k = (unP c).k ∧ p.hl = (unP c).hl ∧ p.hd = (unP c).hd ∧ Below w.heap.size w w' := by
  obtain ⟨p, h1, h2, h3, h4⟩ := h
  refine ⟨p, h1, ?_⟩
  unfold bdD unP
  by_cases hu : unE c = 0
  · rw [if_pos hu, if_pos hu]
    obtain ⟨vy, rfl, ob⟩ := h3 hu
    obtain ⟨_, _, _, k1, k2⟩ := pack_back hu
    exact ⟨⟨k1, k2⟩, ob, rfl, rfl, rfl, h4⟩
  · rw [if_neg hu, if_neg hu, h2 hu]
    exact ⟨Pk.z_ok, Ob.nil _ _, rfl, rfl, rfl, h4⟩
end Go.Proofs.Ytobfebpinkikdaa
