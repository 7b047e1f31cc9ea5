import Derived.Test.YtacimelcmkhhlaaKl
set_option linter.unusedVariables false
set_option linter.unusedSimpArgs false
namespace Go.Proofs.Ytacimelcmkhhlaa
open Go.RowKit

/-- An operation's cells. -/
def opC (kd : Int) (s : Sg) (l : Lm) (bv : Value) : List Value := [.int .i64 kd] ++ (s.cs ++ (l.cs ++ [bv]))
theorem opC_len {kd : Int} {s : Sg} {l : Lm} {bv : Value} (ks : s.ok) : (opC kd s l bv).length = 351 := by simp [opC, Sg.len ks, Lm.cs]
theorem f62_0 (q : Nat) (W : World) : (Instr.fieldAt 62 (.pointer (some ⟨q, 0, none⟩)) 0).run Try.prog W = .ok (.pointer (some ⟨q, 0, none⟩)) W := by
  go_simp
  try simp
  try rw [add_plain]
theorem f62_1 (q : Nat) (W : World) : (Instr.fieldAt 62 (.pointer (some ⟨q, 0, none⟩)) 1).run Try.prog W = .ok (.pointer (some ⟨q, 1, none⟩)) W := by
  go_simp
  try simp
  try rw [add_plain]
theorem f62_2 (q : Nat) (W : World) : (Instr.fieldAt 62 (.pointer (some ⟨q, 0, none⟩)) 2).run Try.prog W = .ok (.pointer (some ⟨q, 344, none⟩)) W := by
  go_simp
  try simp
  try rw [add_plain]
theorem f62_3 (q : Nat) (W : World) : (Instr.fieldAt 62 (.pointer (some ⟨q, 0, none⟩)) 3).run Try.prog W = .ok (.pointer (some ⟨q, 350, none⟩)) W := by
  go_simp
  try simp
  try rw [add_plain]
section
variable {w : World} {q : Nat} {kd : Int} {s : Sg} {l : Lm} {bv : Value} {t : TypeId}
theorem ldOpK (hb : Blk w q (opC kd s l bv) t) : (Instr.loadAt 3 (.pointer (some ⟨q, 0, none⟩))).run Try.prog w = .ok (.int .i64 kd) w := ldI hb rfl
theorem ldOpB (hb : Blk w q (opC kd s l bv) t) (ks : s.ok) : (Instr.loadAt 38 (.pointer (some ⟨q, 350, none⟩))).run Try.prog w = .ok bv w := by
  have h := hb.at1 (o := 350) (a := [.int .i64 kd] ++ (s.cs ++ l.cs)) (b := []) (x := bv) (by simp [opC]) (by simp [Sg.len ks, Lm.cs])
  rw [hb.cell] at h
  exact ldS hb h
theorem ldOpS (hb : Blk w q (opC kd s l bv) t) (ks : s.ok) : (Instr.loadAt 33 (.pointer (some ⟨q, 1, none⟩))).run Try.prog w = .ok s.v w := hb.ldA (a := [.int .i64 kd]) (m := s.cs) (b := l.cs ++ [bv]) Try.underlying33 rfl (i33 ks) rfl rfl
theorem ldOpL (hb : Blk w q (opC kd s l bv) t) (ks : s.ok) : (Instr.loadAt 43 (.pointer (some ⟨q, 344, none⟩))).run Try.prog w = .ok l.v w := hb.ldA (a := [.int .i64 kd] ++ s.cs) (m := l.cs) (b := [bv]) Try.underlying43 rfl i43 (by simp [opC]) (by simp [Sg.len ks])
end
/-- What a play starts from. -/
structure Pl0 (w : World) (b qb : Nat) (L V : Value) (es : List En3) (s : Sg) (l : Lm) (bv : Value) (bs : List UInt8) : Prop where
  ks : s.ok
  kl : l.ok
  bk : Bk w b qb L V es
  hb : Has w bv bs
  ob : ∀ k, bookB qb L V k → Off bv bs k
  lb : bs.length ≤ 140737488355328
  le : es.length ≤ 900
/-- Ahead of what is noted. -/
structure Stp (w0 : World) (kd : Int) (s : Sg) (l : Lm) (bv : Value) (bs : List UInt8) (qx : Nat) (vx : Value) (M : Nat) (W : World) : Prop where
  bx : Blk W qx (opC kd s l bv) 62
  ox : Has W vx (bs ++ marks)
  be : Below w0.heap.size w0 W
  qM : w0.heap.size ≤ qx ∧ qx < M
  xM : ∀ k, vx.ownBlock = some k → w0.heap.size ≤ k ∧ k < M
  mW : M ≤ W.heap.size
section
variable {w0 W W' : World} {b qb : Nat} {L V : Value} {es : List En3} {kd : Int} {s : Sg} {l : Lm} {bv : Value} {bs : List UInt8} {qx : Nat} {vx : Value} {M : Nat}
theorem Stp.below (h : Stp w0 kd s l bv bs qx vx M W) (hb : Below W.heap.size W W') : Stp w0 kd s l bv bs qx vx M W' := ⟨h.bx.on hb, h.ox.below hb, h.be.trans (hb.mono h.be.size), h.qM, h.xM, Nat.le_trans h.mW hb.size⟩
theorem Stp.hin (h : Stp w0 kd s l bv bs qx vx M W) : Has W (cutV vx 0 bs.length) bs := by
  have := h.ox.cut 0 bs.length (Nat.zero_le _) (by simp)
  simpa using this
/-- Behind what is noted. -/
structure Pn (w0 : World) (b qb : Nat) (L V : Value) (es : List En3) (kd : Int) (s : Sg) (l : Lm) (bv : Value) (bs : List UInt8) (qx : Nat) (vx : Value) (W : World) : Prop where
  bx : Blk W qx (opC kd s l bv) 62
  ox : Has W vx (bs ++ marks)
  hb : Has W bv bs
  bk : ∃ L' V' es', Bk W b qb L' V' es' ∧ es'.length ≤ es.length + 2 ∧ Nw w0 L L' ∧ Nw w0 V V'
  fx : Fx (bookB qb L V) w0 W
theorem Pn.below (h : Pn w0 b qb L V es kd s l bv bs qx vx W) (hb : Below W.heap.size W W') : Pn w0 b qb L V es kd s l bv bs qx vx W' := by
  obtain ⟨L', V', es', h1, h2, h3, h4⟩ := h.bk
  exact ⟨h.bx.on hb, h.ox.below hb, h.hb.below hb, ⟨L', V', es', h1.below hb, h2, h3, h4⟩, h.fx.then_below hb⟩
theorem Stp.pn (h : Stp w0 kd s l bv bs qx vx M W) (h0 : Pl0 w0 b qb L V es s l bv bs) : Pn w0 b qb L V es kd s l bv bs qx vx W :=
  ⟨h.bx, h.ox, h0.hb.below h.be, ⟨L, V, es, h0.bk.below h.be, by omega, fun k hk => .inl hk, fun k hk => .inl hk⟩, Fx.of_below h.be⟩
theorem note_st (h : Stp w0 kd s l bv bs qx vx M W) (h0 : Pl0 w0 b qb L V es s l bv bs) {v : Value} {ls : List UInt8} (hl : Ob W M v ls) (hls : ls.length ≤ 1000000) : Calls Try.prog 49 #[.pointer (some ⟨qb, 0, none⟩), v] W fun e w' => e = .returned (.tuple #[]) ∧ Pn w0 b qb L V es kd s l bv bs qx vx w' := by
  have hM : w0.heap.size ≤ M := by have := h.qM; omega
  have hbw : b ≤ w0.heap.size := by have := h0.bk.bq; have := h0.bk.bl.lt; omega
  have hlo : ∀ k, v.ownBlock = some k → M ≤ k := hl.base
  refine (note_any W b qb L V es (h0.bk.below h.be) v ls (hl.lower (by omega)) hls h0.le (fun e he k hk => ⟨(h0.bk.hs e he).1.offB' (by have := hlo k hk; omega), (h0.bk.hs e he).2.offB' (by have := hlo k hk; omega)⟩)).mono ?_
  rintro e w' ⟨h1, L', V', es', hB', hn, hf, hnL, hnV⟩
  have hoff : ∀ v' ys, (∀ k, v'.ownBlock = some k → w0.heap.size ≤ k ∧ k < M) → ∀ k, (bookB qb L V k ∨ v.ownBlock = some k) → Off v' ys k := fun v' ys hv k hk => .inr (fun e => by
    have h3 := hv k e
    rcases hk with hk | hk
    · have := (h0.bk.lt hk).2; omega
    · have := hlo k hk; omega)
  have hofA : ∀ v' ys, Has w0 v' ys → (∀ k, bookB qb L V k → Off v' ys k) → ∀ k, (bookB qb L V k ∨ v.ownBlock = some k) → Off v' ys k := fun v' ys hv ho k hk => by
    rcases hk with hk | hk
    · exact ho k hk
    · exact hv.offB' (by have := hlo k hk; omega)
  have hsz := h.be.size
  refine ⟨h1, h.bx.fx hf (fun e => ?_), h.ox.fxo hf (hoff _ _ h.xM), (h0.hb.below h.be).fxo hf (hofA _ _ h0.hb h0.ob), ⟨L', V', es', hB', by omega, fun k hk => ?_, fun k hk => ?_⟩, (Fx.of_below h.be).trans hf (fun k hk e => ?_)⟩
  · have h3 := h.qM
    rcases e with e | e
    · have := (h0.bk.lt e).2; omega
    · have := hlo _ e; omega
  · rcases hnL k hk with e | e
    · exact .inl e
    · exact .inr (by omega)
  · rcases hnV k hk with e | e
    · exact .inl e
    · exact .inr (by omega)
  · rcases e with e | e
    · exact e
    · have := hlo _ e; omega
end
theorem enV_len {s : Sg} (k : s.ok) : (if Good s then encD s else []).length ≤ 1000000 := by
  by_cases h : Good s
  · have := (enc_len k h).2
    rw [if_pos h]
    omega
  · rw [if_neg h]
    exact Nat.zero_le _
theorem enLV_len (l : Lm) : (if GoodL l then encL l else []).length ≤ 1000000 := by
  by_cases h : GoodL l
  · rw [if_pos h, encL_len]
    decide
  · rw [if_neg h]
    exact Nat.zero_le _
set_option maxRecDepth 100000 in
set_option maxHeartbeats 16000000 in
theorem plays_any (w : World) (b qb : Nat) (L V : Value) (es : List En3) (kd : Int) (s : Sg) (l : Lm) (bv : Value) (bs : List UInt8) (h0 : Pl0 w b qb L V es s l bv bs) : Calls Try.prog 18 #[.pointer (some ⟨qb, 0, none⟩), .agg (opC kd s l bv).toArray] w fun e w' => e = .returned (.bool true) ∧ (∃ L' V' es', Bk w' b qb L' V' es' ∧ es'.length ≤ es.length + 2 ∧ Nw w L L' ∧ Nw w V V') ∧ Fx (bookB qb L V) w w' := by
  obtain ⟨w1, qx, r1, bx1, e1, hqx⟩ := box_any 62 (opC kd s l bv) w
  have l1 := e1.size
  have hb1 := h0.hb.below e1
  refine calls_of_args [.pointer (some ⟨qb, 0, none⟩), .agg (opC kd s l bv).toArray] Try.func18 rfl 151 Try.ntmps18 (by show 2 ≤ 151; decide) ?_
  refine EW.seq ?_
  refine EW.region ?_
  refine WL.box rfl rfl rfl r1 ?_
  first | refine WL.assign rfl rfl rfl ?_
  refine WL.done ?_
  refine EW.on ?_
  refine EW.seq ?_
  refine EW.region ?_
  refine WL.field rfl rfl rfl (f62_3 qx _) ?_
  refine WL.load rfl rfl rfl (ldOpB bx1 h0.ks) ?_
  refine WL.call [bv] enter46 rfl rfl rfl (room_any bv bs _ hb1 h0.lb) ?_
  rintro _ w2 ⟨vx, rfl, ox2, be2⟩
  refine ⟨_, rfl, ?_⟩
  have bx2 := bx1.on be2
  have l2 := be2.size
  have hqxl := bx1.lt
  have S2 : Stp w kd s l bv bs qx vx w2.heap.size w2 := ⟨bx2, ox2.has, bt e1 be2, ⟨by omega, by omega⟩, fun k hk => ⟨Nat.le_trans l1 (ox2.base k hk), (row_lt ox2.row hk).1⟩, Nat.le_refl _⟩
  first | refine WL.assign rfl rfl rfl ?_
  refine WL.done ?_
  refine EW.on ?_
  refine EW.seq ?_
  refine EW.region ?_
  first | refine WL.move rfl rfl rfl ?_
  refine WL.field rfl rfl rfl (f62_3 qx _) ?_
  refine WL.load rfl rfl rfl (ldOpB S2.bx h0.ks) ?_
  refine WL.len rfl rfl rfl (h0.hb.len _ _) ?_
  refine WL.sliceH rfl rfl rfl rfl (by rw [sl22]; exact S2.ox.cutH bs.length (by simp) _) ?_
  first | refine WL.assign rfl rfl rfl ?_
  refine WL.done ?_
  refine EW.on ?_
  refine EW.seq ?_
  refine EW.region ?_
  first | refine WL.assign rfl rfl rfl ?_
  refine WL.done ?_
  refine EW.on ?_
  refine EW.seq ?_
  refine EW.seq ?_
  have hkd : kd = 1 ∨ kd = 2 ∨ kd = 3 ∨ kd = 4 ∨ kd = 5 ∨ kd = 6 ∨ (¬ kd = 1 ∧ ¬ kd = 2 ∧ ¬ kd = 3 ∧ ¬ kd = 4 ∧ ¬ kd = 5 ∧ ¬ kd = 6) := by omega
  rcases hkd with rfl | rfl | rfl | rfl | rfl | rfl | ⟨g1, g2, g3, g4, g5, g6⟩
  · refine EW.region ?_
    refine WL.field rfl rfl rfl (f62_0 qx _) ?_
    refine WL.load rfl rfl rfl (ldOpK S2.bx) ?_
    refine WL.done ?_
    refine EW.on ?_
    refine EW.block ?_
    refine EW.seq ?_
    refine EW.region ?_
    refine WL.bin rfl rfl rfl rfl (int_eq_t rfl _ _ _) ?_
    first | refine WL.assign rfl rfl rfl ?_
    refine WL.done ?_
    refine EW.on ?_
    refine EW.cond_t rfl ?_
    refine EW.ordB [(0, 0, 0), (1, 0, 1), (3, 0, 0), (4, 0, 1), (2, 1, 1), (5, 1, 1), (6, 0, 0), (7, 0, 0)] (by kernel_rfl) rfl (by kernel_rfl) ?_
    simp only [opsZ, List.getD_cons_zero, List.getD_cons_succ]
    refine ZE.field rfl rfl rfl rfl sz0 (fun W => f62_1 qx W) ?_
    refine ZE.load rfl rfl rfl rfl sz1 (fun W hW => ldOpS (S2.bx.on (sb_of hW)) h0.ks) ?_
    refine ZE.field rfl rfl rfl rfl sz0 (fun W => f62_1 qx W) ?_
    refine ZE.load rfl rfl rfl rfl sz1 (fun W hW => ldOpS (S2.bx.on (sb_of hW)) h0.ks) ?_
    refine ZE.callR [s.v] (fun u W => u = .int .i64 (chkD s) ∧ Below w2.heap.size w2 W) enter10 rfl rfl rfl (fun _ _ h => .inr h.2) (fun W hW => (check_any s h0.ks W).mono fun e w' ⟨g1, g3⟩ => ⟨_, g1, rfl, bt hW g3⟩) ?_
    rintro _ ⟨_, rfl, _⟩
    refine ZE.callR [s.v] (fun u W => u = .int .i64 (chkD s) ∧ Below w2.heap.size w2 W) enter47 rfl rfl rfl (fun _ _ h => .inr h.2) (fun W hW => (rcheck_any s h0.ks W).mono fun e w' ⟨g1, g3⟩ => ⟨_, g1, rfl, bt hW.2 g3⟩) ?_
    rintro _ ⟨_, rfl, _⟩
    first | refine ZE.bin rfl rfl rfl rfl rfl sz0 (fun W => int_eq_t rfl W _ _) ?_ | refine ZE.bin rfl rfl rfl rfl rfl sz0 (fun W => int_eq_t ‹_› W _ _) ?_ | refine ZE.bin rfl rfl rfl rfl rfl sz0 (fun W => int_eq_f ‹_› W _ _) ?_ | refine ZE.bin rfl rfl rfl rfl rfl sz0 (fun W => int_eq_d _ _ W _ _) ?_
    first | refine ZE.assign rfl rfl rfl rfl sz0 ?_
    rintro w3 ⟨_, be3⟩
    have S3 := S2.below be3
    refine pn_block ?_
    refine EW.on ?_
    refine EW.seq ?_
    have P3 := S3.pn h0
    refine EW.region ?_
    first | refine WL.move rfl rfl rfl ?_
    first | refine WL.move rfl rfl rfl ?_
    first | refine WL.move rfl rfl rfl ?_ | refine WL.skip _ rfl rfl rfl ?_
    refine WL.field rfl rfl rfl (f62_3 qx _) ?_
    refine WL.load rfl rfl rfl (ldOpB P3.bx h0.ks) ?_
    refine WL.call [vx, bv] enter54 rfl rfl rfl (kept_yes vx bv bs w3 P3.ox P3.hb h0.lb) ?_
    rintro _ w4 ⟨rfl, be4⟩
    have S4 := S3.below be4
    have P4 := P3.below be4
    refine ⟨_, rfl, ?_⟩
    first | refine WL.pick rfl rfl rfl rfl ?_
    first | refine WL.assign rfl rfl rfl ?_
    refine WL.done ?_
    refine EW.on ?_
    refine EW.ret ?_
    exact EW.returns Try.results18 rfl ⟨rfl, P4.bk, P4.fx⟩
  · refine EW.region ?_
    refine WL.field rfl rfl rfl (f62_0 qx _) ?_
    refine WL.load rfl rfl rfl (ldOpK S2.bx) ?_
    refine WL.done ?_
    refine EW.on ?_
    refine EW.block ?_
    refine EW.seq ?_
    refine EW.region ?_
    refine WL.bin rfl rfl rfl rfl (int_eq_f (by decide) _ _ _) ?_
    first | refine WL.assign rfl rfl rfl ?_
    refine WL.done ?_
    refine EW.on ?_
    refine EW.cond_f rfl ?_
    refine EW.seq ?_
    refine EW.region ?_
    refine WL.bin rfl rfl rfl rfl (int_eq_t rfl _ _ _) ?_
    first | refine WL.assign rfl rfl rfl ?_
    refine WL.done ?_
    refine EW.on ?_
    refine EW.cond_t rfl ?_
    refine EW.seq ?_
    refine EW.region ?_
    refine WL.field rfl rfl rfl (f62_1 qx _) ?_
    refine WL.load rfl rfl rfl (ldOpS S2.bx h0.ks) ?_
    refine WL.call [s.v] enter12 rfl rfl rfl (encode_any s h0.ks w2) ?_
    rintro _ w3 ⟨v, rfl, ov3, be3⟩
    have S3 := S2.below be3
    refine ⟨_, rfl, ?_⟩
    first | refine WL.move rfl rfl rfl ?_
    first | refine WL.extract rfl rfl rfl (ext_2 _ _ _).1 ?_
    first | refine WL.extract rfl rfl rfl (ext_2 _ _ _).2 ?_
    first | refine WL.assign rfl rfl rfl ?_
    first | refine WL.assign rfl rfl rfl ?_
    refine WL.done ?_
    refine EW.on ?_
    refine EW.seq ?_
    refine EW.region ?_
    refine WL.field rfl rfl rfl (f62_1 qx _) ?_
    refine WL.load rfl rfl rfl (ldOpS S3.bx h0.ks) ?_
    refine WL.call [s.v] enter48 rfl rfl rfl (rencode_any s h0.ks w3) ?_
    rintro _ w4 ⟨v2, rfl, ou4, be4⟩
    have S4 := S3.below be4
    have ov4 := ov3.below be4
    refine ⟨_, rfl, ?_⟩
    first | refine WL.move rfl rfl rfl ?_
    first | refine WL.extract rfl rfl rfl (ext_2 _ _ _).1 ?_
    first | refine WL.extract rfl rfl rfl (ext_2 _ _ _).2 ?_
    first | refine WL.assign rfl rfl rfl ?_
    first | refine WL.assign rfl rfl rfl ?_
    refine WL.done ?_
    refine EW.on ?_
    refine EW.seq ?_
    refine EW.region ?_
    first | refine WL.move rfl rfl rfl ?_
    first | refine WL.move rfl rfl rfl ?_
    refine WL.bin rfl rfl rfl rfl (int_eq_t rfl _ _ _) ?_
    first | refine WL.move rfl rfl rfl ?_
    first | refine WL.move rfl rfl rfl ?_ | refine WL.skip _ rfl rfl rfl ?_
    first | refine WL.move rfl rfl rfl ?_ | refine WL.skip _ rfl rfl rfl ?_
    refine WL.call [v, v2] enter17 rfl rfl rfl (eq_yes v v2 (if Good s then encD s else []) w4 ov4.has ou4.has) ?_
    rintro _ w' ⟨rfl, hz⟩
    rw [hz]
    clear hz
    clear w'
    refine ⟨_, rfl, ?_⟩
    first | refine WL.pick rfl rfl rfl rfl ?_
    first | refine WL.assign rfl rfl rfl ?_
    refine WL.done ?_
    refine EW.on ?_
    refine EW.region ?_
    first | refine WL.move rfl rfl rfl ?_
    first | refine WL.move rfl rfl rfl ?_
    refine WL.call [.pointer (some ⟨qb, 0, none⟩), v] enter49 rfl rfl rfl (note_st S4 h0 ov4 (enV_len h0.ks)) ?_
    rintro _ w5 ⟨rfl, P5⟩
    refine ⟨_, rfl, ?_⟩
    refine WL.done ?_
    refine pn_block ?_
    refine EW.on ?_
    refine EW.seq ?_
    refine EW.region ?_
    first | refine WL.move rfl rfl rfl ?_
    first | refine WL.move rfl rfl rfl ?_
    first | refine WL.move rfl rfl rfl ?_ | refine WL.skip _ rfl rfl rfl ?_
    refine WL.field rfl rfl rfl (f62_3 qx _) ?_
    refine WL.load rfl rfl rfl (ldOpB P5.bx h0.ks) ?_
    refine WL.call [vx, bv] enter54 rfl rfl rfl (kept_yes vx bv bs w5 P5.ox P5.hb h0.lb) ?_
    rintro _ w6 ⟨rfl, be6⟩
    have P6 := P5.below be6
    refine ⟨_, rfl, ?_⟩
    first | refine WL.pick rfl rfl rfl rfl ?_
    first | refine WL.assign rfl rfl rfl ?_
    refine WL.done ?_
    refine EW.on ?_
    refine EW.ret ?_
    exact EW.returns Try.results18 rfl ⟨rfl, P6.bk, P6.fx⟩
  · refine EW.region ?_
    refine WL.field rfl rfl rfl (f62_0 qx _) ?_
    refine WL.load rfl rfl rfl (ldOpK S2.bx) ?_
    refine WL.done ?_
    refine EW.on ?_
    refine EW.block ?_
    refine EW.seq ?_
    refine EW.region ?_
    refine WL.bin rfl rfl rfl rfl (int_eq_f (by decide) _ _ _) ?_
    first | refine WL.assign rfl rfl rfl ?_
    refine WL.done ?_
    refine EW.on ?_
    refine EW.cond_f rfl ?_
    refine EW.seq ?_
    refine EW.region ?_
    refine WL.bin rfl rfl rfl rfl (int_eq_f (by decide) _ _ _) ?_
    first | refine WL.assign rfl rfl rfl ?_
    refine WL.done ?_
    refine EW.on ?_
    refine EW.cond_f rfl ?_
    refine EW.seq ?_
    refine EW.region ?_
    refine WL.bin rfl rfl rfl rfl (int_eq_t rfl _ _ _) ?_
    first | refine WL.assign rfl rfl rfl ?_
    refine WL.done ?_
    refine EW.on ?_
    refine EW.cond_t rfl ?_
    refine EW.seq ?_
    refine EW.region ?_
    first | refine WL.move rfl rfl rfl ?_
    refine WL.call [cutV vx 0 bs.length] enter16 rfl rfl rfl (decode_any _ bs w2 S2.hin h0.lb) ?_
    rintro _ w3 ⟨rfl, be3⟩
    have S3 := S2.below be3
    refine ⟨_, rfl, ?_⟩
    obtain ⟨q12, wa3, w4, ra4, rs4, bq4, bea4, hq12⟩ := putS (decS_ok bs) w3
    have S4 := S3.below bea4
    first | refine WL.move rfl rfl rfl ?_
    first | refine WL.extract rfl rfl rfl (ext_2 _ _ _).1 ?_
    first | refine WL.extract rfl rfl rfl (ext_2 _ _ _).2 ?_
    refine WL.new rfl rfl ra4 ?_
    refine WL.store rfl rfl rfl rs4 ?_
    first | refine WL.assign rfl rfl rfl ?_
    refine WL.done ?_
    refine EW.on ?_
    refine EW.seq ?_
    refine EW.region ?_
    refine WL.field rfl rfl rfl (f62_3 qx _) ?_
    refine WL.load rfl rfl rfl (ldOpB S4.bx h0.ks) ?_
    refine WL.call [bv] enter50 rfl rfl rfl (rdecode_any bv bs w4 (h0.hb.below S4.be) h0.lb) ?_
    rintro _ w5 ⟨rfl, be5⟩
    have S5 := S4.below be5
    have bq5 := bq4.on be5
    refine ⟨_, rfl, ?_⟩
    obtain ⟨q14, wa5, w6, ra6, rs6, br6, bea6, hq14⟩ := putS (decS_ok bs) w5
    have S6 := S5.below bea6
    have bq6 := bq5.on bea6
    first | refine WL.move rfl rfl rfl ?_
    first | refine WL.extract rfl rfl rfl (ext_2 _ _ _).1 ?_
    first | refine WL.extract rfl rfl rfl (ext_2 _ _ _).2 ?_
    refine WL.new rfl rfl ra6 ?_
    refine WL.store rfl rfl rfl rs6 ?_
    first | refine WL.assign rfl rfl rfl ?_
    refine WL.done ?_
    refine EW.on ?_
    refine EW.region ?_
    first | refine WL.move rfl rfl rfl ?_
    first | refine WL.move rfl rfl rfl ?_
    refine WL.bin rfl rfl rfl rfl (int_eq_t rfl _ _ _) ?_
    first | refine WL.move rfl rfl rfl ?_
    refine WL.load rfl rfl rfl (Sg.ld bq6 (decS_ok _)) ?_
    refine WL.load rfl rfl rfl (Sg.ld br6 (decS_ok _)) ?_
    refine WL.bin rfl rfl rfl rfl (eql33 _ _ (decS_ok _) (decS_ok _) _ _ _) ?_
    rw [show decide (decS bs = decS bs) = true from decide_eq_true rfl]
    first | refine WL.pick rfl rfl rfl rfl ?_
    first | refine WL.assign rfl rfl rfl ?_
    refine WL.done ?_
    refine pn_block ?_
    refine EW.on ?_
    refine EW.seq ?_
    have P6 := S6.pn h0
    refine EW.region ?_
    first | refine WL.move rfl rfl rfl ?_
    first | refine WL.move rfl rfl rfl ?_
    first | refine WL.move rfl rfl rfl ?_ | refine WL.skip _ rfl rfl rfl ?_
    refine WL.field rfl rfl rfl (f62_3 qx _) ?_
    refine WL.load rfl rfl rfl (ldOpB P6.bx h0.ks) ?_
    refine WL.call [vx, bv] enter54 rfl rfl rfl (kept_yes vx bv bs w6 P6.ox P6.hb h0.lb) ?_
    rintro _ w7 ⟨rfl, be7⟩
    have S7 := S6.below be7
    have bq7 := bq6.on be7
    have br7 := br6.on be7
    have P7 := P6.below be7
    refine ⟨_, rfl, ?_⟩
    first | refine WL.pick rfl rfl rfl rfl ?_
    first | refine WL.assign rfl rfl rfl ?_
    refine WL.done ?_
    refine EW.on ?_
    refine EW.ret ?_
    exact EW.returns Try.results18 rfl ⟨rfl, P7.bk, P7.fx⟩
  · refine EW.region ?_
    refine WL.field rfl rfl rfl (f62_0 qx _) ?_
    refine WL.load rfl rfl rfl (ldOpK S2.bx) ?_
    refine WL.done ?_
    refine EW.on ?_
    refine EW.block ?_
    refine EW.seq ?_
    refine EW.region ?_
    refine WL.bin rfl rfl rfl rfl (int_eq_f (by decide) _ _ _) ?_
    first | refine WL.assign rfl rfl rfl ?_
    refine WL.done ?_
    refine EW.on ?_
    refine EW.cond_f rfl ?_
    refine EW.seq ?_
    refine EW.region ?_
    refine WL.bin rfl rfl rfl rfl (int_eq_f (by decide) _ _ _) ?_
    first | refine WL.assign rfl rfl rfl ?_
    refine WL.done ?_
    refine EW.on ?_
    refine EW.cond_f rfl ?_
    refine EW.seq ?_
    refine EW.region ?_
    refine WL.bin rfl rfl rfl rfl (int_eq_f (by decide) _ _ _) ?_
    first | refine WL.assign rfl rfl rfl ?_
    refine WL.done ?_
    refine EW.on ?_
    refine EW.cond_f rfl ?_
    refine EW.seq ?_
    refine EW.region ?_
    refine WL.bin rfl rfl rfl rfl (int_eq_t rfl _ _ _) ?_
    first | refine WL.assign rfl rfl rfl ?_
    refine WL.done ?_
    refine EW.on ?_
    refine EW.cond_t rfl ?_
    refine EW.ordB [(0, 0, 0), (1, 0, 1), (3, 0, 0), (4, 0, 1), (2, 1, 1), (5, 1, 1), (6, 0, 0), (7, 0, 0)] (by kernel_rfl) rfl (by kernel_rfl) ?_
    simp only [opsZ, List.getD_cons_zero, List.getD_cons_succ]
    refine ZE.field rfl rfl rfl rfl sz0 (fun W => f62_2 qx W) ?_
    refine ZE.load rfl rfl rfl rfl sz1 (fun W hW => ldOpL (S2.bx.on (sb_of hW)) h0.ks) ?_
    refine ZE.field rfl rfl rfl rfl sz0 (fun W => f62_2 qx W) ?_
    refine ZE.load rfl rfl rfl rfl sz1 (fun W hW => ldOpL (S2.bx.on (sb_of hW)) h0.ks) ?_
    refine ZE.callR [l.v] (fun u W => u = .int .i64 (chkL l) ∧ Below w2.heap.size w2 W) enter14 rfl rfl rfl (fun _ _ h => .inr h.2) (fun W hW => (checkL_any l h0.kl W).mono fun e w' ⟨g1, g3⟩ => ⟨_, g1, rfl, bt hW g3⟩) ?_
    rintro _ ⟨_, rfl, _⟩
    refine ZE.callR [l.v] (fun u W => u = .int .i64 (chkL l) ∧ Below w2.heap.size w2 W) enter51 rfl rfl rfl (fun _ _ h => .inr h.2) (fun W hW => (rcheckL_any l h0.kl W).mono fun e w' ⟨g1, g3⟩ => ⟨_, g1, rfl, bt hW.2 g3⟩) ?_
    rintro _ ⟨_, rfl, _⟩
    first | refine ZE.bin rfl rfl rfl rfl rfl sz0 (fun W => int_eq_t rfl W _ _) ?_ | refine ZE.bin rfl rfl rfl rfl rfl sz0 (fun W => int_eq_t ‹_› W _ _) ?_ | refine ZE.bin rfl rfl rfl rfl rfl sz0 (fun W => int_eq_f ‹_› W _ _) ?_ | refine ZE.bin rfl rfl rfl rfl rfl sz0 (fun W => int_eq_d _ _ W _ _) ?_
    first | refine ZE.assign rfl rfl rfl rfl sz0 ?_
    rintro w3 ⟨_, be3⟩
    have S3 := S2.below be3
    refine pn_block ?_
    refine EW.on ?_
    refine EW.seq ?_
    have P3 := S3.pn h0
    refine EW.region ?_
    first | refine WL.move rfl rfl rfl ?_
    first | refine WL.move rfl rfl rfl ?_
    first | refine WL.move rfl rfl rfl ?_ | refine WL.skip _ rfl rfl rfl ?_
    refine WL.field rfl rfl rfl (f62_3 qx _) ?_
    refine WL.load rfl rfl rfl (ldOpB P3.bx h0.ks) ?_
    refine WL.call [vx, bv] enter54 rfl rfl rfl (kept_yes vx bv bs w3 P3.ox P3.hb h0.lb) ?_
    rintro _ w4 ⟨rfl, be4⟩
    have S4 := S3.below be4
    have P4 := P3.below be4
    refine ⟨_, rfl, ?_⟩
    first | refine WL.pick rfl rfl rfl rfl ?_
    first | refine WL.assign rfl rfl rfl ?_
    refine WL.done ?_
    refine EW.on ?_
    refine EW.ret ?_
    exact EW.returns Try.results18 rfl ⟨rfl, P4.bk, P4.fx⟩
  · refine EW.region ?_
    refine WL.field rfl rfl rfl (f62_0 qx _) ?_
    refine WL.load rfl rfl rfl (ldOpK S2.bx) ?_
    refine WL.done ?_
    refine EW.on ?_
    refine EW.block ?_
    refine EW.seq ?_
    refine EW.region ?_
    refine WL.bin rfl rfl rfl rfl (int_eq_f (by decide) _ _ _) ?_
    first | refine WL.assign rfl rfl rfl ?_
    refine WL.done ?_
    refine EW.on ?_
    refine EW.cond_f rfl ?_
    refine EW.seq ?_
    refine EW.region ?_
    refine WL.bin rfl rfl rfl rfl (int_eq_f (by decide) _ _ _) ?_
    first | refine WL.assign rfl rfl rfl ?_
    refine WL.done ?_
    refine EW.on ?_
    refine EW.cond_f rfl ?_
    refine EW.seq ?_
    refine EW.region ?_
    refine WL.bin rfl rfl rfl rfl (int_eq_f (by decide) _ _ _) ?_
    first | refine WL.assign rfl rfl rfl ?_
    refine WL.done ?_
    refine EW.on ?_
    refine EW.cond_f rfl ?_
    refine EW.seq ?_
    refine EW.region ?_
    refine WL.bin rfl rfl rfl rfl (int_eq_f (by decide) _ _ _) ?_
    first | refine WL.assign rfl rfl rfl ?_
    refine WL.done ?_
    refine EW.on ?_
    refine EW.cond_f rfl ?_
    refine EW.seq ?_
    refine EW.region ?_
    refine WL.bin rfl rfl rfl rfl (int_eq_t rfl _ _ _) ?_
    first | refine WL.assign rfl rfl rfl ?_
    refine WL.done ?_
    refine EW.on ?_
    refine EW.cond_t rfl ?_
    refine EW.seq ?_
    refine EW.region ?_
    refine WL.field rfl rfl rfl (f62_2 qx _) ?_
    refine WL.load rfl rfl rfl (ldOpL S2.bx h0.ks) ?_
    refine WL.call [l.v] enter13 rfl rfl rfl (encodeL_any l h0.kl w2) ?_
    rintro _ w3 ⟨v, rfl, ov3, be3⟩
    have S3 := S2.below be3
    refine ⟨_, rfl, ?_⟩
    first | refine WL.move rfl rfl rfl ?_
    first | refine WL.extract rfl rfl rfl (ext_2 _ _ _).1 ?_
    first | refine WL.extract rfl rfl rfl (ext_2 _ _ _).2 ?_
    first | refine WL.assign rfl rfl rfl ?_
    first | refine WL.assign rfl rfl rfl ?_
    refine WL.done ?_
    refine EW.on ?_
    refine EW.seq ?_
    refine EW.region ?_
    refine WL.field rfl rfl rfl (f62_2 qx _) ?_
    refine WL.load rfl rfl rfl (ldOpL S3.bx h0.ks) ?_
    refine WL.call [l.v] enter52 rfl rfl rfl (rencodeL_any l h0.kl w3) ?_
    rintro _ w4 ⟨v2, rfl, ou4, be4⟩
    have S4 := S3.below be4
    have ov4 := ov3.below be4
    refine ⟨_, rfl, ?_⟩
    first | refine WL.move rfl rfl rfl ?_
    first | refine WL.extract rfl rfl rfl (ext_2 _ _ _).1 ?_
    first | refine WL.extract rfl rfl rfl (ext_2 _ _ _).2 ?_
    first | refine WL.assign rfl rfl rfl ?_
    first | refine WL.assign rfl rfl rfl ?_
    refine WL.done ?_
    refine EW.on ?_
    refine EW.seq ?_
    refine EW.region ?_
    first | refine WL.move rfl rfl rfl ?_
    first | refine WL.move rfl rfl rfl ?_
    refine WL.bin rfl rfl rfl rfl (int_eq_t rfl _ _ _) ?_
    first | refine WL.move rfl rfl rfl ?_
    first | refine WL.move rfl rfl rfl ?_ | refine WL.skip _ rfl rfl rfl ?_
    first | refine WL.move rfl rfl rfl ?_ | refine WL.skip _ rfl rfl rfl ?_
    refine WL.call [v, v2] enter17 rfl rfl rfl (eq_yes v v2 (if GoodL l then encL l else []) w4 ov4.has ou4.has) ?_
    rintro _ w' ⟨rfl, hz⟩
    rw [hz]
    clear hz
    clear w'
    refine ⟨_, rfl, ?_⟩
    first | refine WL.pick rfl rfl rfl rfl ?_
    first | refine WL.assign rfl rfl rfl ?_
    refine WL.done ?_
    refine EW.on ?_
    refine EW.region ?_
    first | refine WL.move rfl rfl rfl ?_
    first | refine WL.move rfl rfl rfl ?_
    refine WL.call [.pointer (some ⟨qb, 0, none⟩), v] enter49 rfl rfl rfl (note_st S4 h0 ov4 (enLV_len l)) ?_
    rintro _ w5 ⟨rfl, P5⟩
    refine ⟨_, rfl, ?_⟩
    refine WL.done ?_
    refine pn_block ?_
    refine EW.on ?_
    refine EW.seq ?_
    refine EW.region ?_
    first | refine WL.move rfl rfl rfl ?_
    first | refine WL.move rfl rfl rfl ?_
    first | refine WL.move rfl rfl rfl ?_ | refine WL.skip _ rfl rfl rfl ?_
    refine WL.field rfl rfl rfl (f62_3 qx _) ?_
    refine WL.load rfl rfl rfl (ldOpB P5.bx h0.ks) ?_
    refine WL.call [vx, bv] enter54 rfl rfl rfl (kept_yes vx bv bs w5 P5.ox P5.hb h0.lb) ?_
    rintro _ w6 ⟨rfl, be6⟩
    have P6 := P5.below be6
    refine ⟨_, rfl, ?_⟩
    first | refine WL.pick rfl rfl rfl rfl ?_
    first | refine WL.assign rfl rfl rfl ?_
    refine WL.done ?_
    refine EW.on ?_
    refine EW.ret ?_
    exact EW.returns Try.results18 rfl ⟨rfl, P6.bk, P6.fx⟩
  · refine EW.region ?_
    refine WL.field rfl rfl rfl (f62_0 qx _) ?_
    refine WL.load rfl rfl rfl (ldOpK S2.bx) ?_
    refine WL.done ?_
    refine EW.on ?_
    refine EW.block ?_
    refine EW.seq ?_
    refine EW.region ?_
    refine WL.bin rfl rfl rfl rfl (int_eq_f (by decide) _ _ _) ?_
    first | refine WL.assign rfl rfl rfl ?_
    refine WL.done ?_
    refine EW.on ?_
    refine EW.cond_f rfl ?_
    refine EW.seq ?_
    refine EW.region ?_
    refine WL.bin rfl rfl rfl rfl (int_eq_f (by decide) _ _ _) ?_
    first | refine WL.assign rfl rfl rfl ?_
    refine WL.done ?_
    refine EW.on ?_
    refine EW.cond_f rfl ?_
    refine EW.seq ?_
    refine EW.region ?_
    refine WL.bin rfl rfl rfl rfl (int_eq_f (by decide) _ _ _) ?_
    first | refine WL.assign rfl rfl rfl ?_
    refine WL.done ?_
    refine EW.on ?_
    refine EW.cond_f rfl ?_
    refine EW.seq ?_
    refine EW.region ?_
    refine WL.bin rfl rfl rfl rfl (int_eq_f (by decide) _ _ _) ?_
    first | refine WL.assign rfl rfl rfl ?_
    refine WL.done ?_
    refine EW.on ?_
    refine EW.cond_f rfl ?_
    refine EW.seq ?_
    refine EW.region ?_
    refine WL.bin rfl rfl rfl rfl (int_eq_f (by decide) _ _ _) ?_
    first | refine WL.assign rfl rfl rfl ?_
    refine WL.done ?_
    refine EW.on ?_
    refine EW.cond_f rfl ?_
    refine EW.seq ?_
    refine EW.region ?_
    refine WL.bin rfl rfl rfl rfl (int_eq_t rfl _ _ _) ?_
    first | refine WL.assign rfl rfl rfl ?_
    refine WL.done ?_
    refine EW.on ?_
    refine EW.cond_t rfl ?_
    refine EW.seq ?_
    refine EW.region ?_
    first | refine WL.move rfl rfl rfl ?_
    refine WL.call [cutV vx 0 bs.length] enter15 rfl rfl rfl (decodeL_any _ bs w2 S2.hin h0.lb) ?_
    rintro _ w3 ⟨rfl, be3⟩
    have S3 := S2.below be3
    refine ⟨_, rfl, ?_⟩
    obtain ⟨q12, wa3, w4, ra4, rs4, bq4, bea4, hq12⟩ := putL (dLS_ok bs) w3
    have S4 := S3.below bea4
    first | refine WL.move rfl rfl rfl ?_
    first | refine WL.extract rfl rfl rfl (ext_2 _ _ _).1 ?_
    first | refine WL.extract rfl rfl rfl (ext_2 _ _ _).2 ?_
    refine WL.new rfl rfl ra4 ?_
    refine WL.store rfl rfl rfl rs4 ?_
    first | refine WL.assign rfl rfl rfl ?_
    refine WL.done ?_
    refine EW.on ?_
    refine EW.seq ?_
    refine EW.region ?_
    refine WL.field rfl rfl rfl (f62_3 qx _) ?_
    refine WL.load rfl rfl rfl (ldOpB S4.bx h0.ks) ?_
    refine WL.call [bv] enter53 rfl rfl rfl (rdecodeL_any bv bs w4 (h0.hb.below S4.be) h0.lb) ?_
    rintro _ w5 ⟨rfl, be5⟩
    have S5 := S4.below be5
    have bq5 := bq4.on be5
    refine ⟨_, rfl, ?_⟩
    obtain ⟨q14, wa5, w6, ra6, rs6, br6, bea6, hq14⟩ := putL (dLS_ok bs) w5
    have S6 := S5.below bea6
    have bq6 := bq5.on bea6
    first | refine WL.move rfl rfl rfl ?_
    first | refine WL.extract rfl rfl rfl (ext_2 _ _ _).1 ?_
    first | refine WL.extract rfl rfl rfl (ext_2 _ _ _).2 ?_
    refine WL.new rfl rfl ra6 ?_
    refine WL.store rfl rfl rfl rs6 ?_
    first | refine WL.assign rfl rfl rfl ?_
    refine WL.done ?_
    refine EW.on ?_
    refine EW.region ?_
    first | refine WL.move rfl rfl rfl ?_
    first | refine WL.move rfl rfl rfl ?_
    refine WL.bin rfl rfl rfl rfl (int_eq_t rfl _ _ _) ?_
    first | refine WL.move rfl rfl rfl ?_
    refine WL.load rfl rfl rfl (Lm.ld bq6 (dLS_ok _)) ?_
    refine WL.load rfl rfl rfl (Lm.ld br6 (dLS_ok _)) ?_
    refine WL.bin rfl rfl rfl rfl (eql43 _ _ _ _ _) ?_
    rw [show decide (dLS bs = dLS bs) = true from decide_eq_true rfl]
    first | refine WL.pick rfl rfl rfl rfl ?_
    first | refine WL.assign rfl rfl rfl ?_
    refine WL.done ?_
    refine pn_block ?_
    refine EW.on ?_
    refine EW.seq ?_
    have P6 := S6.pn h0
    refine EW.region ?_
    first | refine WL.move rfl rfl rfl ?_
    first | refine WL.move rfl rfl rfl ?_
    first | refine WL.move rfl rfl rfl ?_ | refine WL.skip _ rfl rfl rfl ?_
    refine WL.field rfl rfl rfl (f62_3 qx _) ?_
    refine WL.load rfl rfl rfl (ldOpB P6.bx h0.ks) ?_
    refine WL.call [vx, bv] enter54 rfl rfl rfl (kept_yes vx bv bs w6 P6.ox P6.hb h0.lb) ?_
    rintro _ w7 ⟨rfl, be7⟩
    have S7 := S6.below be7
    have bq7 := bq6.on be7
    have br7 := br6.on be7
    have P7 := P6.below be7
    refine ⟨_, rfl, ?_⟩
    first | refine WL.pick rfl rfl rfl rfl ?_
    first | refine WL.assign rfl rfl rfl ?_
    refine WL.done ?_
    refine EW.on ?_
    refine EW.ret ?_
    exact EW.returns Try.results18 rfl ⟨rfl, P7.bk, P7.fx⟩
  · refine EW.region ?_
    refine WL.field rfl rfl rfl (f62_0 qx _) ?_
    refine WL.load rfl rfl rfl (ldOpK S2.bx) ?_
    refine WL.done ?_
    refine EW.on ?_
    refine EW.block ?_
    refine EW.seq ?_
    refine EW.region ?_
    refine WL.bin rfl rfl rfl rfl (int_eq_f g1 _ _ _) ?_
    first | refine WL.assign rfl rfl rfl ?_
    refine WL.done ?_
    refine EW.on ?_
    refine EW.cond_f rfl ?_
    refine EW.seq ?_
    refine EW.region ?_
    refine WL.bin rfl rfl rfl rfl (int_eq_f g2 _ _ _) ?_
    first | refine WL.assign rfl rfl rfl ?_
    refine WL.done ?_
    refine EW.on ?_
    refine EW.cond_f rfl ?_
    refine EW.seq ?_
    refine EW.region ?_
    refine WL.bin rfl rfl rfl rfl (int_eq_f g3 _ _ _) ?_
    first | refine WL.assign rfl rfl rfl ?_
    refine WL.done ?_
    refine EW.on ?_
    refine EW.cond_f rfl ?_
    refine EW.seq ?_
    refine EW.region ?_
    refine WL.bin rfl rfl rfl rfl (int_eq_f g4 _ _ _) ?_
    first | refine WL.assign rfl rfl rfl ?_
    refine WL.done ?_
    refine EW.on ?_
    refine EW.cond_f rfl ?_
    refine EW.seq ?_
    refine EW.region ?_
    refine WL.bin rfl rfl rfl rfl (int_eq_f g5 _ _ _) ?_
    first | refine WL.assign rfl rfl rfl ?_
    refine WL.done ?_
    refine EW.on ?_
    refine EW.cond_f rfl ?_
    refine EW.seq ?_
    refine EW.region ?_
    refine WL.bin rfl rfl rfl rfl (int_eq_f g6 _ _ _) ?_
    first | refine WL.assign rfl rfl rfl ?_
    refine WL.done ?_
    refine EW.on ?_
    refine EW.cond_f rfl ?_
    refine EW.skip ?_
    refine pn_block ?_
    refine EW.on ?_
    refine EW.seq ?_
    have P2 := S2.pn h0
    refine EW.region ?_
    first | refine WL.move rfl rfl rfl ?_
    first | refine WL.move rfl rfl rfl ?_
    first | refine WL.move rfl rfl rfl ?_ | refine WL.skip _ rfl rfl rfl ?_
    refine WL.field rfl rfl rfl (f62_3 qx _) ?_
    refine WL.load rfl rfl rfl (ldOpB P2.bx h0.ks) ?_
    refine WL.call [vx, bv] enter54 rfl rfl rfl (kept_yes vx bv bs w2 P2.ox P2.hb h0.lb) ?_
    rintro _ w3 ⟨rfl, be3⟩
    have S3 := S2.below be3
    have P3 := P2.below be3
    refine ⟨_, rfl, ?_⟩
    first | refine WL.pick rfl rfl rfl rfl ?_
    first | refine WL.assign rfl rfl rfl ?_
    refine WL.done ?_
    refine EW.on ?_
    refine EW.ret ?_
    exact EW.returns Try.results18 rfl ⟨rfl, P3.bk, P3.fx⟩
end Go.Proofs.Ytacimelcmkhhlaa
