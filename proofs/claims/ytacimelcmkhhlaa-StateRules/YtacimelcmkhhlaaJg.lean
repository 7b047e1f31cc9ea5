import Derived.Test.YtacimelcmkhhlaaJf
set_option linter.unusedVariables false
set_option linter.unusedSimpArgs false
namespace Go.Proofs.Ytacimelcmkhhlaa
open Go.RowKit

theorem rem_i (a b : Int) (h : b ≠ 0) {c : Int} (hc : Int.tmod a b = c) (W : World) (x y : Operand) : (do eqGuard .rem 3 x y (.int .i64 a) (.int .i64 b); binOp .rem 3 (.int .i64 a) (.int .i64 b) : Sem Value).run Try.prog W = .ok (.int .i64 c) W := by
  subst hc
  go_simp
def rsD (x : Int) (m : Nat) : Nat := ((x.tmod m + m).tmod m).toNat
theorem tmod_lt (x : Int) {m : Nat} (h : 0 < m) : -(m : Int) < x.tmod m ∧ x.tmod m < (m : Int) := by
  constructor
  · have := Int.lt_tmod_of_pos x (show (0 : Int) < (m : Int) by omega)
    exact this
  · exact Int.tmod_lt_of_pos x (by omega)
theorem rsD_lt (x : Int) {m : Nat} (h : 0 < m) : rsD x m < m ∧ ((x.tmod m + m).tmod m : Int) = (rsD x m : Int) := by
  have h1 := tmod_lt x h
  have h2 := tmod_lt (x.tmod m + m) h
  have h3 : 0 ≤ (x.tmod m + (m : Int)).tmod m := Int.tmod_nonneg _ (by omega)
  unfold rsD
  omega
set_option maxRecDepth 100000 in
set_option maxHeartbeats 1000000 in
theorem rest_any (x : Int) (m : Nat) (h : 0 < m) (hm : m ≤ 1000000000) (w : World) : Calls Try.prog 11 #[.int .i64 x, .int .i64 (m : Int)] w fun e w' => e = .returned (.int .i64 (rsD x m : Int)) ∧ w' = w := by
  have h1 := tmod_lt x h
  refine calls_of_args [.int .i64 x, .int .i64 (m : Int)] Try.func11 rfl 12 Try.ntmps11 (by show 2 ≤ 12; decide) ?_
  refine EW.seq ?_
  refine EW.region ?_
  first | refine WL.assign rfl rfl rfl ?_
  refine WL.done ?_
  refine EW.on ?_
  refine EW.seq ?_
  refine EW.region ?_
  first | refine WL.move rfl rfl rfl ?_
  first | refine WL.move rfl rfl rfl ?_
  refine WL.bin rfl rfl rfl rfl (rem_i _ (m : Int) (by omega) rfl _ _ _) ?_
  first | refine WL.move rfl rfl rfl ?_
  refine WL.bin rfl rfl rfl rfl (int_add (c := x.tmod m + (m : Int)) (by rw [IntKind.wrap_i64]; omega) _ _ _) ?_
  first | refine WL.move rfl rfl rfl ?_
  refine WL.bin rfl rfl rfl rfl (rem_i _ (m : Int) (by omega) rfl _ _ _) ?_
  first | refine WL.assign rfl rfl rfl ?_
  refine WL.done ?_
  refine EW.on ?_
  refine EW.ret ?_
  exact EW.returns Try.results11 rfl ⟨by rw [(rsD_lt x h).2], rfl⟩
theorem u_rem (n m : Nat) (h : 0 < m) (W : World) (x y : Operand) : (do eqGuard .rem 28 x y (u32v n) (u32v m); binOp .rem 28 (u32v n) (u32v m) : Sem Value).run Try.prog W = .ok (u32v (n % m)) W := by
  have h0 : (m : Int) ≠ 0 := by omega
  have e : ((n % m : Nat) : Int) = Int.tmod (n : Int) (m : Int) := by rw [Int.tmod_eq_emod_of_nonneg (by omega)]; rfl
  unfold u32v
  rw [e]
  go_simp
  try omega
theorem u_add {n m : Nat} (h : n + m < 4294967296) (W : World) (x y : Operand) : (do eqGuard .add 28 x y (u32v n) (u32v m); binOp .add 28 (u32v n) (u32v m) : Sem Value).run Try.prog W = .ok (u32v (n + m)) W := by
  unfold u32v
  go_simp
  try simp only [IntKind.wrap_u32]
  try omega
theorem ix25 (q o m : Nat) (h : m < 32) (W : World) : (Instr.indexAt 25 (.pointer (some ⟨q, o, none⟩)) (.int .i64 (m : Int))).run Try.prog W = .ok (.pointer (some ⟨q, o + m, none⟩)) W := by
  have hm : (m : Int) < 32 := by omega
  go_simp
  try simp
  try rw [Addr.add_mid]
theorem ix31 (q o m : Nat) (h : m < 64) (W : World) : (Instr.indexAt 31 (.pointer (some ⟨q, o, none⟩)) (.int .i64 (m : Int))).run Try.prog W = .ok (.pointer (some ⟨q, o + m, none⟩)) W := by
  have hm : (m : Int) < 64 := by omega
  go_simp
  try simp
  try rw [Addr.add_mid]
theorem Blk.ldI {w : World} {q o : Nat} {cs a b : List Value} {t : TypeId} {K : List UInt8} (hb : Blk w q cs t) (hc : cs = a ++ (K.map byt ++ b)) (ho : a.length = o) {i : Nat} (hi : i < K.length) : (Instr.loadAt 5 (.pointer (some ⟨q, o + i, none⟩))).run Try.prog w = .ok (byt (K.getD i 0)) w := by
  have h : w.cell? ⟨q, o + i, none⟩ = some (byt (K.getD i 0)) := by
    have := hb.range hc ho i (byt (K.getD i 0)) (by rw [List.getElem?_map, List.getD_eq_getElem?_getD, List.getElem?_eq_getElem hi]; rfl)
    exact this
  unfold byt at *
  go_simp
theorem Blk.stI {w : World} {q o : Nat} {cs a b : List Value} {t : TypeId} {K : List UInt8} (hb : Blk w q cs t) (hc : cs = a ++ (K.map byt ++ b)) (ho : a.length = o) {i : Nat} (hi : i < K.length) (x : UInt8) : ∃ w', (Instr.storeAt 5 (.pointer (some ⟨q, o + i, none⟩)) (byt x)).run Try.prog w = .ok () w' ∧ Blk w' q (a ++ ((K.set i x).map byt ++ b)) t ∧ Fx (fun k => k = q) w w' := by
  have h : w.cell? ⟨q, o + i, none⟩ = some (byt (K.getD i 0)) := by
    have := hb.range hc ho i (byt (K.getD i 0)) (by rw [List.getElem?_map, List.getD_eq_getElem?_getD, List.getElem?_eq_getElem hi]; rfl)
    exact this
  have hf := hb.frozen (o + i)
  refine ⟨w.setCell ⟨q, o + i, none⟩ (byt x), ?_, ?_, Fx.setCell (S := fun k => k = q) _ _ _ _ rfl⟩
  · unfold byt at *
    go_simp
  · have := hb.set (o + i) (byt x)
    rw [hc, List.set_append_right _ _ (by omega), ho, Nat.add_sub_cancel_left, List.set_append_left _ _ (by rw [List.length_map]; exact hi), ← List.map_set] at this
    exact this
section
variable {w : World} {q : Nat} {s : Sg} {t : TypeId} {i : Nat}
theorem Sg.ldI_bind (hb : Blk w q s.cs t) (k : s.ok) (hi : i < 64) : (Instr.loadAt 5 (.pointer (some ⟨q, 279 + i, none⟩))).run Try.prog w = .ok (byt (s.bind.getD i 0)) w := hb.ldI Sg.c_bind (Sg.l_bind k) (by rw [k.bind]; exact hi)
theorem Sg.stI_bind (hb : Blk w q s.cs t) (k : s.ok) (hi : i < 64) (x : UInt8) : ∃ w', (Instr.storeAt 5 (.pointer (some ⟨q, 279 + i, none⟩)) (byt x)).run Try.prog w = .ok () w' ∧ Blk w' q (Sg.cs { s with bind := s.bind.set i x }) t ∧ Fx (fun k => k = q) w w' := by
  obtain ⟨w', h1, h2, h3⟩ := hb.stI Sg.c_bind (Sg.l_bind k) (by rw [k.bind]; exact hi) x
  exact ⟨w', h1, by rw [Sg.c_bind]; exact h2, h3⟩
theorem Sg.ok.sI_bind (k : s.ok) (i : Nat) (x : UInt8) : Sg.ok { s with bind := s.bind.set i x } := k.s_bind (by rw [List.length_set]; exact k.bind)
theorem Sg.ldI_rk (hb : Blk w q s.cs t) (k : s.ok) (hi : i < 32) : (Instr.loadAt 5 (.pointer (some ⟨q, 176 + i, none⟩))).run Try.prog w = .ok (byt (s.rk.getD i 0)) w := hb.ldI Sg.c_rk (Sg.l_rk k) (by rw [k.rk]; exact hi)
theorem Sg.stI_rk (hb : Blk w q s.cs t) (k : s.ok) (hi : i < 32) (x : UInt8) : ∃ w', (Instr.storeAt 5 (.pointer (some ⟨q, 176 + i, none⟩)) (byt x)).run Try.prog w = .ok () w' ∧ Blk w' q (Sg.cs { s with rk := s.rk.set i x }) t ∧ Fx (fun k => k = q) w w' := by
  obtain ⟨w', h1, h2, h3⟩ := hb.stI Sg.c_rk (Sg.l_rk k) (by rw [k.rk]; exact hi) x
  exact ⟨w', h1, by rw [Sg.c_rk]; exact h2, h3⟩
theorem Sg.ok.sI_rk (k : s.ok) (i : Nat) (x : UInt8) : Sg.ok { s with rk := s.rk.set i x } := k.s_rk (by rw [List.length_set]; exact k.rk)
theorem Sg.ldI_sk (hb : Blk w q s.cs t) (k : s.ok) (hi : i < 32) : (Instr.loadAt 5 (.pointer (some ⟨q, 144 + i, none⟩))).run Try.prog w = .ok (byt (s.sk.getD i 0)) w := hb.ldI Sg.c_sk (Sg.l_sk k) (by rw [k.sk]; exact hi)
theorem Sg.stI_sk (hb : Blk w q s.cs t) (k : s.ok) (hi : i < 32) (x : UInt8) : ∃ w', (Instr.storeAt 5 (.pointer (some ⟨q, 144 + i, none⟩)) (byt x)).run Try.prog w = .ok () w' ∧ Blk w' q (Sg.cs { s with sk := s.sk.set i x }) t ∧ Fx (fun k => k = q) w w' := by
  obtain ⟨w', h1, h2, h3⟩ := hb.stI Sg.c_sk (Sg.l_sk k) (by rw [k.sk]; exact hi) x
  exact ⟨w', h1, by rw [Sg.c_sk]; exact h2, h3⟩
theorem Sg.ok.sI_sk (k : s.ok) (i : Nat) (x : UInt8) : Sg.ok { s with sk := s.sk.set i x } := k.s_sk (by rw [List.length_set]; exact k.sk)
theorem Sg.ldI_hid (hb : Blk w q s.cs t) (k : s.ok) (hi : i < 32) : (Instr.loadAt 5 (.pointer (some ⟨q, 214 + 0 + i, none⟩))).run Try.prog w = .ok (byt (s.hl.id.getD i 0)) w := hb.ldI Sg.c_hid (Sg.l_hl k) (by rw [k.hl.i]; exact hi)
theorem Sg.stI_hid (hb : Blk w q s.cs t) (k : s.ok) (hi : i < 32) (x : UInt8) : ∃ w', (Instr.storeAt 5 (.pointer (some ⟨q, 214 + 0 + i, none⟩)) (byt x)).run Try.prog w = .ok () w' ∧ Blk w' q (Sg.cs { s with hl := { s.hl with id := s.hl.id.set i x } }) t ∧ Fx (fun k => k = q) w w' := by
  obtain ⟨w', h1, h2, h3⟩ := hb.stI Sg.c_hid (Sg.l_hl k) (by rw [k.hl.i]; exact hi) x
  exact ⟨w', h1, by rw [Sg.c_hid]; exact h2, h3⟩
theorem Sg.ok.sI_hid (k : s.ok) (i : Nat) (x : UInt8) : Sg.ok { s with hl := { s.hl with id := s.hl.id.set i x } } := k.s_hl ⟨by rw [List.length_set]; exact k.hl.i, k.hl.o, k.hl.p⟩
end
theorem or1 (u : UInt8) (W : World) (x y : Operand) : (do eqGuard .or 5 x y (byt u) (.int .u8 1); binOp .or 5 (byt u) (.int .u8 1) : Sem Value).run Try.prog W = .ok (byt (u ||| 1)) W := by
  have e := or_u8 u 1
  unfold byt
  rw [← e]
  go_simp
  try rfl
theorem xor1 (u : UInt8) (W : World) (x y : Operand) : (do eqGuard .xor 5 x y (byt u) (.int .u8 1); binOp .xor 5 (byt u) (.int .u8 1) : Sem Value).run Try.prog W = .ok (byt (u ^^^ 1)) W := by
  have e := xor_u8 u 1
  unfold byt
  rw [← e]
  go_simp
  try rfl
def mayO (s : Sg) : Nat := s.own % 4
def mayT (s : Sg) : Nat := min (max (s.turns % 4) (max (s.own % 4) 1 - 1)) (s.own % 4 + 1)
def mayG (s : Sg) (h : Bool) : Prop := h = true ∧ mayT s = 0 ∧ ¬ mayO s = 0
instance (s : Sg) (h : Bool) : Decidable (mayG s h) := by unfold mayG; infer_instance
def mayB (s : Sg) (h : Bool) : List UInt8 := if mayG s h then s.bind.set 7 (s.bind.getD 7 0 ||| 1) else s.bind
/-- A state that may be, made of any one. -/
def mayD (s : Sg) (h : Bool) : Sg := { s with own := mayO s, turns := mayT s, sk := if mayO s = 0 then z32 else s.sk, sent := if mayO s = 0 then 0 else if mayO s = 1 then s.sent else s.sent % 1000, prev := if mayO s ≤ 1 then 0 else s.prev % 1000, ser := if mayO s = 0 then 0 else if mayO s = 1 then s.sent else s.prev % 1000 + s.sent % 1000 + s.ser % 1000, rk := if mayT s = 0 then z32 else s.rk, got := if mayT s = 0 then 0 else s.got, bind := mayB s h, hl := if mayG s h then { s.hl with id := (mayB s h).take 32 } else Hl.z }
set_option maxRecDepth 100000 in
set_option maxHeartbeats 4000000 in
theorem may_any (s : Sg) (k : s.ok) (hel : Bool) (w : World) : Calls Try.prog 9 #[s.v, .bool hel] w fun e w' => e = .returned (mayD s hel).v ∧ Below w.heap.size w w' := by
  obtain ⟨w1, q1, r1, b1, e1, hq1⟩ := box_any 33 s.cs w
  obtain ⟨w2, q2, r2, b2, e2, hq2⟩ := new_any (t := 33) (cs := Sg.z.cs) zv33 w1
  have l1 := e1.size
  have hq1' := b1.lt
  have bq1_0 := b1.on e2
  have be_0 := bt e1 e2
  have z1 := k.own
  have z2 := k.turns
  have z3 := k.sent
  have z4 := k.prev
  have z5 := k.ser
  have z6 := k.got
  refine calls_of_args [s.v, .bool hel] Try.func9 rfl 92 Try.ntmps9 (by show 2 ≤ 92; decide) ?_
  refine EW.seq ?_
  refine EW.region ?_
  refine WL.box rfl rfl rfl r1 ?_
  refine WL.new rfl rfl r2 ?_
  refine WL.done ?_
  refine EW.on ?_
  refine EW.seq ?_
  refine EW.region ?_
  first | refine WL.field rfl rfl rfl (f33_6 q1 _) ?_
  first | refine WL.load rfl rfl rfl (Sg.ld_own bq1_0 k) ?_
  refine WL.bin rfl rfl rfl rfl (u_rem s.own 4 (by decide) _ _ _) ?_
  first | refine WL.field rfl rfl rfl (f33_6 q1 _) ?_
  obtain ⟨w_1, s_1, bb_1, fx_1⟩ := Sg.st_own bq1_0 k ((s.own % 4))
  have bc_1 : Blk w_1 q1 (Sg.cs (⟨s.sid, s.root, s.pri, s.pub, s.peer, s.sk, s.rk, (s.own % 4), s.turns, s.sent, s.got, s.prev, s.ser, s.hl, s.bind⟩ : Sg)) 33 := bb_1
  have k_1 : Sg.ok (⟨s.sid, s.root, s.pri, s.pub, s.peer, s.sk, s.rk, (s.own % 4), s.turns, s.sent, s.got, s.prev, s.ser, s.hl, s.bind⟩ : Sg) := k.s_own (x := (s.own % 4)) (by first | decide | omega)
  clear bb_1
  refine WL.store rfl rfl rfl s_1 ?_
  have bq2_2 := b2.fx fx_1 (by show ¬ _ = _; omega)
  have be_2 := bfx be_0 (by omega) fx_1
  refine WL.done ?_
  refine EW.on ?_
  refine EW.seq ?_
  refine EW.region ?_
  first | refine WL.field rfl rfl rfl (f33_7 q1 _) ?_
  first | refine WL.load rfl rfl rfl (Sg.ld_turns bc_1 k_1) ?_
  refine WL.bin rfl rfl rfl rfl (u_rem s.turns 4 (by decide) _ _ _) ?_
  first | refine WL.field rfl rfl rfl (f33_6 q1 _) ?_
  first | refine WL.load rfl rfl rfl (Sg.ld_own bc_1 k_1) ?_
  refine WL.max rfl rfl rfl rfl (u_max ((s.own % 4)) 1 _ _ rfl) ?_
  refine WL.bin rfl rfl rfl rfl (u_sub (n := (max ((s.own % 4)) 1)) (m := 1) (by omega) (by omega) _ _ _) ?_
  refine WL.max rfl rfl rfl rfl (u_max ((s.turns % 4)) (((max ((s.own % 4)) 1) - 1)) _ _ rfl) ?_
  first | refine WL.field rfl rfl rfl (f33_6 q1 _) ?_
  first | refine WL.load rfl rfl rfl (Sg.ld_own bc_1 k_1) ?_
  refine WL.bin rfl rfl rfl rfl (u_add (n := (s.own % 4)) (m := 1) (by omega) _ _ _) ?_
  refine WL.min rfl rfl rfl rfl (u_min ((max ((s.turns % 4)) (((max ((s.own % 4)) 1) - 1)))) (((s.own % 4) + 1)) _ _ rfl) ?_
  first | refine WL.field rfl rfl rfl (f33_7 q1 _) ?_
  obtain ⟨w_3, s_3, bb_3, fx_3⟩ := Sg.st_turns bc_1 k_1 ((min ((max ((s.turns % 4)) (((max ((s.own % 4)) 1) - 1)))) (((s.own % 4) + 1))))
  have bc_3 : Blk w_3 q1 (Sg.cs (⟨s.sid, s.root, s.pri, s.pub, s.peer, s.sk, s.rk, (s.own % 4), (min ((max ((s.turns % 4)) (((max ((s.own % 4)) 1) - 1)))) (((s.own % 4) + 1))), s.sent, s.got, s.prev, s.ser, s.hl, s.bind⟩ : Sg)) 33 := bb_3
  have k_3 : Sg.ok (⟨s.sid, s.root, s.pri, s.pub, s.peer, s.sk, s.rk, (s.own % 4), (min ((max ((s.turns % 4)) (((max ((s.own % 4)) 1) - 1)))) (((s.own % 4) + 1))), s.sent, s.got, s.prev, s.ser, s.hl, s.bind⟩ : Sg) := k_1.s_turns (x := (min ((max ((s.turns % 4)) (((max ((s.own % 4)) 1) - 1)))) (((s.own % 4) + 1)))) (by first | decide | omega)
  clear bb_3
  refine WL.store rfl rfl rfl s_3 ?_
  have bq2_4 := bq2_2.fx fx_3 (by show ¬ _ = _; omega)
  have be_4 := bfx be_2 (by omega) fx_3
  refine WL.done ?_
  refine EW.on ?_
  refine EW.seq ?_
  refine EW.seq ?_
  have hc : (s.own % 4 = 0 ∧ mayT s = 0) ∨ (s.own % 4 = 0 ∧ 0 < mayT s) ∨ (s.own % 4 = 1 ∧ mayT s = 0) ∨ (s.own % 4 = 1 ∧ 0 < mayT s) ∨ (1 < s.own % 4 ∧ 0 < mayT s) := by unfold mayT; omega
  unfold mayT at hc
  rcases hc with ⟨a1, a2⟩ | ⟨a1, a2⟩ | ⟨a1, a2⟩ | ⟨a1, a2⟩ | ⟨a1, a2⟩
  · have hO : mayO s = 0 := by unfold mayO; omega
    have hO1 : ¬ mayO s = 1 := by unfold mayO; omega
    have hO2 : mayO s ≤ 1 := by unfold mayO; omega
    have hT : mayT s = 0 := by unfold mayT; omega
    refine EW.region ?_
    first | refine WL.field rfl rfl rfl (f33_6 q1 _) ?_
    first | refine WL.load rfl rfl rfl (Sg.ld_own bc_3 k_3) ?_
    first | refine WL.bin rfl rfl rfl rfl (u_eq_t (by first | omega | (dsimp only; omega)) _ _ _) ?_ | refine WL.bin rfl rfl rfl rfl (u_eq_f (by first | omega | (dsimp only; omega)) _ _ _) ?_ | refine WL.bin rfl rfl rfl rfl (u_eq_d _ _ _ _ _) ?_
    refine WL.done ?_
    refine EW.on ?_
    refine EW.cond_t rfl ?_
    refine EW.region ?_
    first | refine WL.buildN [] rfl rfl rfl (bd25 _) ?_
    first | refine WL.field rfl rfl rfl (f33_4 q1 _) ?_
    obtain ⟨w_5, s_5, bb_5, fx_5⟩ := Sg.st_sk bc_3 k_3 (x := z32) rfl
    have bc_5 : Blk w_5 q1 (Sg.cs (⟨s.sid, s.root, s.pri, s.pub, s.peer, z32, s.rk, (s.own % 4), (min ((max ((s.turns % 4)) (((max ((s.own % 4)) 1) - 1)))) (((s.own % 4) + 1))), s.sent, s.got, s.prev, s.ser, s.hl, s.bind⟩ : Sg)) 33 := bb_5
    have k_5 : Sg.ok (⟨s.sid, s.root, s.pri, s.pub, s.peer, z32, s.rk, (s.own % 4), (min ((max ((s.turns % 4)) (((max ((s.own % 4)) 1) - 1)))) (((s.own % 4) + 1))), s.sent, s.got, s.prev, s.ser, s.hl, s.bind⟩ : Sg) := k_3.s_sk (x := z32) rfl
    clear bb_5
    refine WL.store rfl rfl rfl s_5 ?_
    have bq2_6 := bq2_4.fx fx_5 (by show ¬ _ = _; omega)
    have be_6 := bfx be_4 (by omega) fx_5
    first | refine WL.field rfl rfl rfl (f33_8 q1 _) ?_
    obtain ⟨w_7, s_7, bb_7, fx_7⟩ := Sg.st_sent bc_5 k_5 0
    have bc_7 : Blk w_7 q1 (Sg.cs (⟨s.sid, s.root, s.pri, s.pub, s.peer, z32, s.rk, (s.own % 4), (min ((max ((s.turns % 4)) (((max ((s.own % 4)) 1) - 1)))) (((s.own % 4) + 1))), 0, s.got, s.prev, s.ser, s.hl, s.bind⟩ : Sg)) 33 := bb_7
    have k_7 : Sg.ok (⟨s.sid, s.root, s.pri, s.pub, s.peer, z32, s.rk, (s.own % 4), (min ((max ((s.turns % 4)) (((max ((s.own % 4)) 1) - 1)))) (((s.own % 4) + 1))), 0, s.got, s.prev, s.ser, s.hl, s.bind⟩ : Sg) := k_5.s_sent (x := 0) (by first | decide | omega)
    clear bb_7
    refine WL.store rfl rfl rfl s_7 ?_
    have bq2_8 := bq2_6.fx fx_7 (by show ¬ _ = _; omega)
    have be_8 := bfx be_6 (by omega) fx_7
    first | refine WL.field rfl rfl rfl (f33_10 q1 _) ?_
    obtain ⟨w_9, s_9, bb_9, fx_9⟩ := Sg.st_prev bc_7 k_7 0
    have bc_9 : Blk w_9 q1 (Sg.cs (⟨s.sid, s.root, s.pri, s.pub, s.peer, z32, s.rk, (s.own % 4), (min ((max ((s.turns % 4)) (((max ((s.own % 4)) 1) - 1)))) (((s.own % 4) + 1))), 0, s.got, 0, s.ser, s.hl, s.bind⟩ : Sg)) 33 := bb_9
    have k_9 : Sg.ok (⟨s.sid, s.root, s.pri, s.pub, s.peer, z32, s.rk, (s.own % 4), (min ((max ((s.turns % 4)) (((max ((s.own % 4)) 1) - 1)))) (((s.own % 4) + 1))), 0, s.got, 0, s.ser, s.hl, s.bind⟩ : Sg) := k_7.s_prev (x := 0) (by first | decide | omega)
    clear bb_9
    refine WL.store rfl rfl rfl s_9 ?_
    have bq2_10 := bq2_8.fx fx_9 (by show ¬ _ = _; omega)
    have be_10 := bfx be_8 (by omega) fx_9
    first | refine WL.field rfl rfl rfl (f33_11 q1 _) ?_
    obtain ⟨w_11, s_11, bb_11, fx_11⟩ := Sg.st_ser bc_9 k_9 0
    have bc_11 : Blk w_11 q1 (Sg.cs (⟨s.sid, s.root, s.pri, s.pub, s.peer, z32, s.rk, (s.own % 4), (min ((max ((s.turns % 4)) (((max ((s.own % 4)) 1) - 1)))) (((s.own % 4) + 1))), 0, s.got, 0, 0, s.hl, s.bind⟩ : Sg)) 33 := bb_11
    have k_11 : Sg.ok (⟨s.sid, s.root, s.pri, s.pub, s.peer, z32, s.rk, (s.own % 4), (min ((max ((s.turns % 4)) (((max ((s.own % 4)) 1) - 1)))) (((s.own % 4) + 1))), 0, s.got, 0, 0, s.hl, s.bind⟩ : Sg) := k_9.s_ser (x := 0) (by first | decide | omega)
    clear bb_11
    refine WL.store rfl rfl rfl s_11 ?_
    have bq2_12 := bq2_10.fx fx_11 (by show ¬ _ = _; omega)
    have be_12 := bfx be_10 (by omega) fx_11
    refine WL.done ?_
    refine EW.on ?_
    refine EW.seq ?_
    refine EW.seq ?_
    refine EW.region ?_
    first | refine WL.field rfl rfl rfl (f33_6 q1 _) ?_
    first | refine WL.load rfl rfl rfl (Sg.ld_own bc_11 k_11) ?_
    first | refine WL.bin rfl rfl rfl rfl (u_eq_t (by first | omega | (dsimp only; omega)) _ _ _) ?_ | refine WL.bin rfl rfl rfl rfl (u_eq_f (by first | omega | (dsimp only; omega)) _ _ _) ?_ | refine WL.bin rfl rfl rfl rfl (u_eq_d _ _ _ _ _) ?_
    refine WL.done ?_
    refine EW.on ?_
    refine EW.cond_f rfl ?_
    refine EW.skip ?_
    refine EW.on ?_
    refine EW.seq ?_
    refine EW.seq ?_
    refine EW.region ?_
    first | refine WL.field rfl rfl rfl (f33_6 q1 _) ?_
    first | refine WL.load rfl rfl rfl (Sg.ld_own bc_11 k_11) ?_
    first | refine WL.bin rfl rfl rfl rfl (u_gt_t (by first | omega | (dsimp only; omega)) _ _ _) ?_ | refine WL.bin rfl rfl rfl rfl (u_gt_f (by first | omega | (dsimp only; omega)) _ _ _) ?_ | refine WL.bin rfl rfl rfl rfl (u_gt_d _ _ _ _ _) ?_
    refine WL.done ?_
    refine EW.on ?_
    refine EW.cond_f rfl ?_
    refine EW.skip ?_
    refine EW.on ?_
    refine EW.seq ?_
    refine EW.seq ?_
    refine EW.region ?_
    first | refine WL.field rfl rfl rfl (f33_7 q1 _) ?_
    first | refine WL.load rfl rfl rfl (Sg.ld_turns bc_11 k_11) ?_
    first | refine WL.bin rfl rfl rfl rfl (u_eq_t (by first | omega | (dsimp only; omega)) _ _ _) ?_ | refine WL.bin rfl rfl rfl rfl (u_eq_f (by first | omega | (dsimp only; omega)) _ _ _) ?_ | refine WL.bin rfl rfl rfl rfl (u_eq_d _ _ _ _ _) ?_
    refine WL.done ?_
    refine EW.on ?_
    refine EW.cond_t rfl ?_
    refine EW.region ?_
    first | refine WL.buildN [] rfl rfl rfl (bd25 _) ?_
    first | refine WL.field rfl rfl rfl (f33_5 q1 _) ?_
    obtain ⟨w_13, s_13, bb_13, fx_13⟩ := Sg.st_rk bc_11 k_11 (x := z32) rfl
    have bc_13 : Blk w_13 q1 (Sg.cs (⟨s.sid, s.root, s.pri, s.pub, s.peer, z32, z32, (s.own % 4), (min ((max ((s.turns % 4)) (((max ((s.own % 4)) 1) - 1)))) (((s.own % 4) + 1))), 0, s.got, 0, 0, s.hl, s.bind⟩ : Sg)) 33 := bb_13
    have k_13 : Sg.ok (⟨s.sid, s.root, s.pri, s.pub, s.peer, z32, z32, (s.own % 4), (min ((max ((s.turns % 4)) (((max ((s.own % 4)) 1) - 1)))) (((s.own % 4) + 1))), 0, s.got, 0, 0, s.hl, s.bind⟩ : Sg) := k_11.s_rk (x := z32) rfl
    clear bb_13
    refine WL.store rfl rfl rfl s_13 ?_
    have bq2_14 := bq2_12.fx fx_13 (by show ¬ _ = _; omega)
    have be_14 := bfx be_12 (by omega) fx_13
    first | refine WL.field rfl rfl rfl (f33_9 q1 _) ?_
    obtain ⟨w_15, s_15, bb_15, fx_15⟩ := Sg.st_got bc_13 k_13 0
    have bc_15 : Blk w_15 q1 (Sg.cs (⟨s.sid, s.root, s.pri, s.pub, s.peer, z32, z32, (s.own % 4), (min ((max ((s.turns % 4)) (((max ((s.own % 4)) 1) - 1)))) (((s.own % 4) + 1))), 0, 0, 0, 0, s.hl, s.bind⟩ : Sg)) 33 := bb_15
    have k_15 : Sg.ok (⟨s.sid, s.root, s.pri, s.pub, s.peer, z32, z32, (s.own % 4), (min ((max ((s.turns % 4)) (((max ((s.own % 4)) 1) - 1)))) (((s.own % 4) + 1))), 0, 0, 0, 0, s.hl, s.bind⟩ : Sg) := k_13.s_got (x := 0) (by first | decide | omega)
    clear bb_15
    refine WL.store rfl rfl rfl s_15 ?_
    have bq2_16 := bq2_14.fx fx_15 (by show ¬ _ = _; omega)
    have be_16 := bfx be_14 (by omega) fx_15
    refine WL.done ?_
    refine EW.on ?_
    refine EW.seq ?_
    refine EW.seq ?_
    cases hel
    · have hG : ¬ mayG s false := fun h => absurd h.1 (by decide)
      refine EW.region ?_
      first | refine WL.move rfl rfl rfl ?_
      first | refine WL.un rfl rfl rfl (not_t _ _) ?_
      first | refine WL.move rfl rfl rfl ?_
      first | refine WL.field rfl rfl rfl (f33_7 q1 _) ?_ | refine WL.skip _ rfl rfl rfl ?_
      first | refine WL.load rfl rfl rfl (Sg.ld_turns bc_15 k_15) ?_ | refine WL.skip _ rfl rfl rfl ?_
      first | refine WL.bin rfl rfl rfl rfl (u_gt_t (by first | omega | (dsimp only; omega)) _ _ _) ?_ | refine WL.bin rfl rfl rfl rfl (u_gt_f (by first | omega | (dsimp only; omega)) _ _ _) ?_ | refine WL.bin rfl rfl rfl rfl (u_gt_d _ _ _ _ _) ?_ | refine WL.skip _ rfl rfl rfl ?_
      first | refine WL.pick rfl rfl rfl rfl ?_
      first | refine WL.move rfl rfl rfl ?_
      first | refine WL.field rfl rfl rfl (f33_6 q1 _) ?_ | refine WL.skip _ rfl rfl rfl ?_
      first | refine WL.load rfl rfl rfl (Sg.ld_own bc_15 k_15) ?_ | refine WL.skip _ rfl rfl rfl ?_
      first | refine WL.bin rfl rfl rfl rfl (u_eq_t (by first | omega | (dsimp only; omega)) _ _ _) ?_ | refine WL.bin rfl rfl rfl rfl (u_eq_f (by first | omega | (dsimp only; omega)) _ _ _) ?_ | refine WL.bin rfl rfl rfl rfl (u_eq_d _ _ _ _ _) ?_ | refine WL.skip _ rfl rfl rfl ?_
      first | refine WL.pick rfl rfl rfl rfl ?_
      refine WL.done ?_
      refine EW.on ?_
      refine EW.cond_t rfl ?_
      refine EW.seq ?_
      refine EW.region ?_
      first | refine WL.buildN [] rfl rfl rfl (bd30 _) ?_
      first | refine WL.field rfl rfl rfl (f33_12 q1 _) ?_
      obtain ⟨w_17, s_17, bb_17, fx_17⟩ := Sg.st_hl bc_15 k_15 (x := Hl.z) Hl.z_ok
      have bc_17 : Blk w_17 q1 (Sg.cs (⟨s.sid, s.root, s.pri, s.pub, s.peer, z32, z32, (s.own % 4), (min ((max ((s.turns % 4)) (((max ((s.own % 4)) 1) - 1)))) (((s.own % 4) + 1))), 0, 0, 0, 0, Hl.z, s.bind⟩ : Sg)) 33 := bb_17
      have k_17 : Sg.ok (⟨s.sid, s.root, s.pri, s.pub, s.peer, z32, z32, (s.own % 4), (min ((max ((s.turns % 4)) (((max ((s.own % 4)) 1) - 1)))) (((s.own % 4) + 1))), 0, 0, 0, 0, Hl.z, s.bind⟩ : Sg) := k_15.s_hl (x := Hl.z) Hl.z_ok
      clear bb_17
      refine WL.store rfl rfl rfl s_17 ?_
      have bq2_18 := bq2_16.fx fx_17 (by show ¬ _ = _; omega)
      have be_18 := bfx be_16 (by omega) fx_17
      refine WL.done ?_
      refine EW.on ?_
      refine EW.seq ?_
      refine EW.region ?_
      first | refine WL.load rfl rfl rfl (Sg.ld bc_17 k_17) ?_
      obtain ⟨w9, s9, b9, f9⟩ := Sg.st bq2_18 Sg.z_ok k_17
      refine WL.store rfl rfl rfl s9 ?_
      refine WL.done ?_
      refine EW.on ?_
      refine EW.ret ?_
      refine pr_then ?_
      refine EW.returnsC Try.results9 rfl b9 Try.underlying33 rfl (by simpa using i33 k_17) ⟨?_, bfx be_18 (by omega) f9⟩
      refine congrArg (fun x => Ending.returned (Sg.v x)) ?_
      simp only [mayD, mayB, if_pos hO, if_pos hO2, if_pos hT, if_neg hG]
      rfl
    · have hG : ¬ mayG s true := fun h => h.2.2 hO
      refine EW.region ?_
      first | refine WL.move rfl rfl rfl ?_
      first | refine WL.un rfl rfl rfl (not_t _ _) ?_
      first | refine WL.move rfl rfl rfl ?_
      first | refine WL.field rfl rfl rfl (f33_7 q1 _) ?_ | refine WL.skip _ rfl rfl rfl ?_
      first | refine WL.load rfl rfl rfl (Sg.ld_turns bc_15 k_15) ?_ | refine WL.skip _ rfl rfl rfl ?_
      first | refine WL.bin rfl rfl rfl rfl (u_gt_t (by first | omega | (dsimp only; omega)) _ _ _) ?_ | refine WL.bin rfl rfl rfl rfl (u_gt_f (by first | omega | (dsimp only; omega)) _ _ _) ?_ | refine WL.bin rfl rfl rfl rfl (u_gt_d _ _ _ _ _) ?_ | refine WL.skip _ rfl rfl rfl ?_
      first | refine WL.pick rfl rfl rfl rfl ?_
      first | refine WL.move rfl rfl rfl ?_
      first | refine WL.field rfl rfl rfl (f33_6 q1 _) ?_ | refine WL.skip _ rfl rfl rfl ?_
      first | refine WL.load rfl rfl rfl (Sg.ld_own bc_15 k_15) ?_ | refine WL.skip _ rfl rfl rfl ?_
      first | refine WL.bin rfl rfl rfl rfl (u_eq_t (by first | omega | (dsimp only; omega)) _ _ _) ?_ | refine WL.bin rfl rfl rfl rfl (u_eq_f (by first | omega | (dsimp only; omega)) _ _ _) ?_ | refine WL.bin rfl rfl rfl rfl (u_eq_d _ _ _ _ _) ?_ | refine WL.skip _ rfl rfl rfl ?_
      first | refine WL.pick rfl rfl rfl rfl ?_
      refine WL.done ?_
      refine EW.on ?_
      refine EW.cond_t rfl ?_
      refine EW.seq ?_
      refine EW.region ?_
      first | refine WL.buildN [] rfl rfl rfl (bd30 _) ?_
      first | refine WL.field rfl rfl rfl (f33_12 q1 _) ?_
      obtain ⟨w_17, s_17, bb_17, fx_17⟩ := Sg.st_hl bc_15 k_15 (x := Hl.z) Hl.z_ok
      have bc_17 : Blk w_17 q1 (Sg.cs (⟨s.sid, s.root, s.pri, s.pub, s.peer, z32, z32, (s.own % 4), (min ((max ((s.turns % 4)) (((max ((s.own % 4)) 1) - 1)))) (((s.own % 4) + 1))), 0, 0, 0, 0, Hl.z, s.bind⟩ : Sg)) 33 := bb_17
      have k_17 : Sg.ok (⟨s.sid, s.root, s.pri, s.pub, s.peer, z32, z32, (s.own % 4), (min ((max ((s.turns % 4)) (((max ((s.own % 4)) 1) - 1)))) (((s.own % 4) + 1))), 0, 0, 0, 0, Hl.z, s.bind⟩ : Sg) := k_15.s_hl (x := Hl.z) Hl.z_ok
      clear bb_17
      refine WL.store rfl rfl rfl s_17 ?_
      have bq2_18 := bq2_16.fx fx_17 (by show ¬ _ = _; omega)
      have be_18 := bfx be_16 (by omega) fx_17
      refine WL.done ?_
      refine EW.on ?_
      refine EW.seq ?_
      refine EW.region ?_
      first | refine WL.load rfl rfl rfl (Sg.ld bc_17 k_17) ?_
      obtain ⟨w9, s9, b9, f9⟩ := Sg.st bq2_18 Sg.z_ok k_17
      refine WL.store rfl rfl rfl s9 ?_
      refine WL.done ?_
      refine EW.on ?_
      refine EW.ret ?_
      refine pr_then ?_
      refine EW.returnsC Try.results9 rfl b9 Try.underlying33 rfl (by simpa using i33 k_17) ⟨?_, bfx be_18 (by omega) f9⟩
      refine congrArg (fun x => Ending.returned (Sg.v x)) ?_
      simp only [mayD, mayB, if_pos hO, if_pos hO2, if_pos hT, if_neg hG]
      rfl
  · have hO : mayO s = 0 := by unfold mayO; omega
    have hO1 : ¬ mayO s = 1 := by unfold mayO; omega
    have hO2 : mayO s ≤ 1 := by unfold mayO; omega
    have hT : ¬ mayT s = 0 := by unfold mayT; omega
    refine EW.region ?_
    first | refine WL.field rfl rfl rfl (f33_6 q1 _) ?_
    first | refine WL.load rfl rfl rfl (Sg.ld_own bc_3 k_3) ?_
    first | refine WL.bin rfl rfl rfl rfl (u_eq_t (by first | omega | (dsimp only; omega)) _ _ _) ?_ | refine WL.bin rfl rfl rfl rfl (u_eq_f (by first | omega | (dsimp only; omega)) _ _ _) ?_ | refine WL.bin rfl rfl rfl rfl (u_eq_d _ _ _ _ _) ?_
    refine WL.done ?_
    refine EW.on ?_
    refine EW.cond_t rfl ?_
    refine EW.region ?_
    first | refine WL.buildN [] rfl rfl rfl (bd25 _) ?_
    first | refine WL.field rfl rfl rfl (f33_4 q1 _) ?_
    obtain ⟨w_5, s_5, bb_5, fx_5⟩ := Sg.st_sk bc_3 k_3 (x := z32) rfl
    have bc_5 : Blk w_5 q1 (Sg.cs (⟨s.sid, s.root, s.pri, s.pub, s.peer, z32, s.rk, (s.own % 4), (min ((max ((s.turns % 4)) (((max ((s.own % 4)) 1) - 1)))) (((s.own % 4) + 1))), s.sent, s.got, s.prev, s.ser, s.hl, s.bind⟩ : Sg)) 33 := bb_5
    have k_5 : Sg.ok (⟨s.sid, s.root, s.pri, s.pub, s.peer, z32, s.rk, (s.own % 4), (min ((max ((s.turns % 4)) (((max ((s.own % 4)) 1) - 1)))) (((s.own % 4) + 1))), s.sent, s.got, s.prev, s.ser, s.hl, s.bind⟩ : Sg) := k_3.s_sk (x := z32) rfl
    clear bb_5
    refine WL.store rfl rfl rfl s_5 ?_
    have bq2_6 := bq2_4.fx fx_5 (by show ¬ _ = _; omega)
    have be_6 := bfx be_4 (by omega) fx_5
    first | refine WL.field rfl rfl rfl (f33_8 q1 _) ?_
    obtain ⟨w_7, s_7, bb_7, fx_7⟩ := Sg.st_sent bc_5 k_5 0
    have bc_7 : Blk w_7 q1 (Sg.cs (⟨s.sid, s.root, s.pri, s.pub, s.peer, z32, s.rk, (s.own % 4), (min ((max ((s.turns % 4)) (((max ((s.own % 4)) 1) - 1)))) (((s.own % 4) + 1))), 0, s.got, s.prev, s.ser, s.hl, s.bind⟩ : Sg)) 33 := bb_7
    have k_7 : Sg.ok (⟨s.sid, s.root, s.pri, s.pub, s.peer, z32, s.rk, (s.own % 4), (min ((max ((s.turns % 4)) (((max ((s.own % 4)) 1) - 1)))) (((s.own % 4) + 1))), 0, s.got, s.prev, s.ser, s.hl, s.bind⟩ : Sg) := k_5.s_sent (x := 0) (by first | decide | omega)
    clear bb_7
    refine WL.store rfl rfl rfl s_7 ?_
    have bq2_8 := bq2_6.fx fx_7 (by show ¬ _ = _; omega)
    have be_8 := bfx be_6 (by omega) fx_7
    first | refine WL.field rfl rfl rfl (f33_10 q1 _) ?_
    obtain ⟨w_9, s_9, bb_9, fx_9⟩ := Sg.st_prev bc_7 k_7 0
    have bc_9 : Blk w_9 q1 (Sg.cs (⟨s.sid, s.root, s.pri, s.pub, s.peer, z32, s.rk, (s.own % 4), (min ((max ((s.turns % 4)) (((max ((s.own % 4)) 1) - 1)))) (((s.own % 4) + 1))), 0, s.got, 0, s.ser, s.hl, s.bind⟩ : Sg)) 33 := bb_9
    have k_9 : Sg.ok (⟨s.sid, s.root, s.pri, s.pub, s.peer, z32, s.rk, (s.own % 4), (min ((max ((s.turns % 4)) (((max ((s.own % 4)) 1) - 1)))) (((s.own % 4) + 1))), 0, s.got, 0, s.ser, s.hl, s.bind⟩ : Sg) := k_7.s_prev (x := 0) (by first | decide | omega)
    clear bb_9
    refine WL.store rfl rfl rfl s_9 ?_
    have bq2_10 := bq2_8.fx fx_9 (by show ¬ _ = _; omega)
    have be_10 := bfx be_8 (by omega) fx_9
    first | refine WL.field rfl rfl rfl (f33_11 q1 _) ?_
    obtain ⟨w_11, s_11, bb_11, fx_11⟩ := Sg.st_ser bc_9 k_9 0
    have bc_11 : Blk w_11 q1 (Sg.cs (⟨s.sid, s.root, s.pri, s.pub, s.peer, z32, s.rk, (s.own % 4), (min ((max ((s.turns % 4)) (((max ((s.own % 4)) 1) - 1)))) (((s.own % 4) + 1))), 0, s.got, 0, 0, s.hl, s.bind⟩ : Sg)) 33 := bb_11
    have k_11 : Sg.ok (⟨s.sid, s.root, s.pri, s.pub, s.peer, z32, s.rk, (s.own % 4), (min ((max ((s.turns % 4)) (((max ((s.own % 4)) 1) - 1)))) (((s.own % 4) + 1))), 0, s.got, 0, 0, s.hl, s.bind⟩ : Sg) := k_9.s_ser (x := 0) (by first | decide | omega)
    clear bb_11
    refine WL.store rfl rfl rfl s_11 ?_
    have bq2_12 := bq2_10.fx fx_11 (by show ¬ _ = _; omega)
    have be_12 := bfx be_10 (by omega) fx_11
    refine WL.done ?_
    refine EW.on ?_
    refine EW.seq ?_
    refine EW.seq ?_
    refine EW.region ?_
    first | refine WL.field rfl rfl rfl (f33_6 q1 _) ?_
    first | refine WL.load rfl rfl rfl (Sg.ld_own bc_11 k_11) ?_
    first | refine WL.bin rfl rfl rfl rfl (u_eq_t (by first | omega | (dsimp only; omega)) _ _ _) ?_ | refine WL.bin rfl rfl rfl rfl (u_eq_f (by first | omega | (dsimp only; omega)) _ _ _) ?_ | refine WL.bin rfl rfl rfl rfl (u_eq_d _ _ _ _ _) ?_
    refine WL.done ?_
    refine EW.on ?_
    refine EW.cond_f rfl ?_
    refine EW.skip ?_
    refine EW.on ?_
    refine EW.seq ?_
    refine EW.seq ?_
    refine EW.region ?_
    first | refine WL.field rfl rfl rfl (f33_6 q1 _) ?_
    first | refine WL.load rfl rfl rfl (Sg.ld_own bc_11 k_11) ?_
    first | refine WL.bin rfl rfl rfl rfl (u_gt_t (by first | omega | (dsimp only; omega)) _ _ _) ?_ | refine WL.bin rfl rfl rfl rfl (u_gt_f (by first | omega | (dsimp only; omega)) _ _ _) ?_ | refine WL.bin rfl rfl rfl rfl (u_gt_d _ _ _ _ _) ?_
    refine WL.done ?_
    refine EW.on ?_
    refine EW.cond_f rfl ?_
    refine EW.skip ?_
    refine EW.on ?_
    refine EW.seq ?_
    refine EW.seq ?_
    refine EW.region ?_
    first | refine WL.field rfl rfl rfl (f33_7 q1 _) ?_
    first | refine WL.load rfl rfl rfl (Sg.ld_turns bc_11 k_11) ?_
    first | refine WL.bin rfl rfl rfl rfl (u_eq_t (by first | omega | (dsimp only; omega)) _ _ _) ?_ | refine WL.bin rfl rfl rfl rfl (u_eq_f (by first | omega | (dsimp only; omega)) _ _ _) ?_ | refine WL.bin rfl rfl rfl rfl (u_eq_d _ _ _ _ _) ?_
    refine WL.done ?_
    refine EW.on ?_
    refine EW.cond_f rfl ?_
    refine EW.skip ?_
    refine EW.on ?_
    refine EW.seq ?_
    refine EW.seq ?_
    cases hel
    · have hG : ¬ mayG s false := fun h => absurd h.1 (by decide)
      refine EW.region ?_
      first | refine WL.move rfl rfl rfl ?_
      first | refine WL.un rfl rfl rfl (not_t _ _) ?_
      first | refine WL.move rfl rfl rfl ?_
      first | refine WL.field rfl rfl rfl (f33_7 q1 _) ?_ | refine WL.skip _ rfl rfl rfl ?_
      first | refine WL.load rfl rfl rfl (Sg.ld_turns bc_11 k_11) ?_ | refine WL.skip _ rfl rfl rfl ?_
      first | refine WL.bin rfl rfl rfl rfl (u_gt_t (by first | omega | (dsimp only; omega)) _ _ _) ?_ | refine WL.bin rfl rfl rfl rfl (u_gt_f (by first | omega | (dsimp only; omega)) _ _ _) ?_ | refine WL.bin rfl rfl rfl rfl (u_gt_d _ _ _ _ _) ?_ | refine WL.skip _ rfl rfl rfl ?_
      first | refine WL.pick rfl rfl rfl rfl ?_
      first | refine WL.move rfl rfl rfl ?_
      first | refine WL.field rfl rfl rfl (f33_6 q1 _) ?_ | refine WL.skip _ rfl rfl rfl ?_
      first | refine WL.load rfl rfl rfl (Sg.ld_own bc_11 k_11) ?_ | refine WL.skip _ rfl rfl rfl ?_
      first | refine WL.bin rfl rfl rfl rfl (u_eq_t (by first | omega | (dsimp only; omega)) _ _ _) ?_ | refine WL.bin rfl rfl rfl rfl (u_eq_f (by first | omega | (dsimp only; omega)) _ _ _) ?_ | refine WL.bin rfl rfl rfl rfl (u_eq_d _ _ _ _ _) ?_ | refine WL.skip _ rfl rfl rfl ?_
      first | refine WL.pick rfl rfl rfl rfl ?_
      refine WL.done ?_
      refine EW.on ?_
      refine EW.cond_t rfl ?_
      refine EW.seq ?_
      refine EW.region ?_
      first | refine WL.buildN [] rfl rfl rfl (bd30 _) ?_
      first | refine WL.field rfl rfl rfl (f33_12 q1 _) ?_
      obtain ⟨w_13, s_13, bb_13, fx_13⟩ := Sg.st_hl bc_11 k_11 (x := Hl.z) Hl.z_ok
      have bc_13 : Blk w_13 q1 (Sg.cs (⟨s.sid, s.root, s.pri, s.pub, s.peer, z32, s.rk, (s.own % 4), (min ((max ((s.turns % 4)) (((max ((s.own % 4)) 1) - 1)))) (((s.own % 4) + 1))), 0, s.got, 0, 0, Hl.z, s.bind⟩ : Sg)) 33 := bb_13
      have k_13 : Sg.ok (⟨s.sid, s.root, s.pri, s.pub, s.peer, z32, s.rk, (s.own % 4), (min ((max ((s.turns % 4)) (((max ((s.own % 4)) 1) - 1)))) (((s.own % 4) + 1))), 0, s.got, 0, 0, Hl.z, s.bind⟩ : Sg) := k_11.s_hl (x := Hl.z) Hl.z_ok
      clear bb_13
      refine WL.store rfl rfl rfl s_13 ?_
      have bq2_14 := bq2_12.fx fx_13 (by show ¬ _ = _; omega)
      have be_14 := bfx be_12 (by omega) fx_13
      refine WL.done ?_
      refine EW.on ?_
      refine EW.seq ?_
      refine EW.region ?_
      first | refine WL.load rfl rfl rfl (Sg.ld bc_13 k_13) ?_
      obtain ⟨w9, s9, b9, f9⟩ := Sg.st bq2_14 Sg.z_ok k_13
      refine WL.store rfl rfl rfl s9 ?_
      refine WL.done ?_
      refine EW.on ?_
      refine EW.ret ?_
      refine pr_then ?_
      refine EW.returnsC Try.results9 rfl b9 Try.underlying33 rfl (by simpa using i33 k_13) ⟨?_, bfx be_14 (by omega) f9⟩
      refine congrArg (fun x => Ending.returned (Sg.v x)) ?_
      simp only [mayD, mayB, if_pos hO, if_pos hO2, if_neg hT, if_neg hG]
      rfl
    · have hG : ¬ mayG s true := fun h => hT h.2.1
      refine EW.region ?_
      first | refine WL.move rfl rfl rfl ?_
      first | refine WL.un rfl rfl rfl (not_t _ _) ?_
      first | refine WL.move rfl rfl rfl ?_
      first | refine WL.field rfl rfl rfl (f33_7 q1 _) ?_ | refine WL.skip _ rfl rfl rfl ?_
      first | refine WL.load rfl rfl rfl (Sg.ld_turns bc_11 k_11) ?_ | refine WL.skip _ rfl rfl rfl ?_
      first | refine WL.bin rfl rfl rfl rfl (u_gt_t (by first | omega | (dsimp only; omega)) _ _ _) ?_ | refine WL.bin rfl rfl rfl rfl (u_gt_f (by first | omega | (dsimp only; omega)) _ _ _) ?_ | refine WL.bin rfl rfl rfl rfl (u_gt_d _ _ _ _ _) ?_ | refine WL.skip _ rfl rfl rfl ?_
      first | refine WL.pick rfl rfl rfl rfl ?_
      first | refine WL.move rfl rfl rfl ?_
      first | refine WL.field rfl rfl rfl (f33_6 q1 _) ?_ | refine WL.skip _ rfl rfl rfl ?_
      first | refine WL.load rfl rfl rfl (Sg.ld_own bc_11 k_11) ?_ | refine WL.skip _ rfl rfl rfl ?_
      first | refine WL.bin rfl rfl rfl rfl (u_eq_t (by first | omega | (dsimp only; omega)) _ _ _) ?_ | refine WL.bin rfl rfl rfl rfl (u_eq_f (by first | omega | (dsimp only; omega)) _ _ _) ?_ | refine WL.bin rfl rfl rfl rfl (u_eq_d _ _ _ _ _) ?_ | refine WL.skip _ rfl rfl rfl ?_
      first | refine WL.pick rfl rfl rfl rfl ?_
      refine WL.done ?_
      refine EW.on ?_
      refine EW.cond_t rfl ?_
      refine EW.seq ?_
      refine EW.region ?_
      first | refine WL.buildN [] rfl rfl rfl (bd30 _) ?_
      first | refine WL.field rfl rfl rfl (f33_12 q1 _) ?_
      obtain ⟨w_13, s_13, bb_13, fx_13⟩ := Sg.st_hl bc_11 k_11 (x := Hl.z) Hl.z_ok
      have bc_13 : Blk w_13 q1 (Sg.cs (⟨s.sid, s.root, s.pri, s.pub, s.peer, z32, s.rk, (s.own % 4), (min ((max ((s.turns % 4)) (((max ((s.own % 4)) 1) - 1)))) (((s.own % 4) + 1))), 0, s.got, 0, 0, Hl.z, s.bind⟩ : Sg)) 33 := bb_13
      have k_13 : Sg.ok (⟨s.sid, s.root, s.pri, s.pub, s.peer, z32, s.rk, (s.own % 4), (min ((max ((s.turns % 4)) (((max ((s.own % 4)) 1) - 1)))) (((s.own % 4) + 1))), 0, s.got, 0, 0, Hl.z, s.bind⟩ : Sg) := k_11.s_hl (x := Hl.z) Hl.z_ok
      clear bb_13
      refine WL.store rfl rfl rfl s_13 ?_
      have bq2_14 := bq2_12.fx fx_13 (by show ¬ _ = _; omega)
      have be_14 := bfx be_12 (by omega) fx_13
      refine WL.done ?_
      refine EW.on ?_
      refine EW.seq ?_
      refine EW.region ?_
      first | refine WL.load rfl rfl rfl (Sg.ld bc_13 k_13) ?_
      obtain ⟨w9, s9, b9, f9⟩ := Sg.st bq2_14 Sg.z_ok k_13
      refine WL.store rfl rfl rfl s9 ?_
      refine WL.done ?_
      refine EW.on ?_
      refine EW.ret ?_
      refine pr_then ?_
      refine EW.returnsC Try.results9 rfl b9 Try.underlying33 rfl (by simpa using i33 k_13) ⟨?_, bfx be_14 (by omega) f9⟩
      refine congrArg (fun x => Ending.returned (Sg.v x)) ?_
      simp only [mayD, mayB, if_pos hO, if_pos hO2, if_neg hT, if_neg hG]
      rfl
  · have hO : ¬ mayO s = 0 := by unfold mayO; omega
    have hO1 : mayO s = 1 := by unfold mayO; omega
    have hO2 : mayO s ≤ 1 := by unfold mayO; omega
    have hT : mayT s = 0 := by unfold mayT; omega
    refine EW.region ?_
    first | refine WL.field rfl rfl rfl (f33_6 q1 _) ?_
    first | refine WL.load rfl rfl rfl (Sg.ld_own bc_3 k_3) ?_
    first | refine WL.bin rfl rfl rfl rfl (u_eq_t (by first | omega | (dsimp only; omega)) _ _ _) ?_ | refine WL.bin rfl rfl rfl rfl (u_eq_f (by first | omega | (dsimp only; omega)) _ _ _) ?_ | refine WL.bin rfl rfl rfl rfl (u_eq_d _ _ _ _ _) ?_
    refine WL.done ?_
    refine EW.on ?_
    refine EW.cond_f rfl ?_
    refine EW.skip ?_
    refine EW.on ?_
    refine EW.seq ?_
    refine EW.seq ?_
    refine EW.region ?_
    first | refine WL.field rfl rfl rfl (f33_6 q1 _) ?_
    first | refine WL.load rfl rfl rfl (Sg.ld_own bc_3 k_3) ?_
    first | refine WL.bin rfl rfl rfl rfl (u_eq_t (by first | omega | (dsimp only; omega)) _ _ _) ?_ | refine WL.bin rfl rfl rfl rfl (u_eq_f (by first | omega | (dsimp only; omega)) _ _ _) ?_ | refine WL.bin rfl rfl rfl rfl (u_eq_d _ _ _ _ _) ?_
    refine WL.done ?_
    refine EW.on ?_
    refine EW.cond_t rfl ?_
    refine EW.region ?_
    first | refine WL.field rfl rfl rfl (f33_8 q1 _) ?_
    first | refine WL.load rfl rfl rfl (Sg.ld_sent bc_3 k_3) ?_
    first | refine WL.field rfl rfl rfl (f33_10 q1 _) ?_
    obtain ⟨w_5, s_5, bb_5, fx_5⟩ := Sg.st_prev bc_3 k_3 0
    have bc_5 : Blk w_5 q1 (Sg.cs (⟨s.sid, s.root, s.pri, s.pub, s.peer, s.sk, s.rk, (s.own % 4), (min ((max ((s.turns % 4)) (((max ((s.own % 4)) 1) - 1)))) (((s.own % 4) + 1))), s.sent, s.got, 0, s.ser, s.hl, s.bind⟩ : Sg)) 33 := bb_5
    have k_5 : Sg.ok (⟨s.sid, s.root, s.pri, s.pub, s.peer, s.sk, s.rk, (s.own % 4), (min ((max ((s.turns % 4)) (((max ((s.own % 4)) 1) - 1)))) (((s.own % 4) + 1))), s.sent, s.got, 0, s.ser, s.hl, s.bind⟩ : Sg) := k_3.s_prev (x := 0) (by first | decide | omega)
    clear bb_5
    refine WL.store rfl rfl rfl s_5 ?_
    have bq2_6 := bq2_4.fx fx_5 (by show ¬ _ = _; omega)
    have be_6 := bfx be_4 (by omega) fx_5
    first | refine WL.field rfl rfl rfl (f33_11 q1 _) ?_
    obtain ⟨w_7, s_7, bb_7, fx_7⟩ := Sg.st_ser bc_5 k_5 s.sent
    have bc_7 : Blk w_7 q1 (Sg.cs (⟨s.sid, s.root, s.pri, s.pub, s.peer, s.sk, s.rk, (s.own % 4), (min ((max ((s.turns % 4)) (((max ((s.own % 4)) 1) - 1)))) (((s.own % 4) + 1))), s.sent, s.got, 0, s.sent, s.hl, s.bind⟩ : Sg)) 33 := bb_7
    have k_7 : Sg.ok (⟨s.sid, s.root, s.pri, s.pub, s.peer, s.sk, s.rk, (s.own % 4), (min ((max ((s.turns % 4)) (((max ((s.own % 4)) 1) - 1)))) (((s.own % 4) + 1))), s.sent, s.got, 0, s.sent, s.hl, s.bind⟩ : Sg) := k_5.s_ser (x := s.sent) (by first | decide | omega)
    clear bb_7
    refine WL.store rfl rfl rfl s_7 ?_
    have bq2_8 := bq2_6.fx fx_7 (by show ¬ _ = _; omega)
    have be_8 := bfx be_6 (by omega) fx_7
    refine WL.done ?_
    refine EW.on ?_
    refine EW.seq ?_
    refine EW.seq ?_
    refine EW.region ?_
    first | refine WL.field rfl rfl rfl (f33_6 q1 _) ?_
    first | refine WL.load rfl rfl rfl (Sg.ld_own bc_7 k_7) ?_
    first | refine WL.bin rfl rfl rfl rfl (u_gt_t (by first | omega | (dsimp only; omega)) _ _ _) ?_ | refine WL.bin rfl rfl rfl rfl (u_gt_f (by first | omega | (dsimp only; omega)) _ _ _) ?_ | refine WL.bin rfl rfl rfl rfl (u_gt_d _ _ _ _ _) ?_
    refine WL.done ?_
    refine EW.on ?_
    refine EW.cond_f rfl ?_
    refine EW.skip ?_
    refine EW.on ?_
    refine EW.seq ?_
    refine EW.seq ?_
    refine EW.region ?_
    first | refine WL.field rfl rfl rfl (f33_7 q1 _) ?_
    first | refine WL.load rfl rfl rfl (Sg.ld_turns bc_7 k_7) ?_
    first | refine WL.bin rfl rfl rfl rfl (u_eq_t (by first | omega | (dsimp only; omega)) _ _ _) ?_ | refine WL.bin rfl rfl rfl rfl (u_eq_f (by first | omega | (dsimp only; omega)) _ _ _) ?_ | refine WL.bin rfl rfl rfl rfl (u_eq_d _ _ _ _ _) ?_
    refine WL.done ?_
    refine EW.on ?_
    refine EW.cond_t rfl ?_
    refine EW.region ?_
    first | refine WL.buildN [] rfl rfl rfl (bd25 _) ?_
    first | refine WL.field rfl rfl rfl (f33_5 q1 _) ?_
    obtain ⟨w_9, s_9, bb_9, fx_9⟩ := Sg.st_rk bc_7 k_7 (x := z32) rfl
    have bc_9 : Blk w_9 q1 (Sg.cs (⟨s.sid, s.root, s.pri, s.pub, s.peer, s.sk, z32, (s.own % 4), (min ((max ((s.turns % 4)) (((max ((s.own % 4)) 1) - 1)))) (((s.own % 4) + 1))), s.sent, s.got, 0, s.sent, s.hl, s.bind⟩ : Sg)) 33 := bb_9
    have k_9 : Sg.ok (⟨s.sid, s.root, s.pri, s.pub, s.peer, s.sk, z32, (s.own % 4), (min ((max ((s.turns % 4)) (((max ((s.own % 4)) 1) - 1)))) (((s.own % 4) + 1))), s.sent, s.got, 0, s.sent, s.hl, s.bind⟩ : Sg) := k_7.s_rk (x := z32) rfl
    clear bb_9
    refine WL.store rfl rfl rfl s_9 ?_
    have bq2_10 := bq2_8.fx fx_9 (by show ¬ _ = _; omega)
    have be_10 := bfx be_8 (by omega) fx_9
    first | refine WL.field rfl rfl rfl (f33_9 q1 _) ?_
    obtain ⟨w_11, s_11, bb_11, fx_11⟩ := Sg.st_got bc_9 k_9 0
    have bc_11 : Blk w_11 q1 (Sg.cs (⟨s.sid, s.root, s.pri, s.pub, s.peer, s.sk, z32, (s.own % 4), (min ((max ((s.turns % 4)) (((max ((s.own % 4)) 1) - 1)))) (((s.own % 4) + 1))), s.sent, 0, 0, s.sent, s.hl, s.bind⟩ : Sg)) 33 := bb_11
    have k_11 : Sg.ok (⟨s.sid, s.root, s.pri, s.pub, s.peer, s.sk, z32, (s.own % 4), (min ((max ((s.turns % 4)) (((max ((s.own % 4)) 1) - 1)))) (((s.own % 4) + 1))), s.sent, 0, 0, s.sent, s.hl, s.bind⟩ : Sg) := k_9.s_got (x := 0) (by first | decide | omega)
    clear bb_11
    refine WL.store rfl rfl rfl s_11 ?_
    have bq2_12 := bq2_10.fx fx_11 (by show ¬ _ = _; omega)
    have be_12 := bfx be_10 (by omega) fx_11
    refine WL.done ?_
    refine EW.on ?_
    refine EW.seq ?_
    refine EW.seq ?_
    cases hel
    · have hG : ¬ mayG s false := fun h => absurd h.1 (by decide)
      refine EW.region ?_
      first | refine WL.move rfl rfl rfl ?_
      first | refine WL.un rfl rfl rfl (not_t _ _) ?_
      first | refine WL.move rfl rfl rfl ?_
      first | refine WL.field rfl rfl rfl (f33_7 q1 _) ?_ | refine WL.skip _ rfl rfl rfl ?_
      first | refine WL.load rfl rfl rfl (Sg.ld_turns bc_11 k_11) ?_ | refine WL.skip _ rfl rfl rfl ?_
      first | refine WL.bin rfl rfl rfl rfl (u_gt_t (by first | omega | (dsimp only; omega)) _ _ _) ?_ | refine WL.bin rfl rfl rfl rfl (u_gt_f (by first | omega | (dsimp only; omega)) _ _ _) ?_ | refine WL.bin rfl rfl rfl rfl (u_gt_d _ _ _ _ _) ?_ | refine WL.skip _ rfl rfl rfl ?_
      first | refine WL.pick rfl rfl rfl rfl ?_
      first | refine WL.move rfl rfl rfl ?_
      first | refine WL.field rfl rfl rfl (f33_6 q1 _) ?_ | refine WL.skip _ rfl rfl rfl ?_
      first | refine WL.load rfl rfl rfl (Sg.ld_own bc_11 k_11) ?_ | refine WL.skip _ rfl rfl rfl ?_
      first | refine WL.bin rfl rfl rfl rfl (u_eq_t (by first | omega | (dsimp only; omega)) _ _ _) ?_ | refine WL.bin rfl rfl rfl rfl (u_eq_f (by first | omega | (dsimp only; omega)) _ _ _) ?_ | refine WL.bin rfl rfl rfl rfl (u_eq_d _ _ _ _ _) ?_ | refine WL.skip _ rfl rfl rfl ?_
      first | refine WL.pick rfl rfl rfl rfl ?_
      refine WL.done ?_
      refine EW.on ?_
      refine EW.cond_t rfl ?_
      refine EW.seq ?_
      refine EW.region ?_
      first | refine WL.buildN [] rfl rfl rfl (bd30 _) ?_
      first | refine WL.field rfl rfl rfl (f33_12 q1 _) ?_
      obtain ⟨w_13, s_13, bb_13, fx_13⟩ := Sg.st_hl bc_11 k_11 (x := Hl.z) Hl.z_ok
      have bc_13 : Blk w_13 q1 (Sg.cs (⟨s.sid, s.root, s.pri, s.pub, s.peer, s.sk, z32, (s.own % 4), (min ((max ((s.turns % 4)) (((max ((s.own % 4)) 1) - 1)))) (((s.own % 4) + 1))), s.sent, 0, 0, s.sent, Hl.z, s.bind⟩ : Sg)) 33 := bb_13
      have k_13 : Sg.ok (⟨s.sid, s.root, s.pri, s.pub, s.peer, s.sk, z32, (s.own % 4), (min ((max ((s.turns % 4)) (((max ((s.own % 4)) 1) - 1)))) (((s.own % 4) + 1))), s.sent, 0, 0, s.sent, Hl.z, s.bind⟩ : Sg) := k_11.s_hl (x := Hl.z) Hl.z_ok
      clear bb_13
      refine WL.store rfl rfl rfl s_13 ?_
      have bq2_14 := bq2_12.fx fx_13 (by show ¬ _ = _; omega)
      have be_14 := bfx be_12 (by omega) fx_13
      refine WL.done ?_
      refine EW.on ?_
      refine EW.seq ?_
      refine EW.region ?_
      first | refine WL.load rfl rfl rfl (Sg.ld bc_13 k_13) ?_
      obtain ⟨w9, s9, b9, f9⟩ := Sg.st bq2_14 Sg.z_ok k_13
      refine WL.store rfl rfl rfl s9 ?_
      refine WL.done ?_
      refine EW.on ?_
      refine EW.ret ?_
      refine pr_then ?_
      refine EW.returnsC Try.results9 rfl b9 Try.underlying33 rfl (by simpa using i33 k_13) ⟨?_, bfx be_14 (by omega) f9⟩
      refine congrArg (fun x => Ending.returned (Sg.v x)) ?_
      simp only [mayD, mayB, if_neg hO, if_pos hO2, if_pos hT, if_neg hG, if_pos hO1]
      rfl
    · have hG : mayG s true := ⟨rfl, hT, hO⟩
      refine EW.region ?_
      first | refine WL.move rfl rfl rfl ?_
      first | refine WL.un rfl rfl rfl (not_t _ _) ?_
      first | refine WL.move rfl rfl rfl ?_
      first | refine WL.field rfl rfl rfl (f33_7 q1 _) ?_ | refine WL.skip _ rfl rfl rfl ?_
      first | refine WL.load rfl rfl rfl (Sg.ld_turns bc_11 k_11) ?_ | refine WL.skip _ rfl rfl rfl ?_
      first | refine WL.bin rfl rfl rfl rfl (u_gt_t (by first | omega | (dsimp only; omega)) _ _ _) ?_ | refine WL.bin rfl rfl rfl rfl (u_gt_f (by first | omega | (dsimp only; omega)) _ _ _) ?_ | refine WL.bin rfl rfl rfl rfl (u_gt_d _ _ _ _ _) ?_ | refine WL.skip _ rfl rfl rfl ?_
      first | refine WL.pick rfl rfl rfl rfl ?_
      first | refine WL.move rfl rfl rfl ?_
      first | refine WL.field rfl rfl rfl (f33_6 q1 _) ?_ | refine WL.skip _ rfl rfl rfl ?_
      first | refine WL.load rfl rfl rfl (Sg.ld_own bc_11 k_11) ?_ | refine WL.skip _ rfl rfl rfl ?_
      first | refine WL.bin rfl rfl rfl rfl (u_eq_t (by first | omega | (dsimp only; omega)) _ _ _) ?_ | refine WL.bin rfl rfl rfl rfl (u_eq_f (by first | omega | (dsimp only; omega)) _ _ _) ?_ | refine WL.bin rfl rfl rfl rfl (u_eq_d _ _ _ _ _) ?_ | refine WL.skip _ rfl rfl rfl ?_
      first | refine WL.pick rfl rfl rfl rfl ?_
      refine WL.done ?_
      refine EW.on ?_
      refine EW.cond_f rfl ?_
      refine EW.skip ?_
      refine EW.on ?_
      refine EW.seq ?_
      refine EW.region ?_
      first | refine WL.field rfl rfl rfl (f33_13 q1 _) ?_
      refine WL.index rfl rfl rfl rfl (ix31 q1 279 7 (by decide) _) ?_
      refine WL.load rfl rfl rfl (Sg.ldI_bind (i := 7) bc_11 k_11 (by decide)) ?_
      refine WL.bin rfl rfl rfl rfl (or1 (s.bind.getD 7 0) _ _ _) ?_
      first | refine WL.field rfl rfl rfl (f33_13 q1 _) ?_
      refine WL.index rfl rfl rfl rfl (ix31 q1 279 7 (by decide) _) ?_
      obtain ⟨w_13, s_13, bb_13, fx_13⟩ := Sg.stI_bind (i := 7) bc_11 k_11 (by decide) (((s.bind.getD 7 0) ||| 1))
      have bc_13 : Blk w_13 q1 (Sg.cs (⟨s.sid, s.root, s.pri, s.pub, s.peer, s.sk, z32, (s.own % 4), (min ((max ((s.turns % 4)) (((max ((s.own % 4)) 1) - 1)))) (((s.own % 4) + 1))), s.sent, 0, 0, s.sent, s.hl, (s.bind.set 7 (((s.bind.getD 7 0) ||| 1)))⟩ : Sg)) 33 := bb_13
      have k_13 : Sg.ok (⟨s.sid, s.root, s.pri, s.pub, s.peer, s.sk, z32, (s.own % 4), (min ((max ((s.turns % 4)) (((max ((s.own % 4)) 1) - 1)))) (((s.own % 4) + 1))), s.sent, 0, 0, s.sent, s.hl, (s.bind.set 7 (((s.bind.getD 7 0) ||| 1)))⟩ : Sg) := Sg.ok.sI_bind k_11 7 (((s.bind.getD 7 0) ||| 1))
      clear bb_13
      refine WL.store rfl rfl rfl s_13 ?_
      have bq2_14 := bq2_12.fx fx_13 (by show ¬ _ = _; omega)
      have be_14 := bfx be_12 (by omega) fx_13
      refine WL.done ?_
      refine EW.on ?_
      refine EW.seq ?_
      refine EW.region ?_
      first | refine WL.field rfl rfl rfl (f33_13 q1 _) ?_
      refine WL.sliceH rfl rfl rfl rfl (cut31 q1 279 _) ?_
      refine WL.s2a rfl rfl rfl (s2a q1 279 32 64 (by decide) _) ?_
      refine WL.load rfl rfl rfl (Sg.ld_first bc_13 k_13) ?_
      first | refine WL.field rfl rfl rfl (f33_12 q1 _) ?_
      first | refine WL.field rfl rfl rfl (f30_0 q1 214 _) ?_
      obtain ⟨w_15, s_15, bb_15, fx_15⟩ := Sg.st_hid bc_13 k_13 (x := (((s.bind.set 7 (((s.bind.getD 7 0) ||| 1)))).take 32)) (take32 k_13)
      have bc_15 : Blk w_15 q1 (Sg.cs (⟨s.sid, s.root, s.pri, s.pub, s.peer, s.sk, z32, (s.own % 4), (min ((max ((s.turns % 4)) (((max ((s.own % 4)) 1) - 1)))) (((s.own % 4) + 1))), s.sent, 0, 0, s.sent, { s.hl with id := (((s.bind.set 7 (((s.bind.getD 7 0) ||| 1)))).take 32) }, (s.bind.set 7 (((s.bind.getD 7 0) ||| 1)))⟩ : Sg)) 33 := bb_15
      have k_15 : Sg.ok (⟨s.sid, s.root, s.pri, s.pub, s.peer, s.sk, z32, (s.own % 4), (min ((max ((s.turns % 4)) (((max ((s.own % 4)) 1) - 1)))) (((s.own % 4) + 1))), s.sent, 0, 0, s.sent, { s.hl with id := (((s.bind.set 7 (((s.bind.getD 7 0) ||| 1)))).take 32) }, (s.bind.set 7 (((s.bind.getD 7 0) ||| 1)))⟩ : Sg) := k_13.s_hl (x := { s.hl with id := (((s.bind.set 7 (((s.bind.getD 7 0) ||| 1)))).take 32) }) ⟨(take32 k_13), k_13.hl.o, k_13.hl.p⟩
      clear bb_15
      refine WL.store rfl rfl rfl s_15 ?_
      have bq2_16 := bq2_14.fx fx_15 (by show ¬ _ = _; omega)
      have be_16 := bfx be_14 (by omega) fx_15
      refine WL.done ?_
      refine EW.on ?_
      refine EW.seq ?_
      refine EW.region ?_
      first | refine WL.load rfl rfl rfl (Sg.ld bc_15 k_15) ?_
      obtain ⟨w9, s9, b9, f9⟩ := Sg.st bq2_16 Sg.z_ok k_15
      refine WL.store rfl rfl rfl s9 ?_
      refine WL.done ?_
      refine EW.on ?_
      refine EW.ret ?_
      refine EW.returnsC Try.results9 rfl b9 Try.underlying33 rfl (by simpa using i33 k_15) ⟨?_, bfx be_16 (by omega) f9⟩
      refine congrArg (fun x => Ending.returned (Sg.v x)) ?_
      simp only [mayD, mayB, if_neg hO, if_pos hO2, if_pos hT, if_pos hG, if_pos hO1]
      rfl
  · have hO : ¬ mayO s = 0 := by unfold mayO; omega
    have hO1 : mayO s = 1 := by unfold mayO; omega
    have hO2 : mayO s ≤ 1 := by unfold mayO; omega
    have hT : ¬ mayT s = 0 := by unfold mayT; omega
    refine EW.region ?_
    first | refine WL.field rfl rfl rfl (f33_6 q1 _) ?_
    first | refine WL.load rfl rfl rfl (Sg.ld_own bc_3 k_3) ?_
    first | refine WL.bin rfl rfl rfl rfl (u_eq_t (by first | omega | (dsimp only; omega)) _ _ _) ?_ | refine WL.bin rfl rfl rfl rfl (u_eq_f (by first | omega | (dsimp only; omega)) _ _ _) ?_ | refine WL.bin rfl rfl rfl rfl (u_eq_d _ _ _ _ _) ?_
    refine WL.done ?_
    refine EW.on ?_
    refine EW.cond_f rfl ?_
    refine EW.skip ?_
    refine EW.on ?_
    refine EW.seq ?_
    refine EW.seq ?_
    refine EW.region ?_
    first | refine WL.field rfl rfl rfl (f33_6 q1 _) ?_
    first | refine WL.load rfl rfl rfl (Sg.ld_own bc_3 k_3) ?_
    first | refine WL.bin rfl rfl rfl rfl (u_eq_t (by first | omega | (dsimp only; omega)) _ _ _) ?_ | refine WL.bin rfl rfl rfl rfl (u_eq_f (by first | omega | (dsimp only; omega)) _ _ _) ?_ | refine WL.bin rfl rfl rfl rfl (u_eq_d _ _ _ _ _) ?_
    refine WL.done ?_
    refine EW.on ?_
    refine EW.cond_t rfl ?_
    refine EW.region ?_
    first | refine WL.field rfl rfl rfl (f33_8 q1 _) ?_
    first | refine WL.load rfl rfl rfl (Sg.ld_sent bc_3 k_3) ?_
    first | refine WL.field rfl rfl rfl (f33_10 q1 _) ?_
    obtain ⟨w_5, s_5, bb_5, fx_5⟩ := Sg.st_prev bc_3 k_3 0
    have bc_5 : Blk w_5 q1 (Sg.cs (⟨s.sid, s.root, s.pri, s.pub, s.peer, s.sk, s.rk, (s.own % 4), (min ((max ((s.turns % 4)) (((max ((s.own % 4)) 1) - 1)))) (((s.own % 4) + 1))), s.sent, s.got, 0, s.ser, s.hl, s.bind⟩ : Sg)) 33 := bb_5
    have k_5 : Sg.ok (⟨s.sid, s.root, s.pri, s.pub, s.peer, s.sk, s.rk, (s.own % 4), (min ((max ((s.turns % 4)) (((max ((s.own % 4)) 1) - 1)))) (((s.own % 4) + 1))), s.sent, s.got, 0, s.ser, s.hl, s.bind⟩ : Sg) := k_3.s_prev (x := 0) (by first | decide | omega)
    clear bb_5
    refine WL.store rfl rfl rfl s_5 ?_
    have bq2_6 := bq2_4.fx fx_5 (by show ¬ _ = _; omega)
    have be_6 := bfx be_4 (by omega) fx_5
    first | refine WL.field rfl rfl rfl (f33_11 q1 _) ?_
    obtain ⟨w_7, s_7, bb_7, fx_7⟩ := Sg.st_ser bc_5 k_5 s.sent
    have bc_7 : Blk w_7 q1 (Sg.cs (⟨s.sid, s.root, s.pri, s.pub, s.peer, s.sk, s.rk, (s.own % 4), (min ((max ((s.turns % 4)) (((max ((s.own % 4)) 1) - 1)))) (((s.own % 4) + 1))), s.sent, s.got, 0, s.sent, s.hl, s.bind⟩ : Sg)) 33 := bb_7
    have k_7 : Sg.ok (⟨s.sid, s.root, s.pri, s.pub, s.peer, s.sk, s.rk, (s.own % 4), (min ((max ((s.turns % 4)) (((max ((s.own % 4)) 1) - 1)))) (((s.own % 4) + 1))), s.sent, s.got, 0, s.sent, s.hl, s.bind⟩ : Sg) := k_5.s_ser (x := s.sent) (by first | decide | omega)
    clear bb_7
    refine WL.store rfl rfl rfl s_7 ?_
    have bq2_8 := bq2_6.fx fx_7 (by show ¬ _ = _; omega)
    have be_8 := bfx be_6 (by omega) fx_7
    refine WL.done ?_
    refine EW.on ?_
    refine EW.seq ?_
    refine EW.seq ?_
    refine EW.region ?_
    first | refine WL.field rfl rfl rfl (f33_6 q1 _) ?_
    first | refine WL.load rfl rfl rfl (Sg.ld_own bc_7 k_7) ?_
    first | refine WL.bin rfl rfl rfl rfl (u_gt_t (by first | omega | (dsimp only; omega)) _ _ _) ?_ | refine WL.bin rfl rfl rfl rfl (u_gt_f (by first | omega | (dsimp only; omega)) _ _ _) ?_ | refine WL.bin rfl rfl rfl rfl (u_gt_d _ _ _ _ _) ?_
    refine WL.done ?_
    refine EW.on ?_
    refine EW.cond_f rfl ?_
    refine EW.skip ?_
    refine EW.on ?_
    refine EW.seq ?_
    refine EW.seq ?_
    refine EW.region ?_
    first | refine WL.field rfl rfl rfl (f33_7 q1 _) ?_
    first | refine WL.load rfl rfl rfl (Sg.ld_turns bc_7 k_7) ?_
    first | refine WL.bin rfl rfl rfl rfl (u_eq_t (by first | omega | (dsimp only; omega)) _ _ _) ?_ | refine WL.bin rfl rfl rfl rfl (u_eq_f (by first | omega | (dsimp only; omega)) _ _ _) ?_ | refine WL.bin rfl rfl rfl rfl (u_eq_d _ _ _ _ _) ?_
    refine WL.done ?_
    refine EW.on ?_
    refine EW.cond_f rfl ?_
    refine EW.skip ?_
    refine EW.on ?_
    refine EW.seq ?_
    refine EW.seq ?_
    cases hel
    · have hG : ¬ mayG s false := fun h => absurd h.1 (by decide)
      refine EW.region ?_
      first | refine WL.move rfl rfl rfl ?_
      first | refine WL.un rfl rfl rfl (not_t _ _) ?_
      first | refine WL.move rfl rfl rfl ?_
      first | refine WL.field rfl rfl rfl (f33_7 q1 _) ?_ | refine WL.skip _ rfl rfl rfl ?_
      first | refine WL.load rfl rfl rfl (Sg.ld_turns bc_7 k_7) ?_ | refine WL.skip _ rfl rfl rfl ?_
      first | refine WL.bin rfl rfl rfl rfl (u_gt_t (by first | omega | (dsimp only; omega)) _ _ _) ?_ | refine WL.bin rfl rfl rfl rfl (u_gt_f (by first | omega | (dsimp only; omega)) _ _ _) ?_ | refine WL.bin rfl rfl rfl rfl (u_gt_d _ _ _ _ _) ?_ | refine WL.skip _ rfl rfl rfl ?_
      first | refine WL.pick rfl rfl rfl rfl ?_
      first | refine WL.move rfl rfl rfl ?_
      first | refine WL.field rfl rfl rfl (f33_6 q1 _) ?_ | refine WL.skip _ rfl rfl rfl ?_
      first | refine WL.load rfl rfl rfl (Sg.ld_own bc_7 k_7) ?_ | refine WL.skip _ rfl rfl rfl ?_
      first | refine WL.bin rfl rfl rfl rfl (u_eq_t (by first | omega | (dsimp only; omega)) _ _ _) ?_ | refine WL.bin rfl rfl rfl rfl (u_eq_f (by first | omega | (dsimp only; omega)) _ _ _) ?_ | refine WL.bin rfl rfl rfl rfl (u_eq_d _ _ _ _ _) ?_ | refine WL.skip _ rfl rfl rfl ?_
      first | refine WL.pick rfl rfl rfl rfl ?_
      refine WL.done ?_
      refine EW.on ?_
      refine EW.cond_t rfl ?_
      refine EW.seq ?_
      refine EW.region ?_
      first | refine WL.buildN [] rfl rfl rfl (bd30 _) ?_
      first | refine WL.field rfl rfl rfl (f33_12 q1 _) ?_
      obtain ⟨w_9, s_9, bb_9, fx_9⟩ := Sg.st_hl bc_7 k_7 (x := Hl.z) Hl.z_ok
      have bc_9 : Blk w_9 q1 (Sg.cs (⟨s.sid, s.root, s.pri, s.pub, s.peer, s.sk, s.rk, (s.own % 4), (min ((max ((s.turns % 4)) (((max ((s.own % 4)) 1) - 1)))) (((s.own % 4) + 1))), s.sent, s.got, 0, s.sent, Hl.z, s.bind⟩ : Sg)) 33 := bb_9
      have k_9 : Sg.ok (⟨s.sid, s.root, s.pri, s.pub, s.peer, s.sk, s.rk, (s.own % 4), (min ((max ((s.turns % 4)) (((max ((s.own % 4)) 1) - 1)))) (((s.own % 4) + 1))), s.sent, s.got, 0, s.sent, Hl.z, s.bind⟩ : Sg) := k_7.s_hl (x := Hl.z) Hl.z_ok
      clear bb_9
      refine WL.store rfl rfl rfl s_9 ?_
      have bq2_10 := bq2_8.fx fx_9 (by show ¬ _ = _; omega)
      have be_10 := bfx be_8 (by omega) fx_9
      refine WL.done ?_
      refine EW.on ?_
      refine EW.seq ?_
      refine EW.region ?_
      first | refine WL.load rfl rfl rfl (Sg.ld bc_9 k_9) ?_
      obtain ⟨w9, s9, b9, f9⟩ := Sg.st bq2_10 Sg.z_ok k_9
      refine WL.store rfl rfl rfl s9 ?_
      refine WL.done ?_
      refine EW.on ?_
      refine EW.ret ?_
      refine pr_then ?_
      refine EW.returnsC Try.results9 rfl b9 Try.underlying33 rfl (by simpa using i33 k_9) ⟨?_, bfx be_10 (by omega) f9⟩
      refine congrArg (fun x => Ending.returned (Sg.v x)) ?_
      simp only [mayD, mayB, if_neg hO, if_pos hO2, if_neg hT, if_neg hG, if_pos hO1]
      rfl
    · have hG : ¬ mayG s true := fun h => hT h.2.1
      refine EW.region ?_
      first | refine WL.move rfl rfl rfl ?_
      first | refine WL.un rfl rfl rfl (not_t _ _) ?_
      first | refine WL.move rfl rfl rfl ?_
      first | refine WL.field rfl rfl rfl (f33_7 q1 _) ?_ | refine WL.skip _ rfl rfl rfl ?_
      first | refine WL.load rfl rfl rfl (Sg.ld_turns bc_7 k_7) ?_ | refine WL.skip _ rfl rfl rfl ?_
      first | refine WL.bin rfl rfl rfl rfl (u_gt_t (by first | omega | (dsimp only; omega)) _ _ _) ?_ | refine WL.bin rfl rfl rfl rfl (u_gt_f (by first | omega | (dsimp only; omega)) _ _ _) ?_ | refine WL.bin rfl rfl rfl rfl (u_gt_d _ _ _ _ _) ?_ | refine WL.skip _ rfl rfl rfl ?_
      first | refine WL.pick rfl rfl rfl rfl ?_
      first | refine WL.move rfl rfl rfl ?_
      first | refine WL.field rfl rfl rfl (f33_6 q1 _) ?_ | refine WL.skip _ rfl rfl rfl ?_
      first | refine WL.load rfl rfl rfl (Sg.ld_own bc_7 k_7) ?_ | refine WL.skip _ rfl rfl rfl ?_
      first | refine WL.bin rfl rfl rfl rfl (u_eq_t (by first | omega | (dsimp only; omega)) _ _ _) ?_ | refine WL.bin rfl rfl rfl rfl (u_eq_f (by first | omega | (dsimp only; omega)) _ _ _) ?_ | refine WL.bin rfl rfl rfl rfl (u_eq_d _ _ _ _ _) ?_ | refine WL.skip _ rfl rfl rfl ?_
      first | refine WL.pick rfl rfl rfl rfl ?_
      refine WL.done ?_
      refine EW.on ?_
      refine EW.cond_t rfl ?_
      refine EW.seq ?_
      refine EW.region ?_
      first | refine WL.buildN [] rfl rfl rfl (bd30 _) ?_
      first | refine WL.field rfl rfl rfl (f33_12 q1 _) ?_
      obtain ⟨w_9, s_9, bb_9, fx_9⟩ := Sg.st_hl bc_7 k_7 (x := Hl.z) Hl.z_ok
      have bc_9 : Blk w_9 q1 (Sg.cs (⟨s.sid, s.root, s.pri, s.pub, s.peer, s.sk, s.rk, (s.own % 4), (min ((max ((s.turns % 4)) (((max ((s.own % 4)) 1) - 1)))) (((s.own % 4) + 1))), s.sent, s.got, 0, s.sent, Hl.z, s.bind⟩ : Sg)) 33 := bb_9
      have k_9 : Sg.ok (⟨s.sid, s.root, s.pri, s.pub, s.peer, s.sk, s.rk, (s.own % 4), (min ((max ((s.turns % 4)) (((max ((s.own % 4)) 1) - 1)))) (((s.own % 4) + 1))), s.sent, s.got, 0, s.sent, Hl.z, s.bind⟩ : Sg) := k_7.s_hl (x := Hl.z) Hl.z_ok
      clear bb_9
      refine WL.store rfl rfl rfl s_9 ?_
      have bq2_10 := bq2_8.fx fx_9 (by show ¬ _ = _; omega)
      have be_10 := bfx be_8 (by omega) fx_9
      refine WL.done ?_
      refine EW.on ?_
      refine EW.seq ?_
      refine EW.region ?_
      first | refine WL.load rfl rfl rfl (Sg.ld bc_9 k_9) ?_
      obtain ⟨w9, s9, b9, f9⟩ := Sg.st bq2_10 Sg.z_ok k_9
      refine WL.store rfl rfl rfl s9 ?_
      refine WL.done ?_
      refine EW.on ?_
      refine EW.ret ?_
      refine pr_then ?_
      refine EW.returnsC Try.results9 rfl b9 Try.underlying33 rfl (by simpa using i33 k_9) ⟨?_, bfx be_10 (by omega) f9⟩
      refine congrArg (fun x => Ending.returned (Sg.v x)) ?_
      simp only [mayD, mayB, if_neg hO, if_pos hO2, if_neg hT, if_neg hG, if_pos hO1]
      rfl
  · have hO : ¬ mayO s = 0 := by unfold mayO; omega
    have hO1 : ¬ mayO s = 1 := by unfold mayO; omega
    have hO2 : ¬ mayO s ≤ 1 := by unfold mayO; omega
    have hT : ¬ mayT s = 0 := by unfold mayT; omega
    refine EW.region ?_
    first | refine WL.field rfl rfl rfl (f33_6 q1 _) ?_
    first | refine WL.load rfl rfl rfl (Sg.ld_own bc_3 k_3) ?_
    first | refine WL.bin rfl rfl rfl rfl (u_eq_t (by first | omega | (dsimp only; omega)) _ _ _) ?_ | refine WL.bin rfl rfl rfl rfl (u_eq_f (by first | omega | (dsimp only; omega)) _ _ _) ?_ | refine WL.bin rfl rfl rfl rfl (u_eq_d _ _ _ _ _) ?_
    refine WL.done ?_
    refine EW.on ?_
    refine EW.cond_f rfl ?_
    refine EW.skip ?_
    refine EW.on ?_
    refine EW.seq ?_
    refine EW.seq ?_
    refine EW.region ?_
    first | refine WL.field rfl rfl rfl (f33_6 q1 _) ?_
    first | refine WL.load rfl rfl rfl (Sg.ld_own bc_3 k_3) ?_
    first | refine WL.bin rfl rfl rfl rfl (u_eq_t (by first | omega | (dsimp only; omega)) _ _ _) ?_ | refine WL.bin rfl rfl rfl rfl (u_eq_f (by first | omega | (dsimp only; omega)) _ _ _) ?_ | refine WL.bin rfl rfl rfl rfl (u_eq_d _ _ _ _ _) ?_
    refine WL.done ?_
    refine EW.on ?_
    refine EW.cond_f rfl ?_
    refine EW.skip ?_
    refine EW.on ?_
    refine EW.seq ?_
    refine EW.seq ?_
    refine EW.region ?_
    first | refine WL.field rfl rfl rfl (f33_6 q1 _) ?_
    first | refine WL.load rfl rfl rfl (Sg.ld_own bc_3 k_3) ?_
    first | refine WL.bin rfl rfl rfl rfl (u_gt_t (by first | omega | (dsimp only; omega)) _ _ _) ?_ | refine WL.bin rfl rfl rfl rfl (u_gt_f (by first | omega | (dsimp only; omega)) _ _ _) ?_ | refine WL.bin rfl rfl rfl rfl (u_gt_d _ _ _ _ _) ?_
    refine WL.done ?_
    refine EW.on ?_
    refine EW.cond_t rfl ?_
    refine EW.seq ?_
    refine EW.region ?_
    first | refine WL.field rfl rfl rfl (f33_10 q1 _) ?_
    first | refine WL.load rfl rfl rfl (Sg.ld_prev bc_3 k_3) ?_
    refine WL.bin rfl rfl rfl rfl (u_rem s.prev 1000 (by decide) _ _ _) ?_
    first | refine WL.field rfl rfl rfl (f33_8 q1 _) ?_
    first | refine WL.load rfl rfl rfl (Sg.ld_sent bc_3 k_3) ?_
    refine WL.bin rfl rfl rfl rfl (u_rem s.sent 1000 (by decide) _ _ _) ?_
    first | refine WL.field rfl rfl rfl (f33_10 q1 _) ?_
    obtain ⟨w_5, s_5, bb_5, fx_5⟩ := Sg.st_prev bc_3 k_3 ((s.prev % 1000))
    have bc_5 : Blk w_5 q1 (Sg.cs (⟨s.sid, s.root, s.pri, s.pub, s.peer, s.sk, s.rk, (s.own % 4), (min ((max ((s.turns % 4)) (((max ((s.own % 4)) 1) - 1)))) (((s.own % 4) + 1))), s.sent, s.got, (s.prev % 1000), s.ser, s.hl, s.bind⟩ : Sg)) 33 := bb_5
    have k_5 : Sg.ok (⟨s.sid, s.root, s.pri, s.pub, s.peer, s.sk, s.rk, (s.own % 4), (min ((max ((s.turns % 4)) (((max ((s.own % 4)) 1) - 1)))) (((s.own % 4) + 1))), s.sent, s.got, (s.prev % 1000), s.ser, s.hl, s.bind⟩ : Sg) := k_3.s_prev (x := (s.prev % 1000)) (by first | decide | omega)
    clear bb_5
    refine WL.store rfl rfl rfl s_5 ?_
    have bq2_6 := bq2_4.fx fx_5 (by show ¬ _ = _; omega)
    have be_6 := bfx be_4 (by omega) fx_5
    first | refine WL.field rfl rfl rfl (f33_8 q1 _) ?_
    obtain ⟨w_7, s_7, bb_7, fx_7⟩ := Sg.st_sent bc_5 k_5 ((s.sent % 1000))
    have bc_7 : Blk w_7 q1 (Sg.cs (⟨s.sid, s.root, s.pri, s.pub, s.peer, s.sk, s.rk, (s.own % 4), (min ((max ((s.turns % 4)) (((max ((s.own % 4)) 1) - 1)))) (((s.own % 4) + 1))), (s.sent % 1000), s.got, (s.prev % 1000), s.ser, s.hl, s.bind⟩ : Sg)) 33 := bb_7
    have k_7 : Sg.ok (⟨s.sid, s.root, s.pri, s.pub, s.peer, s.sk, s.rk, (s.own % 4), (min ((max ((s.turns % 4)) (((max ((s.own % 4)) 1) - 1)))) (((s.own % 4) + 1))), (s.sent % 1000), s.got, (s.prev % 1000), s.ser, s.hl, s.bind⟩ : Sg) := k_5.s_sent (x := (s.sent % 1000)) (by first | decide | omega)
    clear bb_7
    refine WL.store rfl rfl rfl s_7 ?_
    have bq2_8 := bq2_6.fx fx_7 (by show ¬ _ = _; omega)
    have be_8 := bfx be_6 (by omega) fx_7
    refine WL.done ?_
    refine EW.on ?_
    refine EW.region ?_
    first | refine WL.field rfl rfl rfl (f33_10 q1 _) ?_
    first | refine WL.load rfl rfl rfl (Sg.ld_prev bc_7 k_7) ?_
    first | refine WL.field rfl rfl rfl (f33_8 q1 _) ?_
    first | refine WL.load rfl rfl rfl (Sg.ld_sent bc_7 k_7) ?_
    refine WL.bin rfl rfl rfl rfl (u_add (n := (s.prev % 1000)) (m := (s.sent % 1000)) (by omega) _ _ _) ?_
    first | refine WL.field rfl rfl rfl (f33_11 q1 _) ?_
    first | refine WL.load rfl rfl rfl (Sg.ld_ser bc_7 k_7) ?_
    refine WL.bin rfl rfl rfl rfl (u_rem s.ser 1000 (by decide) _ _ _) ?_
    refine WL.bin rfl rfl rfl rfl (u_add (n := ((s.prev % 1000) + (s.sent % 1000))) (m := (s.ser % 1000)) (by omega) _ _ _) ?_
    first | refine WL.field rfl rfl rfl (f33_11 q1 _) ?_
    obtain ⟨w_9, s_9, bb_9, fx_9⟩ := Sg.st_ser bc_7 k_7 ((((s.prev % 1000) + (s.sent % 1000)) + (s.ser % 1000)))
    have bc_9 : Blk w_9 q1 (Sg.cs (⟨s.sid, s.root, s.pri, s.pub, s.peer, s.sk, s.rk, (s.own % 4), (min ((max ((s.turns % 4)) (((max ((s.own % 4)) 1) - 1)))) (((s.own % 4) + 1))), (s.sent % 1000), s.got, (s.prev % 1000), (((s.prev % 1000) + (s.sent % 1000)) + (s.ser % 1000)), s.hl, s.bind⟩ : Sg)) 33 := bb_9
    have k_9 : Sg.ok (⟨s.sid, s.root, s.pri, s.pub, s.peer, s.sk, s.rk, (s.own % 4), (min ((max ((s.turns % 4)) (((max ((s.own % 4)) 1) - 1)))) (((s.own % 4) + 1))), (s.sent % 1000), s.got, (s.prev % 1000), (((s.prev % 1000) + (s.sent % 1000)) + (s.ser % 1000)), s.hl, s.bind⟩ : Sg) := k_7.s_ser (x := (((s.prev % 1000) + (s.sent % 1000)) + (s.ser % 1000))) (by first | decide | omega)
    clear bb_9
    refine WL.store rfl rfl rfl s_9 ?_
    have bq2_10 := bq2_8.fx fx_9 (by show ¬ _ = _; omega)
    have be_10 := bfx be_8 (by omega) fx_9
    refine WL.done ?_
    refine EW.on ?_
    refine EW.seq ?_
    refine EW.seq ?_
    refine EW.region ?_
    first | refine WL.field rfl rfl rfl (f33_7 q1 _) ?_
    first | refine WL.load rfl rfl rfl (Sg.ld_turns bc_9 k_9) ?_
    first | refine WL.bin rfl rfl rfl rfl (u_eq_t (by first | omega | (dsimp only; omega)) _ _ _) ?_ | refine WL.bin rfl rfl rfl rfl (u_eq_f (by first | omega | (dsimp only; omega)) _ _ _) ?_ | refine WL.bin rfl rfl rfl rfl (u_eq_d _ _ _ _ _) ?_
    refine WL.done ?_
    refine EW.on ?_
    refine EW.cond_f rfl ?_
    refine EW.skip ?_
    refine EW.on ?_
    refine EW.seq ?_
    refine EW.seq ?_
    cases hel
    · have hG : ¬ mayG s false := fun h => absurd h.1 (by decide)
      refine EW.region ?_
      first | refine WL.move rfl rfl rfl ?_
      first | refine WL.un rfl rfl rfl (not_t _ _) ?_
      first | refine WL.move rfl rfl rfl ?_
      first | refine WL.field rfl rfl rfl (f33_7 q1 _) ?_ | refine WL.skip _ rfl rfl rfl ?_
      first | refine WL.load rfl rfl rfl (Sg.ld_turns bc_9 k_9) ?_ | refine WL.skip _ rfl rfl rfl ?_
      first | refine WL.bin rfl rfl rfl rfl (u_gt_t (by first | omega | (dsimp only; omega)) _ _ _) ?_ | refine WL.bin rfl rfl rfl rfl (u_gt_f (by first | omega | (dsimp only; omega)) _ _ _) ?_ | refine WL.bin rfl rfl rfl rfl (u_gt_d _ _ _ _ _) ?_ | refine WL.skip _ rfl rfl rfl ?_
      first | refine WL.pick rfl rfl rfl rfl ?_
      first | refine WL.move rfl rfl rfl ?_
      first | refine WL.field rfl rfl rfl (f33_6 q1 _) ?_ | refine WL.skip _ rfl rfl rfl ?_
      first | refine WL.load rfl rfl rfl (Sg.ld_own bc_9 k_9) ?_ | refine WL.skip _ rfl rfl rfl ?_
      first | refine WL.bin rfl rfl rfl rfl (u_eq_t (by first | omega | (dsimp only; omega)) _ _ _) ?_ | refine WL.bin rfl rfl rfl rfl (u_eq_f (by first | omega | (dsimp only; omega)) _ _ _) ?_ | refine WL.bin rfl rfl rfl rfl (u_eq_d _ _ _ _ _) ?_ | refine WL.skip _ rfl rfl rfl ?_
      first | refine WL.pick rfl rfl rfl rfl ?_
      refine WL.done ?_
      refine EW.on ?_
      refine EW.cond_t rfl ?_
      refine EW.seq ?_
      refine EW.region ?_
      first | refine WL.buildN [] rfl rfl rfl (bd30 _) ?_
      first | refine WL.field rfl rfl rfl (f33_12 q1 _) ?_
      obtain ⟨w_11, s_11, bb_11, fx_11⟩ := Sg.st_hl bc_9 k_9 (x := Hl.z) Hl.z_ok
      have bc_11 : Blk w_11 q1 (Sg.cs (⟨s.sid, s.root, s.pri, s.pub, s.peer, s.sk, s.rk, (s.own % 4), (min ((max ((s.turns % 4)) (((max ((s.own % 4)) 1) - 1)))) (((s.own % 4) + 1))), (s.sent % 1000), s.got, (s.prev % 1000), (((s.prev % 1000) + (s.sent % 1000)) + (s.ser % 1000)), Hl.z, s.bind⟩ : Sg)) 33 := bb_11
      have k_11 : Sg.ok (⟨s.sid, s.root, s.pri, s.pub, s.peer, s.sk, s.rk, (s.own % 4), (min ((max ((s.turns % 4)) (((max ((s.own % 4)) 1) - 1)))) (((s.own % 4) + 1))), (s.sent % 1000), s.got, (s.prev % 1000), (((s.prev % 1000) + (s.sent % 1000)) + (s.ser % 1000)), Hl.z, s.bind⟩ : Sg) := k_9.s_hl (x := Hl.z) Hl.z_ok
      clear bb_11
      refine WL.store rfl rfl rfl s_11 ?_
      have bq2_12 := bq2_10.fx fx_11 (by show ¬ _ = _; omega)
      have be_12 := bfx be_10 (by omega) fx_11
      refine WL.done ?_
      refine EW.on ?_
      refine EW.seq ?_
      refine EW.region ?_
      first | refine WL.load rfl rfl rfl (Sg.ld bc_11 k_11) ?_
      obtain ⟨w9, s9, b9, f9⟩ := Sg.st bq2_12 Sg.z_ok k_11
      refine WL.store rfl rfl rfl s9 ?_
      refine WL.done ?_
      refine EW.on ?_
      refine EW.ret ?_
      refine pr_then ?_
      refine EW.returnsC Try.results9 rfl b9 Try.underlying33 rfl (by simpa using i33 k_11) ⟨?_, bfx be_12 (by omega) f9⟩
      refine congrArg (fun x => Ending.returned (Sg.v x)) ?_
      simp only [mayD, mayB, if_neg hO, if_neg hO2, if_neg hT, if_neg hG, if_neg hO1]
      rfl
    · have hG : ¬ mayG s true := fun h => hT h.2.1
      refine EW.region ?_
      first | refine WL.move rfl rfl rfl ?_
      first | refine WL.un rfl rfl rfl (not_t _ _) ?_
      first | refine WL.move rfl rfl rfl ?_
      first | refine WL.field rfl rfl rfl (f33_7 q1 _) ?_ | refine WL.skip _ rfl rfl rfl ?_
      first | refine WL.load rfl rfl rfl (Sg.ld_turns bc_9 k_9) ?_ | refine WL.skip _ rfl rfl rfl ?_
      first | refine WL.bin rfl rfl rfl rfl (u_gt_t (by first | omega | (dsimp only; omega)) _ _ _) ?_ | refine WL.bin rfl rfl rfl rfl (u_gt_f (by first | omega | (dsimp only; omega)) _ _ _) ?_ | refine WL.bin rfl rfl rfl rfl (u_gt_d _ _ _ _ _) ?_ | refine WL.skip _ rfl rfl rfl ?_
      first | refine WL.pick rfl rfl rfl rfl ?_
      first | refine WL.move rfl rfl rfl ?_
      first | refine WL.field rfl rfl rfl (f33_6 q1 _) ?_ | refine WL.skip _ rfl rfl rfl ?_
      first | refine WL.load rfl rfl rfl (Sg.ld_own bc_9 k_9) ?_ | refine WL.skip _ rfl rfl rfl ?_
      first | refine WL.bin rfl rfl rfl rfl (u_eq_t (by first | omega | (dsimp only; omega)) _ _ _) ?_ | refine WL.bin rfl rfl rfl rfl (u_eq_f (by first | omega | (dsimp only; omega)) _ _ _) ?_ | refine WL.bin rfl rfl rfl rfl (u_eq_d _ _ _ _ _) ?_ | refine WL.skip _ rfl rfl rfl ?_
      first | refine WL.pick rfl rfl rfl rfl ?_
      refine WL.done ?_
      refine EW.on ?_
      refine EW.cond_t rfl ?_
      refine EW.seq ?_
      refine EW.region ?_
      first | refine WL.buildN [] rfl rfl rfl (bd30 _) ?_
      first | refine WL.field rfl rfl rfl (f33_12 q1 _) ?_
      obtain ⟨w_11, s_11, bb_11, fx_11⟩ := Sg.st_hl bc_9 k_9 (x := Hl.z) Hl.z_ok
      have bc_11 : Blk w_11 q1 (Sg.cs (⟨s.sid, s.root, s.pri, s.pub, s.peer, s.sk, s.rk, (s.own % 4), (min ((max ((s.turns % 4)) (((max ((s.own % 4)) 1) - 1)))) (((s.own % 4) + 1))), (s.sent % 1000), s.got, (s.prev % 1000), (((s.prev % 1000) + (s.sent % 1000)) + (s.ser % 1000)), Hl.z, s.bind⟩ : Sg)) 33 := bb_11
      have k_11 : Sg.ok (⟨s.sid, s.root, s.pri, s.pub, s.peer, s.sk, s.rk, (s.own % 4), (min ((max ((s.turns % 4)) (((max ((s.own % 4)) 1) - 1)))) (((s.own % 4) + 1))), (s.sent % 1000), s.got, (s.prev % 1000), (((s.prev % 1000) + (s.sent % 1000)) + (s.ser % 1000)), Hl.z, s.bind⟩ : Sg) := k_9.s_hl (x := Hl.z) Hl.z_ok
      clear bb_11
      refine WL.store rfl rfl rfl s_11 ?_
      have bq2_12 := bq2_10.fx fx_11 (by show ¬ _ = _; omega)
      have be_12 := bfx be_10 (by omega) fx_11
      refine WL.done ?_
      refine EW.on ?_
      refine EW.seq ?_
      refine EW.region ?_
      first | refine WL.load rfl rfl rfl (Sg.ld bc_11 k_11) ?_
      obtain ⟨w9, s9, b9, f9⟩ := Sg.st bq2_12 Sg.z_ok k_11
      refine WL.store rfl rfl rfl s9 ?_
      refine WL.done ?_
      refine EW.on ?_
      refine EW.ret ?_
      refine pr_then ?_
      refine EW.returnsC Try.results9 rfl b9 Try.underlying33 rfl (by simpa using i33 k_11) ⟨?_, bfx be_12 (by omega) f9⟩
      refine congrArg (fun x => Ending.returned (Sg.v x)) ?_
      simp only [mayD, mayB, if_neg hO, if_neg hO2, if_neg hT, if_neg hG, if_neg hO1]
      rfl
end Go.Proofs.Ytacimelcmkhhlaa
