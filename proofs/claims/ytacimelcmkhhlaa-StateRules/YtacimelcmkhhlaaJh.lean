import Derived.Test.YtacimelcmkhhlaaJg
import Derived.Laws.Tables
set_option linter.unusedVariables false
set_option linter.unusedSimpArgs false
namespace Go.Proofs.Ytacimelcmkhhlaa
open Go.RowKit

theorem fold_set : ∀ (vs : List Value) (off k : Nat) (cs : List Value), off + k + vs.length ≤ cs.length → (vs.zipIdx k).foldl (fun (cs : Array Value) (x : Value × Nat) => cs.setIfInBounds (off + x.2) x.1) cs.toArray = (cs.take (off + k) ++ vs ++ cs.drop (off + k + vs.length)).toArray
  | [], off, k, cs, _ => by simp
  | v :: r, off, k, cs, h => by
    rw [List.zipIdx_cons, List.foldl_cons]
    simp only [List.length_cons] at h
    have e : (cs.toArray.setIfInBounds (off + k) v) = (cs.set (off + k) v).toArray := by simp
    show (r.zipIdx (k + 1)).foldl _ (cs.toArray.setIfInBounds (off + k) v) = _
    rw [e, fold_set r off (k + 1) (cs.set (off + k) v) (by rw [List.length_set]; omega), ← Nat.add_assoc, splice_one cs (off + k) v r (by simp only [List.length_cons]; omega)]
theorem fill_one {place : Nat → Option (Nat × Nat)} {a m b vs : List Value} {i off n : Nat} {v : Value} {rest : List (Nat × Value)} (hp : place i = some (off, n)) (hv : v.cells = vs.toArray) (hn : vs.length = n) (hm : m.length = n) (ho : a.length = off) : Instr.fill place (a ++ (m ++ b)).toArray ((i, v) :: rest) = Instr.fill place (a ++ (vs ++ b)).toArray rest := by
  have h1 : ¬ (off + n > (a ++ (m ++ b)).length) := by simp; omega
  have hf := fold_set vs off 0 (a ++ (m ++ b)) (by simp; omega)
  have e : (a ++ (m ++ b)).take (off + 0) ++ vs ++ (a ++ (m ++ b)).drop (off + 0 + vs.length) = a ++ (vs ++ b) := by
    rw [Nat.add_zero, ← ho, List.take_left, hn, ← hm, ← List.drop_drop, List.drop_left, List.drop_left, List.append_assoc]
  rw [e] at hf
  have hz : v.cells.zipIdx.foldl (fun (cs : Array Value) (x : Value × Nat) => cs.setIfInBounds (off + x.2) x.1) (a ++ (m ++ b)).toArray = (a ++ (vs ++ b)).toArray := by
    rw [hv, ← hf, ← Array.foldl_toList]
    simp
  rw [Instr.fill, hp]
  simp only [hv, List.size_toArray, hn, h1, decide_false, ne_eq, not_true_eq_false, Bool.or_self, Bool.false_eq_true, if_false]
  rw [← hv]
  exact congrArg (fun x => Instr.fill place x rest) hz
theorem fill_nil (place : Nat → Option (Nat × Nat)) (cs : Array Value) : Instr.fill place cs [] = some cs := rfl
theorem built_of {t : TypeId} {fields : Array Field} {zs : List Value} {places : List (Nat × Nat)} (hz : (Try.prog.info? t).map (·.zero) = some (some (.agg zs.toArray))) (hu : Try.prog.underlying t = some (.struct fields)) (hp : fields.toList.mapM (fun f => (Try.prog.info? f.type).map fun i => (f.offset, i.size)) = some places) (parts : List (Nat × Value)) : Try.prog.built t parts = Instr.fill (places.toArray[·]?) zs.toArray parts := by
  cases hit : Try.prog.info? t with
  | none => simp [hit] at hz
  | some it =>
    simp [hit] at hz
    simp only [Program.built, hit, hu, hz, hp]
    rfl
theorem kv_cells (K : List UInt8) : (kv K).cells = (K.map byt).toArray := rfl
theorem bdH0 {a : List UInt8} (ha : a.length = 32) (W : World) : (Instr.build 30 [(0, kv a)].toArray).run Try.prog W = .ok (Hl.v ⟨a, z32, 0⟩) W := by
  refine run_build W 30 _ _ ?_
  rw [built_of (zs := Hl.z.cs) (by kernel_rfl) Try.underlying30 (show _ = some [(0, 32), (32, 32), (64, 1)] by kernel_rfl)]
  show Instr.fill _ (Hl.cs Hl.z).toArray [(0, kv a)] = some (Hl.cs ⟨a, z32, 0⟩).toArray
  rw [show Hl.cs Hl.z = [] ++ (z32.map byt ++ (z32.map byt ++ [u32v 0])) from rfl, fill_one (off := 0) (n := 32) rfl (kv_cells a) (by simp [ha]) rfl rfl, fill_nil]
  rfl
theorem bdH02 {a : List UInt8} {n : Nat} (ha : a.length = 32) (W : World) : (Instr.build 30 [(0, kv a), (2, u32v n)].toArray).run Try.prog W = .ok (Hl.v ⟨a, z32, n⟩) W := by
  refine run_build W 30 _ _ ?_
  rw [built_of (zs := Hl.z.cs) (by kernel_rfl) Try.underlying30 (show _ = some [(0, 32), (32, 32), (64, 1)] by kernel_rfl)]
  show Instr.fill _ (Hl.cs Hl.z).toArray [(0, kv a), (2, u32v n)] = some (Hl.cs ⟨a, z32, n⟩).toArray
  rw [show Hl.cs Hl.z = [] ++ (z32.map byt ++ (z32.map byt ++ [u32v 0])) from rfl, fill_one (off := 0) (n := 32) rfl (kv_cells a) (by simp [ha]) rfl rfl]
  rw [show ([] : List Value) ++ (a.map byt ++ (z32.map byt ++ [u32v 0])) = (a.map byt ++ z32.map byt) ++ ([u32v 0] ++ []) from by simp, fill_one (vs := [u32v n]) (off := 64) (n := 1) rfl rfl rfl rfl (by simp [ha, z32]), fill_nil]
  simp [Hl.cs]
theorem takeB {b : List UInt8} (h : b.length = 64) : (b.take 32).length = 32 := by rw [List.length_take, h]; rfl
theorem or1_ne (u : UInt8) : ¬ u ||| 1 = 0 := fun e => by
  have := congrArg (fun v : UInt8 => v.toNat.testBit 0) e
  simp at this
theorem xor1_ne (u : UInt8) : ¬ u ^^^ 1 = u := fun e => by
  have := congrArg (fun v : UInt8 => v.toNat.testBit 0) e
  simp at this
  omega
theorem mayB_len {s : Sg} (k : s.ok) (h : Bool) : (mayB s h).length = 64 := by
  unfold mayB
  split
  · rw [List.length_set]; exact k.bind
  · exact k.bind
theorem mayO_lt (s : Sg) : mayO s < 4 := by unfold mayO; omega
theorem mayT_lt (s : Sg) : mayT s ≤ 4 := by unfold mayT; omega
theorem may_ok {s : Sg} (k : s.ok) (h : Bool) : (mayD s h).ok where
  sid := k.sid
  root := k.root
  pri := k.pri
  pub := k.pub
  peer := k.peer
  sk := by unfold mayD; dsimp only; split; rfl; exact k.sk
  rk := by unfold mayD; dsimp only; split; rfl; exact k.rk
  own := by have := mayO_lt s; unfold mayD; dsimp only; omega
  turns := by have := mayT_lt s; unfold mayD; dsimp only; omega
  sent := by have := k.sent; unfold mayD; dsimp only; split; omega; split <;> omega
  got := by have := k.got; unfold mayD; dsimp only; split <;> omega
  prev := by unfold mayD; dsimp only; split <;> omega
  ser := by have := k.sent; unfold mayD; dsimp only; split; omega; split <;> omega
  hl := by
    unfold mayD
    dsimp only
    split
    · exact ⟨by rw [List.length_take, mayB_len k]; rfl, k.hl.o, k.hl.p⟩
    · exact Hl.z_ok
  bind := mayB_len k h
theorem may_id {s : Sg} (k : s.ok) {h : Bool} (g : mayG s h) : ¬ (mayB s h).take 32 = z32 := fun e => by
  have e2 := congrArg (fun l : List UInt8 => l.getD 7 0) e
  simp only [mayB, if_pos g, List.getD_eq_getElem?_getD] at e2
  rw [List.getElem?_take_of_lt (by decide), List.getElem?_set_self (by rw [k.bind]; decide)] at e2
  exact or1_ne _ e2
theorem good_may {s : Sg} (k : s.ok) (h : Bool) : Good (mayD s h) := by
  refine ⟨?_, ?_, ?_, ?_⟩
  · show mayO s ≤ mayT s + 1 ∧ mayT s ≤ mayO s + 1
    unfold mayO mayT
    omega
  · have a1 : mayO s = 0 → mayO s ≤ 1 := by omega
    by_cases hO : mayO s = 0
    · have hG : ¬ mayG s h := fun g => g.2.2 hO
      have hO1 : mayO s ≤ 1 := by omega
      by_cases hT : mayT s = 0
      · simp only [mayD, cntD, if_pos hO, if_pos hO1, if_pos hT, if_neg hG, ite_self]
      · simp only [mayD, cntD, if_pos hO, if_pos hO1, if_neg hT, if_neg hG, ite_self]
    · have hx : ¬ (mayO s = 0 ∨ 0 < mayT s) ∨ ¬ mayG s h := by
        by_cases g : mayG s h
        · exact .inl (by have := g.2.1; omega)
        · exact .inr g
      by_cases hO1 : mayO s ≤ 1 <;> by_cases hT : mayT s = 0
      · rcases hx with hx | hx
        · simp only [mayD, cntD, if_neg hO, if_pos hO1, if_pos hT, if_neg hx, ite_self]
        · simp only [mayD, cntD, if_neg hO, if_pos hO1, if_pos hT, if_neg hx, ite_self]
      · rcases hx with hx | hx
        · simp only [mayD, cntD, if_neg hO, if_pos hO1, if_neg hT, if_neg hx, ite_self]
        · simp only [mayD, cntD, if_neg hO, if_pos hO1, if_neg hT, if_neg hx, ite_self]
      · rcases hx with hx | hx
        · simp only [mayD, cntD, if_neg hO, if_neg hO1, if_pos hT, if_neg hx, ite_self]
        · simp only [mayD, cntD, if_neg hO, if_neg hO1, if_pos hT, if_neg hx, ite_self]
      · rcases hx with hx | hx
        · simp only [mayD, cntD, if_neg hO, if_neg hO1, if_neg hT, if_neg hx, ite_self]
        · simp only [mayD, cntD, if_neg hO, if_neg hO1, if_neg hT, if_neg hx, ite_self]
  · unfold serD mayD
    dsimp only
    by_cases hO : mayO s = 0
    · have hO1 : mayO s ≤ 1 := by omega
      rw [if_pos hO, if_pos hO, if_pos hO1]
      omega
    · by_cases hO1 : mayO s = 1
      · have hO2 : mayO s ≤ 1 := by omega
        rw [if_neg hO, if_neg hO, if_pos hO1, if_pos hO1, if_pos hO2]
        omega
      · have hO2 : ¬ mayO s ≤ 1 := by omega
        rw [if_neg hO, if_neg hO, if_neg hO1, if_neg hO1, if_neg hO2]
        omega
  · unfold helD mayD
    dsimp only
    by_cases g : mayG s h
    · rw [if_pos g]
      exact .inr ⟨may_id k g, rfl⟩
    · rw [if_neg g]
      exact .inl rfl
theorem set_ne_z {i : Nat} (hi : i < 32) : ¬ z32.set i 1 = z32 := fun e => by
  have e2 := congrArg (fun l : List UInt8 => l[i]?) e
  simp only [List.getElem?_set_self (show i < z32.length from hi)] at e2
  rw [show z32[i]? = some 0 from by unfold z32; rw [List.getElem?_replicate, if_pos hi]] at e2
  exact absurd (Option.some.inj e2) (by decide)
theorem set_ne {K : List UInt8} {i : Nat} (hi : i < K.length) : ¬ K.set i (K.getD i 0 ^^^ 1) = K := fun e => by
  have e2 := congrArg (fun l : List UInt8 => l[i]?) e
  simp only [List.getElem?_set_self hi] at e2
  rw [List.getElem?_eq_getElem hi, List.getD_eq_getElem?_getD, List.getElem?_eq_getElem hi] at e2
  exact xor1_ne _ (Option.some.inj e2)
theorem set3_ne {b : List UInt8} (hb : b.length = 64) : ¬ (b.set 3 1).take 32 = z32 := fun e => by
  have e2 := congrArg (fun l : List UInt8 => l.getD 3 0) e
  simp only [List.getD_eq_getElem?_getD] at e2
  rw [List.getElem?_take_of_lt (by decide), List.getElem?_set_self (by rw [hb]; decide)] at e2
  exact absurd e2 (by decide)
set_option maxRecDepth 100000 in
set_option maxHeartbeats 4000000 in
theorem rules_any (s : Sg) (k : s.ok) (rule : Int) (n : Nat) (hn : n < 4294967296) (w : World) : Calls Try.prog 3 #[s.v, .int .i64 rule, u32v n] w fun e w' => e = .returned (.bool true) ∧ Below w.heap.size w w' := by
  obtain ⟨m, hm⟩ : ∃ m, mayD s true = m := ⟨_, rfl⟩
  have km : m.ok := by rw [← hm]; exact may_ok k true
  have hg : Good m := by rw [← hm]; exact good_may k true
  have hmo : m.own < 4 := by rw [← hm]; exact mayO_lt s
  have hmt : m.turns ≤ 4 := by rw [← hm]; exact mayT_lt s
  obtain ⟨w1, q1, r1, b1, e1, hq1⟩ := box_any 33 s.cs w
  have l1 := e1.size
  have hq1' := b1.lt
  refine calls_of_args [s.v, .int .i64 rule, u32v n] Try.func3 rfl 170 Try.ntmps3 (by show 3 ≤ 170; decide) ?_
  refine EW.seq ?_
  refine EW.region ?_
  refine WL.box rfl rfl rfl r1 ?_
  first | refine WL.assign rfl rfl rfl ?_
  refine WL.done ?_
  refine EW.on ?_
  refine EW.seq ?_
  refine EW.region ?_
  first | refine WL.load rfl rfl rfl (Sg.ld b1 k) ?_
  refine WL.call [s.v, .bool true] enter9 rfl rfl rfl (may_any s k true _) ?_
  rintro _ w2 ⟨rfl, e2⟩
  rw [hm]
  refine ⟨_, rfl, ?_⟩
  have b2 := b1.on e2
  have l2 := e2.size
  obtain ⟨w3, s3, b3, f3⟩ := Sg.st b2 k km
  refine WL.store rfl rfl rfl s3 ?_
  refine WL.done ?_
  refine EW.on ?_
  refine EW.seq ?_
  refine EW.seq ?_
  refine EW.region ?_
  refine WL.load rfl rfl rfl (Sg.ld b3 km) ?_
  refine WL.call [m.v] enter10 rfl rfl rfl (check_any m km _) ?_
  rintro _ w4 ⟨rfl, e4⟩
  rw [chkD, if_pos hg]
  refine ⟨_, rfl, ?_⟩
  have bq1_0 := b3.on e4
  have be_0 := bt (bfx (bt e1 e2) (by omega) f3) e4
  first | refine WL.bin rfl rfl rfl rfl (int_ne_f rfl _ _ _) ?_ | refine WL.bin rfl rfl rfl rfl (int_ne_t ‹_› _ _ _) ?_ | refine WL.bin rfl rfl rfl rfl (int_ne_f ‹_› _ _ _) ?_ | refine WL.bin rfl rfl rfl rfl (int_ne_t (by decide) _ _ _) ?_ | refine WL.bin rfl rfl rfl rfl (int_ne_d _ _ _ _ _) ?_
  refine WL.done ?_
  refine EW.on ?_
  refine EW.cond_f rfl ?_
  refine EW.skip ?_
  refine EW.on ?_
  refine EW.seq ?_
  refine EW.region ?_
  first | refine WL.move rfl rfl rfl ?_
  refine WL.bin rfl rfl rfl rfl (u_rem n 1000 (by decide) _ _ _) ?_
  refine WL.bin rfl rfl rfl rfl (u_add (n := 1) (m := n % 1000) (by omega) _ _ _) ?_
  first | refine WL.assign rfl rfl rfl ?_
  refine WL.done ?_
  refine EW.on ?_
  refine EW.seq ?_
  refine EW.seq ?_
  refine EW.region ?_
  first | refine WL.move rfl rfl rfl ?_
  refine WL.call [.int .i64 rule, .int .i64 10] enter11 rfl rfl rfl (rest_any rule 10 (by decide) (by decide) _) ?_
  rintro _ _ ⟨rfl, rfl⟩
  refine ⟨_, rfl, ?_⟩
  refine WL.done ?_
  refine EW.on ?_
  refine EW.block ?_
  refine EW.seq ?_
  obtain ⟨R, hRe⟩ : ∃ R, rsD rule 10 = R := ⟨_, rfl⟩
  have hR : R < 10 := by rw [← hRe]; exact (rsD_lt rule (by decide)).1
  rw [hRe]
  have hc : R = 8 ∨ R = 9 ∨ R = 0 ∨ R = 1 ∨ R = 2 ∨ R = 3 ∨ R = 4 ∨ R = 5 ∨ R = 6 ∨ R = 7 := by omega
  rcases hc with hc | hc | hc | hc | hc | hc | hc | hc | hc | hc
  · refine EW.region ?_
    refine WL.bin rfl rfl rfl rfl (int_eq_t (by omega) _ _ _) ?_
    first | refine WL.assign rfl rfl rfl ?_
    refine WL.done ?_
    refine EW.on ?_
    refine EW.cond_t rfl ?_
    refine EW.seq ?_
    refine EW.region ?_
    first | refine WL.buildN [] rfl rfl rfl (bd25 _) ?_
    first | refine WL.field rfl rfl rfl (f33_6 q1 _) ?_
    obtain ⟨w_1, s_1, bb_1, fx_1⟩ := Sg.st_own bq1_0 km 1
    have bc_1 : Blk w_1 q1 (Sg.cs (⟨m.sid, m.root, m.pri, m.pub, m.peer, m.sk, m.rk, 1, m.turns, m.sent, m.got, m.prev, m.ser, m.hl, m.bind⟩ : Sg)) 33 := bb_1
    have k_1 : Sg.ok (⟨m.sid, m.root, m.pri, m.pub, m.peer, m.sk, m.rk, 1, m.turns, m.sent, m.got, m.prev, m.ser, m.hl, m.bind⟩ : Sg) := km.s_own (x := 1) (by first | decide | omega)
    clear bb_1
    refine WL.store rfl rfl rfl s_1 ?_
    have be_2 := bfx be_0 (by omega) fx_1
    first | refine WL.field rfl rfl rfl (f33_7 q1 _) ?_
    obtain ⟨w_3, s_3, bb_3, fx_3⟩ := Sg.st_turns bc_1 k_1 0
    have bc_3 : Blk w_3 q1 (Sg.cs (⟨m.sid, m.root, m.pri, m.pub, m.peer, m.sk, m.rk, 1, 0, m.sent, m.got, m.prev, m.ser, m.hl, m.bind⟩ : Sg)) 33 := bb_3
    have k_3 : Sg.ok (⟨m.sid, m.root, m.pri, m.pub, m.peer, m.sk, m.rk, 1, 0, m.sent, m.got, m.prev, m.ser, m.hl, m.bind⟩ : Sg) := k_1.s_turns (x := 0) (by first | decide | omega)
    clear bb_3
    refine WL.store rfl rfl rfl s_3 ?_
    have be_4 := bfx be_2 (by omega) fx_3
    first | refine WL.field rfl rfl rfl (f33_10 q1 _) ?_
    obtain ⟨w_5, s_5, bb_5, fx_5⟩ := Sg.st_prev bc_3 k_3 0
    have bc_5 : Blk w_5 q1 (Sg.cs (⟨m.sid, m.root, m.pri, m.pub, m.peer, m.sk, m.rk, 1, 0, m.sent, m.got, 0, m.ser, m.hl, m.bind⟩ : Sg)) 33 := bb_5
    have k_5 : Sg.ok (⟨m.sid, m.root, m.pri, m.pub, m.peer, m.sk, m.rk, 1, 0, m.sent, m.got, 0, m.ser, m.hl, m.bind⟩ : Sg) := k_3.s_prev (x := 0) (by first | decide | omega)
    clear bb_5
    refine WL.store rfl rfl rfl s_5 ?_
    have be_6 := bfx be_4 (by omega) fx_5
    first | refine WL.field rfl rfl rfl (f33_8 q1 _) ?_
    obtain ⟨w_7, s_7, bb_7, fx_7⟩ := Sg.st_sent bc_5 k_5 5
    have bc_7 : Blk w_7 q1 (Sg.cs (⟨m.sid, m.root, m.pri, m.pub, m.peer, m.sk, m.rk, 1, 0, 5, m.got, 0, m.ser, m.hl, m.bind⟩ : Sg)) 33 := bb_7
    have k_7 : Sg.ok (⟨m.sid, m.root, m.pri, m.pub, m.peer, m.sk, m.rk, 1, 0, 5, m.got, 0, m.ser, m.hl, m.bind⟩ : Sg) := k_5.s_sent (x := 5) (by first | decide | omega)
    clear bb_7
    refine WL.store rfl rfl rfl s_7 ?_
    have be_8 := bfx be_6 (by omega) fx_7
    first | refine WL.field rfl rfl rfl (f33_11 q1 _) ?_
    obtain ⟨w_9, s_9, bb_9, fx_9⟩ := Sg.st_ser bc_7 k_7 5
    have bc_9 : Blk w_9 q1 (Sg.cs (⟨m.sid, m.root, m.pri, m.pub, m.peer, m.sk, m.rk, 1, 0, 5, m.got, 0, 5, m.hl, m.bind⟩ : Sg)) 33 := bb_9
    have k_9 : Sg.ok (⟨m.sid, m.root, m.pri, m.pub, m.peer, m.sk, m.rk, 1, 0, 5, m.got, 0, 5, m.hl, m.bind⟩ : Sg) := k_7.s_ser (x := 5) (by first | decide | omega)
    clear bb_9
    refine WL.store rfl rfl rfl s_9 ?_
    have be_10 := bfx be_8 (by omega) fx_9
    first | refine WL.field rfl rfl rfl (f33_9 q1 _) ?_
    obtain ⟨w_11, s_11, bb_11, fx_11⟩ := Sg.st_got bc_9 k_9 0
    have bc_11 : Blk w_11 q1 (Sg.cs (⟨m.sid, m.root, m.pri, m.pub, m.peer, m.sk, m.rk, 1, 0, 5, 0, 0, 5, m.hl, m.bind⟩ : Sg)) 33 := bb_11
    have k_11 : Sg.ok (⟨m.sid, m.root, m.pri, m.pub, m.peer, m.sk, m.rk, 1, 0, 5, 0, 0, 5, m.hl, m.bind⟩ : Sg) := k_9.s_got (x := 0) (by first | decide | omega)
    clear bb_11
    refine WL.store rfl rfl rfl s_11 ?_
    have be_12 := bfx be_10 (by omega) fx_11
    first | refine WL.field rfl rfl rfl (f33_5 q1 _) ?_
    obtain ⟨w_13, s_13, bb_13, fx_13⟩ := Sg.st_rk bc_11 k_11 (x := z32) rfl
    have bc_13 : Blk w_13 q1 (Sg.cs (⟨m.sid, m.root, m.pri, m.pub, m.peer, m.sk, z32, 1, 0, 5, 0, 0, 5, m.hl, m.bind⟩ : Sg)) 33 := bb_13
    have k_13 : Sg.ok (⟨m.sid, m.root, m.pri, m.pub, m.peer, m.sk, z32, 1, 0, 5, 0, 0, 5, m.hl, m.bind⟩ : Sg) := k_11.s_rk (x := z32) rfl
    clear bb_13
    refine WL.store rfl rfl rfl s_13 ?_
    have be_14 := bfx be_12 (by omega) fx_13
    refine WL.done ?_
    refine EW.on ?_
    refine EW.region ?_
    first | refine WL.move rfl rfl rfl ?_
    refine WL.conv rfl rfl rfl (conv_n (by omega) _) ?_
    refine WL.call [.int .i64 ((1 + n % 1000 : Nat) : Int), .int .i64 32] enter11 rfl rfl rfl (rest_any ((1 + n % 1000 : Nat) : Int) 32 (by decide) (by decide) _) ?_
    rintro _ _ ⟨rfl, rfl⟩
    obtain ⟨J, hJe⟩ : ∃ J, rsD ((1 + n % 1000 : Nat) : Int) 32 = J := ⟨_, rfl⟩
    have hJ : J < 32 := by rw [← hJe]; exact (rsD_lt _ (by decide)).1
    rw [hJe]
    refine ⟨_, rfl, ?_⟩
    first | refine WL.field rfl rfl rfl (f33_5 q1 _) ?_
    refine WL.index rfl rfl rfl rfl (ix25 q1 176 J hJ _) ?_
    obtain ⟨w_15, s_15, bb_15, fx_15⟩ := Sg.stI_rk (i := J) bc_13 k_13 hJ 1
    have bc_15 : Blk w_15 q1 (Sg.cs (⟨m.sid, m.root, m.pri, m.pub, m.peer, m.sk, (z32.set J 1), 1, 0, 5, 0, 0, 5, m.hl, m.bind⟩ : Sg)) 33 := bb_15
    have k_15 : Sg.ok (⟨m.sid, m.root, m.pri, m.pub, m.peer, m.sk, (z32.set J 1), 1, 0, 5, 0, 0, 5, m.hl, m.bind⟩ : Sg) := Sg.ok.sI_rk k_13 J 1
    clear bb_15
    refine WL.store rfl rfl rfl s_15 ?_
    have be_16 := bfx be_14 (by omega) fx_15
    refine WL.done ?_
    refine pn_block ?_
    refine EW.on ?_
    refine EW.seq ?_
    refine EW.region ?_
    first | refine WL.load rfl rfl rfl (Sg.ld bc_15 k_15) ?_
    have ng : ¬ Good (⟨m.sid, m.root, m.pri, m.pub, m.peer, m.sk, (z32.set J 1), 1, 0, 5, 0, 0, 5, m.hl, m.bind⟩ : Sg) := fun g => by
      have e := congrArg Sg.rk g.2.1
      simp only [cntD] at e
      exact set_ne_z hJ e
    refine WL.call [Sg.v (⟨m.sid, m.root, m.pri, m.pub, m.peer, m.sk, (z32.set J 1), 1, 0, 5, 0, 0, 5, m.hl, m.bind⟩ : Sg)] enter12 rfl rfl rfl (encode_any _ k_15 _) ?_
    rintro _ w7 ⟨v7, rfl, o7, e7⟩
    rw [if_neg ng] at o7
    rw [chkD, if_neg ng]
    refine ⟨_, rfl, ?_⟩
    have b7 := bc_15.on e7
    first | refine WL.move rfl rfl rfl ?_
    first | refine WL.extract rfl rfl rfl (ext_2 _ _ _).1 ?_
    first | refine WL.extract rfl rfl rfl (ext_2 _ _ _).2 ?_
    first | refine WL.assign rfl rfl rfl ?_
    first | refine WL.assign rfl rfl rfl ?_
    refine WL.done ?_
    refine EW.on ?_
    refine EW.seq ?_
    refine EW.region ?_
    first | refine WL.load rfl rfl rfl (Sg.ld b7 k_15) ?_
    refine WL.call [Sg.v (⟨m.sid, m.root, m.pri, m.pub, m.peer, m.sk, (z32.set J 1), 1, 0, 5, 0, 0, 5, m.hl, m.bind⟩ : Sg)] enter10 rfl rfl rfl (check_any _ k_15 _) ?_
    rintro _ w8 ⟨rfl, e8⟩
    rw [chkD, if_neg ng]
    refine ⟨_, rfl, ?_⟩
    first | refine WL.bin rfl rfl rfl rfl (int_eq_t rfl _ _ _) ?_ | refine WL.bin rfl rfl rfl rfl (int_eq_t ‹_› _ _ _) ?_ | refine WL.bin rfl rfl rfl rfl (int_eq_f ‹_› _ _ _) ?_ | refine WL.bin rfl rfl rfl rfl (int_eq_d _ _ _ _ _) ?_
    first | refine WL.move rfl rfl rfl ?_
    first | refine WL.move rfl rfl rfl ?_ | refine WL.skip _ rfl rfl rfl ?_
    first | refine WL.bin rfl rfl rfl rfl (int_eq_t rfl _ _ _) ?_ | refine WL.bin rfl rfl rfl rfl (int_eq_t ‹_› _ _ _) ?_ | refine WL.bin rfl rfl rfl rfl (int_eq_f ‹_› _ _ _) ?_ | refine WL.bin rfl rfl rfl rfl (int_eq_d _ _ _ _ _) ?_ | refine WL.skip _ rfl rfl rfl ?_
    first | refine WL.pick rfl rfl rfl rfl ?_
    first | refine WL.move rfl rfl rfl ?_
    first | refine WL.move rfl rfl rfl ?_ | refine WL.skip _ rfl rfl rfl ?_
    refine WL.len rfl rfl rfl (o7.has.len _ _) ?_
    first | refine WL.bin rfl rfl rfl rfl (int_eq_t rfl _ _ _) ?_ | refine WL.bin rfl rfl rfl rfl (int_eq_t ‹_› _ _ _) ?_ | refine WL.bin rfl rfl rfl rfl (int_eq_f ‹_› _ _ _) ?_ | refine WL.bin rfl rfl rfl rfl (int_eq_d _ _ _ _ _) ?_ | refine WL.skip _ rfl rfl rfl ?_
    first | refine WL.pick rfl rfl rfl rfl ?_
    first | refine WL.assign rfl rfl rfl ?_
    refine WL.done ?_
    refine EW.on ?_
    refine EW.ret ?_
    exact EW.returns Try.results3 rfl ⟨rfl, bt (bt be_16 e7) e8⟩
  · refine EW.region ?_
    refine WL.bin rfl rfl rfl rfl (int_eq_f (by omega) _ _ _) ?_
    first | refine WL.assign rfl rfl rfl ?_
    refine WL.done ?_
    refine EW.on ?_
    refine EW.cond_f rfl ?_
    refine EW.seq ?_
    refine EW.region ?_
    refine WL.bin rfl rfl rfl rfl (int_eq_t (by omega) _ _ _) ?_
    first | refine WL.assign rfl rfl rfl ?_
    refine WL.done ?_
    refine EW.on ?_
    refine EW.cond_t rfl ?_
    refine EW.seq ?_
    refine EW.region ?_
    first | refine WL.buildN [] rfl rfl rfl (bd30 _) ?_
    first | refine WL.field rfl rfl rfl (f33_6 q1 _) ?_
    obtain ⟨w_1, s_1, bb_1, fx_1⟩ := Sg.st_own bq1_0 km 0
    have bc_1 : Blk w_1 q1 (Sg.cs (⟨m.sid, m.root, m.pri, m.pub, m.peer, m.sk, m.rk, 0, m.turns, m.sent, m.got, m.prev, m.ser, m.hl, m.bind⟩ : Sg)) 33 := bb_1
    have k_1 : Sg.ok (⟨m.sid, m.root, m.pri, m.pub, m.peer, m.sk, m.rk, 0, m.turns, m.sent, m.got, m.prev, m.ser, m.hl, m.bind⟩ : Sg) := km.s_own (x := 0) (by first | decide | omega)
    clear bb_1
    refine WL.store rfl rfl rfl s_1 ?_
    have be_2 := bfx be_0 (by omega) fx_1
    first | refine WL.field rfl rfl rfl (f33_7 q1 _) ?_
    obtain ⟨w_3, s_3, bb_3, fx_3⟩ := Sg.st_turns bc_1 k_1 1
    have bc_3 : Blk w_3 q1 (Sg.cs (⟨m.sid, m.root, m.pri, m.pub, m.peer, m.sk, m.rk, 0, 1, m.sent, m.got, m.prev, m.ser, m.hl, m.bind⟩ : Sg)) 33 := bb_3
    have k_3 : Sg.ok (⟨m.sid, m.root, m.pri, m.pub, m.peer, m.sk, m.rk, 0, 1, m.sent, m.got, m.prev, m.ser, m.hl, m.bind⟩ : Sg) := k_1.s_turns (x := 1) (by first | decide | omega)
    clear bb_3
    refine WL.store rfl rfl rfl s_3 ?_
    have be_4 := bfx be_2 (by omega) fx_3
    first | refine WL.field rfl rfl rfl (f33_12 q1 _) ?_
    obtain ⟨w_5, s_5, bb_5, fx_5⟩ := Sg.st_hl bc_3 k_3 (x := Hl.z) Hl.z_ok
    have bc_5 : Blk w_5 q1 (Sg.cs (⟨m.sid, m.root, m.pri, m.pub, m.peer, m.sk, m.rk, 0, 1, m.sent, m.got, m.prev, m.ser, Hl.z, m.bind⟩ : Sg)) 33 := bb_5
    have k_5 : Sg.ok (⟨m.sid, m.root, m.pri, m.pub, m.peer, m.sk, m.rk, 0, 1, m.sent, m.got, m.prev, m.ser, Hl.z, m.bind⟩ : Sg) := k_3.s_hl (x := Hl.z) Hl.z_ok
    clear bb_5
    refine WL.store rfl rfl rfl s_5 ?_
    have be_6 := bfx be_4 (by omega) fx_5
    refine WL.done ?_
    refine EW.on ?_
    refine EW.seq ?_
    refine EW.region ?_
    first | refine WL.buildN [] rfl rfl rfl (bd25 _) ?_
    first | refine WL.field rfl rfl rfl (f33_4 q1 _) ?_
    obtain ⟨w_7, s_7, bb_7, fx_7⟩ := Sg.st_sk bc_5 k_5 (x := z32) rfl
    have bc_7 : Blk w_7 q1 (Sg.cs (⟨m.sid, m.root, m.pri, m.pub, m.peer, z32, m.rk, 0, 1, m.sent, m.got, m.prev, m.ser, Hl.z, m.bind⟩ : Sg)) 33 := bb_7
    have k_7 : Sg.ok (⟨m.sid, m.root, m.pri, m.pub, m.peer, z32, m.rk, 0, 1, m.sent, m.got, m.prev, m.ser, Hl.z, m.bind⟩ : Sg) := k_5.s_sk (x := z32) rfl
    clear bb_7
    refine WL.store rfl rfl rfl s_7 ?_
    have be_8 := bfx be_6 (by omega) fx_7
    first | refine WL.field rfl rfl rfl (f33_8 q1 _) ?_
    obtain ⟨w_9, s_9, bb_9, fx_9⟩ := Sg.st_sent bc_7 k_7 0
    have bc_9 : Blk w_9 q1 (Sg.cs (⟨m.sid, m.root, m.pri, m.pub, m.peer, z32, m.rk, 0, 1, 0, m.got, m.prev, m.ser, Hl.z, m.bind⟩ : Sg)) 33 := bb_9
    have k_9 : Sg.ok (⟨m.sid, m.root, m.pri, m.pub, m.peer, z32, m.rk, 0, 1, 0, m.got, m.prev, m.ser, Hl.z, m.bind⟩ : Sg) := k_7.s_sent (x := 0) (by first | decide | omega)
    clear bb_9
    refine WL.store rfl rfl rfl s_9 ?_
    have be_10 := bfx be_8 (by omega) fx_9
    first | refine WL.field rfl rfl rfl (f33_10 q1 _) ?_
    obtain ⟨w_11, s_11, bb_11, fx_11⟩ := Sg.st_prev bc_9 k_9 0
    have bc_11 : Blk w_11 q1 (Sg.cs (⟨m.sid, m.root, m.pri, m.pub, m.peer, z32, m.rk, 0, 1, 0, m.got, 0, m.ser, Hl.z, m.bind⟩ : Sg)) 33 := bb_11
    have k_11 : Sg.ok (⟨m.sid, m.root, m.pri, m.pub, m.peer, z32, m.rk, 0, 1, 0, m.got, 0, m.ser, Hl.z, m.bind⟩ : Sg) := k_9.s_prev (x := 0) (by first | decide | omega)
    clear bb_11
    refine WL.store rfl rfl rfl s_11 ?_
    have be_12 := bfx be_10 (by omega) fx_11
    first | refine WL.field rfl rfl rfl (f33_11 q1 _) ?_
    obtain ⟨w_13, s_13, bb_13, fx_13⟩ := Sg.st_ser bc_11 k_11 0
    have bc_13 : Blk w_13 q1 (Sg.cs (⟨m.sid, m.root, m.pri, m.pub, m.peer, z32, m.rk, 0, 1, 0, m.got, 0, 0, Hl.z, m.bind⟩ : Sg)) 33 := bb_13
    have k_13 : Sg.ok (⟨m.sid, m.root, m.pri, m.pub, m.peer, z32, m.rk, 0, 1, 0, m.got, 0, 0, Hl.z, m.bind⟩ : Sg) := k_11.s_ser (x := 0) (by first | decide | omega)
    clear bb_13
    refine WL.store rfl rfl rfl s_13 ?_
    have be_14 := bfx be_12 (by omega) fx_13
    refine WL.done ?_
    refine EW.on ?_
    refine EW.region ?_
    first | refine WL.move rfl rfl rfl ?_
    refine WL.conv rfl rfl rfl (conv_n (by omega) _) ?_
    refine WL.call [.int .i64 ((1 + n % 1000 : Nat) : Int), .int .i64 32] enter11 rfl rfl rfl (rest_any ((1 + n % 1000 : Nat) : Int) 32 (by decide) (by decide) _) ?_
    rintro _ _ ⟨rfl, rfl⟩
    obtain ⟨J, hJe⟩ : ∃ J, rsD ((1 + n % 1000 : Nat) : Int) 32 = J := ⟨_, rfl⟩
    have hJ : J < 32 := by rw [← hJe]; exact (rsD_lt _ (by decide)).1
    rw [hJe]
    refine ⟨_, rfl, ?_⟩
    first | refine WL.field rfl rfl rfl (f33_4 q1 _) ?_
    refine WL.index rfl rfl rfl rfl (ix25 q1 144 J hJ _) ?_
    obtain ⟨w_15, s_15, bb_15, fx_15⟩ := Sg.stI_sk (i := J) bc_13 k_13 hJ 1
    have bc_15 : Blk w_15 q1 (Sg.cs (⟨m.sid, m.root, m.pri, m.pub, m.peer, (z32.set J 1), m.rk, 0, 1, 0, m.got, 0, 0, Hl.z, m.bind⟩ : Sg)) 33 := bb_15
    have k_15 : Sg.ok (⟨m.sid, m.root, m.pri, m.pub, m.peer, (z32.set J 1), m.rk, 0, 1, 0, m.got, 0, 0, Hl.z, m.bind⟩ : Sg) := Sg.ok.sI_sk k_13 J 1
    clear bb_15
    refine WL.store rfl rfl rfl s_15 ?_
    have be_16 := bfx be_14 (by omega) fx_15
    refine WL.done ?_
    refine pn_block ?_
    refine EW.on ?_
    refine EW.seq ?_
    refine EW.region ?_
    first | refine WL.load rfl rfl rfl (Sg.ld bc_15 k_15) ?_
    have ng : ¬ Good (⟨m.sid, m.root, m.pri, m.pub, m.peer, (z32.set J 1), m.rk, 0, 1, 0, m.got, 0, 0, Hl.z, m.bind⟩ : Sg) := fun g => by
      have e := congrArg Sg.sk g.2.1
      simp only [cntD] at e
      exact set_ne_z hJ e
    refine WL.call [Sg.v (⟨m.sid, m.root, m.pri, m.pub, m.peer, (z32.set J 1), m.rk, 0, 1, 0, m.got, 0, 0, Hl.z, m.bind⟩ : Sg)] enter12 rfl rfl rfl (encode_any _ k_15 _) ?_
    rintro _ w7 ⟨v7, rfl, o7, e7⟩
    rw [if_neg ng] at o7
    rw [chkD, if_neg ng]
    refine ⟨_, rfl, ?_⟩
    have b7 := bc_15.on e7
    first | refine WL.move rfl rfl rfl ?_
    first | refine WL.extract rfl rfl rfl (ext_2 _ _ _).1 ?_
    first | refine WL.extract rfl rfl rfl (ext_2 _ _ _).2 ?_
    first | refine WL.assign rfl rfl rfl ?_
    first | refine WL.assign rfl rfl rfl ?_
    refine WL.done ?_
    refine EW.on ?_
    refine EW.seq ?_
    refine EW.region ?_
    first | refine WL.load rfl rfl rfl (Sg.ld b7 k_15) ?_
    refine WL.call [Sg.v (⟨m.sid, m.root, m.pri, m.pub, m.peer, (z32.set J 1), m.rk, 0, 1, 0, m.got, 0, 0, Hl.z, m.bind⟩ : Sg)] enter10 rfl rfl rfl (check_any _ k_15 _) ?_
    rintro _ w8 ⟨rfl, e8⟩
    rw [chkD, if_neg ng]
    refine ⟨_, rfl, ?_⟩
    first | refine WL.bin rfl rfl rfl rfl (int_eq_t rfl _ _ _) ?_ | refine WL.bin rfl rfl rfl rfl (int_eq_t ‹_› _ _ _) ?_ | refine WL.bin rfl rfl rfl rfl (int_eq_f ‹_› _ _ _) ?_ | refine WL.bin rfl rfl rfl rfl (int_eq_d _ _ _ _ _) ?_
    first | refine WL.move rfl rfl rfl ?_
    first | refine WL.move rfl rfl rfl ?_ | refine WL.skip _ rfl rfl rfl ?_
    first | refine WL.bin rfl rfl rfl rfl (int_eq_t rfl _ _ _) ?_ | refine WL.bin rfl rfl rfl rfl (int_eq_t ‹_› _ _ _) ?_ | refine WL.bin rfl rfl rfl rfl (int_eq_f ‹_› _ _ _) ?_ | refine WL.bin rfl rfl rfl rfl (int_eq_d _ _ _ _ _) ?_ | refine WL.skip _ rfl rfl rfl ?_
    first | refine WL.pick rfl rfl rfl rfl ?_
    first | refine WL.move rfl rfl rfl ?_
    first | refine WL.move rfl rfl rfl ?_ | refine WL.skip _ rfl rfl rfl ?_
    refine WL.len rfl rfl rfl (o7.has.len _ _) ?_
    first | refine WL.bin rfl rfl rfl rfl (int_eq_t rfl _ _ _) ?_ | refine WL.bin rfl rfl rfl rfl (int_eq_t ‹_› _ _ _) ?_ | refine WL.bin rfl rfl rfl rfl (int_eq_f ‹_› _ _ _) ?_ | refine WL.bin rfl rfl rfl rfl (int_eq_d _ _ _ _ _) ?_ | refine WL.skip _ rfl rfl rfl ?_
    first | refine WL.pick rfl rfl rfl rfl ?_
    first | refine WL.assign rfl rfl rfl ?_
    refine WL.done ?_
    refine EW.on ?_
    refine EW.ret ?_
    exact EW.returns Try.results3 rfl ⟨rfl, bt (bt be_16 e7) e8⟩
  · refine EW.region ?_
    refine WL.bin rfl rfl rfl rfl (int_eq_f (by omega) _ _ _) ?_
    first | refine WL.assign rfl rfl rfl ?_
    refine WL.done ?_
    refine EW.on ?_
    refine EW.cond_f rfl ?_
    refine EW.seq ?_
    refine EW.region ?_
    refine WL.bin rfl rfl rfl rfl (int_eq_f (by omega) _ _ _) ?_
    first | refine WL.assign rfl rfl rfl ?_
    refine WL.done ?_
    refine EW.on ?_
    refine EW.cond_f rfl ?_
    refine EW.seq ?_
    refine EW.region ?_
    refine WL.bin rfl rfl rfl rfl (int_eq_t (by omega) _ _ _) ?_
    first | refine WL.assign rfl rfl rfl ?_
    refine WL.done ?_
    refine EW.on ?_
    refine EW.cond_t rfl ?_
    refine EW.region ?_
    first | refine WL.field rfl rfl rfl (f33_7 q1 _) ?_
    first | refine WL.load rfl rfl rfl (Sg.ld_turns bq1_0 km) ?_
    refine WL.bin rfl rfl rfl rfl (u_add (n := m.turns) (m := 1) (by omega) _ _ _) ?_
    first | refine WL.move rfl rfl rfl ?_
    refine WL.bin rfl rfl rfl rfl (u_add (n := (m.turns + 1)) (m := (1 + n % 1000)) (by omega) _ _ _) ?_
    first | refine WL.field rfl rfl rfl (f33_6 q1 _) ?_
    obtain ⟨w_1, s_1, bb_1, fx_1⟩ := Sg.st_own bq1_0 km (((m.turns + 1) + (1 + n % 1000)))
    have bc_1 : Blk w_1 q1 (Sg.cs (⟨m.sid, m.root, m.pri, m.pub, m.peer, m.sk, m.rk, ((m.turns + 1) + (1 + n % 1000)), m.turns, m.sent, m.got, m.prev, m.ser, m.hl, m.bind⟩ : Sg)) 33 := bb_1
    have k_1 : Sg.ok (⟨m.sid, m.root, m.pri, m.pub, m.peer, m.sk, m.rk, ((m.turns + 1) + (1 + n % 1000)), m.turns, m.sent, m.got, m.prev, m.ser, m.hl, m.bind⟩ : Sg) := km.s_own (x := ((m.turns + 1) + (1 + n % 1000))) (by first | decide | omega)
    clear bb_1
    refine WL.store rfl rfl rfl s_1 ?_
    have be_2 := bfx be_0 (by omega) fx_1
    refine WL.done ?_
    refine pn_block ?_
    refine EW.on ?_
    refine EW.seq ?_
    refine EW.region ?_
    first | refine WL.load rfl rfl rfl (Sg.ld bc_1 k_1) ?_
    have ng : ¬ Good (⟨m.sid, m.root, m.pri, m.pub, m.peer, m.sk, m.rk, ((m.turns + 1) + (1 + n % 1000)), m.turns, m.sent, m.got, m.prev, m.ser, m.hl, m.bind⟩ : Sg) := fun g => by
      have e := g.1
      dsimp only at e
      omega
    refine WL.call [Sg.v (⟨m.sid, m.root, m.pri, m.pub, m.peer, m.sk, m.rk, ((m.turns + 1) + (1 + n % 1000)), m.turns, m.sent, m.got, m.prev, m.ser, m.hl, m.bind⟩ : Sg)] enter12 rfl rfl rfl (encode_any _ k_1 _) ?_
    rintro _ w7 ⟨v7, rfl, o7, e7⟩
    rw [if_neg ng] at o7
    rw [chkD, if_neg ng]
    refine ⟨_, rfl, ?_⟩
    have b7 := bc_1.on e7
    first | refine WL.move rfl rfl rfl ?_
    first | refine WL.extract rfl rfl rfl (ext_2 _ _ _).1 ?_
    first | refine WL.extract rfl rfl rfl (ext_2 _ _ _).2 ?_
    first | refine WL.assign rfl rfl rfl ?_
    first | refine WL.assign rfl rfl rfl ?_
    refine WL.done ?_
    refine EW.on ?_
    refine EW.seq ?_
    refine EW.region ?_
    first | refine WL.load rfl rfl rfl (Sg.ld b7 k_1) ?_
    refine WL.call [Sg.v (⟨m.sid, m.root, m.pri, m.pub, m.peer, m.sk, m.rk, ((m.turns + 1) + (1 + n % 1000)), m.turns, m.sent, m.got, m.prev, m.ser, m.hl, m.bind⟩ : Sg)] enter10 rfl rfl rfl (check_any _ k_1 _) ?_
    rintro _ w8 ⟨rfl, e8⟩
    rw [chkD, if_neg ng]
    refine ⟨_, rfl, ?_⟩
    first | refine WL.bin rfl rfl rfl rfl (int_eq_t rfl _ _ _) ?_ | refine WL.bin rfl rfl rfl rfl (int_eq_t ‹_› _ _ _) ?_ | refine WL.bin rfl rfl rfl rfl (int_eq_f ‹_› _ _ _) ?_ | refine WL.bin rfl rfl rfl rfl (int_eq_d _ _ _ _ _) ?_
    first | refine WL.move rfl rfl rfl ?_
    first | refine WL.move rfl rfl rfl ?_ | refine WL.skip _ rfl rfl rfl ?_
    first | refine WL.bin rfl rfl rfl rfl (int_eq_t rfl _ _ _) ?_ | refine WL.bin rfl rfl rfl rfl (int_eq_t ‹_› _ _ _) ?_ | refine WL.bin rfl rfl rfl rfl (int_eq_f ‹_› _ _ _) ?_ | refine WL.bin rfl rfl rfl rfl (int_eq_d _ _ _ _ _) ?_ | refine WL.skip _ rfl rfl rfl ?_
    first | refine WL.pick rfl rfl rfl rfl ?_
    first | refine WL.move rfl rfl rfl ?_
    first | refine WL.move rfl rfl rfl ?_ | refine WL.skip _ rfl rfl rfl ?_
    refine WL.len rfl rfl rfl (o7.has.len _ _) ?_
    first | refine WL.bin rfl rfl rfl rfl (int_eq_t rfl _ _ _) ?_ | refine WL.bin rfl rfl rfl rfl (int_eq_t ‹_› _ _ _) ?_ | refine WL.bin rfl rfl rfl rfl (int_eq_f ‹_› _ _ _) ?_ | refine WL.bin rfl rfl rfl rfl (int_eq_d _ _ _ _ _) ?_ | refine WL.skip _ rfl rfl rfl ?_
    first | refine WL.pick rfl rfl rfl rfl ?_
    first | refine WL.assign rfl rfl rfl ?_
    refine WL.done ?_
    refine EW.on ?_
    refine EW.ret ?_
    exact EW.returns Try.results3 rfl ⟨rfl, bt (bt be_2 e7) e8⟩
  · refine EW.region ?_
    refine WL.bin rfl rfl rfl rfl (int_eq_f (by omega) _ _ _) ?_
    first | refine WL.assign rfl rfl rfl ?_
    refine WL.done ?_
    refine EW.on ?_
    refine EW.cond_f rfl ?_
    refine EW.seq ?_
    refine EW.region ?_
    refine WL.bin rfl rfl rfl rfl (int_eq_f (by omega) _ _ _) ?_
    first | refine WL.assign rfl rfl rfl ?_
    refine WL.done ?_
    refine EW.on ?_
    refine EW.cond_f rfl ?_
    refine EW.seq ?_
    refine EW.region ?_
    refine WL.bin rfl rfl rfl rfl (int_eq_f (by omega) _ _ _) ?_
    first | refine WL.assign rfl rfl rfl ?_
    refine WL.done ?_
    refine EW.on ?_
    refine EW.cond_f rfl ?_
    refine EW.seq ?_
    refine EW.region ?_
    refine WL.bin rfl rfl rfl rfl (int_eq_t (by omega) _ _ _) ?_
    first | refine WL.assign rfl rfl rfl ?_
    refine WL.done ?_
    refine EW.on ?_
    refine EW.cond_t rfl ?_
    refine EW.region ?_
    first | refine WL.field rfl rfl rfl (f33_6 q1 _) ?_
    first | refine WL.load rfl rfl rfl (Sg.ld_own bq1_0 km) ?_
    refine WL.bin rfl rfl rfl rfl (u_add (n := m.own) (m := 1) (by omega) _ _ _) ?_
    first | refine WL.move rfl rfl rfl ?_
    refine WL.bin rfl rfl rfl rfl (u_add (n := (m.own + 1)) (m := (1 + n % 1000)) (by omega) _ _ _) ?_
    first | refine WL.field rfl rfl rfl (f33_7 q1 _) ?_
    obtain ⟨w_1, s_1, bb_1, fx_1⟩ := Sg.st_turns bq1_0 km (((m.own + 1) + (1 + n % 1000)))
    have bc_1 : Blk w_1 q1 (Sg.cs (⟨m.sid, m.root, m.pri, m.pub, m.peer, m.sk, m.rk, m.own, ((m.own + 1) + (1 + n % 1000)), m.sent, m.got, m.prev, m.ser, m.hl, m.bind⟩ : Sg)) 33 := bb_1
    have k_1 : Sg.ok (⟨m.sid, m.root, m.pri, m.pub, m.peer, m.sk, m.rk, m.own, ((m.own + 1) + (1 + n % 1000)), m.sent, m.got, m.prev, m.ser, m.hl, m.bind⟩ : Sg) := km.s_turns (x := ((m.own + 1) + (1 + n % 1000))) (by first | decide | omega)
    clear bb_1
    refine WL.store rfl rfl rfl s_1 ?_
    have be_2 := bfx be_0 (by omega) fx_1
    refine WL.done ?_
    refine pn_block ?_
    refine EW.on ?_
    refine EW.seq ?_
    refine EW.region ?_
    first | refine WL.load rfl rfl rfl (Sg.ld bc_1 k_1) ?_
    have ng : ¬ Good (⟨m.sid, m.root, m.pri, m.pub, m.peer, m.sk, m.rk, m.own, ((m.own + 1) + (1 + n % 1000)), m.sent, m.got, m.prev, m.ser, m.hl, m.bind⟩ : Sg) := fun g => by
      have e := g.1
      dsimp only at e
      omega
    refine WL.call [Sg.v (⟨m.sid, m.root, m.pri, m.pub, m.peer, m.sk, m.rk, m.own, ((m.own + 1) + (1 + n % 1000)), m.sent, m.got, m.prev, m.ser, m.hl, m.bind⟩ : Sg)] enter12 rfl rfl rfl (encode_any _ k_1 _) ?_
    rintro _ w7 ⟨v7, rfl, o7, e7⟩
    rw [if_neg ng] at o7
    rw [chkD, if_neg ng]
    refine ⟨_, rfl, ?_⟩
    have b7 := bc_1.on e7
    first | refine WL.move rfl rfl rfl ?_
    first | refine WL.extract rfl rfl rfl (ext_2 _ _ _).1 ?_
    first | refine WL.extract rfl rfl rfl (ext_2 _ _ _).2 ?_
    first | refine WL.assign rfl rfl rfl ?_
    first | refine WL.assign rfl rfl rfl ?_
    refine WL.done ?_
    refine EW.on ?_
    refine EW.seq ?_
    refine EW.region ?_
    first | refine WL.load rfl rfl rfl (Sg.ld b7 k_1) ?_
    refine WL.call [Sg.v (⟨m.sid, m.root, m.pri, m.pub, m.peer, m.sk, m.rk, m.own, ((m.own + 1) + (1 + n % 1000)), m.sent, m.got, m.prev, m.ser, m.hl, m.bind⟩ : Sg)] enter10 rfl rfl rfl (check_any _ k_1 _) ?_
    rintro _ w8 ⟨rfl, e8⟩
    rw [chkD, if_neg ng]
    refine ⟨_, rfl, ?_⟩
    first | refine WL.bin rfl rfl rfl rfl (int_eq_t rfl _ _ _) ?_ | refine WL.bin rfl rfl rfl rfl (int_eq_t ‹_› _ _ _) ?_ | refine WL.bin rfl rfl rfl rfl (int_eq_f ‹_› _ _ _) ?_ | refine WL.bin rfl rfl rfl rfl (int_eq_d _ _ _ _ _) ?_
    first | refine WL.move rfl rfl rfl ?_
    first | refine WL.move rfl rfl rfl ?_ | refine WL.skip _ rfl rfl rfl ?_
    first | refine WL.bin rfl rfl rfl rfl (int_eq_t rfl _ _ _) ?_ | refine WL.bin rfl rfl rfl rfl (int_eq_t ‹_› _ _ _) ?_ | refine WL.bin rfl rfl rfl rfl (int_eq_f ‹_› _ _ _) ?_ | refine WL.bin rfl rfl rfl rfl (int_eq_d _ _ _ _ _) ?_ | refine WL.skip _ rfl rfl rfl ?_
    first | refine WL.pick rfl rfl rfl rfl ?_
    first | refine WL.move rfl rfl rfl ?_
    first | refine WL.move rfl rfl rfl ?_ | refine WL.skip _ rfl rfl rfl ?_
    refine WL.len rfl rfl rfl (o7.has.len _ _) ?_
    first | refine WL.bin rfl rfl rfl rfl (int_eq_t rfl _ _ _) ?_ | refine WL.bin rfl rfl rfl rfl (int_eq_t ‹_› _ _ _) ?_ | refine WL.bin rfl rfl rfl rfl (int_eq_f ‹_› _ _ _) ?_ | refine WL.bin rfl rfl rfl rfl (int_eq_d _ _ _ _ _) ?_ | refine WL.skip _ rfl rfl rfl ?_
    first | refine WL.pick rfl rfl rfl rfl ?_
    first | refine WL.assign rfl rfl rfl ?_
    refine WL.done ?_
    refine EW.on ?_
    refine EW.ret ?_
    exact EW.returns Try.results3 rfl ⟨rfl, bt (bt be_2 e7) e8⟩
  · refine EW.region ?_
    refine WL.bin rfl rfl rfl rfl (int_eq_f (by omega) _ _ _) ?_
    first | refine WL.assign rfl rfl rfl ?_
    refine WL.done ?_
    refine EW.on ?_
    refine EW.cond_f rfl ?_
    refine EW.seq ?_
    refine EW.region ?_
    refine WL.bin rfl rfl rfl rfl (int_eq_f (by omega) _ _ _) ?_
    first | refine WL.assign rfl rfl rfl ?_
    refine WL.done ?_
    refine EW.on ?_
    refine EW.cond_f rfl ?_
    refine EW.seq ?_
    refine EW.region ?_
    refine WL.bin rfl rfl rfl rfl (int_eq_f (by omega) _ _ _) ?_
    first | refine WL.assign rfl rfl rfl ?_
    refine WL.done ?_
    refine EW.on ?_
    refine EW.cond_f rfl ?_
    refine EW.seq ?_
    refine EW.region ?_
    refine WL.bin rfl rfl rfl rfl (int_eq_f (by omega) _ _ _) ?_
    first | refine WL.assign rfl rfl rfl ?_
    refine WL.done ?_
    refine EW.on ?_
    refine EW.cond_f rfl ?_
    refine EW.seq ?_
    refine EW.region ?_
    refine WL.bin rfl rfl rfl rfl (int_eq_t (by omega) _ _ _) ?_
    first | refine WL.assign rfl rfl rfl ?_
    refine WL.done ?_
    refine EW.on ?_
    refine EW.cond_t rfl ?_
    refine EW.seq ?_
    refine EW.region ?_
    first | refine WL.buildN [] rfl rfl rfl (bd30 _) ?_
    first | refine WL.field rfl rfl rfl (f33_6 q1 _) ?_
    obtain ⟨w_1, s_1, bb_1, fx_1⟩ := Sg.st_own bq1_0 km 0
    have bc_1 : Blk w_1 q1 (Sg.cs (⟨m.sid, m.root, m.pri, m.pub, m.peer, m.sk, m.rk, 0, m.turns, m.sent, m.got, m.prev, m.ser, m.hl, m.bind⟩ : Sg)) 33 := bb_1
    have k_1 : Sg.ok (⟨m.sid, m.root, m.pri, m.pub, m.peer, m.sk, m.rk, 0, m.turns, m.sent, m.got, m.prev, m.ser, m.hl, m.bind⟩ : Sg) := km.s_own (x := 0) (by first | decide | omega)
    clear bb_1
    refine WL.store rfl rfl rfl s_1 ?_
    have be_2 := bfx be_0 (by omega) fx_1
    first | refine WL.field rfl rfl rfl (f33_7 q1 _) ?_
    obtain ⟨w_3, s_3, bb_3, fx_3⟩ := Sg.st_turns bc_1 k_1 1
    have bc_3 : Blk w_3 q1 (Sg.cs (⟨m.sid, m.root, m.pri, m.pub, m.peer, m.sk, m.rk, 0, 1, m.sent, m.got, m.prev, m.ser, m.hl, m.bind⟩ : Sg)) 33 := bb_3
    have k_3 : Sg.ok (⟨m.sid, m.root, m.pri, m.pub, m.peer, m.sk, m.rk, 0, 1, m.sent, m.got, m.prev, m.ser, m.hl, m.bind⟩ : Sg) := k_1.s_turns (x := 1) (by first | decide | omega)
    clear bb_3
    refine WL.store rfl rfl rfl s_3 ?_
    have be_4 := bfx be_2 (by omega) fx_3
    first | refine WL.field rfl rfl rfl (f33_12 q1 _) ?_
    obtain ⟨w_5, s_5, bb_5, fx_5⟩ := Sg.st_hl bc_3 k_3 (x := Hl.z) Hl.z_ok
    have bc_5 : Blk w_5 q1 (Sg.cs (⟨m.sid, m.root, m.pri, m.pub, m.peer, m.sk, m.rk, 0, 1, m.sent, m.got, m.prev, m.ser, Hl.z, m.bind⟩ : Sg)) 33 := bb_5
    have k_5 : Sg.ok (⟨m.sid, m.root, m.pri, m.pub, m.peer, m.sk, m.rk, 0, 1, m.sent, m.got, m.prev, m.ser, Hl.z, m.bind⟩ : Sg) := k_3.s_hl (x := Hl.z) Hl.z_ok
    clear bb_5
    refine WL.store rfl rfl rfl s_5 ?_
    have be_6 := bfx be_4 (by omega) fx_5
    refine WL.done ?_
    refine EW.on ?_
    refine EW.region ?_
    first | refine WL.buildN [] rfl rfl rfl (bd25 _) ?_
    first | refine WL.move rfl rfl rfl ?_
    first | refine WL.field rfl rfl rfl (f33_4 q1 _) ?_
    obtain ⟨w_7, s_7, bb_7, fx_7⟩ := Sg.st_sk bc_5 k_5 (x := z32) rfl
    have bc_7 : Blk w_7 q1 (Sg.cs (⟨m.sid, m.root, m.pri, m.pub, m.peer, z32, m.rk, 0, 1, m.sent, m.got, m.prev, m.ser, Hl.z, m.bind⟩ : Sg)) 33 := bb_7
    have k_7 : Sg.ok (⟨m.sid, m.root, m.pri, m.pub, m.peer, z32, m.rk, 0, 1, m.sent, m.got, m.prev, m.ser, Hl.z, m.bind⟩ : Sg) := k_5.s_sk (x := z32) rfl
    clear bb_7
    refine WL.store rfl rfl rfl s_7 ?_
    have be_8 := bfx be_6 (by omega) fx_7
    first | refine WL.field rfl rfl rfl (f33_8 q1 _) ?_
    obtain ⟨w_9, s_9, bb_9, fx_9⟩ := Sg.st_sent bc_7 k_7 ((1 + n % 1000))
    have bc_9 : Blk w_9 q1 (Sg.cs (⟨m.sid, m.root, m.pri, m.pub, m.peer, z32, m.rk, 0, 1, (1 + n % 1000), m.got, m.prev, m.ser, Hl.z, m.bind⟩ : Sg)) 33 := bb_9
    have k_9 : Sg.ok (⟨m.sid, m.root, m.pri, m.pub, m.peer, z32, m.rk, 0, 1, (1 + n % 1000), m.got, m.prev, m.ser, Hl.z, m.bind⟩ : Sg) := k_7.s_sent (x := (1 + n % 1000)) (by first | decide | omega)
    clear bb_9
    refine WL.store rfl rfl rfl s_9 ?_
    have be_10 := bfx be_8 (by omega) fx_9
    first | refine WL.field rfl rfl rfl (f33_10 q1 _) ?_
    obtain ⟨w_11, s_11, bb_11, fx_11⟩ := Sg.st_prev bc_9 k_9 0
    have bc_11 : Blk w_11 q1 (Sg.cs (⟨m.sid, m.root, m.pri, m.pub, m.peer, z32, m.rk, 0, 1, (1 + n % 1000), m.got, 0, m.ser, Hl.z, m.bind⟩ : Sg)) 33 := bb_11
    have k_11 : Sg.ok (⟨m.sid, m.root, m.pri, m.pub, m.peer, z32, m.rk, 0, 1, (1 + n % 1000), m.got, 0, m.ser, Hl.z, m.bind⟩ : Sg) := k_9.s_prev (x := 0) (by first | decide | omega)
    clear bb_11
    refine WL.store rfl rfl rfl s_11 ?_
    have be_12 := bfx be_10 (by omega) fx_11
    first | refine WL.field rfl rfl rfl (f33_11 q1 _) ?_
    obtain ⟨w_13, s_13, bb_13, fx_13⟩ := Sg.st_ser bc_11 k_11 0
    have bc_13 : Blk w_13 q1 (Sg.cs (⟨m.sid, m.root, m.pri, m.pub, m.peer, z32, m.rk, 0, 1, (1 + n % 1000), m.got, 0, 0, Hl.z, m.bind⟩ : Sg)) 33 := bb_13
    have k_13 : Sg.ok (⟨m.sid, m.root, m.pri, m.pub, m.peer, z32, m.rk, 0, 1, (1 + n % 1000), m.got, 0, 0, Hl.z, m.bind⟩ : Sg) := k_11.s_ser (x := 0) (by first | decide | omega)
    clear bb_13
    refine WL.store rfl rfl rfl s_13 ?_
    have be_14 := bfx be_12 (by omega) fx_13
    refine WL.done ?_
    refine pn_block ?_
    refine EW.on ?_
    refine EW.seq ?_
    refine EW.region ?_
    first | refine WL.load rfl rfl rfl (Sg.ld bc_13 k_13) ?_
    have ng : ¬ Good (⟨m.sid, m.root, m.pri, m.pub, m.peer, z32, m.rk, 0, 1, (1 + n % 1000), m.got, 0, 0, Hl.z, m.bind⟩ : Sg) := fun g => by
      have e := congrArg Sg.sent g.2.1
      simp only [cntD] at e
      simp at e
    refine WL.call [Sg.v (⟨m.sid, m.root, m.pri, m.pub, m.peer, z32, m.rk, 0, 1, (1 + n % 1000), m.got, 0, 0, Hl.z, m.bind⟩ : Sg)] enter12 rfl rfl rfl (encode_any _ k_13 _) ?_
    rintro _ w7 ⟨v7, rfl, o7, e7⟩
    rw [if_neg ng] at o7
    rw [chkD, if_neg ng]
    refine ⟨_, rfl, ?_⟩
    have b7 := bc_13.on e7
    first | refine WL.move rfl rfl rfl ?_
    first | refine WL.extract rfl rfl rfl (ext_2 _ _ _).1 ?_
    first | refine WL.extract rfl rfl rfl (ext_2 _ _ _).2 ?_
    first | refine WL.assign rfl rfl rfl ?_
    first | refine WL.assign rfl rfl rfl ?_
    refine WL.done ?_
    refine EW.on ?_
    refine EW.seq ?_
    refine EW.region ?_
    first | refine WL.load rfl rfl rfl (Sg.ld b7 k_13) ?_
    refine WL.call [Sg.v (⟨m.sid, m.root, m.pri, m.pub, m.peer, z32, m.rk, 0, 1, (1 + n % 1000), m.got, 0, 0, Hl.z, m.bind⟩ : Sg)] enter10 rfl rfl rfl (check_any _ k_13 _) ?_
    rintro _ w8 ⟨rfl, e8⟩
    rw [chkD, if_neg ng]
    refine ⟨_, rfl, ?_⟩
    first | refine WL.bin rfl rfl rfl rfl (int_eq_t rfl _ _ _) ?_ | refine WL.bin rfl rfl rfl rfl (int_eq_t ‹_› _ _ _) ?_ | refine WL.bin rfl rfl rfl rfl (int_eq_f ‹_› _ _ _) ?_ | refine WL.bin rfl rfl rfl rfl (int_eq_d _ _ _ _ _) ?_
    first | refine WL.move rfl rfl rfl ?_
    first | refine WL.move rfl rfl rfl ?_ | refine WL.skip _ rfl rfl rfl ?_
    first | refine WL.bin rfl rfl rfl rfl (int_eq_t rfl _ _ _) ?_ | refine WL.bin rfl rfl rfl rfl (int_eq_t ‹_› _ _ _) ?_ | refine WL.bin rfl rfl rfl rfl (int_eq_f ‹_› _ _ _) ?_ | refine WL.bin rfl rfl rfl rfl (int_eq_d _ _ _ _ _) ?_ | refine WL.skip _ rfl rfl rfl ?_
    first | refine WL.pick rfl rfl rfl rfl ?_
    first | refine WL.move rfl rfl rfl ?_
    first | refine WL.move rfl rfl rfl ?_ | refine WL.skip _ rfl rfl rfl ?_
    refine WL.len rfl rfl rfl (o7.has.len _ _) ?_
    first | refine WL.bin rfl rfl rfl rfl (int_eq_t rfl _ _ _) ?_ | refine WL.bin rfl rfl rfl rfl (int_eq_t ‹_› _ _ _) ?_ | refine WL.bin rfl rfl rfl rfl (int_eq_f ‹_› _ _ _) ?_ | refine WL.bin rfl rfl rfl rfl (int_eq_d _ _ _ _ _) ?_ | refine WL.skip _ rfl rfl rfl ?_
    first | refine WL.pick rfl rfl rfl rfl ?_
    first | refine WL.assign rfl rfl rfl ?_
    refine WL.done ?_
    refine EW.on ?_
    refine EW.ret ?_
    exact EW.returns Try.results3 rfl ⟨rfl, bt (bt be_14 e7) e8⟩
  · refine EW.region ?_
    refine WL.bin rfl rfl rfl rfl (int_eq_f (by omega) _ _ _) ?_
    first | refine WL.assign rfl rfl rfl ?_
    refine WL.done ?_
    refine EW.on ?_
    refine EW.cond_f rfl ?_
    refine EW.seq ?_
    refine EW.region ?_
    refine WL.bin rfl rfl rfl rfl (int_eq_f (by omega) _ _ _) ?_
    first | refine WL.assign rfl rfl rfl ?_
    refine WL.done ?_
    refine EW.on ?_
    refine EW.cond_f rfl ?_
    refine EW.seq ?_
    refine EW.region ?_
    refine WL.bin rfl rfl rfl rfl (int_eq_f (by omega) _ _ _) ?_
    first | refine WL.assign rfl rfl rfl ?_
    refine WL.done ?_
    refine EW.on ?_
    refine EW.cond_f rfl ?_
    refine EW.seq ?_
    refine EW.region ?_
    refine WL.bin rfl rfl rfl rfl (int_eq_f (by omega) _ _ _) ?_
    first | refine WL.assign rfl rfl rfl ?_
    refine WL.done ?_
    refine EW.on ?_
    refine EW.cond_f rfl ?_
    refine EW.seq ?_
    refine EW.region ?_
    refine WL.bin rfl rfl rfl rfl (int_eq_f (by omega) _ _ _) ?_
    first | refine WL.assign rfl rfl rfl ?_
    refine WL.done ?_
    refine EW.on ?_
    refine EW.cond_f rfl ?_
    refine EW.seq ?_
    refine EW.region ?_
    refine WL.bin rfl rfl rfl rfl (int_eq_t (by omega) _ _ _) ?_
    first | refine WL.assign rfl rfl rfl ?_
    refine WL.done ?_
    refine EW.on ?_
    refine EW.cond_t rfl ?_
    refine EW.seq ?_
    refine EW.region ?_
    first | refine WL.field rfl rfl rfl (f33_6 q1 _) ?_
    obtain ⟨w_1, s_1, bb_1, fx_1⟩ := Sg.st_own bq1_0 km 1
    have bc_1 : Blk w_1 q1 (Sg.cs (⟨m.sid, m.root, m.pri, m.pub, m.peer, m.sk, m.rk, 1, m.turns, m.sent, m.got, m.prev, m.ser, m.hl, m.bind⟩ : Sg)) 33 := bb_1
    have k_1 : Sg.ok (⟨m.sid, m.root, m.pri, m.pub, m.peer, m.sk, m.rk, 1, m.turns, m.sent, m.got, m.prev, m.ser, m.hl, m.bind⟩ : Sg) := km.s_own (x := 1) (by first | decide | omega)
    clear bb_1
    refine WL.store rfl rfl rfl s_1 ?_
    have be_2 := bfx be_0 (by omega) fx_1
    first | refine WL.field rfl rfl rfl (f33_7 q1 _) ?_
    obtain ⟨w_3, s_3, bb_3, fx_3⟩ := Sg.st_turns bc_1 k_1 0
    have bc_3 : Blk w_3 q1 (Sg.cs (⟨m.sid, m.root, m.pri, m.pub, m.peer, m.sk, m.rk, 1, 0, m.sent, m.got, m.prev, m.ser, m.hl, m.bind⟩ : Sg)) 33 := bb_3
    have k_3 : Sg.ok (⟨m.sid, m.root, m.pri, m.pub, m.peer, m.sk, m.rk, 1, 0, m.sent, m.got, m.prev, m.ser, m.hl, m.bind⟩ : Sg) := k_1.s_turns (x := 0) (by first | decide | omega)
    clear bb_3
    refine WL.store rfl rfl rfl s_3 ?_
    have be_4 := bfx be_2 (by omega) fx_3
    first | refine WL.field rfl rfl rfl (f33_10 q1 _) ?_
    obtain ⟨w_5, s_5, bb_5, fx_5⟩ := Sg.st_prev bc_3 k_3 0
    have bc_5 : Blk w_5 q1 (Sg.cs (⟨m.sid, m.root, m.pri, m.pub, m.peer, m.sk, m.rk, 1, 0, m.sent, m.got, 0, m.ser, m.hl, m.bind⟩ : Sg)) 33 := bb_5
    have k_5 : Sg.ok (⟨m.sid, m.root, m.pri, m.pub, m.peer, m.sk, m.rk, 1, 0, m.sent, m.got, 0, m.ser, m.hl, m.bind⟩ : Sg) := k_3.s_prev (x := 0) (by first | decide | omega)
    clear bb_5
    refine WL.store rfl rfl rfl s_5 ?_
    have be_6 := bfx be_4 (by omega) fx_5
    first | refine WL.field rfl rfl rfl (f33_8 q1 _) ?_
    obtain ⟨w_7, s_7, bb_7, fx_7⟩ := Sg.st_sent bc_5 k_5 5
    have bc_7 : Blk w_7 q1 (Sg.cs (⟨m.sid, m.root, m.pri, m.pub, m.peer, m.sk, m.rk, 1, 0, 5, m.got, 0, m.ser, m.hl, m.bind⟩ : Sg)) 33 := bb_7
    have k_7 : Sg.ok (⟨m.sid, m.root, m.pri, m.pub, m.peer, m.sk, m.rk, 1, 0, 5, m.got, 0, m.ser, m.hl, m.bind⟩ : Sg) := k_5.s_sent (x := 5) (by first | decide | omega)
    clear bb_7
    refine WL.store rfl rfl rfl s_7 ?_
    have be_8 := bfx be_6 (by omega) fx_7
    first | refine WL.field rfl rfl rfl (f33_11 q1 _) ?_
    obtain ⟨w_9, s_9, bb_9, fx_9⟩ := Sg.st_ser bc_7 k_7 5
    have bc_9 : Blk w_9 q1 (Sg.cs (⟨m.sid, m.root, m.pri, m.pub, m.peer, m.sk, m.rk, 1, 0, 5, m.got, 0, 5, m.hl, m.bind⟩ : Sg)) 33 := bb_9
    have k_9 : Sg.ok (⟨m.sid, m.root, m.pri, m.pub, m.peer, m.sk, m.rk, 1, 0, 5, m.got, 0, 5, m.hl, m.bind⟩ : Sg) := k_7.s_ser (x := 5) (by first | decide | omega)
    clear bb_9
    refine WL.store rfl rfl rfl s_9 ?_
    have be_10 := bfx be_8 (by omega) fx_9
    refine WL.done ?_
    refine EW.on ?_
    refine EW.region ?_
    first | refine WL.buildN [] rfl rfl rfl (bd25 _) ?_
    first | refine WL.move rfl rfl rfl ?_
    first | refine WL.field rfl rfl rfl (f33_5 q1 _) ?_
    obtain ⟨w_11, s_11, bb_11, fx_11⟩ := Sg.st_rk bc_9 k_9 (x := z32) rfl
    have bc_11 : Blk w_11 q1 (Sg.cs (⟨m.sid, m.root, m.pri, m.pub, m.peer, m.sk, z32, 1, 0, 5, m.got, 0, 5, m.hl, m.bind⟩ : Sg)) 33 := bb_11
    have k_11 : Sg.ok (⟨m.sid, m.root, m.pri, m.pub, m.peer, m.sk, z32, 1, 0, 5, m.got, 0, 5, m.hl, m.bind⟩ : Sg) := k_9.s_rk (x := z32) rfl
    clear bb_11
    refine WL.store rfl rfl rfl s_11 ?_
    have be_12 := bfx be_10 (by omega) fx_11
    first | refine WL.field rfl rfl rfl (f33_9 q1 _) ?_
    obtain ⟨w_13, s_13, bb_13, fx_13⟩ := Sg.st_got bc_11 k_11 ((1 + n % 1000))
    have bc_13 : Blk w_13 q1 (Sg.cs (⟨m.sid, m.root, m.pri, m.pub, m.peer, m.sk, z32, 1, 0, 5, (1 + n % 1000), 0, 5, m.hl, m.bind⟩ : Sg)) 33 := bb_13
    have k_13 : Sg.ok (⟨m.sid, m.root, m.pri, m.pub, m.peer, m.sk, z32, 1, 0, 5, (1 + n % 1000), 0, 5, m.hl, m.bind⟩ : Sg) := k_11.s_got (x := (1 + n % 1000)) (by first | decide | omega)
    clear bb_13
    refine WL.store rfl rfl rfl s_13 ?_
    have be_14 := bfx be_12 (by omega) fx_13
    refine WL.done ?_
    refine pn_block ?_
    refine EW.on ?_
    refine EW.seq ?_
    refine EW.region ?_
    first | refine WL.load rfl rfl rfl (Sg.ld bc_13 k_13) ?_
    have ng : ¬ Good (⟨m.sid, m.root, m.pri, m.pub, m.peer, m.sk, z32, 1, 0, 5, (1 + n % 1000), 0, 5, m.hl, m.bind⟩ : Sg) := fun g => by
      have e := congrArg Sg.got g.2.1
      simp only [cntD] at e
      simp at e
    refine WL.call [Sg.v (⟨m.sid, m.root, m.pri, m.pub, m.peer, m.sk, z32, 1, 0, 5, (1 + n % 1000), 0, 5, m.hl, m.bind⟩ : Sg)] enter12 rfl rfl rfl (encode_any _ k_13 _) ?_
    rintro _ w7 ⟨v7, rfl, o7, e7⟩
    rw [if_neg ng] at o7
    rw [chkD, if_neg ng]
    refine ⟨_, rfl, ?_⟩
    have b7 := bc_13.on e7
    first | refine WL.move rfl rfl rfl ?_
    first | refine WL.extract rfl rfl rfl (ext_2 _ _ _).1 ?_
    first | refine WL.extract rfl rfl rfl (ext_2 _ _ _).2 ?_
    first | refine WL.assign rfl rfl rfl ?_
    first | refine WL.assign rfl rfl rfl ?_
    refine WL.done ?_
    refine EW.on ?_
    refine EW.seq ?_
    refine EW.region ?_
    first | refine WL.load rfl rfl rfl (Sg.ld b7 k_13) ?_
    refine WL.call [Sg.v (⟨m.sid, m.root, m.pri, m.pub, m.peer, m.sk, z32, 1, 0, 5, (1 + n % 1000), 0, 5, m.hl, m.bind⟩ : Sg)] enter10 rfl rfl rfl (check_any _ k_13 _) ?_
    rintro _ w8 ⟨rfl, e8⟩
    rw [chkD, if_neg ng]
    refine ⟨_, rfl, ?_⟩
    first | refine WL.bin rfl rfl rfl rfl (int_eq_t rfl _ _ _) ?_ | refine WL.bin rfl rfl rfl rfl (int_eq_t ‹_› _ _ _) ?_ | refine WL.bin rfl rfl rfl rfl (int_eq_f ‹_› _ _ _) ?_ | refine WL.bin rfl rfl rfl rfl (int_eq_d _ _ _ _ _) ?_
    first | refine WL.move rfl rfl rfl ?_
    first | refine WL.move rfl rfl rfl ?_ | refine WL.skip _ rfl rfl rfl ?_
    first | refine WL.bin rfl rfl rfl rfl (int_eq_t rfl _ _ _) ?_ | refine WL.bin rfl rfl rfl rfl (int_eq_t ‹_› _ _ _) ?_ | refine WL.bin rfl rfl rfl rfl (int_eq_f ‹_› _ _ _) ?_ | refine WL.bin rfl rfl rfl rfl (int_eq_d _ _ _ _ _) ?_ | refine WL.skip _ rfl rfl rfl ?_
    first | refine WL.pick rfl rfl rfl rfl ?_
    first | refine WL.move rfl rfl rfl ?_
    first | refine WL.move rfl rfl rfl ?_ | refine WL.skip _ rfl rfl rfl ?_
    refine WL.len rfl rfl rfl (o7.has.len _ _) ?_
    first | refine WL.bin rfl rfl rfl rfl (int_eq_t rfl _ _ _) ?_ | refine WL.bin rfl rfl rfl rfl (int_eq_t ‹_› _ _ _) ?_ | refine WL.bin rfl rfl rfl rfl (int_eq_f ‹_› _ _ _) ?_ | refine WL.bin rfl rfl rfl rfl (int_eq_d _ _ _ _ _) ?_ | refine WL.skip _ rfl rfl rfl ?_
    first | refine WL.pick rfl rfl rfl rfl ?_
    first | refine WL.assign rfl rfl rfl ?_
    refine WL.done ?_
    refine EW.on ?_
    refine EW.ret ?_
    exact EW.returns Try.results3 rfl ⟨rfl, bt (bt be_14 e7) e8⟩
  · refine EW.region ?_
    refine WL.bin rfl rfl rfl rfl (int_eq_f (by omega) _ _ _) ?_
    first | refine WL.assign rfl rfl rfl ?_
    refine WL.done ?_
    refine EW.on ?_
    refine EW.cond_f rfl ?_
    refine EW.seq ?_
    refine EW.region ?_
    refine WL.bin rfl rfl rfl rfl (int_eq_f (by omega) _ _ _) ?_
    first | refine WL.assign rfl rfl rfl ?_
    refine WL.done ?_
    refine EW.on ?_
    refine EW.cond_f rfl ?_
    refine EW.seq ?_
    refine EW.region ?_
    refine WL.bin rfl rfl rfl rfl (int_eq_f (by omega) _ _ _) ?_
    first | refine WL.assign rfl rfl rfl ?_
    refine WL.done ?_
    refine EW.on ?_
    refine EW.cond_f rfl ?_
    refine EW.seq ?_
    refine EW.region ?_
    refine WL.bin rfl rfl rfl rfl (int_eq_f (by omega) _ _ _) ?_
    first | refine WL.assign rfl rfl rfl ?_
    refine WL.done ?_
    refine EW.on ?_
    refine EW.cond_f rfl ?_
    refine EW.seq ?_
    refine EW.region ?_
    refine WL.bin rfl rfl rfl rfl (int_eq_f (by omega) _ _ _) ?_
    first | refine WL.assign rfl rfl rfl ?_
    refine WL.done ?_
    refine EW.on ?_
    refine EW.cond_f rfl ?_
    refine EW.seq ?_
    refine EW.region ?_
    refine WL.bin rfl rfl rfl rfl (int_eq_f (by omega) _ _ _) ?_
    first | refine WL.assign rfl rfl rfl ?_
    refine WL.done ?_
    refine EW.on ?_
    refine EW.cond_f rfl ?_
    refine EW.seq ?_
    refine EW.region ?_
    refine WL.bin rfl rfl rfl rfl (int_eq_t (by omega) _ _ _) ?_
    first | refine WL.assign rfl rfl rfl ?_
    refine WL.done ?_
    refine EW.on ?_
    refine EW.cond_t rfl ?_
    refine EW.seq ?_
    refine EW.region ?_
    first | refine WL.buildN [] rfl rfl rfl (bd30 _) ?_
    first | refine WL.field rfl rfl rfl (f33_6 q1 _) ?_
    obtain ⟨w_1, s_1, bb_1, fx_1⟩ := Sg.st_own bq1_0 km 1
    have bc_1 : Blk w_1 q1 (Sg.cs (⟨m.sid, m.root, m.pri, m.pub, m.peer, m.sk, m.rk, 1, m.turns, m.sent, m.got, m.prev, m.ser, m.hl, m.bind⟩ : Sg)) 33 := bb_1
    have k_1 : Sg.ok (⟨m.sid, m.root, m.pri, m.pub, m.peer, m.sk, m.rk, 1, m.turns, m.sent, m.got, m.prev, m.ser, m.hl, m.bind⟩ : Sg) := km.s_own (x := 1) (by first | decide | omega)
    clear bb_1
    refine WL.store rfl rfl rfl s_1 ?_
    have be_2 := bfx be_0 (by omega) fx_1
    first | refine WL.field rfl rfl rfl (f33_7 q1 _) ?_
    obtain ⟨w_3, s_3, bb_3, fx_3⟩ := Sg.st_turns bc_1 k_1 1
    have bc_3 : Blk w_3 q1 (Sg.cs (⟨m.sid, m.root, m.pri, m.pub, m.peer, m.sk, m.rk, 1, 1, m.sent, m.got, m.prev, m.ser, m.hl, m.bind⟩ : Sg)) 33 := bb_3
    have k_3 : Sg.ok (⟨m.sid, m.root, m.pri, m.pub, m.peer, m.sk, m.rk, 1, 1, m.sent, m.got, m.prev, m.ser, m.hl, m.bind⟩ : Sg) := k_1.s_turns (x := 1) (by first | decide | omega)
    clear bb_3
    refine WL.store rfl rfl rfl s_3 ?_
    have be_4 := bfx be_2 (by omega) fx_3
    first | refine WL.field rfl rfl rfl (f33_12 q1 _) ?_
    obtain ⟨w_5, s_5, bb_5, fx_5⟩ := Sg.st_hl bc_3 k_3 (x := Hl.z) Hl.z_ok
    have bc_5 : Blk w_5 q1 (Sg.cs (⟨m.sid, m.root, m.pri, m.pub, m.peer, m.sk, m.rk, 1, 1, m.sent, m.got, m.prev, m.ser, Hl.z, m.bind⟩ : Sg)) 33 := bb_5
    have k_5 : Sg.ok (⟨m.sid, m.root, m.pri, m.pub, m.peer, m.sk, m.rk, 1, 1, m.sent, m.got, m.prev, m.ser, Hl.z, m.bind⟩ : Sg) := k_3.s_hl (x := Hl.z) Hl.z_ok
    clear bb_5
    refine WL.store rfl rfl rfl s_5 ?_
    have be_6 := bfx be_4 (by omega) fx_5
    refine WL.done ?_
    refine EW.on ?_
    refine EW.region ?_
    first | refine WL.move rfl rfl rfl ?_
    refine WL.bin rfl rfl rfl rfl (u_add (n := 5) (m := (1 + n % 1000)) (by omega) _ _ _) ?_
    first | refine WL.field rfl rfl rfl (f33_10 q1 _) ?_
    obtain ⟨w_7, s_7, bb_7, fx_7⟩ := Sg.st_prev bc_5 k_5 0
    have bc_7 : Blk w_7 q1 (Sg.cs (⟨m.sid, m.root, m.pri, m.pub, m.peer, m.sk, m.rk, 1, 1, m.sent, m.got, 0, m.ser, Hl.z, m.bind⟩ : Sg)) 33 := bb_7
    have k_7 : Sg.ok (⟨m.sid, m.root, m.pri, m.pub, m.peer, m.sk, m.rk, 1, 1, m.sent, m.got, 0, m.ser, Hl.z, m.bind⟩ : Sg) := k_5.s_prev (x := 0) (by first | decide | omega)
    clear bb_7
    refine WL.store rfl rfl rfl s_7 ?_
    have be_8 := bfx be_6 (by omega) fx_7
    first | refine WL.field rfl rfl rfl (f33_8 q1 _) ?_
    obtain ⟨w_9, s_9, bb_9, fx_9⟩ := Sg.st_sent bc_7 k_7 5
    have bc_9 : Blk w_9 q1 (Sg.cs (⟨m.sid, m.root, m.pri, m.pub, m.peer, m.sk, m.rk, 1, 1, 5, m.got, 0, m.ser, Hl.z, m.bind⟩ : Sg)) 33 := bb_9
    have k_9 : Sg.ok (⟨m.sid, m.root, m.pri, m.pub, m.peer, m.sk, m.rk, 1, 1, 5, m.got, 0, m.ser, Hl.z, m.bind⟩ : Sg) := k_7.s_sent (x := 5) (by first | decide | omega)
    clear bb_9
    refine WL.store rfl rfl rfl s_9 ?_
    have be_10 := bfx be_8 (by omega) fx_9
    first | refine WL.field rfl rfl rfl (f33_11 q1 _) ?_
    obtain ⟨w_11, s_11, bb_11, fx_11⟩ := Sg.st_ser bc_9 k_9 ((5 + (1 + n % 1000)))
    have bc_11 : Blk w_11 q1 (Sg.cs (⟨m.sid, m.root, m.pri, m.pub, m.peer, m.sk, m.rk, 1, 1, 5, m.got, 0, (5 + (1 + n % 1000)), Hl.z, m.bind⟩ : Sg)) 33 := bb_11
    have k_11 : Sg.ok (⟨m.sid, m.root, m.pri, m.pub, m.peer, m.sk, m.rk, 1, 1, 5, m.got, 0, (5 + (1 + n % 1000)), Hl.z, m.bind⟩ : Sg) := k_9.s_ser (x := (5 + (1 + n % 1000))) (by first | decide | omega)
    clear bb_11
    refine WL.store rfl rfl rfl s_11 ?_
    have be_12 := bfx be_10 (by omega) fx_11
    refine WL.done ?_
    refine pn_block ?_
    refine EW.on ?_
    refine EW.seq ?_
    refine EW.region ?_
    first | refine WL.load rfl rfl rfl (Sg.ld bc_11 k_11) ?_
    have ng : ¬ Good (⟨m.sid, m.root, m.pri, m.pub, m.peer, m.sk, m.rk, 1, 1, 5, m.got, 0, (5 + (1 + n % 1000)), Hl.z, m.bind⟩ : Sg) := fun g => by
      have e := g.2.2.1.2.1 rfl
      dsimp only at e
      omega
    refine WL.call [Sg.v (⟨m.sid, m.root, m.pri, m.pub, m.peer, m.sk, m.rk, 1, 1, 5, m.got, 0, (5 + (1 + n % 1000)), Hl.z, m.bind⟩ : Sg)] enter12 rfl rfl rfl (encode_any _ k_11 _) ?_
    rintro _ w7 ⟨v7, rfl, o7, e7⟩
    rw [if_neg ng] at o7
    rw [chkD, if_neg ng]
    refine ⟨_, rfl, ?_⟩
    have b7 := bc_11.on e7
    first | refine WL.move rfl rfl rfl ?_
    first | refine WL.extract rfl rfl rfl (ext_2 _ _ _).1 ?_
    first | refine WL.extract rfl rfl rfl (ext_2 _ _ _).2 ?_
    first | refine WL.assign rfl rfl rfl ?_
    first | refine WL.assign rfl rfl rfl ?_
    refine WL.done ?_
    refine EW.on ?_
    refine EW.seq ?_
    refine EW.region ?_
    first | refine WL.load rfl rfl rfl (Sg.ld b7 k_11) ?_
    refine WL.call [Sg.v (⟨m.sid, m.root, m.pri, m.pub, m.peer, m.sk, m.rk, 1, 1, 5, m.got, 0, (5 + (1 + n % 1000)), Hl.z, m.bind⟩ : Sg)] enter10 rfl rfl rfl (check_any _ k_11 _) ?_
    rintro _ w8 ⟨rfl, e8⟩
    rw [chkD, if_neg ng]
    refine ⟨_, rfl, ?_⟩
    first | refine WL.bin rfl rfl rfl rfl (int_eq_t rfl _ _ _) ?_ | refine WL.bin rfl rfl rfl rfl (int_eq_t ‹_› _ _ _) ?_ | refine WL.bin rfl rfl rfl rfl (int_eq_f ‹_› _ _ _) ?_ | refine WL.bin rfl rfl rfl rfl (int_eq_d _ _ _ _ _) ?_
    first | refine WL.move rfl rfl rfl ?_
    first | refine WL.move rfl rfl rfl ?_ | refine WL.skip _ rfl rfl rfl ?_
    first | refine WL.bin rfl rfl rfl rfl (int_eq_t rfl _ _ _) ?_ | refine WL.bin rfl rfl rfl rfl (int_eq_t ‹_› _ _ _) ?_ | refine WL.bin rfl rfl rfl rfl (int_eq_f ‹_› _ _ _) ?_ | refine WL.bin rfl rfl rfl rfl (int_eq_d _ _ _ _ _) ?_ | refine WL.skip _ rfl rfl rfl ?_
    first | refine WL.pick rfl rfl rfl rfl ?_
    first | refine WL.move rfl rfl rfl ?_
    first | refine WL.move rfl rfl rfl ?_ | refine WL.skip _ rfl rfl rfl ?_
    refine WL.len rfl rfl rfl (o7.has.len _ _) ?_
    first | refine WL.bin rfl rfl rfl rfl (int_eq_t rfl _ _ _) ?_ | refine WL.bin rfl rfl rfl rfl (int_eq_t ‹_› _ _ _) ?_ | refine WL.bin rfl rfl rfl rfl (int_eq_f ‹_› _ _ _) ?_ | refine WL.bin rfl rfl rfl rfl (int_eq_d _ _ _ _ _) ?_ | refine WL.skip _ rfl rfl rfl ?_
    first | refine WL.pick rfl rfl rfl rfl ?_
    first | refine WL.assign rfl rfl rfl ?_
    refine WL.done ?_
    refine EW.on ?_
    refine EW.ret ?_
    exact EW.returns Try.results3 rfl ⟨rfl, bt (bt be_12 e7) e8⟩
  · refine EW.region ?_
    refine WL.bin rfl rfl rfl rfl (int_eq_f (by omega) _ _ _) ?_
    first | refine WL.assign rfl rfl rfl ?_
    refine WL.done ?_
    refine EW.on ?_
    refine EW.cond_f rfl ?_
    refine EW.seq ?_
    refine EW.region ?_
    refine WL.bin rfl rfl rfl rfl (int_eq_f (by omega) _ _ _) ?_
    first | refine WL.assign rfl rfl rfl ?_
    refine WL.done ?_
    refine EW.on ?_
    refine EW.cond_f rfl ?_
    refine EW.seq ?_
    refine EW.region ?_
    refine WL.bin rfl rfl rfl rfl (int_eq_f (by omega) _ _ _) ?_
    first | refine WL.assign rfl rfl rfl ?_
    refine WL.done ?_
    refine EW.on ?_
    refine EW.cond_f rfl ?_
    refine EW.seq ?_
    refine EW.region ?_
    refine WL.bin rfl rfl rfl rfl (int_eq_f (by omega) _ _ _) ?_
    first | refine WL.assign rfl rfl rfl ?_
    refine WL.done ?_
    refine EW.on ?_
    refine EW.cond_f rfl ?_
    refine EW.seq ?_
    refine EW.region ?_
    refine WL.bin rfl rfl rfl rfl (int_eq_f (by omega) _ _ _) ?_
    first | refine WL.assign rfl rfl rfl ?_
    refine WL.done ?_
    refine EW.on ?_
    refine EW.cond_f rfl ?_
    refine EW.seq ?_
    refine EW.region ?_
    refine WL.bin rfl rfl rfl rfl (int_eq_f (by omega) _ _ _) ?_
    first | refine WL.assign rfl rfl rfl ?_
    refine WL.done ?_
    refine EW.on ?_
    refine EW.cond_f rfl ?_
    refine EW.seq ?_
    refine EW.region ?_
    refine WL.bin rfl rfl rfl rfl (int_eq_f (by omega) _ _ _) ?_
    first | refine WL.assign rfl rfl rfl ?_
    refine WL.done ?_
    refine EW.on ?_
    refine EW.cond_f rfl ?_
    refine EW.seq ?_
    refine EW.region ?_
    refine WL.bin rfl rfl rfl rfl (int_eq_t (by omega) _ _ _) ?_
    first | refine WL.assign rfl rfl rfl ?_
    refine WL.done ?_
    refine EW.on ?_
    refine EW.cond_t rfl ?_
    refine EW.seq ?_
    refine EW.region ?_
    first | refine WL.buildN [] rfl rfl rfl (bd30 _) ?_
    first | refine WL.field rfl rfl rfl (f33_6 q1 _) ?_
    obtain ⟨w_1, s_1, bb_1, fx_1⟩ := Sg.st_own bq1_0 km 2
    have bc_1 : Blk w_1 q1 (Sg.cs (⟨m.sid, m.root, m.pri, m.pub, m.peer, m.sk, m.rk, 2, m.turns, m.sent, m.got, m.prev, m.ser, m.hl, m.bind⟩ : Sg)) 33 := bb_1
    have k_1 : Sg.ok (⟨m.sid, m.root, m.pri, m.pub, m.peer, m.sk, m.rk, 2, m.turns, m.sent, m.got, m.prev, m.ser, m.hl, m.bind⟩ : Sg) := km.s_own (x := 2) (by first | decide | omega)
    clear bb_1
    refine WL.store rfl rfl rfl s_1 ?_
    have be_2 := bfx be_0 (by omega) fx_1
    first | refine WL.field rfl rfl rfl (f33_7 q1 _) ?_
    obtain ⟨w_3, s_3, bb_3, fx_3⟩ := Sg.st_turns bc_1 k_1 1
    have bc_3 : Blk w_3 q1 (Sg.cs (⟨m.sid, m.root, m.pri, m.pub, m.peer, m.sk, m.rk, 2, 1, m.sent, m.got, m.prev, m.ser, m.hl, m.bind⟩ : Sg)) 33 := bb_3
    have k_3 : Sg.ok (⟨m.sid, m.root, m.pri, m.pub, m.peer, m.sk, m.rk, 2, 1, m.sent, m.got, m.prev, m.ser, m.hl, m.bind⟩ : Sg) := k_1.s_turns (x := 1) (by first | decide | omega)
    clear bb_3
    refine WL.store rfl rfl rfl s_3 ?_
    have be_4 := bfx be_2 (by omega) fx_3
    first | refine WL.field rfl rfl rfl (f33_12 q1 _) ?_
    obtain ⟨w_5, s_5, bb_5, fx_5⟩ := Sg.st_hl bc_3 k_3 (x := Hl.z) Hl.z_ok
    have bc_5 : Blk w_5 q1 (Sg.cs (⟨m.sid, m.root, m.pri, m.pub, m.peer, m.sk, m.rk, 2, 1, m.sent, m.got, m.prev, m.ser, Hl.z, m.bind⟩ : Sg)) 33 := bb_5
    have k_5 : Sg.ok (⟨m.sid, m.root, m.pri, m.pub, m.peer, m.sk, m.rk, 2, 1, m.sent, m.got, m.prev, m.ser, Hl.z, m.bind⟩ : Sg) := k_3.s_hl (x := Hl.z) Hl.z_ok
    clear bb_5
    refine WL.store rfl rfl rfl s_5 ?_
    have be_6 := bfx be_4 (by omega) fx_5
    refine WL.done ?_
    refine EW.on ?_
    refine EW.region ?_
    first | refine WL.move rfl rfl rfl ?_
    first | refine WL.move rfl rfl rfl ?_
    refine WL.bin rfl rfl rfl rfl (u_add (n := 4) (m := (1 + n % 1000)) (by omega) _ _ _) ?_
    first | refine WL.field rfl rfl rfl (f33_8 q1 _) ?_
    obtain ⟨w_7, s_7, bb_7, fx_7⟩ := Sg.st_sent bc_5 k_5 5
    have bc_7 : Blk w_7 q1 (Sg.cs (⟨m.sid, m.root, m.pri, m.pub, m.peer, m.sk, m.rk, 2, 1, 5, m.got, m.prev, m.ser, Hl.z, m.bind⟩ : Sg)) 33 := bb_7
    have k_7 : Sg.ok (⟨m.sid, m.root, m.pri, m.pub, m.peer, m.sk, m.rk, 2, 1, 5, m.got, m.prev, m.ser, Hl.z, m.bind⟩ : Sg) := k_5.s_sent (x := 5) (by first | decide | omega)
    clear bb_7
    refine WL.store rfl rfl rfl s_7 ?_
    have be_8 := bfx be_6 (by omega) fx_7
    first | refine WL.field rfl rfl rfl (f33_10 q1 _) ?_
    obtain ⟨w_9, s_9, bb_9, fx_9⟩ := Sg.st_prev bc_7 k_7 ((1 + n % 1000))
    have bc_9 : Blk w_9 q1 (Sg.cs (⟨m.sid, m.root, m.pri, m.pub, m.peer, m.sk, m.rk, 2, 1, 5, m.got, (1 + n % 1000), m.ser, Hl.z, m.bind⟩ : Sg)) 33 := bb_9
    have k_9 : Sg.ok (⟨m.sid, m.root, m.pri, m.pub, m.peer, m.sk, m.rk, 2, 1, 5, m.got, (1 + n % 1000), m.ser, Hl.z, m.bind⟩ : Sg) := k_7.s_prev (x := (1 + n % 1000)) (by first | decide | omega)
    clear bb_9
    refine WL.store rfl rfl rfl s_9 ?_
    have be_10 := bfx be_8 (by omega) fx_9
    first | refine WL.field rfl rfl rfl (f33_11 q1 _) ?_
    obtain ⟨w_11, s_11, bb_11, fx_11⟩ := Sg.st_ser bc_9 k_9 ((4 + (1 + n % 1000)))
    have bc_11 : Blk w_11 q1 (Sg.cs (⟨m.sid, m.root, m.pri, m.pub, m.peer, m.sk, m.rk, 2, 1, 5, m.got, (1 + n % 1000), (4 + (1 + n % 1000)), Hl.z, m.bind⟩ : Sg)) 33 := bb_11
    have k_11 : Sg.ok (⟨m.sid, m.root, m.pri, m.pub, m.peer, m.sk, m.rk, 2, 1, 5, m.got, (1 + n % 1000), (4 + (1 + n % 1000)), Hl.z, m.bind⟩ : Sg) := k_9.s_ser (x := (4 + (1 + n % 1000))) (by first | decide | omega)
    clear bb_11
    refine WL.store rfl rfl rfl s_11 ?_
    have be_12 := bfx be_10 (by omega) fx_11
    refine WL.done ?_
    refine pn_block ?_
    refine EW.on ?_
    refine EW.seq ?_
    refine EW.region ?_
    first | refine WL.load rfl rfl rfl (Sg.ld bc_11 k_11) ?_
    have ng : ¬ Good (⟨m.sid, m.root, m.pri, m.pub, m.peer, m.sk, m.rk, 2, 1, 5, m.got, (1 + n % 1000), (4 + (1 + n % 1000)), Hl.z, m.bind⟩ : Sg) := fun g => by
      have e := g.2.2.1.2.2 (by show ¬ 2 = 1; decide)
      dsimp only at e
      omega
    refine WL.call [Sg.v (⟨m.sid, m.root, m.pri, m.pub, m.peer, m.sk, m.rk, 2, 1, 5, m.got, (1 + n % 1000), (4 + (1 + n % 1000)), Hl.z, m.bind⟩ : Sg)] enter12 rfl rfl rfl (encode_any _ k_11 _) ?_
    rintro _ w7 ⟨v7, rfl, o7, e7⟩
    rw [if_neg ng] at o7
    rw [chkD, if_neg ng]
    refine ⟨_, rfl, ?_⟩
    have b7 := bc_11.on e7
    first | refine WL.move rfl rfl rfl ?_
    first | refine WL.extract rfl rfl rfl (ext_2 _ _ _).1 ?_
    first | refine WL.extract rfl rfl rfl (ext_2 _ _ _).2 ?_
    first | refine WL.assign rfl rfl rfl ?_
    first | refine WL.assign rfl rfl rfl ?_
    refine WL.done ?_
    refine EW.on ?_
    refine EW.seq ?_
    refine EW.region ?_
    first | refine WL.load rfl rfl rfl (Sg.ld b7 k_11) ?_
    refine WL.call [Sg.v (⟨m.sid, m.root, m.pri, m.pub, m.peer, m.sk, m.rk, 2, 1, 5, m.got, (1 + n % 1000), (4 + (1 + n % 1000)), Hl.z, m.bind⟩ : Sg)] enter10 rfl rfl rfl (check_any _ k_11 _) ?_
    rintro _ w8 ⟨rfl, e8⟩
    rw [chkD, if_neg ng]
    refine ⟨_, rfl, ?_⟩
    first | refine WL.bin rfl rfl rfl rfl (int_eq_t rfl _ _ _) ?_ | refine WL.bin rfl rfl rfl rfl (int_eq_t ‹_› _ _ _) ?_ | refine WL.bin rfl rfl rfl rfl (int_eq_f ‹_› _ _ _) ?_ | refine WL.bin rfl rfl rfl rfl (int_eq_d _ _ _ _ _) ?_
    first | refine WL.move rfl rfl rfl ?_
    first | refine WL.move rfl rfl rfl ?_ | refine WL.skip _ rfl rfl rfl ?_
    first | refine WL.bin rfl rfl rfl rfl (int_eq_t rfl _ _ _) ?_ | refine WL.bin rfl rfl rfl rfl (int_eq_t ‹_› _ _ _) ?_ | refine WL.bin rfl rfl rfl rfl (int_eq_f ‹_› _ _ _) ?_ | refine WL.bin rfl rfl rfl rfl (int_eq_d _ _ _ _ _) ?_ | refine WL.skip _ rfl rfl rfl ?_
    first | refine WL.pick rfl rfl rfl rfl ?_
    first | refine WL.move rfl rfl rfl ?_
    first | refine WL.move rfl rfl rfl ?_ | refine WL.skip _ rfl rfl rfl ?_
    refine WL.len rfl rfl rfl (o7.has.len _ _) ?_
    first | refine WL.bin rfl rfl rfl rfl (int_eq_t rfl _ _ _) ?_ | refine WL.bin rfl rfl rfl rfl (int_eq_t ‹_› _ _ _) ?_ | refine WL.bin rfl rfl rfl rfl (int_eq_f ‹_› _ _ _) ?_ | refine WL.bin rfl rfl rfl rfl (int_eq_d _ _ _ _ _) ?_ | refine WL.skip _ rfl rfl rfl ?_
    first | refine WL.pick rfl rfl rfl rfl ?_
    first | refine WL.assign rfl rfl rfl ?_
    refine WL.done ?_
    refine EW.on ?_
    refine EW.ret ?_
    exact EW.returns Try.results3 rfl ⟨rfl, bt (bt be_12 e7) e8⟩
  · refine EW.region ?_
    refine WL.bin rfl rfl rfl rfl (int_eq_f (by omega) _ _ _) ?_
    first | refine WL.assign rfl rfl rfl ?_
    refine WL.done ?_
    refine EW.on ?_
    refine EW.cond_f rfl ?_
    refine EW.seq ?_
    refine EW.region ?_
    refine WL.bin rfl rfl rfl rfl (int_eq_f (by omega) _ _ _) ?_
    first | refine WL.assign rfl rfl rfl ?_
    refine WL.done ?_
    refine EW.on ?_
    refine EW.cond_f rfl ?_
    refine EW.seq ?_
    refine EW.region ?_
    refine WL.bin rfl rfl rfl rfl (int_eq_f (by omega) _ _ _) ?_
    first | refine WL.assign rfl rfl rfl ?_
    refine WL.done ?_
    refine EW.on ?_
    refine EW.cond_f rfl ?_
    refine EW.seq ?_
    refine EW.region ?_
    refine WL.bin rfl rfl rfl rfl (int_eq_f (by omega) _ _ _) ?_
    first | refine WL.assign rfl rfl rfl ?_
    refine WL.done ?_
    refine EW.on ?_
    refine EW.cond_f rfl ?_
    refine EW.seq ?_
    refine EW.region ?_
    refine WL.bin rfl rfl rfl rfl (int_eq_f (by omega) _ _ _) ?_
    first | refine WL.assign rfl rfl rfl ?_
    refine WL.done ?_
    refine EW.on ?_
    refine EW.cond_f rfl ?_
    refine EW.seq ?_
    refine EW.region ?_
    refine WL.bin rfl rfl rfl rfl (int_eq_f (by omega) _ _ _) ?_
    first | refine WL.assign rfl rfl rfl ?_
    refine WL.done ?_
    refine EW.on ?_
    refine EW.cond_f rfl ?_
    refine EW.seq ?_
    refine EW.region ?_
    refine WL.bin rfl rfl rfl rfl (int_eq_f (by omega) _ _ _) ?_
    first | refine WL.assign rfl rfl rfl ?_
    refine WL.done ?_
    refine EW.on ?_
    refine EW.cond_f rfl ?_
    refine EW.seq ?_
    refine EW.region ?_
    refine WL.bin rfl rfl rfl rfl (int_eq_f (by omega) _ _ _) ?_
    first | refine WL.assign rfl rfl rfl ?_
    refine WL.done ?_
    refine EW.on ?_
    refine EW.cond_f rfl ?_
    refine EW.seq ?_
    refine EW.region ?_
    refine WL.bin rfl rfl rfl rfl (int_eq_t (by omega) _ _ _) ?_
    first | refine WL.assign rfl rfl rfl ?_
    refine WL.done ?_
    refine EW.on ?_
    refine EW.cond_t rfl ?_
    refine EW.seq ?_
    refine EW.region ?_
    first | refine WL.field rfl rfl rfl (f33_6 q1 _) ?_
    obtain ⟨w_1, s_1, bb_1, fx_1⟩ := Sg.st_own bq1_0 km 1
    have bc_1 : Blk w_1 q1 (Sg.cs (⟨m.sid, m.root, m.pri, m.pub, m.peer, m.sk, m.rk, 1, m.turns, m.sent, m.got, m.prev, m.ser, m.hl, m.bind⟩ : Sg)) 33 := bb_1
    have k_1 : Sg.ok (⟨m.sid, m.root, m.pri, m.pub, m.peer, m.sk, m.rk, 1, m.turns, m.sent, m.got, m.prev, m.ser, m.hl, m.bind⟩ : Sg) := km.s_own (x := 1) (by first | decide | omega)
    clear bb_1
    refine WL.store rfl rfl rfl s_1 ?_
    have be_2 := bfx be_0 (by omega) fx_1
    first | refine WL.field rfl rfl rfl (f33_7 q1 _) ?_
    obtain ⟨w_3, s_3, bb_3, fx_3⟩ := Sg.st_turns bc_1 k_1 1
    have bc_3 : Blk w_3 q1 (Sg.cs (⟨m.sid, m.root, m.pri, m.pub, m.peer, m.sk, m.rk, 1, 1, m.sent, m.got, m.prev, m.ser, m.hl, m.bind⟩ : Sg)) 33 := bb_3
    have k_3 : Sg.ok (⟨m.sid, m.root, m.pri, m.pub, m.peer, m.sk, m.rk, 1, 1, m.sent, m.got, m.prev, m.ser, m.hl, m.bind⟩ : Sg) := k_1.s_turns (x := 1) (by first | decide | omega)
    clear bb_3
    refine WL.store rfl rfl rfl s_3 ?_
    have be_4 := bfx be_2 (by omega) fx_3
    first | refine WL.field rfl rfl rfl (f33_10 q1 _) ?_
    obtain ⟨w_5, s_5, bb_5, fx_5⟩ := Sg.st_prev bc_3 k_3 0
    have bc_5 : Blk w_5 q1 (Sg.cs (⟨m.sid, m.root, m.pri, m.pub, m.peer, m.sk, m.rk, 1, 1, m.sent, m.got, 0, m.ser, m.hl, m.bind⟩ : Sg)) 33 := bb_5
    have k_5 : Sg.ok (⟨m.sid, m.root, m.pri, m.pub, m.peer, m.sk, m.rk, 1, 1, m.sent, m.got, 0, m.ser, m.hl, m.bind⟩ : Sg) := k_3.s_prev (x := 0) (by first | decide | omega)
    clear bb_5
    refine WL.store rfl rfl rfl s_5 ?_
    have be_6 := bfx be_4 (by omega) fx_5
    first | refine WL.field rfl rfl rfl (f33_8 q1 _) ?_
    obtain ⟨w_7, s_7, bb_7, fx_7⟩ := Sg.st_sent bc_5 k_5 0
    have bc_7 : Blk w_7 q1 (Sg.cs (⟨m.sid, m.root, m.pri, m.pub, m.peer, m.sk, m.rk, 1, 1, 0, m.got, 0, m.ser, m.hl, m.bind⟩ : Sg)) 33 := bb_7
    have k_7 : Sg.ok (⟨m.sid, m.root, m.pri, m.pub, m.peer, m.sk, m.rk, 1, 1, 0, m.got, 0, m.ser, m.hl, m.bind⟩ : Sg) := k_5.s_sent (x := 0) (by first | decide | omega)
    clear bb_7
    refine WL.store rfl rfl rfl s_7 ?_
    have be_8 := bfx be_6 (by omega) fx_7
    first | refine WL.field rfl rfl rfl (f33_11 q1 _) ?_
    obtain ⟨w_9, s_9, bb_9, fx_9⟩ := Sg.st_ser bc_7 k_7 0
    have bc_9 : Blk w_9 q1 (Sg.cs (⟨m.sid, m.root, m.pri, m.pub, m.peer, m.sk, m.rk, 1, 1, 0, m.got, 0, 0, m.hl, m.bind⟩ : Sg)) 33 := bb_9
    have k_9 : Sg.ok (⟨m.sid, m.root, m.pri, m.pub, m.peer, m.sk, m.rk, 1, 1, 0, m.got, 0, 0, m.hl, m.bind⟩ : Sg) := k_7.s_ser (x := 0) (by first | decide | omega)
    clear bb_9
    refine WL.store rfl rfl rfl s_9 ?_
    have be_10 := bfx be_8 (by omega) fx_9
    refine WL.done ?_
    refine EW.on ?_
    refine EW.seq ?_
    refine EW.region ?_
    first | refine WL.field rfl rfl rfl (f33_13 q1 _) ?_
    refine WL.index rfl rfl rfl rfl (ix31 q1 279 3 (by decide) _) ?_
    obtain ⟨w_11, s_11, bb_11, fx_11⟩ := Sg.stI_bind (i := 3) bc_9 k_9 (by decide) 1
    have bc_11 : Blk w_11 q1 (Sg.cs (⟨m.sid, m.root, m.pri, m.pub, m.peer, m.sk, m.rk, 1, 1, 0, m.got, 0, 0, m.hl, (m.bind.set 3 1)⟩ : Sg)) 33 := bb_11
    have k_11 : Sg.ok (⟨m.sid, m.root, m.pri, m.pub, m.peer, m.sk, m.rk, 1, 1, 0, m.got, 0, 0, m.hl, (m.bind.set 3 1)⟩ : Sg) := Sg.ok.sI_bind k_9 3 1
    clear bb_11
    refine WL.store rfl rfl rfl s_11 ?_
    have be_12 := bfx be_10 (by omega) fx_11
    refine WL.done ?_
    refine EW.on ?_
    refine EW.region ?_
    first | refine WL.field rfl rfl rfl (f33_13 q1 _) ?_
    refine WL.sliceH rfl rfl rfl rfl (cut31 q1 279 _) ?_
    refine WL.s2a rfl rfl rfl (s2a q1 279 32 64 (by decide) _) ?_
    refine WL.load rfl rfl rfl (Sg.ld_first bc_11 k_11) ?_
    refine WL.buildN [(0, kv (((m.bind.set 3 1)).take 32))] rfl rfl rfl (bdH0 (takeB k_11.bind) _) ?_
    first | refine WL.field rfl rfl rfl (f33_12 q1 _) ?_
    obtain ⟨w_13, s_13, bb_13, fx_13⟩ := Sg.st_hl bc_11 k_11 (x := (⟨(((m.bind.set 3 1)).take 32), z32, 0⟩ : Hl)) ⟨(takeB k_11.bind), rfl, by show 0 < 4294967296; decide⟩
    have bc_13 : Blk w_13 q1 (Sg.cs (⟨m.sid, m.root, m.pri, m.pub, m.peer, m.sk, m.rk, 1, 1, 0, m.got, 0, 0, (⟨(((m.bind.set 3 1)).take 32), z32, 0⟩ : Hl), (m.bind.set 3 1)⟩ : Sg)) 33 := bb_13
    have k_13 : Sg.ok (⟨m.sid, m.root, m.pri, m.pub, m.peer, m.sk, m.rk, 1, 1, 0, m.got, 0, 0, (⟨(((m.bind.set 3 1)).take 32), z32, 0⟩ : Hl), (m.bind.set 3 1)⟩ : Sg) := k_11.s_hl (x := (⟨(((m.bind.set 3 1)).take 32), z32, 0⟩ : Hl)) ⟨(takeB k_11.bind), rfl, by show 0 < 4294967296; decide⟩
    clear bb_13
    refine WL.store rfl rfl rfl s_13 ?_
    have be_14 := bfx be_12 (by omega) fx_13
    refine WL.done ?_
    refine pn_block ?_
    refine EW.on ?_
    refine EW.seq ?_
    refine EW.region ?_
    first | refine WL.load rfl rfl rfl (Sg.ld bc_13 k_13) ?_
    have ng : ¬ Good (⟨m.sid, m.root, m.pri, m.pub, m.peer, m.sk, m.rk, 1, 1, 0, m.got, 0, 0, (⟨(((m.bind.set 3 1)).take 32), z32, 0⟩ : Hl), (m.bind.set 3 1)⟩ : Sg) := fun g => by
      have e := congrArg Sg.hl g.2.1
      simp only [cntD] at e
      simp only [Nat.one_ne_zero, Nat.lt_one_iff, false_or, Nat.zero_lt_one, if_true] at e
      exact set3_ne km.bind (congrArg Hl.id e)
    refine WL.call [Sg.v (⟨m.sid, m.root, m.pri, m.pub, m.peer, m.sk, m.rk, 1, 1, 0, m.got, 0, 0, (⟨(((m.bind.set 3 1)).take 32), z32, 0⟩ : Hl), (m.bind.set 3 1)⟩ : Sg)] enter12 rfl rfl rfl (encode_any _ k_13 _) ?_
    rintro _ w7 ⟨v7, rfl, o7, e7⟩
    rw [if_neg ng] at o7
    rw [chkD, if_neg ng]
    refine ⟨_, rfl, ?_⟩
    have b7 := bc_13.on e7
    first | refine WL.move rfl rfl rfl ?_
    first | refine WL.extract rfl rfl rfl (ext_2 _ _ _).1 ?_
    first | refine WL.extract rfl rfl rfl (ext_2 _ _ _).2 ?_
    first | refine WL.assign rfl rfl rfl ?_
    first | refine WL.assign rfl rfl rfl ?_
    refine WL.done ?_
    refine EW.on ?_
    refine EW.seq ?_
    refine EW.region ?_
    first | refine WL.load rfl rfl rfl (Sg.ld b7 k_13) ?_
    refine WL.call [Sg.v (⟨m.sid, m.root, m.pri, m.pub, m.peer, m.sk, m.rk, 1, 1, 0, m.got, 0, 0, (⟨(((m.bind.set 3 1)).take 32), z32, 0⟩ : Hl), (m.bind.set 3 1)⟩ : Sg)] enter10 rfl rfl rfl (check_any _ k_13 _) ?_
    rintro _ w8 ⟨rfl, e8⟩
    rw [chkD, if_neg ng]
    refine ⟨_, rfl, ?_⟩
    first | refine WL.bin rfl rfl rfl rfl (int_eq_t rfl _ _ _) ?_ | refine WL.bin rfl rfl rfl rfl (int_eq_t ‹_› _ _ _) ?_ | refine WL.bin rfl rfl rfl rfl (int_eq_f ‹_› _ _ _) ?_ | refine WL.bin rfl rfl rfl rfl (int_eq_d _ _ _ _ _) ?_
    first | refine WL.move rfl rfl rfl ?_
    first | refine WL.move rfl rfl rfl ?_ | refine WL.skip _ rfl rfl rfl ?_
    first | refine WL.bin rfl rfl rfl rfl (int_eq_t rfl _ _ _) ?_ | refine WL.bin rfl rfl rfl rfl (int_eq_t ‹_› _ _ _) ?_ | refine WL.bin rfl rfl rfl rfl (int_eq_f ‹_› _ _ _) ?_ | refine WL.bin rfl rfl rfl rfl (int_eq_d _ _ _ _ _) ?_ | refine WL.skip _ rfl rfl rfl ?_
    first | refine WL.pick rfl rfl rfl rfl ?_
    first | refine WL.move rfl rfl rfl ?_
    first | refine WL.move rfl rfl rfl ?_ | refine WL.skip _ rfl rfl rfl ?_
    refine WL.len rfl rfl rfl (o7.has.len _ _) ?_
    first | refine WL.bin rfl rfl rfl rfl (int_eq_t rfl _ _ _) ?_ | refine WL.bin rfl rfl rfl rfl (int_eq_t ‹_› _ _ _) ?_ | refine WL.bin rfl rfl rfl rfl (int_eq_f ‹_› _ _ _) ?_ | refine WL.bin rfl rfl rfl rfl (int_eq_d _ _ _ _ _) ?_ | refine WL.skip _ rfl rfl rfl ?_
    first | refine WL.pick rfl rfl rfl rfl ?_
    first | refine WL.assign rfl rfl rfl ?_
    refine WL.done ?_
    refine EW.on ?_
    refine EW.ret ?_
    exact EW.returns Try.results3 rfl ⟨rfl, bt (bt be_14 e7) e8⟩
  · refine EW.region ?_
    refine WL.bin rfl rfl rfl rfl (int_eq_f (by omega) _ _ _) ?_
    first | refine WL.assign rfl rfl rfl ?_
    refine WL.done ?_
    refine EW.on ?_
    refine EW.cond_f rfl ?_
    refine EW.seq ?_
    refine EW.region ?_
    refine WL.bin rfl rfl rfl rfl (int_eq_f (by omega) _ _ _) ?_
    first | refine WL.assign rfl rfl rfl ?_
    refine WL.done ?_
    refine EW.on ?_
    refine EW.cond_f rfl ?_
    refine EW.seq ?_
    refine EW.region ?_
    refine WL.bin rfl rfl rfl rfl (int_eq_f (by omega) _ _ _) ?_
    first | refine WL.assign rfl rfl rfl ?_
    refine WL.done ?_
    refine EW.on ?_
    refine EW.cond_f rfl ?_
    refine EW.seq ?_
    refine EW.region ?_
    refine WL.bin rfl rfl rfl rfl (int_eq_f (by omega) _ _ _) ?_
    first | refine WL.assign rfl rfl rfl ?_
    refine WL.done ?_
    refine EW.on ?_
    refine EW.cond_f rfl ?_
    refine EW.seq ?_
    refine EW.region ?_
    refine WL.bin rfl rfl rfl rfl (int_eq_f (by omega) _ _ _) ?_
    first | refine WL.assign rfl rfl rfl ?_
    refine WL.done ?_
    refine EW.on ?_
    refine EW.cond_f rfl ?_
    refine EW.seq ?_
    refine EW.region ?_
    refine WL.bin rfl rfl rfl rfl (int_eq_f (by omega) _ _ _) ?_
    first | refine WL.assign rfl rfl rfl ?_
    refine WL.done ?_
    refine EW.on ?_
    refine EW.cond_f rfl ?_
    refine EW.seq ?_
    refine EW.region ?_
    refine WL.bin rfl rfl rfl rfl (int_eq_f (by omega) _ _ _) ?_
    first | refine WL.assign rfl rfl rfl ?_
    refine WL.done ?_
    refine EW.on ?_
    refine EW.cond_f rfl ?_
    refine EW.seq ?_
    refine EW.region ?_
    refine WL.bin rfl rfl rfl rfl (int_eq_f (by omega) _ _ _) ?_
    first | refine WL.assign rfl rfl rfl ?_
    refine WL.done ?_
    refine EW.on ?_
    refine EW.cond_f rfl ?_
    refine EW.seq ?_
    refine EW.region ?_
    refine WL.bin rfl rfl rfl rfl (int_eq_f (by omega) _ _ _) ?_
    first | refine WL.assign rfl rfl rfl ?_
    refine WL.done ?_
    refine EW.on ?_
    refine EW.cond_f rfl ?_
    refine EW.seq ?_
    refine EW.region ?_
    first | refine WL.buildN [] rfl rfl rfl (bd25 _) ?_
    first | refine WL.field rfl rfl rfl (f33_6 q1 _) ?_
    obtain ⟨w_1, s_1, bb_1, fx_1⟩ := Sg.st_own bq1_0 km 1
    have bc_1 : Blk w_1 q1 (Sg.cs (⟨m.sid, m.root, m.pri, m.pub, m.peer, m.sk, m.rk, 1, m.turns, m.sent, m.got, m.prev, m.ser, m.hl, m.bind⟩ : Sg)) 33 := bb_1
    have k_1 : Sg.ok (⟨m.sid, m.root, m.pri, m.pub, m.peer, m.sk, m.rk, 1, m.turns, m.sent, m.got, m.prev, m.ser, m.hl, m.bind⟩ : Sg) := km.s_own (x := 1) (by first | decide | omega)
    clear bb_1
    refine WL.store rfl rfl rfl s_1 ?_
    have be_2 := bfx be_0 (by omega) fx_1
    first | refine WL.field rfl rfl rfl (f33_7 q1 _) ?_
    obtain ⟨w_3, s_3, bb_3, fx_3⟩ := Sg.st_turns bc_1 k_1 0
    have bc_3 : Blk w_3 q1 (Sg.cs (⟨m.sid, m.root, m.pri, m.pub, m.peer, m.sk, m.rk, 1, 0, m.sent, m.got, m.prev, m.ser, m.hl, m.bind⟩ : Sg)) 33 := bb_3
    have k_3 : Sg.ok (⟨m.sid, m.root, m.pri, m.pub, m.peer, m.sk, m.rk, 1, 0, m.sent, m.got, m.prev, m.ser, m.hl, m.bind⟩ : Sg) := k_1.s_turns (x := 0) (by first | decide | omega)
    clear bb_3
    refine WL.store rfl rfl rfl s_3 ?_
    have be_4 := bfx be_2 (by omega) fx_3
    first | refine WL.field rfl rfl rfl (f33_10 q1 _) ?_
    obtain ⟨w_5, s_5, bb_5, fx_5⟩ := Sg.st_prev bc_3 k_3 0
    have bc_5 : Blk w_5 q1 (Sg.cs (⟨m.sid, m.root, m.pri, m.pub, m.peer, m.sk, m.rk, 1, 0, m.sent, m.got, 0, m.ser, m.hl, m.bind⟩ : Sg)) 33 := bb_5
    have k_5 : Sg.ok (⟨m.sid, m.root, m.pri, m.pub, m.peer, m.sk, m.rk, 1, 0, m.sent, m.got, 0, m.ser, m.hl, m.bind⟩ : Sg) := k_3.s_prev (x := 0) (by first | decide | omega)
    clear bb_5
    refine WL.store rfl rfl rfl s_5 ?_
    have be_6 := bfx be_4 (by omega) fx_5
    first | refine WL.field rfl rfl rfl (f33_8 q1 _) ?_
    obtain ⟨w_7, s_7, bb_7, fx_7⟩ := Sg.st_sent bc_5 k_5 0
    have bc_7 : Blk w_7 q1 (Sg.cs (⟨m.sid, m.root, m.pri, m.pub, m.peer, m.sk, m.rk, 1, 0, 0, m.got, 0, m.ser, m.hl, m.bind⟩ : Sg)) 33 := bb_7
    have k_7 : Sg.ok (⟨m.sid, m.root, m.pri, m.pub, m.peer, m.sk, m.rk, 1, 0, 0, m.got, 0, m.ser, m.hl, m.bind⟩ : Sg) := k_5.s_sent (x := 0) (by first | decide | omega)
    clear bb_7
    refine WL.store rfl rfl rfl s_7 ?_
    have be_8 := bfx be_6 (by omega) fx_7
    first | refine WL.field rfl rfl rfl (f33_11 q1 _) ?_
    obtain ⟨w_9, s_9, bb_9, fx_9⟩ := Sg.st_ser bc_7 k_7 0
    have bc_9 : Blk w_9 q1 (Sg.cs (⟨m.sid, m.root, m.pri, m.pub, m.peer, m.sk, m.rk, 1, 0, 0, m.got, 0, 0, m.hl, m.bind⟩ : Sg)) 33 := bb_9
    have k_9 : Sg.ok (⟨m.sid, m.root, m.pri, m.pub, m.peer, m.sk, m.rk, 1, 0, 0, m.got, 0, 0, m.hl, m.bind⟩ : Sg) := k_7.s_ser (x := 0) (by first | decide | omega)
    clear bb_9
    refine WL.store rfl rfl rfl s_9 ?_
    have be_10 := bfx be_8 (by omega) fx_9
    first | refine WL.field rfl rfl rfl (f33_9 q1 _) ?_
    obtain ⟨w_11, s_11, bb_11, fx_11⟩ := Sg.st_got bc_9 k_9 0
    have bc_11 : Blk w_11 q1 (Sg.cs (⟨m.sid, m.root, m.pri, m.pub, m.peer, m.sk, m.rk, 1, 0, 0, 0, 0, 0, m.hl, m.bind⟩ : Sg)) 33 := bb_11
    have k_11 : Sg.ok (⟨m.sid, m.root, m.pri, m.pub, m.peer, m.sk, m.rk, 1, 0, 0, 0, 0, 0, m.hl, m.bind⟩ : Sg) := k_9.s_got (x := 0) (by first | decide | omega)
    clear bb_11
    refine WL.store rfl rfl rfl s_11 ?_
    have be_12 := bfx be_10 (by omega) fx_11
    first | refine WL.field rfl rfl rfl (f33_5 q1 _) ?_
    obtain ⟨w_13, s_13, bb_13, fx_13⟩ := Sg.st_rk bc_11 k_11 (x := z32) rfl
    have bc_13 : Blk w_13 q1 (Sg.cs (⟨m.sid, m.root, m.pri, m.pub, m.peer, m.sk, z32, 1, 0, 0, 0, 0, 0, m.hl, m.bind⟩ : Sg)) 33 := bb_13
    have k_13 : Sg.ok (⟨m.sid, m.root, m.pri, m.pub, m.peer, m.sk, z32, 1, 0, 0, 0, 0, 0, m.hl, m.bind⟩ : Sg) := k_11.s_rk (x := z32) rfl
    clear bb_13
    refine WL.store rfl rfl rfl s_13 ?_
    have be_14 := bfx be_12 (by omega) fx_13
    refine WL.done ?_
    refine EW.on ?_
    refine EW.seq ?_
    refine EW.region ?_
    first | refine WL.field rfl rfl rfl (f33_13 q1 _) ?_
    refine WL.sliceH rfl rfl rfl rfl (cut31 q1 279 _) ?_
    refine WL.s2a rfl rfl rfl (s2a q1 279 32 64 (by decide) _) ?_
    refine WL.load rfl rfl rfl (Sg.ld_first bc_13 k_13) ?_
    first | refine WL.move rfl rfl rfl ?_
    refine WL.buildN [(0, kv (m.bind.take 32)), (2, u32v (1 + n % 1000))] rfl rfl rfl (bdH02 (takeB k_13.bind) _) ?_
    first | refine WL.field rfl rfl rfl (f33_12 q1 _) ?_
    obtain ⟨w_15, s_15, bb_15, fx_15⟩ := Sg.st_hl bc_13 k_13 (x := (⟨(m.bind.take 32), z32, 1 + n % 1000⟩ : Hl)) ⟨(takeB k_13.bind), rfl, by show 1 + n % 1000 < 4294967296; omega⟩
    have bc_15 : Blk w_15 q1 (Sg.cs (⟨m.sid, m.root, m.pri, m.pub, m.peer, m.sk, z32, 1, 0, 0, 0, 0, 0, (⟨(m.bind.take 32), z32, 1 + n % 1000⟩ : Hl), m.bind⟩ : Sg)) 33 := bb_15
    have k_15 : Sg.ok (⟨m.sid, m.root, m.pri, m.pub, m.peer, m.sk, z32, 1, 0, 0, 0, 0, 0, (⟨(m.bind.take 32), z32, 1 + n % 1000⟩ : Hl), m.bind⟩ : Sg) := k_13.s_hl (x := (⟨(m.bind.take 32), z32, 1 + n % 1000⟩ : Hl)) ⟨(takeB k_13.bind), rfl, by show 1 + n % 1000 < 4294967296; omega⟩
    clear bb_15
    refine WL.store rfl rfl rfl s_15 ?_
    have be_16 := bfx be_14 (by omega) fx_15
    refine WL.done ?_
    refine EW.on ?_
    refine EW.region ?_
    first | refine WL.move rfl rfl rfl ?_
    refine WL.conv rfl rfl rfl (conv_n (by omega) _) ?_
    refine WL.call [.int .i64 ((1 + n % 1000 : Nat) : Int), .int .i64 32] enter11 rfl rfl rfl (rest_any ((1 + n % 1000 : Nat) : Int) 32 (by decide) (by decide) _) ?_
    rintro _ _ ⟨rfl, rfl⟩
    obtain ⟨J, hJe⟩ : ∃ J, rsD ((1 + n % 1000 : Nat) : Int) 32 = J := ⟨_, rfl⟩
    have hJ : J < 32 := by rw [← hJe]; exact (rsD_lt _ (by decide)).1
    rw [hJe]
    refine ⟨_, rfl, ?_⟩
    first | refine WL.field rfl rfl rfl (f33_12 q1 _) ?_
    first | refine WL.field rfl rfl rfl (f30_0 q1 214 _) ?_
    refine WL.index rfl rfl rfl rfl (ix25 q1 214 J hJ _) ?_
    refine WL.load rfl rfl rfl (Sg.ldI_hid (i := J) bc_15 k_15 hJ) ?_
    refine WL.bin rfl rfl rfl rfl (xor1 (((m.bind.take 32)).getD J 0) _ _ _) ?_
    first | refine WL.field rfl rfl rfl (f33_12 q1 _) ?_
    first | refine WL.field rfl rfl rfl (f30_0 q1 214 _) ?_
    refine WL.index rfl rfl rfl rfl (ix25 q1 214 J hJ _) ?_
    obtain ⟨w_17, s_17, bb_17, fx_17⟩ := Sg.stI_hid (i := J) bc_15 k_15 hJ (((((m.bind.take 32)).getD J 0) ^^^ 1))
    have bc_17 : Blk w_17 q1 (Sg.cs (⟨m.sid, m.root, m.pri, m.pub, m.peer, m.sk, z32, 1, 0, 0, 0, 0, 0, (⟨((m.bind.take 32).set J (((((m.bind.take 32)).getD J 0) ^^^ 1))), z32, 1 + n % 1000⟩ : Hl), m.bind⟩ : Sg)) 33 := bb_17
    have k_17 : Sg.ok (⟨m.sid, m.root, m.pri, m.pub, m.peer, m.sk, z32, 1, 0, 0, 0, 0, 0, (⟨((m.bind.take 32).set J (((((m.bind.take 32)).getD J 0) ^^^ 1))), z32, 1 + n % 1000⟩ : Hl), m.bind⟩ : Sg) := Sg.ok.sI_hid k_15 J (((((m.bind.take 32)).getD J 0) ^^^ 1))
    clear bb_17
    refine WL.store rfl rfl rfl s_17 ?_
    have be_18 := bfx be_16 (by omega) fx_17
    refine WL.done ?_
    refine pn_block ?_
    refine EW.on ?_
    refine EW.seq ?_
    refine EW.region ?_
    first | refine WL.load rfl rfl rfl (Sg.ld bc_17 k_17) ?_
    have ng : ¬ Good (⟨m.sid, m.root, m.pri, m.pub, m.peer, m.sk, z32, 1, 0, 0, 0, 0, 0, (⟨((m.bind.take 32).set J (((((m.bind.take 32)).getD J 0) ^^^ 1))), z32, 1 + n % 1000⟩ : Hl), m.bind⟩ : Sg) := fun g => by
      rcases g.2.2.2 with e | ⟨_, e⟩
      · have e2 := congrArg Hl.pre e
        simp [Hl.z] at e2
      · exact set_ne (by rw [take32 km]; exact hJ) e
    refine WL.call [Sg.v (⟨m.sid, m.root, m.pri, m.pub, m.peer, m.sk, z32, 1, 0, 0, 0, 0, 0, (⟨((m.bind.take 32).set J (((((m.bind.take 32)).getD J 0) ^^^ 1))), z32, 1 + n % 1000⟩ : Hl), m.bind⟩ : Sg)] enter12 rfl rfl rfl (encode_any _ k_17 _) ?_
    rintro _ w7 ⟨v7, rfl, o7, e7⟩
    rw [if_neg ng] at o7
    rw [chkD, if_neg ng]
    refine ⟨_, rfl, ?_⟩
    have b7 := bc_17.on e7
    first | refine WL.move rfl rfl rfl ?_
    first | refine WL.extract rfl rfl rfl (ext_2 _ _ _).1 ?_
    first | refine WL.extract rfl rfl rfl (ext_2 _ _ _).2 ?_
    first | refine WL.assign rfl rfl rfl ?_
    first | refine WL.assign rfl rfl rfl ?_
    refine WL.done ?_
    refine EW.on ?_
    refine EW.seq ?_
    refine EW.region ?_
    first | refine WL.load rfl rfl rfl (Sg.ld b7 k_17) ?_
    refine WL.call [Sg.v (⟨m.sid, m.root, m.pri, m.pub, m.peer, m.sk, z32, 1, 0, 0, 0, 0, 0, (⟨((m.bind.take 32).set J (((((m.bind.take 32)).getD J 0) ^^^ 1))), z32, 1 + n % 1000⟩ : Hl), m.bind⟩ : Sg)] enter10 rfl rfl rfl (check_any _ k_17 _) ?_
    rintro _ w8 ⟨rfl, e8⟩
    rw [chkD, if_neg ng]
    refine ⟨_, rfl, ?_⟩
    first | refine WL.bin rfl rfl rfl rfl (int_eq_t rfl _ _ _) ?_ | refine WL.bin rfl rfl rfl rfl (int_eq_t ‹_› _ _ _) ?_ | refine WL.bin rfl rfl rfl rfl (int_eq_f ‹_› _ _ _) ?_ | refine WL.bin rfl rfl rfl rfl (int_eq_d _ _ _ _ _) ?_
    first | refine WL.move rfl rfl rfl ?_
    first | refine WL.move rfl rfl rfl ?_ | refine WL.skip _ rfl rfl rfl ?_
    first | refine WL.bin rfl rfl rfl rfl (int_eq_t rfl _ _ _) ?_ | refine WL.bin rfl rfl rfl rfl (int_eq_t ‹_› _ _ _) ?_ | refine WL.bin rfl rfl rfl rfl (int_eq_f ‹_› _ _ _) ?_ | refine WL.bin rfl rfl rfl rfl (int_eq_d _ _ _ _ _) ?_ | refine WL.skip _ rfl rfl rfl ?_
    first | refine WL.pick rfl rfl rfl rfl ?_
    first | refine WL.move rfl rfl rfl ?_
    first | refine WL.move rfl rfl rfl ?_ | refine WL.skip _ rfl rfl rfl ?_
    refine WL.len rfl rfl rfl (o7.has.len _ _) ?_
    first | refine WL.bin rfl rfl rfl rfl (int_eq_t rfl _ _ _) ?_ | refine WL.bin rfl rfl rfl rfl (int_eq_t ‹_› _ _ _) ?_ | refine WL.bin rfl rfl rfl rfl (int_eq_f ‹_› _ _ _) ?_ | refine WL.bin rfl rfl rfl rfl (int_eq_d _ _ _ _ _) ?_ | refine WL.skip _ rfl rfl rfl ?_
    first | refine WL.pick rfl rfl rfl rfl ?_
    first | refine WL.assign rfl rfl rfl ?_
    refine WL.done ?_
    refine EW.on ?_
    refine EW.ret ?_
    exact EW.returns Try.results3 rfl ⟨rfl, bt (bt be_18 e7) e8⟩
end Go.Proofs.Ytacimelcmkhhlaa
