import Derived.Test.YtobfebpinkikdaaHhG
set_option linter.unusedVariables false
set_option linter.unusedSimpArgs false
namespace Go.Proofs.Ytobfebpinkikdaa
open Go.RowKit

section
variable {w : World} {q : Nat} {p : Pk} {t : TypeId}
theorem ldPkK (hb : Blk w q p.cs t) : (Instr.loadAt 3 (.pointer (some ⟨q, 0, none⟩))).run Try.prog w = .ok (.int .i64 p.k) w := ldI hb rfl
theorem ldPkL (hb : Blk w q p.cs t) (k : p.ok) : (Instr.loadAt 26 (.pointer (some ⟨q, 1, none⟩))).run Try.prog w = .ok p.hl.v w := hb.ldA (a := [.int .i64 p.k]) (m := p.hl.cs) Try.underlying26 rfl (i26 k.l) rfl rfl
theorem ldPkH (hb : Blk w q p.cs t) (k : p.ok) : (Instr.loadAt 30 (.pointer (some ⟨q, 66, none⟩))).run Try.prog w = .ok p.hd.v w := hb.ldA (a := [.int .i64 p.k] ++ p.hl.cs) (m := p.hd.cs) (b := [p.bv]) Try.underlying30 rfl (i30 k.d) (by simp [Pk.cs]) (by simp [Hl.len k.l])
theorem ldPkB (hb : Blk w q p.cs t) (k : p.ok) : (Instr.loadAt 31 (.pointer (some ⟨q, 117, none⟩))).run Try.prog w = .ok p.bv w := ldS hb (by
  rw [show p.cs = ([.int .i64 p.k] ++ (p.hl.cs ++ p.hd.cs)) ++ [p.bv] from by simp [Pk.cs], List.getElem?_append_right (by simp [Hl.len k.l, Hd.len k.d]), show 117 - ([Value.int .i64 p.k] ++ (p.hl.cs ++ p.hd.cs)).length = 0 from by simp [Hl.len k.l, Hd.len k.d]]
  rfl)
end
def lenB (n : Nat) : List UInt8 := [UInt8.ofNat (n / 256), UInt8.ofNat (n % 256)]
def packB (k : Nat) (h : Hl) (d : Hd) (body : List UInt8) : List UInt8 := [1, UInt8.ofNat k] ++ ((if k = 1 then encL h else []) ++ (encH d ++ (lenB body.length ++ body)))
theorem flt_ok {k : Int} {h : Hl} {n : Int} (hf : fltD k h n = 0) : (k = 1 ∨ k = 2) ∧ suitD k h ∧ 32 ≤ n ∧ n ≤ 544 := by
  unfold fltD at hf
  by_cases h1 : k = 1 ∨ k = 2
  · rw [if_pos h1] at hf
    by_cases h2 : suitD k h
    · rw [if_pos h2] at hf
      by_cases h3 : n < 32
      · rw [if_pos h3] at hf; omega
      · rw [if_neg h3] at hf
        by_cases h4 : 544 < n
        · rw [if_pos h4] at hf; omega
        · exact ⟨h1, h2, by omega, by omega⟩
    · rw [if_neg h2] at hf; omega
  · rw [if_neg h1] at hf; omega
set_option maxRecDepth 100000 in
set_option maxHeartbeats 4000000 in
theorem pack_bad (p : Pk) (kp : p.ok) (body : List UInt8) (w : World) (hy : Has w p.bv body) (hf : ¬ fltD p.k p.hl body.length = 0) : Calls Try.prog 9 #[p.v] w fun e w' => e = .returned (.tuple #[.slice none 0 0, .int .i64 (fltD p.k p.hl body.length)]) ∧ Below w.heap.size w w' := by
  obtain ⟨w1, q1, r1, bx1, e1, hq1⟩ := box_any 33 p.cs w
  have l1 := e1.size
  have hy1 := hy.below e1
  refine calls_of_args [p.v] Try.func9 rfl 47 Try.ntmps9 (by show 1 ≤ 47; decide) ?_
  refine EW.seq ?_
  refine EW.region ?_
  refine WL.box rfl rfl rfl r1 ?_
  first | refine WL.assign rfl rfl rfl ?_
  first | refine WL.assign rfl rfl rfl ?_
  refine WL.done ?_
  refine EW.on ?_
  refine EW.seq ?_
  refine EW.seq ?_
  refine EW.region ?_
  refine WL.field rfl rfl rfl (f33_0 q1 0 _) ?_
  refine WL.load rfl rfl rfl (ldPkK bx1) ?_
  refine WL.field rfl rfl rfl (f33_1 q1 0 _) ?_
  refine WL.load rfl rfl rfl (ldPkL bx1 kp) ?_
  refine WL.field rfl rfl rfl (f33_3 q1 0 _) ?_
  refine WL.load rfl rfl rfl (ldPkB bx1 kp) ?_
  refine WL.len rfl rfl rfl (hy.len _ _) ?_
  refine WL.call [.int .i64 p.k, p.hl.v, .int .i64 (body.length : Int)] enter19 rfl rfl rfl (flt_any _ p.hl _ kp.l _) ?_
  rintro _ w3 ⟨rfl, be3⟩
  have l3 := be3.size
  refine ⟨_, rfl, ?_⟩
  first | refine WL.assign rfl rfl rfl ?_
  refine WL.done ?_
  refine EW.on ?_
  refine EW.seq ?_
  refine EW.region ?_
  first | refine WL.move rfl rfl rfl ?_
  first | refine WL.bin rfl rfl rfl rfl (int_ne_f rfl _ _ _) ?_ | refine WL.bin rfl rfl rfl rfl (int_ne_t ‹_› _ _ _) ?_ | refine WL.bin rfl rfl rfl rfl (int_ne_f ‹_› _ _ _) ?_ | refine WL.bin rfl rfl rfl rfl (int_ne_t (by decide) _ _ _) ?_ | refine WL.bin rfl rfl rfl rfl (int_ne_d _ _ _ _ _) ?_
  refine WL.done ?_
  refine EW.on ?_
  refine EW.cond_t rfl ?_
  refine EW.seq ?_
  refine EW.region ?_
  first | refine WL.move rfl rfl rfl ?_
  first | refine WL.assign rfl rfl rfl ?_
  first | refine WL.assign rfl rfl rfl ?_
  refine WL.done ?_
  refine EW.on ?_
  refine EW.ret ?_
  refine pr_then ?_
  exact EW.returns2 Try.results9 rfl rfl ⟨rfl, e1.trans (be3.mono e1.size)⟩
set_option maxRecDepth 100000 in
set_option maxHeartbeats 4000000 in
theorem pack_1 (p : Pk) (kp : p.ok) (body : List UInt8) (w : World) (hy : Has w p.bv body) (hk : p.k = 1) (hf : fltD 1 p.hl body.length = 0) : Calls Try.prog 9 #[p.v] w fun e w' => ∃ v, e = .returned (.tuple #[v, .int .i64 0]) ∧ Ob w' w.heap.size v (packB 1 p.hl p.hd body) ∧ Below w.heap.size w w' := by
  obtain ⟨_, _, hb1, hb2⟩ := flt_ok hf
  have hyo : ∀ k, w.heap.size ≤ k → Off p.bv body k := fun k hk => by
    by_cases e2 : p.bv.ownBlock = some k
    · rcases hy.blk e2 with e3 | e3
      · exact .inl e3
      · omega
    · exact .inr e2
  obtain ⟨w1, q1, r1, bx1, e1, hq1⟩ := box_any 33 p.cs w
  have l1 := e1.size
  have hy1 := hy.below e1
  refine calls_of_args [p.v] Try.func9 rfl 47 Try.ntmps9 (by show 1 ≤ 47; decide) ?_
  refine EW.seq ?_
  refine EW.region ?_
  refine WL.box rfl rfl rfl r1 ?_
  first | refine WL.assign rfl rfl rfl ?_
  first | refine WL.assign rfl rfl rfl ?_
  refine WL.done ?_
  refine EW.on ?_
  refine EW.seq ?_
  refine EW.seq ?_
  refine EW.region ?_
  refine WL.field rfl rfl rfl (f33_0 q1 0 _) ?_
  refine WL.load rfl rfl rfl (ldPkK bx1) ?_
  rw [hk]
  refine WL.field rfl rfl rfl (f33_1 q1 0 _) ?_
  refine WL.load rfl rfl rfl (ldPkL bx1 kp) ?_
  refine WL.field rfl rfl rfl (f33_3 q1 0 _) ?_
  refine WL.load rfl rfl rfl (ldPkB bx1 kp) ?_
  refine WL.len rfl rfl rfl (hy.len _ _) ?_
  refine WL.call [.int .i64 1, p.hl.v, .int .i64 (body.length : Int)] enter19 rfl rfl rfl (flt_any _ p.hl _ kp.l _) ?_
  rintro _ w3 ⟨rfl, be3⟩
  rw [hf]
  have l3 := be3.size
  refine ⟨_, rfl, ?_⟩
  first | refine WL.assign rfl rfl rfl ?_
  refine WL.done ?_
  refine EW.on ?_
  refine EW.seq ?_
  refine EW.region ?_
  first | refine WL.move rfl rfl rfl ?_
  first | refine WL.bin rfl rfl rfl rfl (int_ne_f rfl _ _ _) ?_ | refine WL.bin rfl rfl rfl rfl (int_ne_t ‹_› _ _ _) ?_ | refine WL.bin rfl rfl rfl rfl (int_ne_f ‹_› _ _ _) ?_ | refine WL.bin rfl rfl rfl rfl (int_ne_t (by decide) _ _ _) ?_ | refine WL.bin rfl rfl rfl rfl (int_ne_d _ _ _ _ _) ?_
  refine WL.done ?_
  refine EW.on ?_
  refine EW.cond_f rfl ?_
  refine EW.skip ?_
  refine EW.on ?_
  refine EW.seq ?_
  refine EW.region ?_
  refine WL.call [.int .i64 676] enter20 rfl rfl rfl (newW_any 676 (by decide) _) ?_
  rintro _ w4 ⟨q, rfl, wr4, be4⟩
  have l4 := be4.size
  have bx4 := (bx1.on be3).on be4
  have hy4 := (hy1.below be3).below be4
  refine ⟨_, rfl, ?_⟩
  first | refine WL.move rfl rfl rfl ?_
  first | refine WL.extract rfl rfl rfl (ext_2 _ _ _).1 ?_
  first | refine WL.extract rfl rfl rfl (ext_2 _ _ _).2 ?_
  first | refine WL.assign rfl rfl rfl ?_
  first | refine WL.assign rfl rfl rfl ?_
  refine WL.done ?_
  refine EW.on ?_
  refine EW.seq ?_
  refine EW.region ?_
  first | refine WL.move rfl rfl rfl ?_
  refine WL.field rfl rfl rfl (f33_0 q1 0 _) ?_
  refine WL.load rfl rfl rfl (ldPkK bx4) ?_
  rw [hk]
  refine WL.call [.pointer (some ⟨q, 0, none⟩), .int .i64 1] enter21 rfl rfl rfl (start_any 676 (by decide) _ q _ _ 1 (by decide) w4 wr4 (by omega) (by decide)) ?_
  rintro _ w5 ⟨rfl, v5, wr5, f5, n5⟩
  have bx5 := bx4.fx f5 (wr4.apart bx4 (by decide) (by decide))
  have hy5 := hy4.fxo f5 (fun k hk => by
    rcases hk with e | e
    · exact hyo k (by have := wr4.bq; omega)
    · exact hyo k (by have := wr4.ob.base k e; omega))
  have l5 := f5.size
  refine ⟨_, rfl, ?_⟩
  refine WL.done ?_
  refine EW.on ?_
  refine EW.seq ?_
  refine EW.seq ?_
  refine EW.region ?_
  refine WL.field rfl rfl rfl (f33_0 q1 0 _) ?_
  refine WL.load rfl rfl rfl (ldPkK bx5) ?_
  rw [hk]
  first | refine WL.bin rfl rfl rfl rfl (int_eq_t rfl _ _ _) ?_ | refine WL.bin rfl rfl rfl rfl (int_eq_t ‹_› _ _ _) ?_ | refine WL.bin rfl rfl rfl rfl (int_eq_f ‹_› _ _ _) ?_ | refine WL.bin rfl rfl rfl rfl (int_eq_d _ _ _ _ _) ?_
  refine WL.done ?_
  refine EW.on ?_
  refine EW.cond_t rfl ?_
  refine EW.region ?_
  first | refine WL.move rfl rfl rfl ?_
  refine WL.field rfl rfl rfl (f33_1 q1 0 _) ?_
  refine WL.load rfl rfl rfl (ldPkL bx5 kp) ?_
  refine WL.call [.pointer (some ⟨q, 0, none⟩), p.hl.v] enter22 rfl rfl rfl (wrHello_any 676 (by decide) _ q _ _ p.hl kp.l w5 wr5 (by omega) (by decide)) ?_
  rintro _ w6 ⟨rfl, v6, wr6, f6, n6⟩
  have bx6 := bx5.fx f6 (wr5.apart bx5 (by decide) (by decide))
  have hy6 := hy5.fxo f6 (fun k hk => by
    rcases hk with e | e
    · exact hyo k (by have := wr5.bq; omega)
    · exact hyo k (by have := wr5.ob.base k e; omega))
  have l6 := f6.size
  refine ⟨_, rfl, ?_⟩
  refine WL.done ?_
  refine EW.on ?_
  refine EW.seq ?_
  refine EW.region ?_
  first | refine WL.move rfl rfl rfl ?_
  refine WL.field rfl rfl rfl (f33_2 q1 0 _) ?_
  refine WL.load rfl rfl rfl (ldPkH bx6 kp) ?_
  refine WL.call [p.hd.v] enter16 rfl rfl rfl (encode_any p.hd kp.d _) ?_
  rintro _ we ⟨ve, rfl, ge, bee⟩
  refine ⟨_, rfl, ?_⟩
  refine WL.bslN [(0, ve)] rfl rfl rfl (bsl74_1 _ ge.has.sl _) ?_
  refine WL.call [.pointer (some ⟨q, 0, none⟩), .slice (some ⟨we.heap.size, 0, none⟩) 1 1] enter23 rfl rfl rfl (fixed1 676 (by decide) _ q _ _ ve (encH p.hd) we (wr6.below bee) (by have := bee.size; omega) ge.has (fun k hk => .inr fun e => by have := ge.base k e; have := (wr6.ob.lt hk).1; omega) (by simp only [List.length_append, List.length_cons, List.length_nil, encL_len kp.l, encH_len kp.d]; omega)) ?_
  rintro _ w7 ⟨rfl, v7, wr7, f7', n7'⟩
  obtain ⟨f7, n7⟩ := wr_after (b := w3.heap.size) bee f7' n7'
  have bx7 := bx6.fx f7 (wr6.apart bx6 (by decide) (by decide))
  have hy7 := hy6.fxo f7 (fun k hk => by
    rcases hk with e | e
    · exact hyo k (by have := wr6.bq; omega)
    · exact hyo k (by have := wr6.ob.base k e; omega))
  have l7 := f7.size
  refine ⟨_, rfl, ?_⟩
  refine WL.done ?_
  refine EW.on ?_
  refine EW.seq ?_
  refine EW.region ?_
  first | refine WL.move rfl rfl rfl ?_
  refine WL.field rfl rfl rfl (f33_3 q1 0 _) ?_
  refine WL.load rfl rfl rfl (ldPkB bx7 kp) ?_
  refine WL.call [.pointer (some ⟨q, 0, none⟩), p.bv] enter24 rfl rfl rfl (run_any 676 (by decide) _ q _ _ p.bv body w7 wr7 (by omega) hy7 (fun k hk => hyo k (by have := wr7.ob.base k hk; omega)) (by simp only [List.length_append, List.length_cons, List.length_nil, encL_len kp.l, encH_len kp.d]; omega) (by omega)) ?_
  rintro _ w8 ⟨rfl, v8, wr8, f8, n8⟩
  have bx8 := bx7.fx f8 (wr7.apart bx7 (by decide) (by decide))
  have hy8 := hy7.fxo f8 (fun k hk => by
    rcases hk with e | e
    · exact hyo k (by have := wr7.bq; omega)
    · exact hyo k (by have := wr7.ob.base k e; omega))
  have l8 := f8.size
  refine ⟨_, rfl, ?_⟩
  refine WL.done ?_
  refine EW.on ?_
  refine EW.seq ?_
  refine EW.region ?_
  first | refine WL.move rfl rfl rfl ?_
  refine WL.call [.pointer (some ⟨q, 0, none⟩)] enter25 rfl rfl rfl (out_any 676 _ q _ _ w8 wr8 (by simp only [List.length_append, List.length_cons, List.length_nil, encL_len kp.l, encH_len kp.d]; omega)) ?_
  rintro _ wo ⟨vo, rfl, go, beo⟩
  refine ⟨_, rfl, ?_⟩
  first | refine WL.extract rfl rfl rfl (ext_2 _ _ _).1 ?_
  first | refine WL.extract rfl rfl rfl (ext_2 _ _ _).2 ?_
  first | refine WL.assign rfl rfl rfl ?_
  first | refine WL.assign rfl rfl rfl ?_
  refine WL.done ?_
  refine EW.on ?_
  refine EW.ret ?_
  refine EW.returns2 Try.results9 rfl rfl ⟨vo, rfl, ?_, ?_⟩
  · have e : [] ++ [1, UInt8.ofNat 1] ++ encL p.hl ++ encH p.hd ++ [UInt8.ofNat (body.length / 256), UInt8.ofNat (body.length % 256)] ++ body = packB 1 p.hl p.hd body := by simp [packB, lenB]
    rw [e] at go
    exact go.lower (by omega)
  · have m3 : w.heap.size ≤ w3.heap.size := by omega
    have s5 := (wr4.stays f5 (by omega)).mono m3
    have s6 := (wr5.stays f6 (by omega)).mono m3
    have s7 := (wr6.stays f7 (by omega)).mono m3
    have s8 := (wr7.stays f8 (by omega)).mono m3
    exact e1.trans ((be3.mono l1).trans ((be4.mono m3).trans (s5.trans (s6.trans (s7.trans (s8.trans (beo.mono (by omega))))))))
set_option maxRecDepth 100000 in
set_option maxHeartbeats 4000000 in
theorem pack_2 (p : Pk) (kp : p.ok) (body : List UInt8) (w : World) (hy : Has w p.bv body) (hk : p.k = 2) (hf : fltD 2 p.hl body.length = 0) : Calls Try.prog 9 #[p.v] w fun e w' => ∃ v, e = .returned (.tuple #[v, .int .i64 0]) ∧ Ob w' w.heap.size v (packB 2 p.hl p.hd body) ∧ Below w.heap.size w w' := by
  obtain ⟨_, _, hb1, hb2⟩ := flt_ok hf
  have hyo : ∀ k, w.heap.size ≤ k → Off p.bv body k := fun k hk => by
    by_cases e2 : p.bv.ownBlock = some k
    · rcases hy.blk e2 with e3 | e3
      · exact .inl e3
      · omega
    · exact .inr e2
  obtain ⟨w1, q1, r1, bx1, e1, hq1⟩ := box_any 33 p.cs w
  have l1 := e1.size
  have hy1 := hy.below e1
  refine calls_of_args [p.v] Try.func9 rfl 47 Try.ntmps9 (by show 1 ≤ 47; decide) ?_
  refine EW.seq ?_
  refine EW.region ?_
  refine WL.box rfl rfl rfl r1 ?_
  first | refine WL.assign rfl rfl rfl ?_
  first | refine WL.assign rfl rfl rfl ?_
  refine WL.done ?_
  refine EW.on ?_
  refine EW.seq ?_
  refine EW.seq ?_
  refine EW.region ?_
  refine WL.field rfl rfl rfl (f33_0 q1 0 _) ?_
  refine WL.load rfl rfl rfl (ldPkK bx1) ?_
  rw [hk]
  refine WL.field rfl rfl rfl (f33_1 q1 0 _) ?_
  refine WL.load rfl rfl rfl (ldPkL bx1 kp) ?_
  refine WL.field rfl rfl rfl (f33_3 q1 0 _) ?_
  refine WL.load rfl rfl rfl (ldPkB bx1 kp) ?_
  refine WL.len rfl rfl rfl (hy.len _ _) ?_
  refine WL.call [.int .i64 2, p.hl.v, .int .i64 (body.length : Int)] enter19 rfl rfl rfl (flt_any _ p.hl _ kp.l _) ?_
  rintro _ w3 ⟨rfl, be3⟩
  rw [hf]
  have l3 := be3.size
  refine ⟨_, rfl, ?_⟩
  first | refine WL.assign rfl rfl rfl ?_
  refine WL.done ?_
  refine EW.on ?_
  refine EW.seq ?_
  refine EW.region ?_
  first | refine WL.move rfl rfl rfl ?_
  first | refine WL.bin rfl rfl rfl rfl (int_ne_f rfl _ _ _) ?_ | refine WL.bin rfl rfl rfl rfl (int_ne_t ‹_› _ _ _) ?_ | refine WL.bin rfl rfl rfl rfl (int_ne_f ‹_› _ _ _) ?_ | refine WL.bin rfl rfl rfl rfl (int_ne_t (by decide) _ _ _) ?_ | refine WL.bin rfl rfl rfl rfl (int_ne_d _ _ _ _ _) ?_
  refine WL.done ?_
  refine EW.on ?_
  refine EW.cond_f rfl ?_
  refine EW.skip ?_
  refine EW.on ?_
  refine EW.seq ?_
  refine EW.region ?_
  refine WL.call [.int .i64 676] enter20 rfl rfl rfl (newW_any 676 (by decide) _) ?_
  rintro _ w4 ⟨q, rfl, wr4, be4⟩
  have l4 := be4.size
  have bx4 := (bx1.on be3).on be4
  have hy4 := (hy1.below be3).below be4
  refine ⟨_, rfl, ?_⟩
  first | refine WL.move rfl rfl rfl ?_
  first | refine WL.extract rfl rfl rfl (ext_2 _ _ _).1 ?_
  first | refine WL.extract rfl rfl rfl (ext_2 _ _ _).2 ?_
  first | refine WL.assign rfl rfl rfl ?_
  first | refine WL.assign rfl rfl rfl ?_
  refine WL.done ?_
  refine EW.on ?_
  refine EW.seq ?_
  refine EW.region ?_
  first | refine WL.move rfl rfl rfl ?_
  refine WL.field rfl rfl rfl (f33_0 q1 0 _) ?_
  refine WL.load rfl rfl rfl (ldPkK bx4) ?_
  rw [hk]
  refine WL.call [.pointer (some ⟨q, 0, none⟩), .int .i64 2] enter21 rfl rfl rfl (start_any 676 (by decide) _ q _ _ 2 (by decide) w4 wr4 (by omega) (by decide)) ?_
  rintro _ w5 ⟨rfl, v5, wr5, f5, n5⟩
  have bx5 := bx4.fx f5 (wr4.apart bx4 (by decide) (by decide))
  have hy5 := hy4.fxo f5 (fun k hk => by
    rcases hk with e | e
    · exact hyo k (by have := wr4.bq; omega)
    · exact hyo k (by have := wr4.ob.base k e; omega))
  have l5 := f5.size
  refine ⟨_, rfl, ?_⟩
  refine WL.done ?_
  refine EW.on ?_
  refine EW.seq ?_
  refine EW.seq ?_
  refine EW.region ?_
  refine WL.field rfl rfl rfl (f33_0 q1 0 _) ?_
  refine WL.load rfl rfl rfl (ldPkK bx5) ?_
  rw [hk]
  first | refine WL.bin rfl rfl rfl rfl (int_eq_t rfl _ _ _) ?_ | refine WL.bin rfl rfl rfl rfl (int_eq_t ‹_› _ _ _) ?_ | refine WL.bin rfl rfl rfl rfl (int_eq_f ‹_› _ _ _) ?_ | refine WL.bin rfl rfl rfl rfl (int_eq_d _ _ _ _ _) ?_
  refine WL.done ?_
  refine EW.on ?_
  refine EW.cond_f rfl ?_
  refine EW.skip ?_
  refine EW.on ?_
  refine EW.seq ?_
  refine EW.region ?_
  first | refine WL.move rfl rfl rfl ?_
  refine WL.field rfl rfl rfl (f33_2 q1 0 _) ?_
  refine WL.load rfl rfl rfl (ldPkH bx5 kp) ?_
  refine WL.call [p.hd.v] enter16 rfl rfl rfl (encode_any p.hd kp.d _) ?_
  rintro _ we ⟨ve, rfl, ge, bee⟩
  refine ⟨_, rfl, ?_⟩
  refine WL.bslN [(0, ve)] rfl rfl rfl (bsl74_1 _ ge.has.sl _) ?_
  refine WL.call [.pointer (some ⟨q, 0, none⟩), .slice (some ⟨we.heap.size, 0, none⟩) 1 1] enter23 rfl rfl rfl (fixed1 676 (by decide) _ q _ _ ve (encH p.hd) we (wr5.below bee) (by have := bee.size; omega) ge.has (fun k hk => .inr fun e => by have := ge.base k e; have := (wr5.ob.lt hk).1; omega) (by simp only [List.length_append, List.length_cons, List.length_nil, encL_len kp.l, encH_len kp.d]; omega)) ?_
  rintro _ w6 ⟨rfl, v6, wr6, f6', n6'⟩
  obtain ⟨f6, n6⟩ := wr_after (b := w3.heap.size) bee f6' n6'
  have bx6 := bx5.fx f6 (wr5.apart bx5 (by decide) (by decide))
  have hy6 := hy5.fxo f6 (fun k hk => by
    rcases hk with e | e
    · exact hyo k (by have := wr5.bq; omega)
    · exact hyo k (by have := wr5.ob.base k e; omega))
  have l6 := f6.size
  refine ⟨_, rfl, ?_⟩
  refine WL.done ?_
  refine EW.on ?_
  refine EW.seq ?_
  refine EW.region ?_
  first | refine WL.move rfl rfl rfl ?_
  refine WL.field rfl rfl rfl (f33_3 q1 0 _) ?_
  refine WL.load rfl rfl rfl (ldPkB bx6 kp) ?_
  refine WL.call [.pointer (some ⟨q, 0, none⟩), p.bv] enter24 rfl rfl rfl (run_any 676 (by decide) _ q _ _ p.bv body w6 wr6 (by omega) hy6 (fun k hk => hyo k (by have := wr6.ob.base k hk; omega)) (by simp only [List.length_append, List.length_cons, List.length_nil, encL_len kp.l, encH_len kp.d]; omega) (by omega)) ?_
  rintro _ w7 ⟨rfl, v7, wr7, f7, n7⟩
  have bx7 := bx6.fx f7 (wr6.apart bx6 (by decide) (by decide))
  have hy7 := hy6.fxo f7 (fun k hk => by
    rcases hk with e | e
    · exact hyo k (by have := wr6.bq; omega)
    · exact hyo k (by have := wr6.ob.base k e; omega))
  have l7 := f7.size
  refine ⟨_, rfl, ?_⟩
  refine WL.done ?_
  refine EW.on ?_
  refine EW.seq ?_
  refine EW.region ?_
  first | refine WL.move rfl rfl rfl ?_
  refine WL.call [.pointer (some ⟨q, 0, none⟩)] enter25 rfl rfl rfl (out_any 676 _ q _ _ w7 wr7 (by simp only [List.length_append, List.length_cons, List.length_nil, encL_len kp.l, encH_len kp.d]; omega)) ?_
  rintro _ wo ⟨vo, rfl, go, beo⟩
  refine ⟨_, rfl, ?_⟩
  first | refine WL.extract rfl rfl rfl (ext_2 _ _ _).1 ?_
  first | refine WL.extract rfl rfl rfl (ext_2 _ _ _).2 ?_
  first | refine WL.assign rfl rfl rfl ?_
  first | refine WL.assign rfl rfl rfl ?_
  refine WL.done ?_
  refine EW.on ?_
  refine EW.ret ?_
  refine EW.returns2 Try.results9 rfl rfl ⟨vo, rfl, ?_, ?_⟩
  · have e : [] ++ [1, UInt8.ofNat 2] ++ encH p.hd ++ [UInt8.ofNat (body.length / 256), UInt8.ofNat (body.length % 256)] ++ body = packB 2 p.hl p.hd body := by simp [packB, lenB]
    rw [e] at go
    exact go.lower (by omega)
  · have m3 : w.heap.size ≤ w3.heap.size := by omega
    have s5 := (wr4.stays f5 (by omega)).mono m3
    have s6 := (wr5.stays f6 (by omega)).mono m3
    have s7 := (wr6.stays f7 (by omega)).mono m3
    exact e1.trans ((be3.mono l1).trans ((be4.mono m3).trans (s5.trans (s6.trans (s7.trans (beo.mono (by omega)))))))
end Go.Proofs.Ytobfebpinkikdaa
