import Derived.Test.YtobfebpinkikdaaHi
set_option linter.unusedVariables false
set_option linter.unusedSimpArgs false
namespace Go.Proofs.Ytobfebpinkikdaa
open Go.RowKit

def offB (o : Of) : List UInt8 := [1, 3] ++ (o.id ++ (be32 o.pre ++ o.key))
theorem offB_len {o : Of} (k : o.ok) : (offB o).length = 70 := by simp [offB, be32_len, k.i, k.k]
theorem ofHas {w : World} {q1 : Nat} {o : Of} {t : TypeId} (bx : Blk w q1 o.cs t) (k : o.ok) : Has w (.slice (some ⟨q1, 0, none⟩) 32 32) o.id ∧ Has w (.slice (some ⟨q1, 33, none⟩) 32 32) o.key := by
  constructor
  · have := bx.has (a := []) (K := o.id) (b := [u32v o.pre] ++ o.key.map byt) (o := 0) rfl rfl 32 (by rw [k.i]; exact Nat.le_refl _)
    rw [k.i] at this
    exact this
  · have := bx.has (a := o.id.map byt ++ [u32v o.pre]) (K := o.key) (b := []) (o := 33) (by simp [Of.cs]) (by simp [k.i]) 32 (by rw [k.k]; exact Nat.le_refl _)
    rw [k.k] at this
    exact this
theorem ldOfP {w : World} {q : Nat} {o : Of} {t : TypeId} (hb : Blk w q o.cs t) (k : o.ok) : (Instr.loadAt 24 (.pointer (some ⟨q, 32, none⟩))).run Try.prog w = .ok (u32v o.pre) w := hb.ldU (a := o.id.map byt) (b := o.key.map byt) rfl (by simp [k.i])
theorem ldOfI {w : World} {q : Nat} {o : Of} {t : TypeId} (hb : Blk w q o.cs t) (k : o.ok) : (Instr.loadAt 23 (.pointer (some ⟨q, 0, none⟩))).run Try.prog w = .ok (kv o.id) w := hb.ldA (a := []) (m := o.id.map byt) u23 rfl (i23 k.i) rfl rfl
theorem ldOfK {w : World} {q : Nat} {o : Of} {t : TypeId} (hb : Blk w q o.cs t) (k : o.ok) : (Instr.loadAt 23 (.pointer (some ⟨q, 33, none⟩))).run Try.prog w = .ok (kv o.key) w := hb.ldA (a := o.id.map byt ++ [u32v o.pre]) (m := o.key.map byt) (b := []) u23 rfl (i23 k.k) (by simp [Of.cs]) (by simp [k.i])
set_option maxRecDepth 100000 in
set_option maxHeartbeats 4000000 in
theorem offer_any (o : Of) (ko : o.ok) (w : World) : Calls Try.prog 13 #[o.v] w fun e w' => ∃ v, e = .returned v ∧ Ob w' w.heap.size v (offB o) ∧ Below w.heap.size w w' := by
  obtain ⟨w1, q1, r1, bx1, e1, hq1⟩ := box_any 42 o.cs w
  have l1 := e1.size
  have hq1' := bx1.lt
  refine calls_of_args [o.v] Try.func13 rfl 33 Try.ntmps13 (by show 1 ≤ 33; decide) ?_
  refine EW.seq ?_
  refine EW.region ?_
  refine WL.box rfl rfl rfl r1 ?_
  first | refine WL.assign rfl rfl rfl ?_
  refine WL.done ?_
  refine EW.on ?_
  refine EW.seq ?_
  refine EW.region ?_
  refine WL.call [.int .i64 70] enter20 rfl rfl rfl (newW_any 70 (by decide) _) ?_
  rintro _ w2 ⟨q, rfl, wr2, be2⟩
  have bx2 := bx1.on be2
  have l2 := be2.size
  refine ⟨_, rfl, ?_⟩
  first | refine WL.move rfl rfl rfl ?_
  first | refine WL.extract rfl rfl rfl (ext_2 _ _ _).1 ?_
  first | refine WL.extract rfl rfl rfl (ext_2 _ _ _).2 ?_
  first | refine WL.assign rfl rfl rfl ?_
  first | refine WL.assign rfl rfl rfl ?_
  refine WL.done ?_
  refine EW.on ?_
  refine EW.seq ?_
  refine EW.region ?_
  first | refine WL.move rfl rfl rfl ?_
  refine WL.call [.pointer (some ⟨q, 0, none⟩), .int .i64 3] enter21 rfl rfl rfl (start_any 70 (by decide) _ q _ _ 3 (by decide) w2 wr2 (by omega) (by decide)) ?_
  rintro _ w3 ⟨rfl, v3, wr3, f3, n3⟩
  have bx3 := bx2.fx f3 (wr2.apart bx2 (by decide) (by decide))
  have l3 := f3.size
  refine ⟨_, rfl, ?_⟩
  refine WL.done ?_
  refine EW.on ?_
  refine EW.seq ?_
  refine EW.region ?_
  first | refine WL.move rfl rfl rfl ?_
  refine WL.field rfl rfl rfl (f42_0 q1 0 _) ?_
  refine WL.slice0 rfl rfl rfl (sl23 q1 _ _) ?_
  refine WL.bslN [(0, .slice (some ⟨q1, 0, none⟩) 32 32)] rfl rfl rfl (bsl74_1 _ ⟨_, _, _, rfl⟩ _) ?_
  refine WL.call [.pointer (some ⟨q, 0, none⟩), .slice (some ⟨w3.heap.size, 0, none⟩) 1 1] enter23 rfl rfl rfl (fixed1 70 (by decide) _ q _ _ _ _ w3 wr3 (by omega) (ofHas bx3 ko).1 (off_lt wr3 (by omega) _ _ _ _) (by simp only [List.length_append, List.length_cons, List.length_nil, be32_len, ko.i, ko.k]; first | done | omega)) ?_
  rintro _ w4 ⟨rfl, v4, wr4, f4, n4⟩
  have bx4 := bx3.fx f4 (wr3.apart bx3 (by decide) (by decide))
  have l4 := f4.size
  refine ⟨_, rfl, ?_⟩
  refine WL.done ?_
  refine EW.on ?_
  refine EW.seq ?_
  refine EW.region ?_
  first | refine WL.move rfl rfl rfl ?_
  refine WL.field rfl rfl rfl (f42_1 q1 0 _) ?_
  refine WL.load rfl rfl rfl (ldOfP bx4 ko) ?_
  refine WL.call [.pointer (some ⟨q, 0, none⟩), u32v o.pre] enter35 rfl rfl rfl (u32_any 70 (by decide) _ q _ _ o.pre w4 wr4 (by omega) (by simp only [List.length_append, List.length_cons, List.length_nil, be32_len, ko.i, ko.k]; first | done | omega)) ?_
  rintro _ w5 ⟨rfl, v5, wr5, f5, n5⟩
  have bx5 := bx4.fx f5 (wr4.apart bx4 (by decide) (by decide))
  have l5 := f5.size
  refine ⟨_, rfl, ?_⟩
  refine WL.done ?_
  refine EW.on ?_
  refine EW.seq ?_
  refine EW.region ?_
  first | refine WL.move rfl rfl rfl ?_
  refine WL.field rfl rfl rfl (f42_2 q1 0 _) ?_
  refine WL.slice0 rfl rfl rfl (sl23 q1 _ _) ?_
  refine WL.bslN [(0, .slice (some ⟨q1, 33, none⟩) 32 32)] rfl rfl rfl (bsl74_1 _ ⟨_, _, _, rfl⟩ _) ?_
  refine WL.call [.pointer (some ⟨q, 0, none⟩), .slice (some ⟨w5.heap.size, 0, none⟩) 1 1] enter23 rfl rfl rfl (fixed1 70 (by decide) _ q _ _ _ _ w5 wr5 (by omega) (ofHas bx5 ko).2 (off_lt wr5 (by omega) _ _ _ _) (by simp only [List.length_append, List.length_cons, List.length_nil, be32_len, ko.i, ko.k]; first | done | omega)) ?_
  rintro _ w6 ⟨rfl, v6, wr6, f6, n6⟩
  have bx6 := bx5.fx f6 (wr5.apart bx5 (by decide) (by decide))
  have l6 := f6.size
  refine ⟨_, rfl, ?_⟩
  refine WL.done ?_
  refine EW.on ?_
  refine EW.seq ?_
  refine EW.region ?_
  first | refine WL.move rfl rfl rfl ?_
  refine WL.call [.pointer (some ⟨q, 0, none⟩)] enter25 rfl rfl rfl (out_any 70 _ q _ _ w6 wr6 (by simp only [List.length_append, List.length_cons, List.length_nil, be32_len, ko.i, ko.k]; first | done | omega)) ?_
  rintro _ wo ⟨vo, rfl, go, beo⟩
  refine ⟨_, rfl, ?_⟩
  first | refine WL.move rfl rfl rfl ?_
  first | refine WL.extract rfl rfl rfl (ext_2 _ _ _).1 ?_
  first | refine WL.extract rfl rfl rfl (ext_2 _ _ _).2 ?_
  first | refine WL.assign rfl rfl rfl ?_
  first | refine WL.assign rfl rfl rfl ?_
  refine WL.done ?_
  refine EW.on ?_
  refine EW.seq ?_
  refine EW.region ?_
  first | refine WL.move rfl rfl rfl ?_
  first | refine WL.assign rfl rfl rfl ?_
  refine WL.done ?_
  refine EW.on ?_
  refine EW.ret ?_
  refine EW.returns Try.results13 rfl ⟨vo, rfl, ?_, ?_⟩
  · have e : [] ++ [1, UInt8.ofNat 3] ++ o.id ++ be32 o.pre ++ o.key = offB o := by simp [offB]
    rw [e] at go
    exact go.lower (by omega)
  · have s3 := (wr2.stays f3 (by omega)).mono l1
    have s4 := (wr3.stays f4 (by omega)).mono l1
    have s5 := (wr4.stays f5 (by omega)).mono l1
    have s6 := (wr5.stays f6 (by omega)).mono l1
    exact e1.trans ((be2.mono l1).trans (s3.trans (s4.trans (s5.trans (s6.trans (beo.mono (by omega)))))))
end Go.Proofs.Ytobfebpinkikdaa
