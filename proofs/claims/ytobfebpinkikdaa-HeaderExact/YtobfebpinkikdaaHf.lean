import Derived.Test.YtobfebpinkikdaaHe
set_option linter.unusedVariables false
set_option linter.unusedSimpArgs false
namespace Go.Proofs.Ytobfebpinkikdaa
open Go.RowKit

def encH (h : Hd) : List UInt8 := h.sid ++ (be32 h.turn ++ (h.key ++ (be32 h.prev ++ be32 h.n)))
theorem encH_len {h : Hd} (k : h.ok) : (encH h).length = 60 := by simp [encH, be32_len, k.s, k.k]
def encL (h : Hl) : List UInt8 := h.id ++ (h.once ++ be32 h.pre)
theorem encL_len {h : Hl} (k : h.ok) : (encL h).length = 68 := by simp [encL, be32_len, k.i, k.o]
theorem fixed1 (M : Nat) (hM : M ≤ 1048576) (b q : Nat) (v : Value) (bs : List UInt8) (pv : Value) (ys : List UInt8) (w : World) (hw : Wr M w b q v bs) (hbw : b ≤ w.heap.size) (hy : Has w pv ys) (hyo : ∀ k, v.ownBlock = some k → Off pv ys k) (hl : bs.length + ys.length ≤ M) : Calls Try.prog 23 #[.pointer (some ⟨q, 0, none⟩), .slice (some ⟨w.heap.size, 0, none⟩) 1 1] (w.alloc (.cells [pv].toArray 31)) (WrS M w b q v (bs ++ ys)) := by
  have b2 := below_new w (.cells [pv].toArray 31)
  have hBp : Bp (w.alloc (.cells [pv].toArray 31)) w.heap.size [(pv, ys)] := ⟨Blk.new _ _ _, fun p hp => by rw [List.mem_singleton.1 hp]; exact hy.below b2⟩
  refine (fixed_any M hM b q w.heap.size 1 v bs [(pv, ys)] _ (hw.below b2) hBp (by have := b2.size; omega) (by have := hw.bl.lt; omega) (fun p hp => by rw [List.mem_singleton.1 hp]; exact hyo) (by show 1 ≤ 1000; decide) (by rw [flatB_one]; exact hl)).mono ?_
  rintro e w3 ⟨rfl, v', g1, g2, g3⟩
  exact ⟨rfl, v', by rw [flatB_one] at g1; exact g1, wr_after (b := b) b2 g2 g3⟩
theorem fixed2 (M : Nat) (hM : M ≤ 1048576) (b q : Nat) (v : Value) (bs : List UInt8) (pv pu : Value) (ys zs : List UInt8) (w : World) (hw : Wr M w b q v bs) (hbw : b ≤ w.heap.size) (hy : Has w pv ys) (hz : Has w pu zs) (hyo : ∀ k, v.ownBlock = some k → Off pv ys k) (hzo : ∀ k, v.ownBlock = some k → Off pu zs k) (hl : bs.length + (ys.length + zs.length) ≤ M) (w1 : World) (hw1 : w1 = w.alloc (.cells [pv, pu].toArray 31)) : Calls Try.prog 23 #[.pointer (some ⟨q, 0, none⟩), .slice (some ⟨w.heap.size, 0, none⟩) 2 2] w1 (WrS M w b q v (bs ++ (ys ++ zs))) := by
  rw [hw1]
  have b2 := below_new w (.cells [pv, pu].toArray 31)
  have hBp : Bp (w.alloc (.cells [pv, pu].toArray 31)) w.heap.size [(pv, ys), (pu, zs)] := ⟨Blk.new _ _ _, fun p hp => by
    simp only [List.mem_cons, List.not_mem_nil, or_false] at hp
    rcases hp with rfl | rfl
    · exact hy.below b2
    · exact hz.below b2⟩
  have hf : flatB [(pv, ys), (pu, zs)] = ys ++ zs := by simp [flatB]
  refine (fixed_any M hM b q w.heap.size 2 v bs [(pv, ys), (pu, zs)] _ (hw.below b2) hBp (by have := b2.size; omega) (by have := hw.bl.lt; omega) (fun p hp => by
    simp only [List.mem_cons, List.not_mem_nil, or_false] at hp
    rcases hp with rfl | rfl
    · exact hyo
    · exact hzo) (by show 2 ≤ 1000; decide) (by rw [hf, List.length_append]; exact hl)).mono ?_
  rintro e w3 ⟨rfl, v', g1, g2, g3⟩
  exact ⟨rfl, v', by rw [hf] at g1; exact g1, wr_after (b := b) b2 g2 g3⟩
theorem off_lt {M : Nat} {w : World} {b q : Nat} {v : Value} {bs : List UInt8} (hw : Wr M w b q v bs) {g : Nat} (hg : g < b) (o n c : Nat) (ys : List UInt8) : ∀ k, v.ownBlock = some k → Off (.slice (some ⟨g, o, none⟩) n c) ys k := fun k hk => .inr fun e => by
  have := hw.ob.base k hk
  simp only [Value.ownBlock, Option.some.injEq] at e
  omega
set_option maxRecDepth 100000 in
set_option maxHeartbeats 4000000 in
theorem encode_any (h : Hd) (kh : h.ok) (w : World) : Calls Try.prog 16 #[h.v] w fun e w' => ∃ v, e = .returned v ∧ Ob w' w.heap.size v (encH h) ∧ Below w.heap.size w w' := by
  obtain ⟨w1, q1, r1, bx1, e1, hq1⟩ := box_any 30 h.cs w
  have l1 := e1.size
  have hq1' := bx1.lt
  refine calls_of_args [h.v] Try.func16 rfl 39 Try.ntmps16 (by show 1 ≤ 39; decide) ?_
  refine EW.seq ?_
  refine EW.region ?_
  refine WL.box rfl rfl rfl r1 ?_
  first | refine WL.assign rfl rfl rfl ?_
  refine WL.done ?_
  refine EW.on ?_
  refine EW.seq ?_
  refine EW.region ?_
  refine WL.call [.int .i64 60] enter20 rfl rfl rfl (newW_any 60 (by decide) _) ?_
  rintro _ w2 ⟨q, rfl, wr2, be2⟩
  have bx2 := bx1.on be2
  have l2 := be2.size
  refine ⟨_, rfl, ?_⟩
  first | refine WL.move rfl rfl rfl ?_
  first | refine WL.extract rfl rfl rfl (ext_2 _ _ _).1 ?_
  first | refine WL.extract rfl rfl rfl (ext_2 _ _ _).2 ?_
  first | refine WL.assign rfl rfl rfl ?_
  first | refine WL.assign rfl rfl rfl ?_
  refine WL.done ?_
  refine EW.on ?_
  refine EW.seq ?_
  refine EW.region ?_
  first | refine WL.move rfl rfl rfl ?_
  refine WL.field rfl rfl rfl (f30_0 q1 0 _) ?_
  refine WL.slice0 rfl rfl rfl (sl28 q1 _ _) ?_
  have hh2 : Has w2 (.slice (some ⟨q1, 0, none⟩) 16 16) h.sid := by
    have := bx2.has (a := []) (K := h.sid) (b := [u32v h.turn] ++ (h.key.map byt ++ ([u32v h.prev] ++ [u32v h.n]))) (o := 0) (by simp [Hd.cs]) (by simp [kh.s]) 16 (by simp [kh.s, kh.k])
    rw [kh.s] at this
    exact this
  refine WL.bslN [(0, .slice (some ⟨q1, 0, none⟩) 16 16)] rfl rfl rfl (bsl74_1 _ ⟨_, _, _, rfl⟩ _) ?_
  refine WL.call [.pointer (some ⟨q, 0, none⟩), .slice (some ⟨w2.heap.size, 0, none⟩) 1 1] enter23 rfl rfl rfl (fixed1 60 (by decide) w1.heap.size q _ _ (.slice (some ⟨q1, 0, none⟩) 16 16) h.sid w2 wr2 (by omega) hh2 (off_lt wr2 (by omega) _ _ _ _) (by simp only [List.length_append, List.length_nil, be32_len, kh.s, kh.k]; first | omega | decide)) ?_
  rintro _ w3 ⟨rfl, v3, wr3, f3, n3⟩
  have bx3 := bx2.fx f3 (wr2.apart bx2 (by decide) (by decide))
  have l3 := f3.size
  refine ⟨_, rfl, ?_⟩
  refine WL.done ?_
  refine EW.on ?_
  refine EW.seq ?_
  refine EW.region ?_
  first | refine WL.move rfl rfl rfl ?_
  refine WL.field rfl rfl rfl (f30_1 q1 0 _) ?_
  refine WL.load rfl rfl rfl (bx3.ldU (n := h.turn) (a := (h.sid.map byt)) (b := (h.key.map byt ++ ([u32v h.prev] ++ [u32v h.n]))) (by simp [Hd.cs]) (by simp [kh.s, kh.k])) ?_
  refine WL.call [.pointer (some ⟨q, 0, none⟩), u32v h.turn] enter35 rfl rfl rfl (u32_any 60 (by decide) w1.heap.size q _ _ h.turn w3 wr3 (by omega) (by simp only [List.length_append, List.length_nil, be32_len, kh.s, kh.k]; first | omega | decide)) ?_
  rintro _ w4 ⟨rfl, v4, wr4, f4, n4⟩
  have bx4 := bx3.fx f4 (wr3.apart bx3 (by decide) (by decide))
  have l4 := f4.size
  refine ⟨_, rfl, ?_⟩
  refine WL.done ?_
  refine EW.on ?_
  refine EW.seq ?_
  refine EW.region ?_
  first | refine WL.move rfl rfl rfl ?_
  refine WL.field rfl rfl rfl (f30_2 q1 0 _) ?_
  refine WL.slice0 rfl rfl rfl (sl23 q1 _ _) ?_
  have hh4 : Has w4 (.slice (some ⟨q1, 17, none⟩) 32 32) h.key := by
    have := bx4.has (a := (h.sid.map byt ++ [u32v h.turn])) (K := h.key) (b := [u32v h.prev] ++ [u32v h.n]) (o := 17) (by simp [Hd.cs]) (by simp [kh.s]) 32 (by simp [kh.s, kh.k])
    rw [kh.k] at this
    exact this
  refine WL.bslN [(0, .slice (some ⟨q1, 17, none⟩) 32 32)] rfl rfl rfl (bsl74_1 _ ⟨_, _, _, rfl⟩ _) ?_
  refine WL.call [.pointer (some ⟨q, 0, none⟩), .slice (some ⟨w4.heap.size, 0, none⟩) 1 1] enter23 rfl rfl rfl (fixed1 60 (by decide) w1.heap.size q _ _ (.slice (some ⟨q1, 17, none⟩) 32 32) h.key w4 wr4 (by omega) hh4 (off_lt wr4 (by omega) _ _ _ _) (by simp only [List.length_append, List.length_nil, be32_len, kh.s, kh.k]; first | omega | decide)) ?_
  rintro _ w5 ⟨rfl, v5, wr5, f5, n5⟩
  have bx5 := bx4.fx f5 (wr4.apart bx4 (by decide) (by decide))
  have l5 := f5.size
  refine ⟨_, rfl, ?_⟩
  refine WL.done ?_
  refine EW.on ?_
  refine EW.seq ?_
  refine EW.region ?_
  first | refine WL.move rfl rfl rfl ?_
  refine WL.field rfl rfl rfl (f30_3 q1 0 _) ?_
  refine WL.load rfl rfl rfl (bx5.ldU (n := h.prev) (a := (h.sid.map byt ++ ([u32v h.turn] ++ h.key.map byt))) (b := [u32v h.n]) (by simp [Hd.cs]) (by simp [kh.s, kh.k])) ?_
  refine WL.call [.pointer (some ⟨q, 0, none⟩), u32v h.prev] enter35 rfl rfl rfl (u32_any 60 (by decide) w1.heap.size q _ _ h.prev w5 wr5 (by omega) (by simp only [List.length_append, List.length_nil, be32_len, kh.s, kh.k]; first | omega | decide)) ?_
  rintro _ w6 ⟨rfl, v6, wr6, f6, n6⟩
  have bx6 := bx5.fx f6 (wr5.apart bx5 (by decide) (by decide))
  have l6 := f6.size
  refine ⟨_, rfl, ?_⟩
  refine WL.done ?_
  refine EW.on ?_
  refine EW.seq ?_
  refine EW.region ?_
  first | refine WL.move rfl rfl rfl ?_
  refine WL.field rfl rfl rfl (f30_4 q1 0 _) ?_
  refine WL.load rfl rfl rfl (bx6.ldU (n := h.n) (a := (h.sid.map byt ++ ([u32v h.turn] ++ (h.key.map byt ++ [u32v h.prev])))) (b := []) (by simp [Hd.cs]) (by simp [kh.s, kh.k])) ?_
  refine WL.call [.pointer (some ⟨q, 0, none⟩), u32v h.n] enter35 rfl rfl rfl (u32_any 60 (by decide) w1.heap.size q _ _ h.n w6 wr6 (by omega) (by simp only [List.length_append, List.length_nil, be32_len, kh.s, kh.k]; first | omega | decide)) ?_
  rintro _ w7 ⟨rfl, v7, wr7, f7, n7⟩
  have bx7 := bx6.fx f7 (wr6.apart bx6 (by decide) (by decide))
  have l7 := f7.size
  refine ⟨_, rfl, ?_⟩
  refine WL.done ?_
  refine EW.on ?_
  refine EW.seq ?_
  refine EW.region ?_
  first | refine WL.move rfl rfl rfl ?_
  refine WL.call [.pointer (some ⟨q, 0, none⟩)] enter25 rfl rfl rfl (out_any 60 _ q _ _ w7 wr7 (by simp only [List.length_append, List.length_nil, be32_len, kh.s, kh.k]; first | omega | decide)) ?_
  rintro _ w9 ⟨vo, rfl, go, beo⟩
  refine ⟨_, rfl, ?_⟩
  first | refine WL.move rfl rfl rfl ?_
  first | refine WL.extract rfl rfl rfl (ext_2 _ _ _).1 ?_
  first | refine WL.extract rfl rfl rfl (ext_2 _ _ _).2 ?_
  first | refine WL.assign rfl rfl rfl ?_
  first | refine WL.assign rfl rfl rfl ?_
  refine WL.done ?_
  refine EW.on ?_
  refine EW.seq ?_
  refine EW.region ?_
  first | refine WL.move rfl rfl rfl ?_
  first | refine WL.assign rfl rfl rfl ?_
  refine WL.done ?_
  refine EW.on ?_
  refine EW.ret ?_
  refine EW.returns Try.results16 rfl ⟨vo, rfl, ?_, ?_⟩
  · have e : [] ++ h.sid ++ be32 h.turn ++ h.key ++ be32 h.prev ++ be32 h.n = encH h := by simp [encH]
    rw [e] at go
    exact go.lower (by omega)
  · have s3 := wr2.stays f3 (by omega)
    have s4 := wr3.stays f4 (by omega)
    have s5 := wr4.stays f5 (by omega)
    have s6 := wr5.stays f6 (by omega)
    have s7 := wr6.stays f7 (by omega)
    exact e1.trans ((be2.mono l1).trans ((s3.mono l1).trans ((s4.mono l1).trans ((s5.mono l1).trans ((s6.mono l1).trans ((s7.mono l1).trans (beo.mono (by omega))))))))
end Go.Proofs.Ytobfebpinkikdaa
