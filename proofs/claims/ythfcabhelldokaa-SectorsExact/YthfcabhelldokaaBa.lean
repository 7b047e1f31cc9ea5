import Derived.Test.YthfcabhelldokaaRi
set_option linter.unusedVariables false
set_option linter.unusedSimpArgs false
namespace Go.Proofs.Ythfcabhelldokaa
open Go.RowKit

/-- 'append' to a row without spare room: it is copied. -/
theorem run_appg (w : World) (t ty e : TypeId) (i : TypeInfo) (z : Value) (size bytes : Nat) (ht : Try.prog.underlying t = some (.slice e)) (hi : Try.prog.info? e = some i) (hz : i.zero = some z)
    (hsize : i.size = size) (hby : i.bytes = bytes) (hzs : z.cells.size = size) (hs0 : 0 < size) (g n : Nat) (xs : List Value) (hown : w.ownsRow 0 e size (.slice (some ⟨g, 0, none⟩) n n) n xs)
    (a : Addr) (m c : Nat) (news : List Value) (hl : news.length = m * size) (hnews : ∀ j u, news[j]? = some u → w.cell? (a.add j) = some u) (h1 : ∀ u ∈ news, u.oneCell' = true)
    (hn : n + m ≤ 1000000000) (hm : 0 < m) (hby0 : bytes ≤ 64) :
    ∃ ao l cp w', (Builtin.append_ #[t, t] ty #[.slice (some ⟨g, 0, none⟩) n n, .slice (some a) m c]).run Try.prog w = .ok (.slice ao l cp) w' ∧ w'.ownsRow 0 e size (.slice ao l cp) (n + m) (xs ++ news) ∧ Below w.heap.size w w' ∧ ∀ k, Value.ownBlock (.slice ao l cp) = some k → w.heap.size ≤ k := by
  obtain ⟨v', w', r1, r2, r3, r4⟩ := run_appx w t ty e i z size bytes ht hi hz hsize hby hzs hs0 _ n xs hown a m c news hl hnews h1 hn hby0
  have hcap := nextcap_le (n + m) n (by omega)
  have hfit : Builtin.nextslicecap (n + m) n * i.bytes ≤ 281474976710656 := by
    rw [hby]
    refine Nat.le_trans (Nat.mul_le_mul (Nat.le_trans hcap (show (n + m) + ((n + m) + 768) / 4 ≤ 2000000000 by omega)) hby0) (by decide)
  have q1 := run_append_grow (P := Try.prog) w t ty e i z ht hi hz ⟨g, 0, none⟩ n n xs (by rw [hsize]; exact hown.1) (World.ownsRow.cells hown (g := g) rfl) a m c news (by rw [hsize]; exact hl) hnews (by omega) (by omega) hfit
  rw [r1] at q1
  simp only [Result.ok.injEq] at q1
  obtain ⟨rfl, rfl⟩ := q1
  refine ⟨_, _, _, _, r1, r2, ?_, fun k hk => ?_⟩
  · exact Below.alloc (w := w.drew) (below_drawn w) (by simp) _
  · have : w.heap.size = k := by simpa [Value.ownBlock] using hk
    omega
theorem info34i : (Try.prog.info? 34).map (fun i => (i.zero, i.size, i.bytes)) = some (some (.slice none 0 0), 1, 24) := by kernel_rfl
theorem info30i : (Try.prog.info? 30).map (fun i => (i.zero, i.size, i.bytes)) = some (some (.slice none 0 0), 1, 24) := by kernel_rfl
/-- The book. -/
structure Bl where
  p : Nat
  vg : Value
  vw : Value
  vl : Value
  got : List (Value × List UInt8)
  wn : List (List UInt8)
  ls : List (Value × Nat)
  mark : Nat
def Bl.F (B : Bl) (k : Nat) : Prop := k = B.p ∨ B.vg.ownBlock = some k ∨ B.vw.ownBlock = some k ∨ B.vl.ownBlock = some k ∨ (∃ x ∈ B.got, x.1.ownBlock = some k) ∨ ∃ x ∈ B.ls, x.1.ownBlock = some k
def bkC (B : Bl) : List Value := [B.vg, B.vw, .int .i64 (B.mark : Int), B.vl]
def Marks (W : World) (v : Value) (n : Nat) (z : Int) : Prop := (v = .slice none 0 0 ∧ n = 0) ∨ ∃ g cap, v = .slice (some ⟨g, 0, none⟩) n cap ∧ ∀ k, k < n → W.cell? ⟨g, k * 2, none⟩ = some (.int .i64 z) ∧ W.cell? ⟨g, k * 2 + 1, none⟩ = some (.slice none 0 0)
theorem Marks.fx {S : Nat → Prop} {w w' : World} {v : Value} {n : Nat} {z : Int} (h : Marks w v n z) (hf : Fx S w w') (hd : ∀ k, v.ownBlock = some k → ¬ S k) : Marks w' v n z := by
  rcases h with h | ⟨g, cap, rfl, h2⟩
  · exact .inl h
  · exact .inr ⟨g, cap, rfl, fun k hk => ⟨hf.cell (h2 k hk).1 (hd g rfl), hf.cell (h2 k hk).2 (hd g rfl)⟩⟩
structure Bok (W : World) (B : Bl) : Prop where
  bl : Blk W B.p (bkC B) 68
  g : W.ownsRow 0 34 1 B.vg B.got.length (B.got.map (·.1))
  w : W.ownsRow 0 9 1 B.vw B.wn.length (B.wn.map fun x => .string ⟨x.toArray⟩)
  l : W.ownsRow 0 30 1 B.vl B.ls.length (B.ls.map (·.1))
  gh : ∀ x ∈ B.got, Has W x.1 x.2
  lh : ∀ (i : Nat) (x : Value × Nat), B.ls[i]? = some x → Marks W x.1 x.2 (-1 - ((i / 2 : Nat) : Int))
  d1 : B.vg.ownBlock ≠ some B.p
  d2 : B.vw.ownBlock ≠ some B.p
  d3 : B.vl.ownBlock ≠ some B.p
  d4 : ∀ k, B.vg.ownBlock = some k → B.vw.ownBlock ≠ some k
  d5 : ∀ k, B.vg.ownBlock = some k → B.vl.ownBlock ≠ some k
  d6 : ∀ k, B.vw.ownBlock = some k → B.vl.ownBlock ≠ some k
  en : ∀ x ∈ B.got, ∀ k, x.1.ownBlock = some k → k ≠ B.p ∧ B.vg.ownBlock ≠ some k ∧ B.vw.ownBlock ≠ some k ∧ B.vl.ownBlock ≠ some k ∧ k < W.heap.size
  ln : ∀ x ∈ B.ls, ∀ k, x.1.ownBlock = some k → k ≠ B.p ∧ B.vg.ownBlock ≠ some k ∧ B.vw.ownBlock ≠ some k ∧ B.vl.ownBlock ≠ some k ∧ k < W.heap.size
theorem Bok.lt {W : World} {B : Bl} (h : Bok W B) (k : Nat) (hk : B.F k) : k < W.heap.size := by
  rcases hk with rfl | hk | hk | hk | ⟨x, hx, hk⟩ | ⟨x, hx, hk⟩
  · exact h.bl.lt
  · exact ownsRow_lt h.g k hk
  · exact ownsRow_lt h.w k hk
  · exact ownsRow_lt h.l k hk
  · exact (h.en x hx k hk).2.2.2.2
  · exact (h.ln x hx k hk).2.2.2.2
theorem Bok.fx {S : Nat → Prop} {w w' : World} {B : Bl} (h : Bok w B) (hf : Fx S w w') (hd : ∀ k, B.F k → ¬ S k) : Bok w' B :=
  { bl := h.bl.fx hf (hd _ (.inl rfl)), g := ownsRow_fx h.g hf (fun k hk => hd k (.inr (.inl hk))), w := ownsRow_fx h.w hf (fun k hk => hd k (.inr (.inr (.inl hk)))), l := ownsRow_fx h.l hf (fun k hk => hd k (.inr (.inr (.inr (.inl hk))))),
    gh := fun x hx => (h.gh x hx).fx hf (fun k hk => hd k (.inr (.inr (.inr (.inr (.inl ⟨x, hx, hk⟩)))))), lh := fun i x hx => (h.lh i x hx).fx hf (fun k hk => hd k (.inr (.inr (.inr (.inr (.inr ⟨x, List.mem_of_getElem? hx, hk⟩)))))),
    d1 := h.d1, d2 := h.d2, d3 := h.d3, d4 := h.d4, d5 := h.d5, d6 := h.d6,
    en := fun x hx k hk => ⟨(h.en x hx k hk).1, (h.en x hx k hk).2.1, (h.en x hx k hk).2.2.1, (h.en x hx k hk).2.2.2.1, Nat.lt_of_lt_of_le (h.en x hx k hk).2.2.2.2 hf.size⟩,
    ln := fun x hx k hk => ⟨(h.ln x hx k hk).1, (h.ln x hx k hk).2.1, (h.ln x hx k hk).2.2.1, (h.ln x hx k hk).2.2.2.1, Nat.lt_of_lt_of_le (h.ln x hx k hk).2.2.2.2 hf.size⟩ }
theorem Bok.below {w w' : World} {B : Bl} (h : Bok w B) (hb : Below w.heap.size w w') : Bok w' B := h.fx (Fx.of_below (S := fun _ => False) hb) (fun _ _ s => s)
/-- The mark. -/
theorem Bok.setMark {w : World} {B : Bl} (h : Bok w B) (m : Nat) : Bok (w.setCell ⟨B.p, 2, none⟩ (.int .i64 (m : Int))) { B with mark := m } := by
  have hf : Fx (fun j => j = B.p) w (w.setCell ⟨B.p, 2, none⟩ (.int .i64 (m : Int))) := Fx.setCell w B.p 2 _ rfl
  exact ⟨h.bl.set 2 _, ownsRow_fx h.g hf (fun k hk e => h.d1 (by rw [← e]; exact hk)), ownsRow_fx h.w hf (fun k hk e => h.d2 (by rw [← e]; exact hk)), ownsRow_fx h.l hf (fun k hk e => h.d3 (by rw [← e]; exact hk)), fun x hx => (h.gh x hx).fx hf (fun k hk e => (h.en x hx k hk).1 e), fun i x hx => (h.lh i x hx).fx hf (fun k hk e => (h.ln x (List.mem_of_getElem? hx) k hk).1 e), h.d1, h.d2, h.d3, h.d4, h.d5, h.d6,
    fun x hx k hk => ⟨(h.en x hx k hk).1, (h.en x hx k hk).2.1, (h.en x hx k hk).2.2.1, (h.en x hx k hk).2.2.2.1, Nat.lt_of_lt_of_le (h.en x hx k hk).2.2.2.2 hf.size⟩,
    fun x hx k hk => ⟨(h.ln x hx k hk).1, (h.ln x hx k hk).2.1, (h.ln x hx k hk).2.2.1, (h.ln x hx k hk).2.2.2.1, Nat.lt_of_lt_of_le (h.ln x hx k hk).2.2.2.2 hf.size⟩⟩
def mnE (x : UInt8) (g t : Nat) : List (Nat × Value) := [(0, byt x), (3, .slice (some ⟨g, 0, none⟩) 80 80), (4, .int .i64 (t : Int))]
def mnT (x : UInt8) (t : Nat) : List UInt8 := List.replicate t x ++ List.replicate (80 - t) 0
theorem mnT_set (x : UInt8) (t : Nat) (h : t < 80) : (mnT x t).set t x = mnT x (t + 1) := by
  unfold mnT
  rw [List.set_append_right _ _ (by simp), List.length_replicate, Nat.sub_self]
  obtain ⟨k, hk⟩ : ∃ k, 80 - t = k + 1 := ⟨79 - t, by omega⟩
  rw [hk, List.replicate_succ, List.set_cons_zero, show 80 - (t + 1) = k by omega, List.replicate_succ']
  simp
theorem tn80 (t : Nat) (h : t < 80) : IntKind.i64.wrap ((t : Int) + 1) = ((t + 1 : Nat) : Int) := by rw [IntKind.wrap_i64]; omega
theorem WL.mks {P : Program} {n : Nat} {ops : Array Oper} {Q : Exit → Act → World → Prop} {i : Nat} {ty : TypeId} {ps : String} {af : Array Edge} {gd : Option (Nat × Bool)} {r : List Oper} {e : List (Nat × Value)} {w w' : World} {t : TypeId} {x y : Operand} {u u' v : Value} (hw : wantE ops e ⟨some i, .makeSlice t x y, ty, ps, af, gd⟩ = some true) (hi : decide (i < n) = true) (hx : evE e x = some u) (hy : evE e y = some u') (hr : (Instr.makeSlice t u u').run P w = .ok v w') (k : WL P n ops Q r ((i, v) :: e) w') : WL P n ops Q (⟨some i, .makeSlice t x y, ty, ps, af, gd⟩ :: r) e w :=
  WL.op i v hw rfl hi (fun a ha => by simp [execOp, ha.ev hx, ha.ev hy, hr, Result.andThen]) k
set_option maxRecDepth 100000 in
set_option maxHeartbeats 1000000 in
theorem many_any (x : UInt8) (w : World) : Calls Try.prog 62 #[byt x] w fun e w' => e = .returned (.slice (some ⟨w.heap.size, 0, none⟩) 80 80) ∧ w' = w.alloc (.cells ((List.replicate 80 x).map byt).toArray 5) := by
  have hmk := run_mk34 w 80 (by decide)
  rw [show ((80 : Nat) : Int) = 80 from rfl, show List.replicate 80 (0 : UInt8) = mnT x 0 from rfl] at hmk
  obtain ⟨g, hg⟩ : ∃ g, w.heap.size = g := ⟨_, rfl⟩
  rw [hg] at hmk ⊢
  refine calls_of_args [byt x] Try.func62 rfl 15 Try.ntmps62 (by show 1 ≤ 15; decide) ?_
  refine EW.seq ?_
  refine EW.region ?_
  first | refine WL.assign rfl rfl rfl ?_
  refine WL.done ?_
  refine EW.on ?_
  refine EW.seq ?_
  refine EW.region ?_
  refine WL.mks rfl rfl rfl rfl hmk ?_
  first | refine WL.assign rfl rfl rfl ?_
  refine WL.done ?_
  refine EW.on ?_
  refine EW.seq ?_
  refine EW.seq ?_
  refine EW.region ?_
  first | refine WL.assign rfl rfl rfl ?_
  refine WL.done ?_
  refine EW.on ?_
  refine EW.block ?_
  refine EW.loop (mnE x g) (fun t w' => t ≤ 80 ∧ w' = w.alloc (.cells ((mnT x t).map byt).toArray 5)) (fun t => 80 - t) 0 [0, 3, 4] rfl ⟨Nat.zero_le _, rfl⟩ ?_
  rintro t wr ⟨ht, hz⟩
  show EW _ _ _ _ [(0, byt x), (3, .slice (some ⟨g, 0, none⟩) 80 80), (4, .int .i64 (t : Int))] _
  by_cases hl : t < 80
  · have z1 : (t : Int) < 80 := Int.ofNat_lt.2 hl
    have tn := tn80 t hl
    have bb : Blk wr g ((mnT x t).map byt) 5 := by rw [hz]; exact Blk.newAt hg
    have hlen : (mnT x t).length = 80 := by simp [mnT]; omega
    obtain ⟨u, hu⟩ : ∃ u, (mnT x t)[t]? = some u := ⟨_, List.getElem?_eq_getElem (by omega)⟩
    have hc : wr.cell? ⟨g, t, none⟩ = some (byt u) := by rw [bb.cell, List.getElem?_map, hu]; rfl
    have hst := st5 (z := x) hc (bb.frozen t)
    have hnx : wr.setCell ⟨g, t, none⟩ (byt x) = w.alloc (.cells ((mnT x (t + 1)).map byt).toArray 5) := by
      rw [hz, ← mnT_set x t hl]; exact alloc_set w (mnT x t) g t x hg
    rw [hnx] at hst
    refine EW.seq ?_
    refine EW.seq ?_
    refine EW.region ?_
    first | refine WL.move rfl rfl rfl ?_
    first | refine WL.bin rfl rfl rfl rfl (int_lt_t ‹_› _ _ _) ?_ | refine WL.bin rfl rfl rfl rfl (int_lt_f ‹_› _ _ _) ?_
    refine WL.done ?_
    refine EW.on ?_
    refine EW.cond_t rfl ?_
    refine EW.skip ?_
    refine EW.on ?_
    refine EW.seq ?_
    refine EW.block ?_
    refine EW.region ?_
    first | refine WL.move rfl rfl rfl ?_
    first | refine WL.move rfl rfl rfl ?_
    first | refine WL.move rfl rfl rfl ?_
    refine WL.index rfl rfl rfl rfl (idx34c g _ _ _ hl _) ?_
    refine WL.store rfl rfl rfl hst ?_
    refine WL.done ?_
    refine pn_block ?_
    refine EW.on ?_
    refine EW.region ?_
    first | refine WL.move rfl rfl rfl ?_
    first | refine WL.bin rfl rfl rfl rfl (int_add ‹_› _ _ _) ?_
    first | refine WL.assign rfl rfl rfl ?_
    refine WL.done ?_
    exact EW.again (t + 1) [0, 3, 4] rfl ⟨hl, rfl⟩ (by show 80 - (t + 1) < 80 - t; omega)
  · have z1 : ¬ (t : Int) < 80 := fun hh => hl (Int.ofNat_lt.1 hh)
    obtain rfl : t = 80 := Nat.le_antisymm ht (Nat.le_of_not_lt hl)
    refine EW.seq ?_
    refine EW.seq ?_
    refine EW.region ?_
    first | refine WL.move rfl rfl rfl ?_
    first | refine WL.bin rfl rfl rfl rfl (int_lt_t ‹_› _ _ _) ?_ | refine WL.bin rfl rfl rfl rfl (int_lt_f ‹_› _ _ _) ?_
    refine WL.done ?_
    refine EW.on ?_
    refine EW.cond_f rfl ?_
    refine EW.exit ?_
    repeat refine px_then ?_
    refine px_block ?_
    refine EW.on ?_
    refine EW.seq ?_
    refine EW.region ?_
    first | refine WL.move rfl rfl rfl ?_
    first | refine WL.assign rfl rfl rfl ?_
    refine WL.done ?_
    refine EW.on ?_
    refine EW.ret ?_
    repeat (first | refine pr_then ?_ | refine pr_block ?_)
    exact EW.returns Try.results62 rfl ⟨rfl, by rw [hz]; rfl⟩
end Go.Proofs.Ythfcabhelldokaa
