import Derived.Test.YthfcabhelldokaaBa
set_option linter.unusedVariables false
set_option linter.unusedSimpArgs false
namespace Go.Proofs.Ythfcabhelldokaa
open Go.RowKit

theorem bs65 (ao ao' : Option Addr) (l l' c c' : Nat) (W : World) : (Instr.buildSlice 65 2 #[(0, .slice ao l c), (1, .slice ao' l' c')]).run Try.prog W = .ok (.slice (some ⟨W.heap.size, 0, none⟩) 2 2) (W.alloc (.cells [Value.slice ao l c, .slice ao' l' c'].toArray 34)) := by kernel_rfl
theorem bs66 (ao ao' : Option Addr) (l l' c c' : Nat) (W : World) : (Instr.buildSlice 66 2 #[(0, .slice ao l c), (1, .slice ao' l' c')]).run Try.prog W = .ok (.slice (some ⟨W.heap.size, 0, none⟩) 2 2) (W.alloc (.cells [Value.slice ao l c, .slice ao' l' c'].toArray 30)) := by kernel_rfl
theorem bs29b (s s' : ByteArray) (W : World) : (Instr.buildSlice 29 2 #[(0, .string s), (1, .string s')]).run Try.prog W = .ok (.slice (some ⟨W.heap.size, 0, none⟩) 2 2) (W.alloc (.cells [Value.string s, .string s'].toArray 9)) := by kernel_rfl
theorem Bok.r0 {w : World} {B : Bl} (h : Bok w B) : w.cell? ⟨B.p, 0, none⟩ = some B.vg := (h.bl.cell 0).trans rfl
theorem Bok.r1 {w : World} {B : Bl} (h : Bok w B) : w.cell? ⟨B.p, 1, none⟩ = some B.vw := (h.bl.cell 1).trans rfl
theorem Bok.r2 {w : World} {B : Bl} (h : Bok w B) : w.cell? ⟨B.p, 2, none⟩ = some (.int .i64 (B.mark : Int)) := (h.bl.cell 2).trans rfl
theorem Bok.r3 {w : World} {B : Bl} (h : Bok w B) : w.cell? ⟨B.p, 3, none⟩ = some B.vl := (h.bl.cell 3).trans rfl
theorem Bok.pushG {w : World} {B : Bl} (h : Bok w B) (xo yo : Option Addr) (xl xc yl yc : Nat) (b1 b2 : List UInt8) (h1 : Has w (.slice xo xl xc) b1) (h2 : Has w (.slice yo yl yc) b2) (hn : ∀ v ∈ [Value.slice xo xl xc, .slice yo yl yc], ∀ k, v.ownBlock = some k → k ≠ B.p ∧ B.vg.ownBlock ≠ some k ∧ B.vw.ownBlock ≠ some k ∧ B.vl.ownBlock ≠ some k ∧ k < w.heap.size) (hl : B.got.length ≤ 100000000) (ty : TypeId) :
    ∃ w1 ao ln cp w2, (Instr.buildSlice 65 2 #[(0, .slice xo xl xc), (1, .slice yo yl yc)]).run Try.prog w = .ok (.slice (some ⟨w.heap.size, 0, none⟩) 2 2) w1 ∧ (Builtin.append_ #[65, 65] ty #[B.vg, .slice (some ⟨w.heap.size, 0, none⟩) 2 2]).run Try.prog w1 = .ok (.slice ao ln cp) w2 ∧ Below w.heap.size w w1 ∧ Fx (fun k => B.vg.ownBlock = some k) w1 w2 ∧ w1.cell? ⟨B.p, 0, none⟩ = some B.vg ∧ w2.cell? ⟨B.p, 0, none⟩ = some B.vg ∧ w2.frozen? ⟨B.p, 0, none⟩ = false ∧
      Bok (w2.setCell ⟨B.p, 0, none⟩ (.slice ao ln cp)) { B with vg := .slice ao ln cp, got := B.got ++ [(.slice xo xl xc, b1), (.slice yo yl yc, b2)] } ∧ Fx B.F w (w2.setCell ⟨B.p, 0, none⟩ (.slice ao ln cp)) ∧ (∀ k, Value.ownBlock (.slice ao ln cp) = some k → B.vg.ownBlock = some k ∨ w.heap.size ≤ k) := by
  have be1 : Below w.heap.size w (w.alloc (.cells [Value.slice xo xl xc, .slice yo yl yc].toArray 34)) := below_new _ _
  have k1 := h.below be1
  have hP : Blk (w.alloc (.cells [Value.slice xo xl xc, .slice yo yl yc].toArray 34)) w.heap.size [Value.slice xo xl xc, .slice yo yl yc] 34 := Blk.new _ _ _
  obtain ⟨i0, hi, hz0, hz1, hz2⟩ := info_parts info34i
  obtain ⟨v', w2, hr, ho, hg, hnw⟩ := run_appx (w.alloc (.cells [Value.slice xo xl xc, .slice yo yl yc].toArray 34)) 65 ty 34 i0 _ 1 24 Try.underlying65 hi hz0 hz1 hz2 (by simp [Value.cells]) (by decide) B.vg _ _ k1.g ⟨w.heap.size, 0, none⟩ 2 2 [Value.slice xo xl xc, .slice yo yl yc] rfl
    (fun j u hu => by rw [add_plain, hP.cell]; exact hu) (fun u hu => by
      simp only [List.mem_cons, List.not_mem_nil, or_false] at hu
      rcases hu with rfl | rfl <;> rfl) (by omega) (by omega)
  have hbs := bs65 xo yo xl yl xc yc w
  have hsz : w.heap.size < (w.alloc (.cells [Value.slice xo xl xc, .slice yo yl yc].toArray 34)).heap.size := by simp
  obtain ⟨w1, hw1⟩ : ∃ w1, w.alloc (.cells [Value.slice xo xl xc, .slice yo yl yc].toArray 34) = w1 := ⟨_, rfl⟩
  rw [hw1] at be1 k1 hr hg hnw hbs hsz
  clear hP hw1
  have f := grown_fx hg
  obtain ⟨ao, ln, cp, rfl⟩ := own_shape ho
  have d2 : Blk w2 B.p (bkC B) 68 := k1.bl.fx f (fun e => h.d1 e)
  have hnew : ∀ k, Value.ownBlock (.slice ao ln cp) = some k → B.vg.ownBlock = some k ∨ w.heap.size ≤ k := fun k hk => by
    rcases hnw k hk with e | e
    · exact .inl e
    · exact .inr (by omega)
  have hap : ∀ k, Value.ownBlock (.slice ao ln cp) = some k → k ≠ B.p ∧ B.vw.ownBlock ≠ some k ∧ B.vl.ownBlock ≠ some k ∧ (∀ x ∈ B.got, Value.ownBlock x.1 ≠ some k) ∧ (∀ x ∈ B.ls, Value.ownBlock x.1 ≠ some k) := fun k hk => by
    rcases hnew k hk with e | e
    · exact ⟨fun e2 => h.d1 (by rw [← e2]; exact e), (fun k h1 h2 => h.d4 k h1 h2) k e, (fun k h1 h2 => h.d5 k h1 h2) k e, fun x hx e2 => (h.en x hx k e2).2.1 e, fun x hx e2 => (h.ln x hx k e2).2.1 e⟩
    · exact ⟨fun e2 => by have := h.bl.lt; omega, fun e2 => by have := h.lt k (.inr (.inr (.inl e2))); omega, fun e2 => by have := h.lt k (.inr (.inr (.inr (.inl e2)))); omega, fun x hx e2 => by have := (h.en x hx k e2).2.2.2.2; omega, fun x hx e2 => by have := (h.ln x hx k e2).2.2.2.2; omega⟩
  have hf : Fx (fun j => j = B.p) w2 (w2.setCell ⟨B.p, 0, none⟩ (.slice ao ln cp)) := Fx.setCell w2 B.p 0 _ rfl
  have hsz2 : w.heap.size ≤ (w2.setCell ⟨B.p, 0, none⟩ (.slice ao ln cp)).heap.size := Nat.le_trans be1.size (Nat.le_trans f.size hf.size)
  refine ⟨w1, ao, ln, cp, w2, hbs, hr, be1, f, k1.r0, (d2.cell 0).trans rfl, d2.frozen 0, ?_, ((Fx.of_below be1).and (f.mono (fun k _ e => .inr (.inl e)))).and (hf.mono (fun k _ e => .inl e)), hnew⟩
  have hnn : ∀ v ∈ [Value.slice xo xl xc, .slice yo yl yc], ∀ k, v.ownBlock = some k → Value.ownBlock (.slice ao ln cp) ≠ some k := fun v hv k hk e => by
    rcases hnew k e with e2 | e2
    · exact (hn v hv k hk).2.1 e2
    · have := (hn v hv k hk).2.2.2.2; omega
  exact { bl := d2.set 0 _
          g := by
            have := ownsRow_fx ho hf (fun k hk e => (hap k hk).1 e)
            simpa using this
          w := ownsRow_fx (ownsRow_fx k1.w f (fun k h1 h2 => h.d4 k h2 h1)) hf (fun k hk e => h.d2 (by rw [← e]; exact hk))
          l := ownsRow_fx (ownsRow_fx k1.l f (fun k h1 h2 => h.d5 k h2 h1)) hf (fun k hk e => h.d3 (by rw [← e]; exact hk))
          gh := fun x hx => by
            rcases List.mem_append.1 hx with hx | hx
            · exact ((k1.gh x hx).fx f (fun k hk e => (h.en x hx k hk).2.1 e)).fx hf (fun k hk e => (h.en x hx k hk).1 e)
            · simp only [List.mem_cons, List.not_mem_nil, or_false] at hx
              rcases hx with rfl | rfl
              · exact ((h1.below be1).fx f (fun k hk e => (hn _ (by simp) k hk).2.1 e)).fx hf (fun k hk e => (hn _ (by simp) k hk).1 e)
              · exact ((h2.below be1).fx f (fun k hk e => (hn _ (by simp) k hk).2.1 e)).fx hf (fun k hk e => (hn _ (by simp) k hk).1 e)
          lh := fun i x hx => ((k1.lh i x hx).fx f (fun k hk e => (h.ln x (List.mem_of_getElem? hx) k hk).2.1 e)).fx hf (fun k hk e => (h.ln x (List.mem_of_getElem? hx) k hk).1 e)
          d1 := fun e => (hap B.p e).1 rfl
          d2 := h.d2
          d3 := h.d3
          d4 := fun k h3 h4 => (hap k h3).2.1 h4
          d5 := fun k h3 h4 => (hap k h3).2.2.1 h4
          d6 := h.d6
          en := fun x hx k hk => by
            rcases List.mem_append.1 hx with hx | hx
            · exact ⟨(h.en x hx k hk).1, fun e => (hap k e).2.2.2.1 x hx hk, (h.en x hx k hk).2.2.1, (h.en x hx k hk).2.2.2.1, Nat.lt_of_lt_of_le (h.en x hx k hk).2.2.2.2 hsz2⟩
            · simp only [List.mem_cons, List.not_mem_nil, or_false] at hx
              rcases hx with rfl | rfl
              · exact ⟨(hn _ (by simp) k hk).1, fun e => hnn _ (by simp) k hk e, (hn _ (by simp) k hk).2.2.1, (hn _ (by simp) k hk).2.2.2.1, Nat.lt_of_lt_of_le (hn _ (by simp) k hk).2.2.2.2 hsz2⟩
              · exact ⟨(hn _ (by simp) k hk).1, fun e => hnn _ (by simp) k hk e, (hn _ (by simp) k hk).2.2.1, (hn _ (by simp) k hk).2.2.2.1, Nat.lt_of_lt_of_le (hn _ (by simp) k hk).2.2.2.2 hsz2⟩
          ln := fun x hx k hk => ⟨(h.ln x hx k hk).1, fun e => (hap k e).2.2.2.2 x hx hk, (h.ln x hx k hk).2.2.1, (h.ln x hx k hk).2.2.2.1, Nat.lt_of_lt_of_le (h.ln x hx k hk).2.2.2.2 hsz2⟩ }
theorem Bok.pushW {w : World} {B : Bl} (h : Bok w B) (s1 s2 : List UInt8) (hl : B.wn.length ≤ 100000000) (ty : TypeId) :
    ∃ w1 ao ln cp w2, (Instr.buildSlice 29 2 #[(0, .string ⟨s1.toArray⟩), (1, .string ⟨s2.toArray⟩)]).run Try.prog w = .ok (.slice (some ⟨w.heap.size, 0, none⟩) 2 2) w1 ∧ (Builtin.append_ #[29, 29] ty #[B.vw, .slice (some ⟨w.heap.size, 0, none⟩) 2 2]).run Try.prog w1 = .ok (.slice ao ln cp) w2 ∧ Below w.heap.size w w1 ∧ Fx (fun k => B.vw.ownBlock = some k) w1 w2 ∧ w1.cell? ⟨B.p, 1, none⟩ = some B.vw ∧ w2.cell? ⟨B.p, 1, none⟩ = some B.vw ∧ w2.frozen? ⟨B.p, 1, none⟩ = false ∧
      Bok (w2.setCell ⟨B.p, 1, none⟩ (.slice ao ln cp)) { B with vw := .slice ao ln cp, wn := B.wn ++ [s1, s2] } ∧ Fx B.F w (w2.setCell ⟨B.p, 1, none⟩ (.slice ao ln cp)) ∧ (∀ k, Value.ownBlock (.slice ao ln cp) = some k → B.vw.ownBlock = some k ∨ w.heap.size ≤ k) := by
  have be1 : Below w.heap.size w (w.alloc (.cells [Value.string ⟨s1.toArray⟩, .string ⟨s2.toArray⟩].toArray 9)) := below_new _ _
  have k1 := h.below be1
  have hP : Blk (w.alloc (.cells [Value.string ⟨s1.toArray⟩, .string ⟨s2.toArray⟩].toArray 9)) w.heap.size [Value.string ⟨s1.toArray⟩, .string ⟨s2.toArray⟩] 9 := Blk.new _ _ _
  obtain ⟨i0, hi, hz0, hz1, hz2⟩ := info_parts Try.info9
  obtain ⟨v', w2, hr, ho, hg, hnw⟩ := run_appx (w.alloc (.cells [Value.string ⟨s1.toArray⟩, .string ⟨s2.toArray⟩].toArray 9)) 29 ty 9 i0 _ 1 16 Try.underlying29 hi hz0 hz1 hz2 (by simp [Value.cells]) (by decide) B.vw _ _ k1.w ⟨w.heap.size, 0, none⟩ 2 2 [Value.string ⟨s1.toArray⟩, .string ⟨s2.toArray⟩] rfl
    (fun j u hu => by rw [add_plain, hP.cell]; exact hu) (fun u hu => by
      simp only [List.mem_cons, List.not_mem_nil, or_false] at hu
      rcases hu with rfl | rfl <;> rfl) (by omega) (by omega)
  have hbs := bs29b ⟨s1.toArray⟩ ⟨s2.toArray⟩ w
  have hsz : w.heap.size < (w.alloc (.cells [Value.string ⟨s1.toArray⟩, .string ⟨s2.toArray⟩].toArray 9)).heap.size := by simp
  obtain ⟨w1, hw1⟩ : ∃ w1, w.alloc (.cells [Value.string ⟨s1.toArray⟩, .string ⟨s2.toArray⟩].toArray 9) = w1 := ⟨_, rfl⟩
  rw [hw1] at be1 k1 hr hg hnw hbs hsz
  clear hP hw1
  have f := grown_fx hg
  obtain ⟨ao, ln, cp, rfl⟩ := own_shape ho
  have d2 : Blk w2 B.p (bkC B) 68 := k1.bl.fx f (fun e => h.d2 e)
  have hnew : ∀ k, Value.ownBlock (.slice ao ln cp) = some k → B.vw.ownBlock = some k ∨ w.heap.size ≤ k := fun k hk => by
    rcases hnw k hk with e | e
    · exact .inl e
    · exact .inr (by omega)
  have hap : ∀ k, Value.ownBlock (.slice ao ln cp) = some k → k ≠ B.p ∧ B.vg.ownBlock ≠ some k ∧ B.vl.ownBlock ≠ some k ∧ (∀ x ∈ B.got, Value.ownBlock x.1 ≠ some k) ∧ (∀ x ∈ B.ls, Value.ownBlock x.1 ≠ some k) := fun k hk => by
    rcases hnew k hk with e | e
    · exact ⟨fun e2 => h.d2 (by rw [← e2]; exact e), (fun k h1 h2 => h.d4 k h2 h1) k e, (fun k h1 h2 => h.d6 k h1 h2) k e, fun x hx e2 => (h.en x hx k e2).2.2.1 e, fun x hx e2 => (h.ln x hx k e2).2.2.1 e⟩
    · exact ⟨fun e2 => by have := h.bl.lt; omega, fun e2 => by have := h.lt k (.inr (.inl e2)); omega, fun e2 => by have := h.lt k (.inr (.inr (.inr (.inl e2)))); omega, fun x hx e2 => by have := (h.en x hx k e2).2.2.2.2; omega, fun x hx e2 => by have := (h.ln x hx k e2).2.2.2.2; omega⟩
  have hf : Fx (fun j => j = B.p) w2 (w2.setCell ⟨B.p, 1, none⟩ (.slice ao ln cp)) := Fx.setCell w2 B.p 1 _ rfl
  have hsz2 : w.heap.size ≤ (w2.setCell ⟨B.p, 1, none⟩ (.slice ao ln cp)).heap.size := Nat.le_trans be1.size (Nat.le_trans f.size hf.size)
  refine ⟨w1, ao, ln, cp, w2, hbs, hr, be1, f, k1.r1, (d2.cell 1).trans rfl, d2.frozen 1, ?_, ((Fx.of_below be1).and (f.mono (fun k _ e => .inr (.inr (.inl e))))).and (hf.mono (fun k _ e => .inl e)), hnew⟩
  exact { bl := d2.set 1 _
          g := ownsRow_fx (ownsRow_fx k1.g f (fun k h1 h2 => h.d4 k h1 h2)) hf (fun k hk e => h.d1 (by rw [← e]; exact hk))
          w := by
            have := ownsRow_fx ho hf (fun k hk e => (hap k hk).1 e)
            simpa using this
          l := ownsRow_fx (ownsRow_fx k1.l f (fun k h1 h2 => h.d6 k h2 h1)) hf (fun k hk e => h.d3 (by rw [← e]; exact hk))
          gh := fun x hx => ((k1.gh x hx).fx f (fun k hk e => (h.en x hx k hk).2.2.1 e)).fx hf (fun k hk e => (h.en x hx k hk).1 e)
          lh := fun i x hx => ((k1.lh i x hx).fx f (fun k hk e => (h.ln x (List.mem_of_getElem? hx) k hk).2.2.1 e)).fx hf (fun k hk e => (h.ln x (List.mem_of_getElem? hx) k hk).1 e)
          d1 := h.d1
          d2 := fun e => (hap B.p e).1 rfl
          d3 := h.d3
          d4 := fun k h3 h4 => (hap k h4).2.1 h3
          d5 := h.d5
          d6 := fun k h3 h4 => (hap k h3).2.2.1 h4
          en := fun x hx k hk => ⟨(h.en x hx k hk).1, (h.en x hx k hk).2.1, fun e => (hap k e).2.2.2.1 x hx hk, (h.en x hx k hk).2.2.2.1, Nat.lt_of_lt_of_le (h.en x hx k hk).2.2.2.2 hsz2⟩
          ln := fun x hx k hk => ⟨(h.ln x hx k hk).1, (h.ln x hx k hk).2.1, fun e => (hap k e).2.2.2.2 x hx hk, (h.ln x hx k hk).2.2.2.1, Nat.lt_of_lt_of_le (h.ln x hx k hk).2.2.2.2 hsz2⟩ }
theorem Bok.pushL {w : World} {B : Bl} (h : Bok w B) (xo yo : Option Addr) (xl xc yl yc : Nat) (m1 m2 : Nat) (h1 : Marks w (.slice xo xl xc) m1 (-1 - ((B.ls.length / 2 : Nat) : Int))) (h2 : Marks w (.slice yo yl yc) m2 (-1 - (((B.ls.length + 1) / 2 : Nat) : Int))) (hn : ∀ v ∈ [Value.slice xo xl xc, .slice yo yl yc], ∀ k, v.ownBlock = some k → k ≠ B.p ∧ B.vg.ownBlock ≠ some k ∧ B.vw.ownBlock ≠ some k ∧ B.vl.ownBlock ≠ some k ∧ k < w.heap.size) (hl : B.ls.length ≤ 100000000) (ty : TypeId) :
    ∃ w1 ao ln cp w2, (Instr.buildSlice 66 2 #[(0, .slice xo xl xc), (1, .slice yo yl yc)]).run Try.prog w = .ok (.slice (some ⟨w.heap.size, 0, none⟩) 2 2) w1 ∧ (Builtin.append_ #[66, 66] ty #[B.vl, .slice (some ⟨w.heap.size, 0, none⟩) 2 2]).run Try.prog w1 = .ok (.slice ao ln cp) w2 ∧ Below w.heap.size w w1 ∧ Fx (fun k => B.vl.ownBlock = some k) w1 w2 ∧ w1.cell? ⟨B.p, 3, none⟩ = some B.vl ∧ w2.cell? ⟨B.p, 3, none⟩ = some B.vl ∧ w2.frozen? ⟨B.p, 3, none⟩ = false ∧
      Bok (w2.setCell ⟨B.p, 3, none⟩ (.slice ao ln cp)) { B with vl := .slice ao ln cp, ls := B.ls ++ [(.slice xo xl xc, m1), (.slice yo yl yc, m2)] } ∧ Fx B.F w (w2.setCell ⟨B.p, 3, none⟩ (.slice ao ln cp)) ∧ (∀ k, Value.ownBlock (.slice ao ln cp) = some k → B.vl.ownBlock = some k ∨ w.heap.size ≤ k) := by
  have be1 : Below w.heap.size w (w.alloc (.cells [Value.slice xo xl xc, .slice yo yl yc].toArray 30)) := below_new _ _
  have k1 := h.below be1
  have hP : Blk (w.alloc (.cells [Value.slice xo xl xc, .slice yo yl yc].toArray 30)) w.heap.size [Value.slice xo xl xc, .slice yo yl yc] 30 := Blk.new _ _ _
  obtain ⟨i0, hi, hz0, hz1, hz2⟩ := info_parts info30i
  obtain ⟨v', w2, hr, ho, hg, hnw⟩ := run_appx (w.alloc (.cells [Value.slice xo xl xc, .slice yo yl yc].toArray 30)) 66 ty 30 i0 _ 1 24 Try.underlying66 hi hz0 hz1 hz2 (by simp [Value.cells]) (by decide) B.vl _ _ k1.l ⟨w.heap.size, 0, none⟩ 2 2 [Value.slice xo xl xc, .slice yo yl yc] rfl
    (fun j u hu => by rw [add_plain, hP.cell]; exact hu) (fun u hu => by
      simp only [List.mem_cons, List.not_mem_nil, or_false] at hu
      rcases hu with rfl | rfl <;> rfl) (by omega) (by omega)
  have hbs := bs66 xo yo xl yl xc yc w
  have hsz : w.heap.size < (w.alloc (.cells [Value.slice xo xl xc, .slice yo yl yc].toArray 30)).heap.size := by simp
  obtain ⟨w1, hw1⟩ : ∃ w1, w.alloc (.cells [Value.slice xo xl xc, .slice yo yl yc].toArray 30) = w1 := ⟨_, rfl⟩
  rw [hw1] at be1 k1 hr hg hnw hbs hsz
  clear hP hw1
  have f := grown_fx hg
  obtain ⟨ao, ln, cp, rfl⟩ := own_shape ho
  have d2 : Blk w2 B.p (bkC B) 68 := k1.bl.fx f (fun e => h.d3 e)
  have hnew : ∀ k, Value.ownBlock (.slice ao ln cp) = some k → B.vl.ownBlock = some k ∨ w.heap.size ≤ k := fun k hk => by
    rcases hnw k hk with e | e
    · exact .inl e
    · exact .inr (by omega)
  have hap : ∀ k, Value.ownBlock (.slice ao ln cp) = some k → k ≠ B.p ∧ B.vg.ownBlock ≠ some k ∧ B.vw.ownBlock ≠ some k ∧ (∀ x ∈ B.got, Value.ownBlock x.1 ≠ some k) ∧ (∀ x ∈ B.ls, Value.ownBlock x.1 ≠ some k) := fun k hk => by
    rcases hnew k hk with e | e
    · exact ⟨fun e2 => h.d3 (by rw [← e2]; exact e), (fun k h1 h2 => h.d5 k h2 h1) k e, (fun k h1 h2 => h.d6 k h2 h1) k e, fun x hx e2 => (h.en x hx k e2).2.2.2.1 e, fun x hx e2 => (h.ln x hx k e2).2.2.2.1 e⟩
    · exact ⟨fun e2 => by have := h.bl.lt; omega, fun e2 => by have := h.lt k (.inr (.inl e2)); omega, fun e2 => by have := h.lt k (.inr (.inr (.inl e2))); omega, fun x hx e2 => by have := (h.en x hx k e2).2.2.2.2; omega, fun x hx e2 => by have := (h.ln x hx k e2).2.2.2.2; omega⟩
  have hf : Fx (fun j => j = B.p) w2 (w2.setCell ⟨B.p, 3, none⟩ (.slice ao ln cp)) := Fx.setCell w2 B.p 3 _ rfl
  have hsz2 : w.heap.size ≤ (w2.setCell ⟨B.p, 3, none⟩ (.slice ao ln cp)).heap.size := Nat.le_trans be1.size (Nat.le_trans f.size hf.size)
  refine ⟨w1, ao, ln, cp, w2, hbs, hr, be1, f, k1.r3, (d2.cell 3).trans rfl, d2.frozen 3, ?_, ((Fx.of_below be1).and (f.mono (fun k _ e => .inr (.inr (.inr (.inl e)))))).and (hf.mono (fun k _ e => .inl e)), hnew⟩
  have hnn : ∀ v ∈ [Value.slice xo xl xc, .slice yo yl yc], ∀ k, v.ownBlock = some k → Value.ownBlock (.slice ao ln cp) ≠ some k := fun v hv k hk e => by
    rcases hnew k e with e2 | e2
    · exact (hn v hv k hk).2.2.2.1 e2
    · have := (hn v hv k hk).2.2.2.2; omega
  exact { bl := d2.set 3 _
          g := ownsRow_fx (ownsRow_fx k1.g f (fun k h1 h2 => h.d5 k h1 h2)) hf (fun k hk e => h.d1 (by rw [← e]; exact hk))
          w := ownsRow_fx (ownsRow_fx k1.w f (fun k h1 h2 => h.d6 k h1 h2)) hf (fun k hk e => h.d2 (by rw [← e]; exact hk))
          l := by
            have := ownsRow_fx ho hf (fun k hk e => (hap k hk).1 e)
            simpa using this
          gh := fun x hx => ((k1.gh x hx).fx f (fun k hk e => (h.en x hx k hk).2.2.2.1 e)).fx hf (fun k hk e => (h.en x hx k hk).1 e)
          lh := fun i x hx => by
            have hx : (B.ls ++ [(Value.slice xo xl xc, m1), (.slice yo yl yc, m2)])[i]? = some x := hx
            rcases Nat.lt_or_ge i B.ls.length with hi | hi
            · rw [List.getElem?_append_left hi] at hx
              exact ((k1.lh i x hx).fx f (fun k hk e => (h.ln x (List.mem_of_getElem? hx) k hk).2.2.2.1 e)).fx hf (fun k hk e => (h.ln x (List.mem_of_getElem? hx) k hk).1 e)
            · rw [List.getElem?_append_right hi] at hx
              obtain ⟨j, hj⟩ : ∃ j, i = B.ls.length + j := ⟨i - B.ls.length, by omega⟩
              rw [hj, Nat.add_sub_cancel_left] at hx
              match j, hx, hj with
              | 0, hx, hj =>
                obtain rfl : (Value.slice xo xl xc, m1) = x := by simpa using hx
                rw [hj]
                exact ((h1.fx (Fx.of_below (S := fun _ => False) be1) (fun _ _ s => s)).fx f (fun k hk e => (hn _ (by simp) k hk).2.2.2.1 e)).fx hf (fun k hk e => (hn _ (by simp) k hk).1 e)
              | 1, hx, hj =>
                obtain rfl : (Value.slice yo yl yc, m2) = x := by simpa using hx
                rw [hj]
                exact ((h2.fx (Fx.of_below (S := fun _ => False) be1) (fun _ _ s => s)).fx f (fun k hk e => (hn _ (by simp) k hk).2.2.2.1 e)).fx hf (fun k hk e => (hn _ (by simp) k hk).1 e)
              | j + 2, hx, hj => simp at hx
          d1 := h.d1
          d2 := h.d2
          d3 := fun e => (hap B.p e).1 rfl
          d4 := h.d4
          d5 := fun k h3 h4 => (hap k h4).2.1 h3
          d6 := fun k h3 h4 => (hap k h4).2.2.1 h3
          en := fun x hx k hk => ⟨(h.en x hx k hk).1, (h.en x hx k hk).2.1, (h.en x hx k hk).2.2.1, fun e => (hap k e).2.2.2.1 x hx hk, Nat.lt_of_lt_of_le (h.en x hx k hk).2.2.2.2 hsz2⟩
          ln := fun x hx k hk => by
            rcases List.mem_append.1 hx with hx | hx
            · exact ⟨(h.ln x hx k hk).1, (h.ln x hx k hk).2.1, (h.ln x hx k hk).2.2.1, fun e => (hap k e).2.2.2.2 x hx hk, Nat.lt_of_lt_of_le (h.ln x hx k hk).2.2.2.2 hsz2⟩
            · simp only [List.mem_cons, List.not_mem_nil, or_false] at hx
              rcases hx with rfl | rfl
              · exact ⟨(hn _ (by simp) k hk).1, (hn _ (by simp) k hk).2.1, (hn _ (by simp) k hk).2.2.1, fun e => hnn _ (by simp) k hk e, Nat.lt_of_lt_of_le (hn _ (by simp) k hk).2.2.2.2 hsz2⟩
              · exact ⟨(hn _ (by simp) k hk).1, (hn _ (by simp) k hk).2.1, (hn _ (by simp) k hk).2.2.1, fun e => hnn _ (by simp) k hk e, Nat.lt_of_lt_of_le (hn _ (by simp) k hk).2.2.2.2 hsz2⟩ }
end Go.Proofs.Ythfcabhelldokaa
