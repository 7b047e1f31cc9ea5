import Derived.Test.YtgfgabgnejnipaaWriter
namespace Go.Proofs.Ytgfgabgnejnipaa
open Go.RowKit

/-- The fault that stays. -/
def flt (f k : Int) : Int := if f ≠ 0 then f else k

theorem note_any (p : Nat) (v : Value) (most : Nat) (bs : List UInt8) (f k : Int) (w : World) (h : Wr w p v most bs f) :
    Calls Try.prog 42 #[.pointer (some ⟨p, 0, none⟩), .int .i64 k] w fun e w' => e = .returned (.tuple #[]) ∧ Wr w' p v most bs (flt f k) ∧ Below p w w' := by
  unfold flt
  by_cases hf : f = 0
  · subst hf; rw [if_neg (by simp)]; exact note_set p v most bs k w h
  · rw [if_pos hf]
    exact (note_keep p v most bs f k w h (beq_eq_false_iff_ne.2 hf)).mono fun e w' ⟨h1, h2⟩ => ⟨h1, by subst h2; exact h, by subst h2; exact Below.refl _ _⟩

set_option maxRecDepth 100000 in
set_option maxHeartbeats 400000 in
theorem u8_bad (p : Nat) (v : Value) (most : Nat) (bs : List UInt8) (f n : Int) (w : World) (h : Wr w p v most bs f) (hn : n < 0 ∨ 255 < n) :
    Calls Try.prog 19 #[.pointer (some ⟨p, 0, none⟩), .int .i64 n] w fun e w' => e = .returned (.tuple #[]) ∧ Wr w' p v most bs (flt f 4) ∧ Below p w w' := by
  rcases hn with hn | hn
  all_goals
    go_enter Try.func19, Try.ntmps19
    go_wp2_with fail
    refine (note_any p v most bs f 4 _ h).mono ?_
    rintro e w' ⟨rfl, h1, h2⟩
    go_wp2
    exact bodyPost_ret (v := .tuple #[]) (by simp [results, Try.results19, go_sem]) rfl ⟨rfl, h1, h2⟩

/-- A field of new bytes: the two blocks that the call lays, the parts' and the bytes'. -/
theorem two_blocks (w X : World) (c : Array Value) (ys : List UInt8) (hc : c = (ys.map byt).toArray) (rest : List (Value × List UInt8)) (n : Nat) (hn : n = ys.length)
    (hX : Lik ((w.alloc (.cells c 5)).alloc (.cells ((.slice (some ⟨w.heap.size, 0, none⟩) n n :: rest.map (·.1))).toArray 22)) X) :
    Has X (.slice (some ⟨w.heap.size, 0, none⟩) n n) ys ∧ X.heap[w.heap.size + 1]? = some (.cells ((((.slice (some ⟨w.heap.size, 0, none⟩) n n, ys) :: rest).map (·.1)).toArray) 22) := by
  subst hc hn
  refine ⟨.inr ⟨_, _, rfl, Nat.le_refl _, fun i u hu => ?_⟩, at_snd w X _ _ hX⟩
  rw [add_plain]
  unfold World.cell?
  dsimp only
  rw [at_fst w X _ _ hX]
  simp [hu]

theorem field_new (p : Nat) (v : Value) (most : Nat) (bs : List UInt8) (f : Int) (w : World) (h : Wr w p v most bs f) (hm : most ≤ 1048576) (hbl : bs.length ≤ most)
    (c : Array Value) (ys : List UInt8) (hc : c = (ys.map byt).toArray) (hy : ys.length ≤ 100) (rest : List (Value × List UInt8)) (hrest : ∀ q ∈ rest, HasP w p q.1 q.2 ∧ q.2.length ≤ 150000000000000) (hr : rest.length ≤ 10) (n m : Nat) (hn : n = ys.length) (hmm : m = rest.length + 1) :
    Calls Try.prog 40 #[.pointer (some ⟨p, 0, none⟩), .slice (some ⟨w.heap.size + 1, 0, none⟩) m m] ((w.alloc (.cells c 5)).alloc (.cells ((.slice (some ⟨w.heap.size, 0, none⟩) n n :: rest.map (·.1))).toArray 22)) fun e w' =>
      e = .returned (.tuple #[]) ∧ ∃ v', Wr w' p v' most (put1 most bs f (ys ++ rest.flatMap (·.2))).1 (put1 most bs f (ys ++ rest.flatMap (·.2))).2 ∧ Below p w w' := by
  obtain ⟨a1, a2⟩ := two_blocks w _ c ys hc rest n hn ⟨rfl, rfl, rfl, rfl⟩
  have hb := bel_two w ((w.alloc (.cells c 5)).alloc (.cells ((.slice (some ⟨w.heap.size, 0, none⟩) n n :: rest.map (·.1))).toArray 22)) _ _ ⟨rfl, rfl, rfl, rfl⟩
  have hbp := hb.mono (Nat.le_of_lt h.lt)
  have hre : ∀ q ∈ rest, HasP ((w.alloc (.cells c 5)).alloc (.cells ((.slice (some ⟨w.heap.size, 0, none⟩) n n :: rest.map (·.1))).toArray 22)) p q.1 q.2 := fun q hq => (hrest q hq).1.below hbp
  refine (fixed_any p v most bs f (w.heap.size + 1) m ((.slice (some ⟨w.heap.size, 0, none⟩) n n, ys) :: rest) _ (h.below hb) hm hbl a2 ?_ ?_ (by simp; omega) (by simp; omega)).mono ?_
  · intro q hq
    rcases List.mem_cons.1 hq with rfl | hq
    · exact ⟨a1, by dsimp only; omega⟩
    · exact ⟨(hre q hq).has, (hrest q hq).2⟩
  · intro j q hj hq
    obtain ⟨i, rfl⟩ : ∃ i, j = i + 1 := ⟨j - 1, by omega⟩
    exact hre q (List.mem_of_getElem? (by simpa using hq))
  · rintro e w' ⟨h1, v', h2, h3⟩
    exact ⟨h1, v', by simpa using h2, hbp.trans h3⟩

theorem no_rest {w : World} {p : Nat} : ∀ q ∈ ([] : List (Value × List UInt8)), HasP w p q.1 q.2 ∧ q.2.length ≤ 150000000000000 := by simp

set_option maxRecDepth 100000 in
set_option maxHeartbeats 400000 in
theorem u8_ok (p : Nat) (v : Value) (most : Nat) (bs : List UInt8) (f : Int) (b : UInt8) (w : World) (h : Wr w p v most bs f) (hm : most ≤ 1048576) (hbl : bs.length ≤ most) :
    Calls Try.prog 19 #[.pointer (some ⟨p, 0, none⟩), .int .i64 (b.toNat : Int)] w fun e w' => e = .returned (.tuple #[]) ∧ ∃ v', Wr w' p v' most (put1 most bs f [b]).1 (put1 most bs f [b]).2 ∧ Below p w w' := by
  have hb : (b.toNat : Int) ≤ 255 := by have := b.toNat_lt; omega
  go_enter Try.func19, Try.ntmps19
  go_wp2_with fail
  refine (field_new p v most bs f w h hm hbl _ [b] rfl (by simp) [] no_rest (by simp) 1 1 rfl rfl).mono ?_
  rintro e w1 ⟨rfl, v', h1, h2⟩
  have H1 := hide h1
  have H2 := hide h2
  clear h1 h2 h
  go_wp2
  go_end0
  exact ⟨rfl, v', H1.out, H2.out⟩

/-- A number of two bytes, the highest first. -/
def be16 (n : Nat) : List UInt8 := [UInt8.ofNat (n / 256), UInt8.ofNat n]
/-- A number of four bytes, the highest first. -/
def be32 (n : Nat) : List UInt8 := [UInt8.ofNat (n / 16777216), UInt8.ofNat (n / 65536), UInt8.ofNat (n / 256), UInt8.ofNat n]

theorem byt_ofNat (n : Nat) : byt (UInt8.ofNat n) = .int .u8 ((n : Int) % 256) := by
  unfold byt
  rw [UInt8.toNat_ofNat']
  simp

theorem be16_cells (n : Nat) (h : n < 65536) : #[.int .u8 ((n : Int) / 256), .int .u8 ((n : Int) % 256)] = ((be16 n).map byt).toArray := by
  simp only [be16, List.map_cons, List.map_nil, byt_ofNat]
  have e : ((n / 256 : Nat) : Int) % 256 = (n : Int) / 256 := by omega
  rw [e]

theorem be32_cells (n : Nat) (h : n < 4294967296) : #[.int .u8 ((n : Int) / 16777216), .int .u8 ((n : Int) / 65536 % 256), .int .u8 ((n : Int) / 256 % 256), .int .u8 ((n : Int) % 256)] = ((be32 n).map byt).toArray := by
  simp only [be32, List.map_cons, List.map_nil, byt_ofNat]
  have e1 : ((n / 16777216 : Nat) : Int) % 256 = (n : Int) / 16777216 := by omega
  have e2 : ((n / 65536 : Nat) : Int) % 256 = (n : Int) / 65536 % 256 := by omega
  have e3 : ((n / 256 : Nat) : Int) % 256 = (n : Int) / 256 % 256 := by omega
  rw [e1, e2, e3]

set_option maxRecDepth 100000 in
set_option maxHeartbeats 400000 in
theorem u16_bad (p : Nat) (v : Value) (most : Nat) (bs : List UInt8) (f n : Int) (w : World) (h : Wr w p v most bs f) (hn : n < 0 ∨ 65535 < n) :
    Calls Try.prog 20 #[.pointer (some ⟨p, 0, none⟩), .int .i64 n] w fun e w' => e = .returned (.tuple #[]) ∧ Wr w' p v most bs (flt f 4) ∧ Below p w w' := by
  rcases hn with hn | hn
  all_goals
    go_enter Try.func20, Try.ntmps20
    go_wp2_with fail
    refine (note_any p v most bs f 4 _ h).mono ?_
    rintro e w' ⟨rfl, h1, h2⟩
    go_wp2
    exact bodyPost_ret (v := .tuple #[]) (by simp [results, Try.results20, go_sem]) rfl ⟨rfl, h1, h2⟩

set_option maxRecDepth 100000 in
set_option maxHeartbeats 400000 in
theorem u16_ok (p : Nat) (v : Value) (most : Nat) (bs : List UInt8) (f : Int) (n : Nat) (w : World) (h : Wr w p v most bs f) (hm : most ≤ 1048576) (hbl : bs.length ≤ most) (hn : n < 65536) :
    Calls Try.prog 20 #[.pointer (some ⟨p, 0, none⟩), .int .i64 (n : Int)] w fun e w' => e = .returned (.tuple #[]) ∧ ∃ v', Wr w' p v' most (put1 most bs f (be16 n)).1 (put1 most bs f (be16 n)).2 ∧ Below p w w' := by
  have hb : (n : Int) ≤ 65535 := by omega
  go_enter Try.func20, Try.ntmps20
  go_wp2_with fail
  refine (field_new p v most bs f w h hm hbl _ (be16 n) (be16_cells n hn) (by simp [be16]) [] no_rest (by simp) 2 1 rfl rfl).mono ?_
  rw [List.flatMap_nil, List.append_nil]
  rintro e w1 ⟨rfl, v', h1, h2⟩
  have H1 := hide h1
  have H2 := hide h2
  clear h1 h2 h
  go_wp2
  go_end0
  exact ⟨rfl, v', H1.out, H2.out⟩

set_option maxRecDepth 100000 in
set_option maxHeartbeats 400000 in
theorem u32_ok (p : Nat) (v : Value) (most : Nat) (bs : List UInt8) (f : Int) (n : Nat) (w : World) (h : Wr w p v most bs f) (hm : most ≤ 1048576) (hbl : bs.length ≤ most) (hn : n < 4294967296) :
    Calls Try.prog 22 #[.pointer (some ⟨p, 0, none⟩), .int .u32 (n : Int)] w fun e w' => e = .returned (.tuple #[]) ∧ ∃ v', Wr w' p v' most (put1 most bs f (be32 n)).1 (put1 most bs f (be32 n)).2 ∧ Below p w w' := by
  have hb : (n : Int) ≤ 4294967295 := by omega
  go_enter Try.func22, Try.ntmps22
  go_wp2_with fail
  refine (field_new p v most bs f w h hm hbl _ (be32 n) (be32_cells n hn) (by simp [be32]) [] no_rest (by simp) 4 1 rfl rfl).mono ?_
  rw [List.flatMap_nil, List.append_nil]
  rintro e w1 ⟨rfl, v', h1, h2⟩
  have H1 := hide h1
  have H2 := hide h2
  clear h1 h2 h
  go_wp2
  go_end0
  exact ⟨rfl, v', H1.out, H2.out⟩

set_option maxRecDepth 100000 in
set_option maxHeartbeats 400000 in
theorem run_bad (p : Nat) (v pv : Value) (most : Nat) (bs ys : List UInt8) (f : Int) (w : World) (h : Wr w p v most bs f) (hy : Has w pv ys) (hn : 65535 < ys.length) (hn2 : ys.length ≤ 150000000000000) :
    Calls Try.prog 21 #[.pointer (some ⟨p, 0, none⟩), pv] w fun e w' => e = .returned (.tuple #[]) ∧ Wr w' p v most bs (flt f 12) ∧ Below p w w' := by
  have hlen := hy.len
  have hb : (65535 : Int) < (ys.length : Int) := by omega
  go_enter Try.func21, Try.ntmps21
  go_wp2_with fail
  refine (note_any p v most bs f 12 _ h).mono ?_
  rintro e w' ⟨rfl, h1, h2⟩
  go_wp2
  exact bodyPost_ret (v := .tuple #[]) (by simp [results, Try.results21, go_sem]) rfl ⟨rfl, h1, h2⟩

set_option maxRecDepth 100000 in
set_option maxHeartbeats 400000 in
theorem run_ok (p : Nat) (v pv : Value) (most : Nat) (bs ys : List UInt8) (f : Int) (w : World) (h : Wr w p v most bs f) (hm : most ≤ 1048576) (hbl : bs.length ≤ most) (hy : HasP w p pv ys) (hn : ys.length ≤ 65535) :
    Calls Try.prog 21 #[.pointer (some ⟨p, 0, none⟩), pv] w fun e w' => e = .returned (.tuple #[]) ∧ ∃ v', Wr w' p v' most (put1 most bs f (be16 ys.length ++ ys)).1 (put1 most bs f (be16 ys.length ++ ys)).2 ∧ Below p w w' := by
  obtain ⟨bo, cp, rfl⟩ := hy.has.slice
  have hb : (ys.length : Int) ≤ 65535 := by omega
  have hr : Hid (∀ q ∈ [(Value.slice bo ys.length cp, ys)], HasP w p q.1 q.2 ∧ q.2.length ≤ 150000000000000) := by
    intro q hq
    simp only [List.mem_cons, List.not_mem_nil, or_false] at hq
    subst hq; exact ⟨hy, by dsimp only; omega⟩
  have e1 : Hid (put1 most bs f (be16 ys.length ++ [(Value.slice bo ys.length cp, ys)].flatMap (·.2)) = put1 most bs f (be16 ys.length ++ ys)) := by simp [Hid]
  clear hy
  go_enter Try.func21, Try.ntmps21
  go_wp2_with fail
  refine (field_new p v most bs f w h hm hbl _ (be16 ys.length) (be16_cells _ (by omega)) (by simp [be16]) [(.slice bo ys.length cp, ys)] hr.out (by simp) 2 2 rfl rfl).mono ?_
  rw [e1.out]
  rintro e w1 ⟨rfl, v', h1, h2⟩
  have H1 := hide h1
  have H2 := hide h2
  clear h1 h2 h
  go_wp2
  go_end0
  exact ⟨rfl, v', H1.out, H2.out⟩

/-- The empty row that '[]byte{}' lays. -/
theorem own_empty (w : World) : Own (w.alloc (.cells #[] 5)) w.heap.size (.slice (some ⟨w.heap.size, 0, none⟩) 0 0) [] :=
  ⟨rfl, .inr ⟨w.heap.size, 0, #[], rfl, Nat.le_refl _, at_new w _ _ ⟨rfl, rfl, rfl, rfl⟩, Nat.le_refl _, by decide, rfl, rfl⟩⟩

set_option maxRecDepth 100000 in
set_option maxHeartbeats 400000 in
theorem clone_any (v : Value) (bs : List UInt8) (w : World) (h : Has w v bs) (hn : bs.length ≤ 150000000000000) :
    Calls Try.prog 43 #[v] w fun e w' => ∃ ao cap, e = .returned (.slice ao bs.length cap) ∧ Own w' w.heap.size (.slice ao bs.length cap) bs ∧ Below w.heap.size w w' := by
  have h' := h
  rcases h with ⟨rfl, rfl⟩ | ⟨ad, cap, rfl, h2, h3⟩
  · have hq := fun W => Lib.run_eql_slice_nil (P := Try.prog) W 22 5 none 0 0 0 0 Try.underlying22
    go_enter Try.func43, Try.ntmps43
    go_wp2
    go_ret
    exact ⟨none, 0, rfl, Own.nil _ _, Below.refl _ _⟩
  · have hq := fun W => Lib.run_eql_slice_nil (P := Try.prog) W 22 5 (some ad) bs.length cap 0 0 Try.underlying22
    have HH := hide h'
    clear h' h3
    go_enter Try.func43, Try.ntmps43
    go_wp2_with (at_builtin; refine wpList_app rfl _ _ rfl w.heap.size _ [] rfl (own_empty w) _ bs rfl (HH.out.below (below_new _ _)) (by simp; omega) (by simp) ?_)
    intro v' w1 hown1 hg1
    obtain ⟨ao, cp, rfl⟩ := hown1.slice
    have HB := hide ((below_new w (.cells #[] 5)).grown hg1 (by simp) (own_empty w).ownBlock)
    have HO := hide hown1
    clear hown1 hg1
    go_wp2
    go_ret
    exact ⟨ao, cp, rfl, HO.out, HB.out⟩

set_option maxRecDepth 100000 in
set_option maxHeartbeats 400000 in
theorem out_fault (p : Nat) (v : Value) (most : Nat) (bs : List UInt8) (f : Int) (w : World) (h : Wr w p v most bs f) (hf : (f == 0) = false) :
    Calls Try.prog 23 #[.pointer (some ⟨p, 0, none⟩)] w fun e w' => e = .returned (.tuple #[.slice none 0 0, .int .i64 f]) ∧ ∃ q, w' = w.drewN q := by
  obtain ⟨_, _, h2, _⟩ := h.cells
  clear h
  go_enter Try.func23, Try.ntmps23
  go_wp2
  go_quiet (fail)
  go_wp2
  go_ret2
  exact ⟨rfl, _, rfl⟩

set_option maxRecDepth 100000 in
set_option maxHeartbeats 400000 in
theorem out_ok (p : Nat) (v : Value) (most : Nat) (bs : List UInt8) (w : World) (h : Wr w p v most bs 0) (hm : most ≤ 1048576) (hbl : bs.length ≤ most) :
    Calls Try.prog 23 #[.pointer (some ⟨p, 0, none⟩)] w fun e w' => ∃ ao cap, e = .returned (.tuple #[.slice ao bs.length cap, .int .i64 0]) ∧ Own w' w.heap.size (.slice ao bs.length cap) bs ∧ Below w.heap.size w w' := by
  obtain ⟨_, h1, h2, _⟩ := h.cells
  have HH := hide h.2.has
  obtain ⟨bo, cp, rfl⟩ := h.slice
  clear h
  go_enter Try.func23, Try.ntmps23
  go_wp2_with fail
  refine (clone_any _ bs _ HH.out (by omega)).mono ?_
  rintro e w1 ⟨ao, cap, rfl, h3, h4⟩
  have H3 := hide h3
  have H4 := hide h4
  clear h3 h4
  go_wp2
  go_ret2
  exact ⟨ao, cap, rfl, H3.out, H4.out⟩

end Go.Proofs.Ytgfgabgnejnipaa
