import Derived.Test.YtgfgabgnejnipaaMem
import Derived.Deep.RegionWith
import Derived.Deep.DeepCutAuto
import Derived.Deep.RegionHeld3
namespace Go.Proofs.Ytgfgabgnejnipaa
open Go.RowKit

theorem Has.len {w : World} {v : Value} {bs : List UInt8} (h : Has w v bs) (W : World) (ty : TypeId) : (Builtin.len_ #[22] ty #[v]).run Try.prog W = .ok (.int .i64 bs.length) W := by
  obtain ⟨ao, cap, rfl⟩ := h.slice
  go_simp

/-- A cut of bytes: the value, in whatever world; what it holds. -/
def cutV (v : Value) (l h : Nat) : Value := match v with
  | .slice a _ cap => sliced a l h cap 1
  | v => v

theorem size5 (W : World) : (sizeOf 5).run Try.prog W = .ok 1 W := by go_simp
theorem elem22 : Try.prog.elem 22 = 5 := by simp [Program.elem, Try.underlying22]

theorem Has.cut {w : World} {v : Value} {bs : List UInt8} (h : Has w v bs) (l k : Nat) (hlk : l ≤ k) (hk : k ≤ bs.length) : Has w (cutV v l k) ((bs.drop l).take (k - l)) := by
  have hlen : ((bs.drop l).take (k - l)).length = k - l := by simp; omega
  rcases h with ⟨rfl, rfl⟩ | ⟨ad, cap, rfl, h2, h3⟩
  · simp at hk; subst hk; simp at hlk; subst hlk
    exact .inl ⟨by simp [cutV, sliced], by simp⟩
  · simp only [cutV, sliced, Nat.mul_one]
    by_cases hc : cap = l
    · rw [if_pos hc]
      have hb : bs.drop l = [] := List.drop_eq_nil_of_le (by omega)
      refine .inr ⟨ad, cap - l, by rw [hlen], by rw [hlen]; omega, fun i u hu => ?_⟩
      rw [hb] at hu; simp at hu
    · rw [if_neg hc]
      refine .inr ⟨ad.add l, cap - l, by rw [hlen]; rfl, by rw [hlen]; omega, fun i u hu => ?_⟩
      have hi : i < k - l := by
        rcases Nat.lt_or_ge i (k - l) with h | h
        · exact h
        · rw [List.getElem?_eq_none (by omega)] at hu; cases hu
      rw [List.getElem?_take_of_lt hi, List.getElem?_drop] at hu
      have hcell := h3 (l + i) u hu
      have hadd : (ad.add l).add i = ad.add (l + i) := by
        unfold Addr.add
        by_cases h0 : l = 0
        · subst h0; simp
        · by_cases h1 : i = 0
          · subst h1; simp
          · rw [if_neg h1, if_neg h0, if_neg (by omega)]; simp; omega
      rw [hadd]; exact hcell

theorem Has.cutLH {w : World} {v : Value} {bs : List UInt8} (h : Has w v bs) (l k : Nat) (hlk : l ≤ k) (hk : k ≤ bs.length) (W : World) :
    (Instr.slice 22 v (some (.int .i64 l)) (some (.int .i64 k)) none).run Try.prog W = .ok (cutV v l k) W := by
  have ht : Try.prog.underlying 22 = some (.slice (Try.prog.elem 22)) := by rw [elem22]; exact Try.underlying22
  have hc : ∃ ao cap, v = .slice ao bs.length cap ∧ bs.length ≤ cap := by
    rcases h with ⟨rfl, rfl⟩ | ⟨ad, cap, rfl, h2, _⟩
    · exact ⟨_, _, rfl, Nat.le_refl _⟩
    · exact ⟨_, _, rfl, h2⟩
  obtain ⟨ao, cap, rfl, hc⟩ := hc
  rw [run_slice_lh W 22 ao _ cap ht .i64 .i64 l k (by omega) (by omega) (by omega), elem22, size5]
  simp [Result.andThen, cutV]

theorem Has.cutH {w : World} {v : Value} {bs : List UInt8} (h : Has w v bs) (k : Nat) (hk : k ≤ bs.length) (W : World) :
    (Instr.slice 22 v none (some (.int .i64 k)) none).run Try.prog W = .ok (cutV v 0 k) W := by
  have ht : Try.prog.underlying 22 = some (.slice (Try.prog.elem 22)) := by rw [elem22]; exact Try.underlying22
  have hc : ∃ ao cap, v = .slice ao bs.length cap ∧ bs.length ≤ cap := by
    rcases h with ⟨rfl, rfl⟩ | ⟨ad, cap, rfl, h2, _⟩
    · exact ⟨_, _, rfl, Nat.le_refl _⟩
    · exact ⟨_, _, rfl, h2⟩
  obtain ⟨ao, cap, rfl, hc⟩ := hc
  rw [run_slice_h W 22 ao _ cap ht .i64 k (by omega) (by omega), elem22, size5]
  simp [Result.andThen, cutV]

theorem Has.cutL {w : World} {v : Value} {bs : List UInt8} (h : Has w v bs) (l : Nat) (hl : l ≤ bs.length) (W : World) :
    (Instr.slice 22 v (some (.int .i64 l)) none none).run Try.prog W = .ok (cutV v l bs.length) W := by
  have ht : Try.prog.underlying 22 = some (.slice (Try.prog.elem 22)) := by rw [elem22]; exact Try.underlying22
  obtain ⟨ao, cap, rfl⟩ := h.slice
  rw [run_slice_l W 22 ao _ cap ht .i64 l (by omega) (by omega), elem22, size5]
  simp [Result.andThen, cutV]

theorem cut_shape {w : World} {v : Value} {bs : List UInt8} (h : Has w v bs) (l k : Nat) : ∃ ao c, cutV v l k = .slice ao (k - l) c := by
  obtain ⟨ao, cap, rfl⟩ := h.slice
  exact ⟨_, _, rfl⟩

theorem Own.slice {w : World} {base : Nat} {v : Value} {bs : List UInt8} (h : Own w base v bs) : ∃ ao cap, v = .slice ao bs.length cap := h.has.slice

theorem parts_new (W : World) (ps : List (Value × List UInt8)) (h : ∀ p ∈ ps, Has W p.1 p.2) :
    Parts (W.alloc (.cells (ps.map (·.1)).toArray 22)).drew (.slice (some ⟨W.heap.size, 0, none⟩) ps.length ps.length) ps := by
  refine .inr ⟨_, _, rfl, Nat.le_refl _, fun i p hp => ?_⟩
  rw [add_plain]
  have hb : Below W.heap.size W (W.alloc (.cells (ps.map (·.1)).toArray 22)).drew := ((Below.refl _ _).alloc (Nat.le_refl _) _).drew
  refine ⟨?_, (h p (List.mem_of_getElem? hp)).below hb⟩
  show (W.alloc (.cells (ps.map (·.1)).toArray 22)).cell? _ = _
  have e : (W.alloc (.cells (ps.map (·.1)).toArray 22)).heap[W.heap.size]? = some (.cells (ps.map (·.1)).toArray 22) := by
    show (W.heap.push _)[W.heap.size]? = _
    simp
  unfold World.cell?
  dsimp only
  rw [e]
  simp [hp]

theorem parts_new' (W : World) (ps : List (Value × List UInt8)) (h : ∀ p ∈ ps, Has W p.1 p.2) :
    Parts (W.alloc (.cells (ps.map (·.1)).toArray 22)) (.slice (some ⟨W.heap.size, 0, none⟩) ps.length ps.length) ps := parts_new W ps h

theorem eq_yes (a b : Value) (xs : List UInt8) (w : World) (ha : Has w a xs) (hb : Has w b xs) :
    Calls Try.prog 10 #[a, b] w fun e w' => e = .returned (.bool true) ∧ w = w' :=
  (eq_any a b xs xs w ha hb).mono fun e w' ⟨h1, h2⟩ => ⟨by rw [h1]; simp, h2.symm⟩

theorem same_is (a b : Value) (xs ys : List UInt8) (r : Bool) (w : World) (ha : Has w a xs) (hb : Has w b ys) (hl : xs.length ≤ 150000000000000) (hr : (xs == ys) = r) :
    Calls Try.prog 13 #[a, b] w fun e w' => e = .returned (.bool r) ∧ ∃ q, w' = w.drewN q := by
  subst hr; exact same_any a b xs ys w ha hb hl

theorem blank_is (v : Value) (bs : List UInt8) (r : Bool) (w : World) (hl : bs.length ≤ 150000000000000) (h : Has w v bs) (hr : bs.all (· == 0) = r) :
    Calls Try.prog 14 #[v] w fun e w' => e = .returned (.bool r) ∧ w = w' := by
  subst hr; exact (blank_any v bs w hl h).mono fun e w' ⟨h1, h2⟩ => ⟨h1, h2.symm⟩

theorem join_is (v : Value) (ps : List (Value × List UInt8)) (bs : List UInt8) (w : World) (h : Parts w v ps) (hn : ps.length ≤ 150000000000000) (hbs : ps.flatMap (·.2) = bs) (hl : bs.length ≤ 150000000000000) :
    Calls Try.prog 12 #[v] w fun e w' => ∃ ao cap, e = .returned (.slice ao bs.length cap) ∧ Own w' w.heap.size (.slice ao bs.length cap) bs ∧ Below w.heap.size w w' := by
  subst hbs
  refine (join_any v ps w h hn hl).mono fun e w' ⟨r, h1, h2, h3⟩ => ?_
  obtain ⟨ao, cap, rfl⟩ := h2.slice
  exact ⟨ao, cap, h1, h2, h3⟩

theorem below_new (W : World) (o : Obj) : Below W.heap.size W (W.alloc o) := (Below.refl _ _).alloc (Nat.le_refl _) _

theorem join_new (W : World) (ps : List (Value × List UInt8)) (bs : List UInt8) (h : ∀ p ∈ ps, Has W p.1 p.2) (hn : ps.length ≤ 150000000000000) (hbs : ps.flatMap (·.2) = bs) (hl : bs.length ≤ 150000000000000) :
    Calls Try.prog 12 #[.slice (some ⟨W.heap.size, 0, none⟩) ps.length ps.length] (W.alloc (.cells (ps.map (·.1)).toArray 22)) fun e w' => ∃ ao cap, e = .returned (.slice ao bs.length cap) ∧ Own w' W.heap.size (.slice ao bs.length cap) bs ∧ Below W.heap.size W w' := by
  refine (join_is _ ps bs _ (parts_new' W ps h) hn hbs hl).mono fun e w' ⟨ao, cap, h1, h2, h3⟩ => ?_
  have hb := below_new W (.cells (ps.map (·.1)).toArray 22)
  exact ⟨ao, cap, h1, h2.weaken hb.size, hb.trans (h3.mono hb.size)⟩

theorem join_newd (W : World) (ps : List (Value × List UInt8)) (bs : List UInt8) (h : ∀ p ∈ ps, Has W p.1 p.2) (hn : ps.length ≤ 150000000000000) (hbs : ps.flatMap (·.2) = bs) (hl : bs.length ≤ 150000000000000) :
    Calls Try.prog 12 #[.slice (some ⟨W.heap.size, 0, none⟩) ps.length ps.length] (W.alloc (.cells (ps.map (·.1)).toArray 22)).drew fun e w' => ∃ ao cap, e = .returned (.slice ao bs.length cap) ∧ Own w' W.heap.size (.slice ao bs.length cap) bs ∧ Below W.heap.size W w' := by
  refine (join_is _ ps bs _ (parts_new W ps h) hn hbs hl).mono fun e w' ⟨ao, cap, h1, h2, h3⟩ => ?_
  have hb := (below_new W (.cells (ps.map (·.1)).toArray 22)).drew
  exact ⟨ao, cap, h1, h2.weaken hb.size, hb.trans (h3.mono hb.size)⟩

/-- The same world, but for the draws. -/
structure Lik (w w' : World) : Prop where
  heap : w'.heap = w.heap
  os : w'.os = w.os
  tape : w'.tape = w.tape
  output : w'.output = w.output

theorem Lik.below {w w' : World} (h : Lik w w') (B : Nat) : Below B w w' := ⟨h.os, h.tape, h.output, by rw [h.heap]; exact Nat.le_refl _, fun k _ => by rw [h.heap]⟩
theorem Lik.has {w w' : World} (h : Lik w w') {v : Value} {bs : List UInt8} (hh : Has w v bs) : Has w' v bs := hh.below (h.below _)
theorem Lik.cell {w w' : World} (h : Lik w w') (a : Addr) : w'.cell? a = w.cell? a := by unfold World.cell?; rw [h.heap]

theorem join_lik (W X : World) (ps : List (Value × List UInt8)) (bs : List UInt8) (hX : Lik (W.alloc (.cells (ps.map (·.1)).toArray 22)) X) (h : ∀ p ∈ ps, Has W p.1 p.2) (hn : ps.length ≤ 150000000000000) (hbs : ps.flatMap (·.2) = bs) (hl : bs.length ≤ 150000000000000) :
    Calls Try.prog 12 #[.slice (some ⟨W.heap.size, 0, none⟩) ps.length ps.length] X fun e w' => ∃ ao cap, e = .returned (.slice ao bs.length cap) ∧ Own w' W.heap.size (.slice ao bs.length cap) bs ∧ Below W.heap.size W w' := by
  have hp : Parts X (.slice (some ⟨W.heap.size, 0, none⟩) ps.length ps.length) ps := by
    rcases parts_new' W ps h with h | ⟨ad, cap, h1, h2, h3⟩
    · exact .inl h
    · exact .inr ⟨ad, cap, h1, h2, fun i p hp => ⟨by rw [hX.cell]; exact (h3 i p hp).1, hX.has (h3 i p hp).2⟩⟩
  refine (join_is _ ps bs _ hp hn hbs hl).mono fun e w' ⟨ao, cap, h1, h2, h3⟩ => ?_
  have hb := (below_new W (.cells (ps.map (·.1)).toArray 22)).trans (hX.below _)
  exact ⟨ao, cap, h1, h2.weaken hb.size, hb.trans (h3.mono hb.size)⟩

theorem at_new (W X : World) (A : Obj) (h : Lik (W.alloc A) X) : X.heap[W.heap.size]? = some A := by
  rw [h.heap]; show (W.heap.push A)[W.heap.size]? = _; simp
theorem at_fst (W X : World) (A B : Obj) (h : Lik ((W.alloc A).alloc B) X) : X.heap[W.heap.size]? = some A := by
  rw [h.heap]; show ((W.heap.push A).push B)[W.heap.size]? = _
  rw [Array.getElem?_push, if_neg (by simp)]; simp
theorem at_snd (W X : World) (A B : Obj) (h : Lik ((W.alloc A).alloc B) X) : X.heap[W.heap.size + 1]? = some B := by
  rw [h.heap]; show ((W.heap.push A).push B)[W.heap.size + 1]? = _
  rw [Array.getElem?_push, if_pos (by simp)]
theorem bel_new (W X : World) (A : Obj) (h : Lik (W.alloc A) X) : Below W.heap.size W X := (below_new W A).trans (h.below _)
theorem bel_two (W X : World) (A B : Obj) (h : Lik ((W.alloc A).alloc B) X) : Below W.heap.size W X := ((below_new W A).alloc (by simp) B).trans (h.below _)

theorem join_at (X : World) (g : Nat) (ps : List (Value × List UInt8)) (bs : List UInt8) (hg : X.heap[g]? = some (.cells (ps.map (·.1)).toArray 22)) (h : ∀ p ∈ ps, Has X p.1 p.2) (hn : ps.length ≤ 150000000000000) (hbs : ps.flatMap (·.2) = bs) (hl : bs.length ≤ 150000000000000) :
    Calls Try.prog 12 #[.slice (some ⟨g, 0, none⟩) ps.length ps.length] X fun e w' => ∃ ao cap, e = .returned (.slice ao bs.length cap) ∧ Has w' (.slice ao bs.length cap) bs ∧ Below X.heap.size X w' := by
  have hp : Parts X (.slice (some ⟨g, 0, none⟩) ps.length ps.length) ps := by
    refine .inr ⟨_, _, rfl, Nat.le_refl _, fun i p hp => ⟨?_, h p (List.mem_of_getElem? hp)⟩⟩
    rw [add_plain]
    unfold World.cell?
    dsimp only
    rw [hg]
    simp [hp]
  exact (join_is _ ps bs _ hp hn hbs hl).mono fun e w' ⟨ao, cap, h1, h2, h3⟩ => ⟨ao, cap, h1, h2.has, h3⟩

theorem has_two {X : World} {a b : Value} {xs ys : List UInt8} (h1 : Has X a xs) (h2 : Has X b ys) : ∀ p ∈ [(a, xs), (b, ys)], Has X p.1 p.2 := by
  intro p hp
  simp only [List.mem_cons, List.not_mem_nil, or_false] at hp
  rcases hp with rfl | rfl
  · exact h1
  · exact h2
theorem has_one {X : World} {a : Value} {xs : List UInt8} (h1 : Has X a xs) : ∀ p ∈ [(a, xs)], Has X p.1 p.2 := by
  intro p hp
  simp only [List.mem_cons, List.not_mem_nil, or_false] at hp
  subst hp; exact h1
theorem kept_blocks {X w' : World} (h : Below X.heap.size X w') (g : Nat) (o : Obj) (hg : X.heap[g]? = some o) : w'.heap[g]? = some o := by
  rw [h.block g ?_, hg]
  rcases Nat.lt_or_ge g X.heap.size with hl | hl
  · exact hl
  · rw [Array.getElem?_eq_none hl] at hg; cases hg

theorem bel_drewN {B : Nat} {a w : World} (h : Below B a w) (q : Nat) : Below B a (w.drewN q) := ⟨h.os, h.tape, h.output, h.size, h.block⟩

theorem has_new1 (W : World) (b : UInt8) : Has (W.alloc (.cells #[byt b] 5)) (.slice (some ⟨W.heap.size, 0, none⟩) 1 1) [b] := by
  refine .inr ⟨_, 1, rfl, Nat.le_refl _, fun i u hu => ?_⟩
  rw [add_plain]
  unfold World.cell?
  dsimp only
  rw [at_new W _ (.cells #[byt b] 5) ⟨rfl, rfl, rfl, rfl⟩]
  match i, hu with
  | 0, hu => simp at hu; subst hu; simp

theorem app_ne (bs : List UInt8) (b : UInt8) : (bs == bs ++ [b]) = false := by
  rw [beq_eq_false_iff_ne]
  intro h
  have := congrArg List.length h
  simp at this

theorem zeros_same (bs : List UInt8) : (List.replicate bs.length 0 == bs) = bs.all (· == 0) := by
  induction bs with
  | nil => rfl
  | cons b r ih =>
    rw [List.length_cons, List.replicate_succ, List.all_cons, ← ih]
    show (0 == b && (List.replicate r.length 0 == r)) = _
    rw [show ((0 : UInt8) == b) = (b == 0) from Bool.eq_iff_iff.2 (by simp only [beq_iff_eq]; exact eq_comm)]

theorem Own.at {w : World} {base : Nat} {ao : Option Addr} {cap : Nat} {bs : List UInt8} (h : Own w base (.slice ao bs.length cap) bs) (hn : 0 < bs.length) : ∃ g, ao = some ⟨g, 0, none⟩ ∧ base ≤ g := by
  obtain ⟨_, ⟨_, h⟩ | ⟨g, cap', cur, hv, hg, _⟩⟩ := h
  · omega
  · cases hv; exact ⟨g, rfl, hg⟩

theorem bel_chain {a b c : World} (h : Below a.heap.size a b) (k : Below b.heap.size b c) : Below a.heap.size a c := h.trans (k.mono h.size)

end Go.Proofs.Ytgfgabgnejnipaa
