import Derived.Test.YtgfgabgnejnipaaMem
import Derived.Deep.RegionWith
import Derived.Deep.DeepCutAuto
import Derived.Deep.RegionHeld3
namespace Go.Proofs.Ytgfgabgnejnipaa
open Go.RowKit

theorem Has.len {w : World} {v : Value} {bs : List UInt8} (h : Has w v bs) (W : World) (ty : TypeId) : (Builtin.len_ #[22] ty #[v]).run Try.prog W = .ok (.int .i64 bs.length) W := by
  obtain ⟨ao, cap, rfl⟩ := h.slice
  go_simp

/-- A cut of bytes: the value, in whatever world; what it holds. -/
def cutV (v : Value) (l h : Nat) : Value := match v with
  | .slice a _ cap => sliced a l h cap 1
  | v => v

theorem size5 (W : World) : (sizeOf 5).run Try.prog W = .ok 1 W := by go_simp
theorem elem22 : Try.prog.elem 22 = 5 := by simp [Program.elem, Try.underlying22]

theorem Has.cut {w : World} {v : Value} {bs : List UInt8} (h : Has w v bs) (l k : Nat) (hlk : l ≤ k) (hk : k ≤ bs.length) : Has w (cutV v l k) ((bs.drop l).take (k - l)) := by
  have hlen : ((bs.drop l).take (k - l)).length = k - l := by simp; omega
  rcases h with ⟨rfl, rfl⟩ | ⟨ad, cap, rfl, h2, h3⟩
  · simp at hk; subst hk; simp at hlk; subst hlk
    exact .inl ⟨by simp [cutV, sliced], by simp⟩
  · simp only [cutV, sliced, Nat.mul_one]
    by_cases hc : cap = l
    · rw [if_pos hc]
      have hb : bs.drop l = [] := List.drop_eq_nil_of_le (by omega)
      refine .inr ⟨ad, cap - l, by rw [hlen], by rw [hlen]; omega, fun i u hu => ?_⟩
      rw [hb] at hu; simp at hu
    · rw [if_neg hc]
      refine .inr ⟨ad.add l, cap - l, by rw [hlen]; rfl, by rw [hlen]; omega, fun i u hu => ?_⟩
      have hi : i < k - l := by
        rcases Nat.lt_or_ge i (k - l) with h | h
        · exact h
        · rw [List.getElem?_eq_none (by omega)] at hu; cases hu
      rw [List.getElem?_take_of_lt hi, List.getElem?_drop] at hu
      have hcell := h3 (l + i) u hu
      have hadd : (ad.add l).add i = ad.add (l + i) := by
        unfold Addr.add
        by_cases h0 : l = 0
        · subst h0; simp
        · by_cases h1 : i = 0
          · subst h1; simp
          · rw [if_neg h1, if_neg h0, if_neg (by omega)]; simp; omega
      rw [hadd]; exact hcell

theorem Has.cutLH {w : World} {v : Value} {bs : List UInt8} (h : Has w v bs) (l k : Nat) (hlk : l ≤ k) (hk : k ≤ bs.length) (W : World) :
    (Instr.slice 22 v (some (.int .i64 l)) (some (.int .i64 k)) none).run Try.prog W = .ok (cutV v l k) W := by
  have ht : Try.prog.underlying 22 = some (.slice (Try.prog.elem 22)) := by rw [elem22]; exact Try.underlying22
  have hc : ∃ ao cap, v = .slice ao bs.length cap ∧ bs.length ≤ cap := by
    rcases h with ⟨rfl, rfl⟩ | ⟨ad, cap, rfl, h2, _⟩
    · exact ⟨_, _, rfl, Nat.le_refl _⟩
    · exact ⟨_, _, rfl, h2⟩
  obtain ⟨ao, cap, rfl, hc⟩ := hc
  rw [run_slice_lh W 22 ao _ cap ht .i64 .i64 l k (by omega) (by omega) (by omega), elem22, size5]
  simp [Result.andThen, cutV]

theorem Has.cutH {w : World} {v : Value} {bs : List UInt8} (h : Has w v bs) (k : Nat) (hk : k ≤ bs.length) (W : World) :
    (Instr.slice 22 v none (some (.int .i64 k)) none).run Try.prog W = .ok (cutV v 0 k) W := by
  have ht : Try.prog.underlying 22 = some (.slice (Try.prog.elem 22)) := by rw [elem22]; exact Try.underlying22
  have hc : ∃ ao cap, v = .slice ao bs.length cap ∧ bs.length ≤ cap := by
    rcases h with ⟨rfl, rfl⟩ | ⟨ad, cap, rfl, h2, _⟩
    · exact ⟨_, _, rfl, Nat.le_refl _⟩
    · exact ⟨_, _, rfl, h2⟩
  obtain ⟨ao, cap, rfl, hc⟩ := hc
  rw [run_slice_h W 22 ao _ cap ht .i64 k (by omega) (by omega), elem22, size5]
  simp [Result.andThen, cutV]

theorem Has.cutL {w : World} {v : Value} {bs : List UInt8} (h : Has w v bs) (l : Nat) (hl : l ≤ bs.length) (W : World) :
    (Instr.slice 22 v (some (.int .i64 l)) none none).run Try.prog W = .ok (cutV v l bs.length) W := by
  have ht : Try.prog.underlying 22 = some (.slice (Try.prog.elem 22)) := by rw [elem22]; exact Try.underlying22
  obtain ⟨ao, cap, rfl⟩ := h.slice
  rw [run_slice_l W 22 ao _ cap ht .i64 l (by omega) (by omega), elem22, size5]
  simp [Result.andThen, cutV]

theorem cut_shape {w : World} {v : Value} {bs : List UInt8} (h : Has w v bs) (l k : Nat) : ∃ ao c, cutV v l k = .slice ao (k - l) c := by
  obtain ⟨ao, cap, rfl⟩ := h.slice
  exact ⟨_, _, rfl⟩

theorem Own.slice {w : World} {base : Nat} {v : Value} {bs : List UInt8} (h : Own w base v bs) : ∃ ao cap, v = .slice ao bs.length cap := h.has.slice

theorem parts_new (W : World) (ps : List (Value × List UInt8)) (h : ∀ p ∈ ps, Has W p.1 p.2) :
    Parts (W.alloc (.cells (ps.map (·.1)).toArray 22)).drew (.slice (some ⟨W.heap.size, 0, none⟩) ps.length ps.length) ps := by
  refine .inr ⟨_, _, rfl, Nat.le_refl _, fun i p hp => ?_⟩
  rw [add_plain]
  have hb : Below W.heap.size W (W.alloc (.cells (ps.map (·.1)).toArray 22)).drew := ((Below.refl _ _).alloc (Nat.le_refl _) _).drew
  refine ⟨?_, (h p (List.mem_of_getElem? hp)).below hb⟩
  show (W.alloc (.cells (ps.map (·.1)).toArray 22)).cell? _ = _
  have e : (W.alloc (.cells (ps.map (·.1)).toArray 22)).heap[W.heap.size]? = some (.cells (ps.map (·.1)).toArray 22) := by
    show (W.heap.push _)[W.heap.size]? = _
    simp
  unfold World.cell?
  dsimp only
  rw [e]
  simp [hp]

theorem parts_new' (W : World) (ps : List (Value × List UInt8)) (h : ∀ p ∈ ps, Has W p.1 p.2) :
    Parts (W.alloc (.cells (ps.map (·.1)).toArray 22)) (.slice (some ⟨W.heap.size, 0, none⟩) ps.length ps.length) ps := parts_new W ps h

theorem eq_yes (a b : Value) (xs : List UInt8) (w : World) (ha : Has w a xs) (hb : Has w b xs) :
    Calls Try.prog 10 #[a, b] w fun e w' => e = .returned (.bool true) ∧ w = w' :=
  (eq_any a b xs xs w ha hb).mono fun e w' ⟨h1, h2⟩ => ⟨by rw [h1]; simp, h2.symm⟩

theorem same_is (a b : Value) (xs ys : List UInt8) (r : Bool) (w : World) (ha : Has w a xs) (hb : Has w b ys) (hl : xs.length ≤ 140737488355328) (hr : (xs == ys) = r) :
    Calls Try.prog 13 #[a, b] w fun e w' => e = .returned (.bool r) ∧ ∃ q, w' = w.drewN q := by
  subst hr; exact same_any a b xs ys w ha hb hl

theorem blank_is (v : Value) (bs : List UInt8) (r : Bool) (w : World) (hl : bs.length ≤ 140737488355328) (h : Has w v bs) (hr : bs.all (· == 0) = r) :
    Calls Try.prog 14 #[v] w fun e w' => e = .returned (.bool r) ∧ w = w' := by
  subst hr; exact (blank_any v bs w hl h).mono fun e w' ⟨h1, h2⟩ => ⟨h1, h2.symm⟩

theorem join_is (v : Value) (ps : List (Value × List UInt8)) (bs : List UInt8) (w : World) (h : Parts w v ps) (hn : ps.length ≤ 140737488355328) (hbs : ps.flatMap (·.2) = bs) (hl : bs.length ≤ 140737488355328) :
    Calls Try.prog 12 #[v] w fun e w' => ∃ ao cap, e = .returned (.slice ao bs.length cap) ∧ Own w' w.heap.size (.slice ao bs.length cap) bs ∧ Below w.heap.size w w' := by
  subst hbs
  refine (join_any v ps w h hn hl).mono fun e w' ⟨r, h1, h2, h3⟩ => ?_
  obtain ⟨ao, cap, rfl⟩ := h2.slice
  exact ⟨ao, cap, h1, h2, h3⟩

theorem below_new (W : World) (o : Obj) : Below W.heap.size W (W.alloc o) := (Below.refl _ _).alloc (Nat.le_refl _) _

theorem join_new (W : World) (ps : List (Value × List UInt8)) (bs : List UInt8) (h : ∀ p ∈ ps, Has W p.1 p.2) (hn : ps.length ≤ 140737488355328) (hbs : ps.flatMap (·.2) = bs) (hl : bs.length ≤ 140737488355328) :
    Calls Try.prog 12 #[.slice (some ⟨W.heap.size, 0, none⟩) ps.length ps.length] (W.alloc (.cells (ps.map (·.1)).toArray 22)) fun e w' => ∃ ao cap, e = .returned (.slice ao bs.length cap) ∧ Own w' W.heap.size (.slice ao bs.length cap) bs ∧ Below W.heap.size W w' := by
  refine (join_is _ ps bs _ (parts_new' W ps h) hn hbs hl).mono fun e w' ⟨ao, cap, h1, h2, h3⟩ => ?_
  have hb := below_new W (.cells (ps.map (·.1)).toArray 22)
  exact ⟨ao, cap, h1, h2.weaken hb.size, hb.trans (h3.mono hb.size)⟩

theorem join_newd (W : World) (ps : List (Value × List UInt8)) (bs : List UInt8) (h : ∀ p ∈ ps, Has W p.1 p.2) (hn : ps.length ≤ 140737488355328) (hbs : ps.flatMap (·.2) = bs) (hl : bs.length ≤ 140737488355328) :
    Calls Try.prog 12 #[.slice (some ⟨W.heap.size, 0, none⟩) ps.length ps.length] (W.alloc (.cells (ps.map (·.1)).toArray 22)).drew fun e w' => ∃ ao cap, e = .returned (.slice ao bs.length cap) ∧ Own w' W.heap.size (.slice ao bs.length cap) bs ∧ Below W.heap.size W w' := by
  refine (join_is _ ps bs _ (parts_new W ps h) hn hbs hl).mono fun e w' ⟨ao, cap, h1, h2, h3⟩ => ?_
  have hb := (below_new W (.cells (ps.map (·.1)).toArray 22)).drew
  exact ⟨ao, cap, h1, h2.weaken hb.size, hb.trans (h3.mono hb.size)⟩

/-- The same world, but for the draws. -/
structure Lik (w w' : World) : Prop where
  heap : w'.heap = w.heap
  os : w'.os = w.os
  tape : w'.tape = w.tape
  output : w'.output = w.output

theorem Lik.below {w w' : World} (h : Lik w w') (B : Nat) : Below B w w' := ⟨h.os, h.tape, h.output, by rw [h.heap]; exact Nat.le_refl _, fun k _ => by rw [h.heap]⟩
theorem Lik.has {w w' : World} (h : Lik w w') {v : Value} {bs : List UInt8} (hh : Has w v bs) : Has w' v bs := hh.below (h.below _)
theorem Lik.cell {w w' : World} (h : Lik w w') (a : Addr) : w'.cell? a = w.cell? a := by unfold World.cell?; rw [h.heap]

theorem join_lik (W X : World) (ps : List (Value × List UInt8)) (bs : List UInt8) (hX : Lik (W.alloc (.cells (ps.map (·.1)).toArray 22)) X) (h : ∀ p ∈ ps, Has W p.1 p.2) (hn : ps.length ≤ 140737488355328) (hbs : ps.flatMap (·.2) = bs) (hl : bs.length ≤ 140737488355328) :
    Calls Try.prog 12 #[.slice (some ⟨W.heap.size, 0, none⟩) ps.length ps.length] X fun e w' => ∃ ao cap, e = .returned (.slice ao bs.length cap) ∧ Own w' W.heap.size (.slice ao bs.length cap) bs ∧ Below W.heap.size W w' := by
  have hp : Parts X (.slice (some ⟨W.heap.size, 0, none⟩) ps.length ps.length) ps := by
    rcases parts_new' W ps h with h | ⟨ad, cap, h1, h2, h3⟩
    · exact .inl h
    · exact .inr ⟨ad, cap, h1, h2, fun i p hp => ⟨by rw [hX.cell]; exact (h3 i p hp).1, hX.has (h3 i p hp).2⟩⟩
  refine (join_is _ ps bs _ hp hn hbs hl).mono fun e w' ⟨ao, cap, h1, h2, h3⟩ => ?_
  have hb := (below_new W (.cells (ps.map (·.1)).toArray 22)).trans (hX.below _)
  exact ⟨ao, cap, h1, h2.weaken hb.size, hb.trans (h3.mono hb.size)⟩

theorem at_new (W X : World) (A : Obj) (h : Lik (W.alloc A) X) : X.heap[W.heap.size]? = some A := by
  rw [h.heap]; show (W.heap.push A)[W.heap.size]? = _; simp
theorem at_fst (W X : World) (A B : Obj) (h : Lik ((W.alloc A).alloc B) X) : X.heap[W.heap.size]? = some A := by
  rw [h.heap]; show ((W.heap.push A).push B)[W.heap.size]? = _
  rw [Array.getElem?_push, if_neg (by simp)]; simp
theorem at_snd (W X : World) (A B : Obj) (h : Lik ((W.alloc A).alloc B) X) : X.heap[W.heap.size + 1]? = some B := by
  rw [h.heap]; show ((W.heap.push A).push B)[W.heap.size + 1]? = _
  rw [Array.getElem?_push, if_pos (by simp)]
theorem bel_new (W X : World) (A : Obj) (h : Lik (W.alloc A) X) : Below W.heap.size W X := (below_new W A).trans (h.below _)
theorem bel_two (W X : World) (A B : Obj) (h : Lik ((W.alloc A).alloc B) X) : Below W.heap.size W X := ((below_new W A).alloc (by simp) B).trans (h.below _)

theorem join_at (X : World) (g : Nat) (ps : List (Value × List UInt8)) (bs : List UInt8) (hg : X.heap[g]? = some (.cells (ps.map (·.1)).toArray 22)) (h : ∀ p ∈ ps, Has X p.1 p.2) (hn : ps.length ≤ 140737488355328) (hbs : ps.flatMap (·.2) = bs) (hl : bs.length ≤ 140737488355328) :
    Calls Try.prog 12 #[.slice (some ⟨g, 0, none⟩) ps.length ps.length] X fun e w' => ∃ ao cap, e = .returned (.slice ao bs.length cap) ∧ Has w' (.slice ao bs.length cap) bs ∧ Below X.heap.size X w' := by
  have hp : Parts X (.slice (some ⟨g, 0, none⟩) ps.length ps.length) ps := by
    refine .inr ⟨_, _, rfl, Nat.le_refl _, fun i p hp => ⟨?_, h p (List.mem_of_getElem? hp)⟩⟩
    rw [add_plain]
    unfold World.cell?
    dsimp only
    rw [hg]
    simp [hp]
  exact (join_is _ ps bs _ hp hn hbs hl).mono fun e w' ⟨ao, cap, h1, h2, h3⟩ => ⟨ao, cap, h1, h2.has, h3⟩

theorem has_two {X : World} {a b : Value} {xs ys : List UInt8} (h1 : Has X a xs) (h2 : Has X b ys) : ∀ p ∈ [(a, xs), (b, ys)], Has X p.1 p.2 := by
  intro p hp
  simp only [List.mem_cons, List.not_mem_nil, or_false] at hp
  rcases hp with rfl | rfl
  · exact h1
  · exact h2
theorem has_one {X : World} {a : Value} {xs : List UInt8} (h1 : Has X a xs) : ∀ p ∈ [(a, xs)], Has X p.1 p.2 := by
  intro p hp
  simp only [List.mem_cons, List.not_mem_nil, or_false] at hp
  subst hp; exact h1
theorem kept_blocks {X w' : World} (h : Below X.heap.size X w') (g : Nat) (o : Obj) (hg : X.heap[g]? = some o) : w'.heap[g]? = some o := by
  rw [h.block g ?_, hg]
  rcases Nat.lt_or_ge g X.heap.size with hl | hl
  · exact hl
  · rw [Array.getElem?_eq_none hl] at hg; cases hg

theorem bel_drewN {B : Nat} {a w : World} (h : Below B a w) (q : Nat) : Below B a (w.drewN q) := ⟨h.os, h.tape, h.output, h.size, h.block⟩

theorem has_new1 (W : World) (b : UInt8) : Has (W.alloc (.cells #[byt b] 5)) (.slice (some ⟨W.heap.size, 0, none⟩) 1 1) [b] := by
  refine .inr ⟨_, 1, rfl, Nat.le_refl _, fun i u hu => ?_⟩
  rw [add_plain]
  unfold World.cell?
  dsimp only
  rw [at_new W _ (.cells #[byt b] 5) ⟨rfl, rfl, rfl, rfl⟩]
  match i, hu with
  | 0, hu => simp at hu; subst hu; simp

theorem app_ne (bs : List UInt8) (b : UInt8) : (bs == bs ++ [b]) = false := by
  rw [beq_eq_false_iff_ne]
  intro h
  have := congrArg List.length h
  simp at this

theorem zeros_same (bs : List UInt8) : (List.replicate bs.length 0 == bs) = bs.all (· == 0) := by
  induction bs with
  | nil => rfl
  | cons b r ih =>
    rw [List.length_cons, List.replicate_succ, List.all_cons, ← ih]
    show (0 == b && (List.replicate r.length 0 == r)) = _
    rw [show ((0 : UInt8) == b) = (b == 0) from Bool.eq_iff_iff.2 (by simp only [beq_iff_eq]; exact eq_comm)]

theorem Own.at {w : World} {base : Nat} {ao : Option Addr} {cap : Nat} {bs : List UInt8} (h : Own w base (.slice ao bs.length cap) bs) (hn : 0 < bs.length) : ∃ g, ao = some ⟨g, 0, none⟩ ∧ base ≤ g := by
  obtain ⟨_, ⟨_, h⟩ | ⟨g, cap', cur, hv, hg, _⟩⟩ := h
  · omega
  · cases hv; exact ⟨g, rfl, hg⟩

theorem bel_chain {a b c : World} (h : Below a.heap.size a b) (k : Below b.heap.size b c) : Below a.heap.size a c := h.trans (k.mono h.size)

set_option maxRecDepth 100000 in
set_option maxHeartbeats 1000000 in
theorem joins_any (v : Value) (bs : List UInt8) (x y : Int) (w : World) (hv : Has w v bs) (hn : bs.length ≤ 140737488351232) :
    Calls Try.prog 4 #[v, .int .i64 x, .int .i64 y] w fun e w' => e = .returned (.bool true) ∧ Below w.heap.size w w' := by
  have hlen := hv.len
  obtain ⟨i, hi⟩ : ∃ i : Nat, x % ((bs.length : Int) + 1) = i := ⟨(x % ((bs.length : Int) + 1)).toNat, by have := Int.emod_nonneg x (b := (bs.length : Int) + 1) (by omega); omega⟩
  have hi2 : i ≤ bs.length := by have := Int.emod_lt_of_pos x (b := (bs.length : Int) + 1) (by omega); omega
  obtain ⟨d, hd⟩ : ∃ d : Nat, y % ((bs.length : Int) - i + 1) = d := ⟨(y % ((bs.length : Int) - i + 1)).toNat, by have := Int.emod_nonneg y (b := (bs.length : Int) - i + 1) (by omega); omega⟩
  have hd2 : i + d ≤ bs.length := by have := Int.emod_lt_of_pos y (b := (bs.length : Int) - i + 1) (by omega); omega
  have s1 := hv.cutH i hi2
  have s2 := hv.cutLH i (i + d) (by omega) hd2
  have s3 := hv.cutL (i + d) hd2
  have s4 := hv.cutH (i + d) hd2
  have H1 : Hid (Has w (cutV v 0 i) (bs.take i)) := hv.cut 0 i (by omega) hi2
  have H2 : Hid (Has w (cutV v i (i + d)) ((bs.drop i).take d)) := by have := hv.cut i (i + d) (by omega) hd2; rwa [Nat.add_sub_cancel_left] at this
  have H3 : Hid (Has w (cutV v (i + d) bs.length) (bs.drop (i + d))) := by have := hv.cut (i + d) bs.length (by omega) (by omega); rwa [List.take_of_length_le (by simp)] at this
  have H4 : Hid (Has w (cutV v 0 (i + d)) (bs.take (i + d))) := hv.cut 0 (i + d) (by omega) hd2
  obtain ⟨a1, c1, e1⟩ := cut_shape hv 0 i
  obtain ⟨a2, c2, e2⟩ := cut_shape hv i (i + d)
  obtain ⟨a3, c3, e3⟩ := cut_shape hv (i + d) bs.length
  obtain ⟨a4, c4, e4⟩ := cut_shape hv 0 (i + d)
  rw [Nat.add_sub_cancel_left] at e2
  rw [Nat.sub_zero] at e1 e4
  rw [e1] at s1 H1
  rw [e2] at s2 H2
  rw [e3] at s3 H3
  rw [e4] at s4 H4
  clear e1 e2 e3 e4
  have HV : Hid (Has w v bs) := hv
  have HI : Hid (x % ((bs.length : Int) + 1) = i) := hi
  have HD : Hid (y % ((bs.length : Int) - i + 1) = d) := hd
  have HJ1 : Hid (bs.take i ++ ((bs.drop i).take d ++ ([] ++ (bs.drop (i + d) ++ []))) = bs) := by
    show _ = _
    rw [List.append_nil, List.nil_append, ← List.append_assoc, ← List.take_add, List.take_append_drop]
  have HJ2 : Hid (bs.take (i + d) ++ (bs.drop (i + d) ++ []) = bs) := by
    show _ = _
    rw [List.append_nil, List.take_append_drop]
  have HP1 : Hid (∀ p ∈ [(Value.slice a1 i c1, bs.take i), (.slice a2 d c2, (bs.drop i).take d), (.slice none 0 0, []), (.slice a3 (bs.length - (i + d)) c3, bs.drop (i + d))], Has w p.1 p.2) := by
    intro p hp
    simp only [List.mem_cons, List.not_mem_nil, or_false] at hp
    rcases hp with rfl | rfl | rfl | rfl
    · exact H1.out
    · exact H2.out
    · exact Has.nil _
    · exact H3.out
  clear hv hi hd
  simp only [Int.natCast_add] at s2 s3 s4
  go_enter Try.func4, Try.ntmps4
  go_wp2_with fail
  refine (rest_any _ _ _ (by omega) (by omega)).mono ?_
  rintro e w' ⟨rfl, rfl⟩
  rw [HI.out]
  go_wp2_with fail
  refine (rest_any _ _ _ (by omega) (by omega)).mono ?_
  rintro e w' ⟨rfl, rfl⟩
  rw [HD.out]
  go_wp2_with fail
  go_cut [9] from 11 to 36 (fun l wx => ∃ ao cap, l = .slice ao bs.length cap ∧ Own wx w'.heap.size (.slice ao bs.length cap) bs ∧ Below w'.heap.size w' wx)
  case first =>
    clear s4 H4 HJ2 HV
    go_region_held3 (fun _ => True) (trivial) ((go_at_call 12; refine (join_newd _ [(.slice a1 i c1, bs.take i), (.slice a2 d c2, (bs.drop i).take d), (.slice none 0 0, []), (.slice a3 (bs.length - (i + d)) c3, bs.drop (i + d))] bs HP1.out (by simp) HJ1.out (by omega)).mono ?_; rintro e w1 ⟨ao, cap, rfl, hown, hbel⟩))
    all_goals (go_wp2_with fail; go_meet; exact ⟨ao, cap, rfl, hown, hbel⟩)
  case rest =>
  obtain ⟨ao, cap, rfl, hown, hbel⟩ := hcut
  rename World => wc
  have hhas := hide (HV.out.below hbel)
  have hl1 := hide hown.has
  have h3 := hide (H3.out.below hbel)
  have h4 := hide (H4.out.below hbel)
  have HOWN := hide hown
  have HBEL := hide hbel
  clear H2 HJ1 HP1 HI HD s1 s2 hown hbel H1 H3 H4
  go_wp2_with fail
  go_cut [61] from 37 to 61 (fun s wx => s = .bool false ∧ Below wc.heap.size wc wx)
  case first =>
    clear HOWN HBEL hlen
    go_region_held3 (fun _ => True) (trivial) (first
      | (go_at_call 10; refine (eq_yes _ _ bs _ ?_ ?_).mono ?_; exact Lik.has ⟨rfl, rfl, rfl, rfl⟩ hl1.out; exact Lik.has ⟨rfl, rfl, rfl, rfl⟩ hhas.out; rintro e w2 ⟨rfl, rfl⟩)
      | (go_at_call_of 13 v; refine (same_is _ _ bs bs true _ ?_ ?_ ?_ ?_).mono ?_; exact Lik.has ⟨rfl, rfl, rfl, rfl⟩ hl1.out; exact Lik.has ⟨rfl, rfl, rfl, rfl⟩ hhas.out; omega; simp; rintro e w2 ⟨rfl, q, rfl⟩)
      | (go_at_call_of 12 (2 : Nat); go_must (refine (join_at _ _ [(.slice a4 (i + d) c4, bs.take (i + d)), (.slice a3 (bs.length - (i + d)) c3, bs.drop (i + d))] bs ?_ ?_ (by simp) HJ2.out (by omega)).mono ?_; (first | exact at_new w2 _ _ ⟨rfl, rfl, rfl, rfl⟩ | exact kept_blocks HB.out _ _ (at_snd wc _ _ _ ⟨rfl, rfl, rfl, rfl⟩) | exact kept_blocks HB.out _ _ (at_fst wc _ _ _ ⟨rfl, rfl, rfl, rfl⟩)); (first | exact has_two (h4.out.below (bel_chain HBW.out (bel_new w2 _ _ ⟨rfl, rfl, rfl, rfl⟩))) (h3.out.below (bel_chain HBW.out (bel_new w2 _ _ ⟨rfl, rfl, rfl, rfl⟩))) | exact has_two (h4.out.below HBW.out) (h3.out.below HBW.out)); rintro e w3 ⟨ap, cp, rfl, HA3, hb3⟩; (have HB3 : Hid (Below w2.heap.size w2 w3) := by first | exact bel_chain (bel_new w2 _ _ (by exact ⟨rfl, rfl, rfl, rfl⟩)) hb3 | exact hb3); have HH3 := hide HA3; clear hb3 HA3))
      | (go_at_call 12; go_must (refine (join_at _ _ [(.slice ao bs.length cap, bs)] bs ?_ ?_ (by simp) (by simp) (by omega)).mono ?_; (first | exact at_new wc _ _ ⟨rfl, rfl, rfl, rfl⟩ | exact at_fst wc _ _ _ ⟨rfl, rfl, rfl, rfl⟩ | exact at_snd wc _ _ _ ⟨rfl, rfl, rfl, rfl⟩); (first | exact has_one (hl1.out.below (bel_new wc _ _ ⟨rfl, rfl, rfl, rfl⟩)) | exact has_one (hl1.out.below (bel_two wc _ _ _ ⟨rfl, rfl, rfl, rfl⟩))); rintro e w2 ⟨ap2, cp2, rfl, HA2, hb2⟩; have HB := hide hb2; have HH2 := hide HA2; (have HBW : Hid (Below wc.heap.size wc w2) := by first | exact bel_chain (bel_new wc _ _ (by exact ⟨rfl, rfl, rfl, rfl⟩)) hb2 | exact bel_chain (bel_two wc _ _ _ (by exact ⟨rfl, rfl, rfl, rfl⟩)) hb2); clear hb2 HA2))
      | (go_at_call 13; go_must (refine (same_is _ _ bs bs true _ (HH2.out.below HB3.out) HH3.out (by omega) (by simp)).mono ?_; rintro e w4 ⟨rfl, q4, rfl⟩)))
    all_goals (go_wp2_with fail; go_meet; exact ⟨rfl, bel_drewN (bel_chain HBW.out HB3.out) _⟩)
  case rest =>
  obtain ⟨rfl, hb4⟩ := hcut
  rename World => w5
  have hv5 := hide (hhas.out.below hb4)
  have hown5 := hide (HOWN.out.below hb4)
  have hbel5 := hide (HBEL.out.trans (hb4.mono HBEL.out.size))
  clear hhas hl1 h3 h4 HOWN HBEL hb4 s3 s4 HJ2
  go_wp2_with (at_builtin; refine wpList_app rfl _ _ rfl w5.heap.size _ [] rfl (Own.nil _ _) _ bs rfl hv5.out (by simp; omega) (Nat.le_refl _) ?_)
  intro v6 w6 hown6 hg6
  have hb6 := hide ((Below.refl w5.heap.size w5).grown hg6 (Nat.le_refl _) (Own.nil w5 w5.heap.size).ownBlock)
  have HOWN6 := hide hown6
  clear hown6 hg6
  go_wp2_with (at_builtin; refine wpList_app rfl _ _ rfl w5.heap.size _ bs rfl (HOWN6.out.below (below_new _ _)) _ [0] rfl (has_new1 w6 0) (by simp; omega) (by have := hb6.out.size; simp; omega) ?_)
  intro v7 w7 hown7 hg7
  have hb7 := hide ((hb6.out.alloc hb6.out.size (.cells #[byt 0] 5)).grown hg7 (by have := hb6.out.size; simp; omega) HOWN6.out.ownBlock)
  have HOWN7 := hide hown7
  clear hown7 hg7 HOWN6
  go_wp2_with fail
  refine (same_is _ _ bs (bs ++ [0]) false _ (hown5.out.has.below hb7.out) HOWN7.out.has (by omega) (app_ne bs 0)).mono ?_
  rintro e w8 ⟨rfl, q8, rfl⟩
  have hb8 := hide (bel_drewN hb7.out q8)
  obtain ⟨z, hz⟩ : ∃ z, bs.all (· == 0) = z := ⟨_, rfl⟩
  have HZ := hide hz
  clear HOWN7 hb6 hb7 hz
  have hown8 := hide (hown5.out.below hb8.out)
  have hv8 := hide (hv5.out.below hb8.out)
  have hbel8 := hide (hbel5.out.trans (hb8.out.mono hbel5.out.size))
  clear hown5 hv5 hbel5 hb8
  generalize w7.drewN q8 = w8 at *
  go_wp2_with fail
  refine (blank_is _ bs z _ (by omega) hown8.out.has HZ.out).mono ?_
  rintro e w9 ⟨rfl, rfl⟩
  go_wp2_with fail
  refine (wipe_any _ _ bs _ hown8.out).mono ?_
  rintro e w9 ⟨rfl, hown9, honly⟩
  have hbo := hide (honly.below hown8.out.ownBlock)
  have hown9' := hide hown9
  have hbel9 := hide (hbel8.out.trans hbo.out)
  clear hown9 honly
  have hv9 := hide (HV.out.below hbel9.out)
  clear hbo hbel8 hv8 hown8
  go_wp2_with fail
  refine (blank_is _ (List.replicate bs.length 0) true _ (by simp; omega) hown9'.out.has (by simp)).mono ?_
  rintro e w10 ⟨rfl, rfl⟩
  go_wp2_with fail
  refine (same_is _ _ (List.replicate bs.length 0) bs z _ hown9'.out.has hv9.out (by simp; omega) (by rw [zeros_same]; exact HZ.out)).mono ?_
  rintro e w11 ⟨rfl, q, rfl⟩
  have hown11 : Hid (Own (w9.drewN q) w'.heap.size (Value.slice ao bs.length cap) (List.replicate bs.length 0)) := hown9'.out.below (bel_drewN (Below.refl _ _) _)
  have hbel11 := hide (bel_drewN hbel9.out q)
  clear hv9 hown9' hbel9
  generalize w9.drewN q = w11 at *
  rcases Nat.eq_zero_or_pos bs.length with h0 | h0
  · obtain rfl := List.eq_nil_of_length_eq_zero h0
    have hzt := HZ.out
    simp at hzt
    subst hzt
    go_wp2_with fail
    go_ret
    exact ⟨rfl, hbel11.out⟩
  · have h0' : ((bs.length : Int) == 0) = false := beq_eq_false_iff_ne.2 (by omega)
    go_wp2_with fail
    refine (rest_any _ _ _ (by omega) (by omega)).mono ?_
    rintro e w12 ⟨rfl, rfl⟩
    obtain ⟨k, hk⟩ : ∃ k : Nat, x % (bs.length : Int) = k := ⟨(x % (bs.length : Int)).toNat, by have := Int.emod_nonneg x (b := (bs.length : Int)) (by omega); omega⟩
    have hk2 : k < bs.length := by have := Int.emod_lt_of_pos x (b := (bs.length : Int)) (by omega); omega
    rw [hk]
    have hk3 : (k : Int) < (bs.length : Int) := by omega
    have hlr : (List.replicate bs.length (0 : UInt8)).length = bs.length := by simp
    have hownr : Own w12 w'.heap.size (Value.slice ao (List.replicate bs.length (0 : UInt8)).length cap) (List.replicate bs.length 0) := by rw [hlr]; exact hown11.out
    obtain ⟨g, rfl, hg⟩ := hownr.at (by omega)
    obtain ⟨⟨u, hu⟩, hfr⟩ := hownr.cells k (by omega)
    have hw := hownr.write k [1] (by simp; omega)
    rw [hlr] at hw
    have HW := hide hw
    have HBW := hide ((setCell_only w12 g k (byt 1)).below (B := w'.heap.size) (by intro j hj; cases hj; exact hg))
    unfold byt at hu
    clear hw hownr hlr hown11 hk
    go_wp2_with fail
    refine (blank_is _ (List.take k (List.replicate bs.length 0) ++ [1] ++ List.drop (k + 1) (List.replicate bs.length 0)) false _ (by simp; omega) HW.out.has (by simp)).mono ?_
    rintro e w13 ⟨rfl, rfl⟩
    go_wp2_with fail
    go_ret
    exact ⟨rfl, hbel11.out.trans HBW.out⟩

end Go.Proofs.Ytgfgabgnejnipaa
