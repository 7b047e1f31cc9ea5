import Derived.Test.YthlpfpggjkocmaaWordsG
set_option linter.unusedVariables false
set_option linter.unusedSimpArgs false
namespace Go.Proofs.Ythlpfpggjkocmaa
open Go.RowKit
/-- Blocks of S alone may have turned; blocks may have come. -/
structure Fx (S : Nat → Prop) (w w' : World) : Prop where
  os : w'.os = w.os
  tape : w'.tape = w.tape
  output : w'.output = w.output
  size : w.heap.size ≤ w'.heap.size
  block : ∀ k, k < w.heap.size → ¬ S k → w'.heap[k]? = w.heap[k]?

theorem Fx.of_below {S : Nat → Prop} {a b : World} (h : Below a.heap.size a b) : Fx S a b := ⟨h.os, h.tape, h.output, h.size, fun i hi _ => h.block i hi⟩
theorem Fx.refl (S : Nat → Prop) (w : World) : Fx S w w := Fx.of_below (Below.refl _ _)
theorem Fx.trans {S T : Nat → Prop} {a b c : World} (h : Fx S a b) (k : Fx T b c) (hT : ∀ i, i < a.heap.size → T i → S i) : Fx S a c :=
  ⟨k.os.trans h.os, k.tape.trans h.tape, k.output.trans h.output, Nat.le_trans h.size k.size, fun i hi hs => (k.block i (Nat.lt_of_lt_of_le hi h.size) (fun t => hs (hT i hi t))).trans (h.block i hi hs)⟩
theorem Fx.and {S : Nat → Prop} {a b c : World} (h : Fx S a b) (k : Fx S b c) : Fx S a c := h.trans k (fun _ _ t => t)
theorem Fx.mono {S T : Nat → Prop} {a b : World} (h : Fx S a b) (hT : ∀ i, i < a.heap.size → S i → T i) : Fx T a b :=
  ⟨h.os, h.tape, h.output, h.size, fun i hi hs => h.block i hi (fun s => hs (hT i hi s))⟩
theorem Fx.then_below {S : Nat → Prop} {a b c : World} (h : Fx S a b) (k : Below b.heap.size b c) : Fx S a c := h.trans (Fx.of_below (S := S) k) (fun _ _ s => s)
theorem Fx.setCell {S : Nat → Prop} (w : World) (p o : Nat) (v : Value) (hS : S p) : Fx S w (w.setCell ⟨p, o, none⟩ v) :=
  ⟨rfl, rfl, rfl, by simp [World.setCell], fun k _ hk => Below.heap_setCell _ _ _ _ (fun e => hk (by rw [show k = p from e]; exact hS))⟩
theorem Fx.setCells {S : Nat → Prop} (p : Nat) (hS : S p) : ∀ (vs : List Value) (o : Nat) (w : World), Fx S w (w.setCells p o vs)
  | [], _, w => Fx.refl S w
  | v :: r, o, w => by
    rw [World.setCells]
    exact (Fx.setCell w p o v hS).and (Fx.setCells p hS r (o + 1) _)
theorem Fx.drewN {S : Nat → Prop} (w : World) (n : Nat) : Fx S w (w.drewN n) := Fx.of_below (below_drewN (Below.refl _ _) n)
/-- All but block p is as it was. -/
abbrev One (p : Nat) : Nat → Prop := fun k => k = p
theorem Fx.below {S : Nat → Prop} {a b : World} (h : Fx S a b) {B : Nat} (hB : ∀ k, k < B → ¬ S k) (hs : B ≤ a.heap.size) : Below B a b :=
  ⟨h.os, h.tape, h.output, h.size, fun k hk => h.block k (by omega) (hB k hk)⟩
theorem Fx.cell {S : Nat → Prop} {a b : World} (h : Fx S a b) {x : Addr} {v : Value} (hc : a.cell? x = some v) (hS : ¬ S x.block) : b.cell? x = some v := by
  rw [← hc]
  exact World.cell?_of_block (h.block _ (cell_lt hc) hS)

theorem add_block (ad : Addr) (i : Nat) : (ad.add i).block = ad.block := by
  unfold Addr.add; split <;> rfl

theorem Has.fx {S : Nat → Prop} {w w' : World} {v : Value} {bs : List UInt8} (h : Has w v bs) (hf : Fx S w w') (hd : ∀ k, v.ownBlock = some k → ¬ S k) : Has w' v bs := by
  rcases h with h | ⟨ad, cap, rfl, h2, h3⟩
  · exact .inl h
  · exact .inr ⟨ad, cap, rfl, h2, fun i u hu => hf.cell (h3 i u hu) (by rw [add_block]; exact hd _ rfl)⟩
theorem Blk.fx {S : Nat → Prop} {w w' : World} {g : Nat} {cs : List Value} {t : TypeId} (h : Blk w g cs t) (hf : Fx S w w') (hg : ¬ S g) : Blk w' g cs t := by
  have hl := h.lt
  unfold Blk at h ⊢
  rw [hf.block g hl hg]; exact h
theorem splice_one (cs : List Value) (o : Nat) (v : Value) (r : List Value) (h : o + (v :: r).length ≤ cs.length) :
    (cs.set o v).take (o + 1) ++ r ++ (cs.set o v).drop (o + 1 + r.length) = cs.take o ++ (v :: r) ++ cs.drop (o + (v :: r).length) := by
  simp only [List.length_cons] at h ⊢
  have hl : o < cs.length := by omega
  rw [List.take_add_one, List.getElem?_set_self hl, List.drop_set_of_lt (by omega), List.take_set_of_le (Nat.le_refl _)]
  simp [Nat.add_assoc, Nat.add_comm 1]

theorem Blk.setCells {g : Nat} {t : TypeId} : ∀ (vs : List Value) (o : Nat) (w : World) (cs : List Value), Blk w g cs t → o + vs.length ≤ cs.length → Blk (w.setCells g o vs) g (cs.take o ++ vs ++ cs.drop (o + vs.length)) t
  | [], o, w, cs, h, _ => by rw [World.setCells]; simpa using h
  | v :: r, o, w, cs, h, hl => by
    rw [World.setCells, ← splice_one cs o v r hl]
    exact Blk.setCells r (o + 1) _ _ (h.set o v) (by simp at hl ⊢; omega)

end Go.Proofs.Ythlpfpggjkocmaa

set_option linter.unusedVariables false
set_option linter.unusedSimpArgs false
namespace Go.Proofs.Ythlpfpggjkocmaa
open Go.RowKit

theorem below_new (W : World) (o : Obj) : Below W.heap.size W (W.alloc o) := (Below.refl _ _).alloc (Nat.le_refl _) _

theorem Has.slice {w : World} {v : Value} {bs : List UInt8} (h : Has w v bs) : ∃ ao cap, v = .slice ao bs.length cap := by
  rcases h with ⟨rfl, rfl⟩ | ⟨ad, cap, rfl, _⟩
  · exact ⟨none, 0, rfl⟩
  · exact ⟨some ad, cap, rfl⟩


theorem Has.len {w : World} {v : Value} {bs : List UInt8} (h : Has w v bs) (W : World) (ty : TypeId) : (Builtin.len_ #[37] ty #[v]).run Try.prog W = .ok (.int .i64 bs.length) W := by
  obtain ⟨ao, cap, rfl⟩ := h.slice
  go_simp

/-- A cut of bytes: the value, in whatever world; what it holds. -/
def cutV (v : Value) (l h : Nat) : Value := match v with
  | .slice a _ cap => sliced a l h cap 1
  | v => v

theorem size5 (W : World) : (sizeOf 5).run Try.prog W = .ok 1 W := by go_simp
theorem elem37 : Try.prog.elem 37 = 5 := by simp [Program.elem, Try.underlying37]

theorem Has.cut {w : World} {v : Value} {bs : List UInt8} (h : Has w v bs) (l k : Nat) (hlk : l ≤ k) (hk : k ≤ bs.length) : Has w (cutV v l k) ((bs.drop l).take (k - l)) := by
  have hlen : ((bs.drop l).take (k - l)).length = k - l := by simp; omega
  rcases h with ⟨rfl, rfl⟩ | ⟨ad, cap, rfl, h2, h3⟩
  · simp at hk; subst hk; simp at hlk; subst hlk
    exact .inl ⟨by simp [cutV, sliced], by simp⟩
  · simp only [cutV, sliced, Nat.mul_one]
    by_cases hc : cap = l
    · rw [if_pos hc]
      have hb : bs.drop l = [] := List.drop_eq_nil_of_le (by omega)
      refine .inr ⟨ad, cap - l, by rw [hlen], by rw [hlen]; omega, fun i u hu => ?_⟩
      rw [hb] at hu; simp at hu
    · rw [if_neg hc]
      refine .inr ⟨ad.add l, cap - l, by rw [hlen]; rfl, by rw [hlen]; omega, fun i u hu => ?_⟩
      have hi : i < k - l := by
        rcases Nat.lt_or_ge i (k - l) with h | h
        · exact h
        · rw [List.getElem?_eq_none (by omega)] at hu; cases hu
      rw [List.getElem?_take_of_lt hi, List.getElem?_drop] at hu
      have hcell := h3 (l + i) u hu
      have hadd : (ad.add l).add i = ad.add (l + i) := by
        unfold Addr.add
        by_cases h0 : l = 0
        · subst h0; simp
        · by_cases h1 : i = 0
          · subst h1; simp
          · rw [if_neg h1, if_neg h0, if_neg (by omega)]; simp; omega
      rw [hadd]; exact hcell

theorem Has.cutLH {w : World} {v : Value} {bs : List UInt8} (h : Has w v bs) (l k : Nat) (hlk : l ≤ k) (hk : k ≤ bs.length) (W : World) :
    (Instr.slice 37 v (some (.int .i64 l)) (some (.int .i64 k)) none).run Try.prog W = .ok (cutV v l k) W := by
  have ht : Try.prog.underlying 37 = some (.slice (Try.prog.elem 37)) := by rw [elem37]; exact Try.underlying37
  have hc : ∃ ao cap, v = .slice ao bs.length cap ∧ bs.length ≤ cap := by
    rcases h with ⟨rfl, rfl⟩ | ⟨ad, cap, rfl, h2, _⟩
    · exact ⟨_, _, rfl, Nat.le_refl _⟩
    · exact ⟨_, _, rfl, h2⟩
  obtain ⟨ao, cap, rfl, hc⟩ := hc
  rw [run_slice_lh W 37 ao _ cap ht .i64 .i64 l k (by omega) (by omega) (by omega), elem37, size5]
  simp [Result.andThen, cutV]

theorem Has.cutH {w : World} {v : Value} {bs : List UInt8} (h : Has w v bs) (k : Nat) (hk : k ≤ bs.length) (W : World) :
    (Instr.slice 37 v none (some (.int .i64 k)) none).run Try.prog W = .ok (cutV v 0 k) W := by
  have ht : Try.prog.underlying 37 = some (.slice (Try.prog.elem 37)) := by rw [elem37]; exact Try.underlying37
  have hc : ∃ ao cap, v = .slice ao bs.length cap ∧ bs.length ≤ cap := by
    rcases h with ⟨rfl, rfl⟩ | ⟨ad, cap, rfl, h2, _⟩
    · exact ⟨_, _, rfl, Nat.le_refl _⟩
    · exact ⟨_, _, rfl, h2⟩
  obtain ⟨ao, cap, rfl, hc⟩ := hc
  rw [run_slice_h W 37 ao _ cap ht .i64 k (by omega) (by omega), elem37, size5]
  simp [Result.andThen, cutV]

theorem Has.cutL {w : World} {v : Value} {bs : List UInt8} (h : Has w v bs) (l : Nat) (hl : l ≤ bs.length) (W : World) :
    (Instr.slice 37 v (some (.int .i64 l)) none none).run Try.prog W = .ok (cutV v l bs.length) W := by
  have ht : Try.prog.underlying 37 = some (.slice (Try.prog.elem 37)) := by rw [elem37]; exact Try.underlying37
  obtain ⟨ao, cap, rfl⟩ := h.slice
  rw [run_slice_l W 37 ao _ cap ht .i64 l (by omega) (by omega), elem37, size5]
  simp [Result.andThen, cutV]

theorem cut_shape {w : World} {v : Value} {bs : List UInt8} (h : Has w v bs) (l k : Nat) : ∃ ao c, cutV v l k = .slice ao (k - l) c := by
  obtain ⟨ao, cap, rfl⟩ := h.slice
  exact ⟨_, _, rfl⟩

theorem Own.slice {w : World} {base : Nat} {v : Value} {bs : List UInt8} (h : Own w base v bs) : ∃ ao cap, v = .slice ao bs.length cap := h.has.slice

structure Lik (w w' : World) : Prop where
  heap : w'.heap = w.heap
  os : w'.os = w.os
  tape : w'.tape = w.tape
  output : w'.output = w.output

theorem Lik.below {w w' : World} (h : Lik w w') (B : Nat) : Below B w w' := ⟨h.os, h.tape, h.output, by rw [h.heap]; exact Nat.le_refl _, fun k _ => by rw [h.heap]⟩
theorem Lik.has {w w' : World} (h : Lik w w') {v : Value} {bs : List UInt8} (hh : Has w v bs) : Has w' v bs := hh.below (h.below _)
theorem Lik.cell {w w' : World} (h : Lik w w') (a : Addr) : w'.cell? a = w.cell? a := by unfold World.cell?; rw [h.heap]
theorem at_new (W X : World) (A : Obj) (h : Lik (W.alloc A) X) : X.heap[W.heap.size]? = some A := by
  rw [h.heap]; show (W.heap.push A)[W.heap.size]? = _; simp
theorem at_fst (W X : World) (A B : Obj) (h : Lik ((W.alloc A).alloc B) X) : X.heap[W.heap.size]? = some A := by
  rw [h.heap]; show ((W.heap.push A).push B)[W.heap.size]? = _
  rw [Array.getElem?_push, if_neg (by simp)]; simp
theorem at_snd (W X : World) (A B : Obj) (h : Lik ((W.alloc A).alloc B) X) : X.heap[W.heap.size + 1]? = some B := by
  rw [h.heap]; show ((W.heap.push A).push B)[W.heap.size + 1]? = _
  rw [Array.getElem?_push, if_pos (by simp)]
theorem bel_new (W X : World) (A : Obj) (h : Lik (W.alloc A) X) : Below W.heap.size W X := (below_new W A).trans (h.below _)
theorem bel_two (W X : World) (A B : Obj) (h : Lik ((W.alloc A).alloc B) X) : Below W.heap.size W X := ((below_new W A).alloc (by simp) B).trans (h.below _)
theorem cut_own {v : Value} {l k b : Nat} (h : (cutV v l k).ownBlock = some b) : v.ownBlock = some b := by
  cases v with
  | slice a len cap =>
    cases a with
    | none => simp [cutV, sliced, Value.ownBlock] at h
    | some x =>
      simp only [cutV, sliced] at h
      split at h <;> simp_all [Value.ownBlock, add_block]
  | _ => exact h
end Go.Proofs.Ythlpfpggjkocmaa
