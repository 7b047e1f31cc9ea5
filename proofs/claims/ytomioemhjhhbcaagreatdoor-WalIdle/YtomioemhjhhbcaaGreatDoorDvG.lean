import Derived.Test.YtomioemhjhhbcaaGreatDoorWordsG
import Derived.Test.YtomioemhjhhbcaaGreatDoorChn
import Derived.Laws.MakeOwn
import Derived.Laws.IdiomCopy
import Derived.Laws.AppendOwn
set_option linter.unusedVariables false
set_option linter.unusedSimpArgs false
namespace Go.Proofs.YtomioemhjhhbcaaGreatDoor
open Go.RowKit
/-- Blocks of S alone may have turned; blocks may have come. -/
structure Fx (S : Nat → Prop) (w w' : World) : Prop where
  os : w'.os = w.os
  tape : w'.tape = w.tape
  output : w'.output = w.output
  size : w.heap.size ≤ w'.heap.size
  block : ∀ k, k < w.heap.size → ¬ S k → w'.heap[k]? = w.heap[k]?

theorem Fx.of_below {S : Nat → Prop} {a b : World} (h : Below a.heap.size a b) : Fx S a b := ⟨h.os, h.tape, h.output, h.size, fun i hi _ => h.block i hi⟩
theorem Fx.refl (S : Nat → Prop) (w : World) : Fx S w w := Fx.of_below (Below.refl _ _)
theorem Fx.trans {S T : Nat → Prop} {a b c : World} (h : Fx S a b) (k : Fx T b c) (hT : ∀ i, i < a.heap.size → T i → S i) : Fx S a c :=
  ⟨k.os.trans h.os, k.tape.trans h.tape, k.output.trans h.output, Nat.le_trans h.size k.size, fun i hi hs => (k.block i (Nat.lt_of_lt_of_le hi h.size) (fun t => hs (hT i hi t))).trans (h.block i hi hs)⟩
theorem Fx.and {S : Nat → Prop} {a b c : World} (h : Fx S a b) (k : Fx S b c) : Fx S a c := h.trans k (fun _ _ t => t)
theorem Fx.mono {S T : Nat → Prop} {a b : World} (h : Fx S a b) (hT : ∀ i, i < a.heap.size → S i → T i) : Fx T a b :=
  ⟨h.os, h.tape, h.output, h.size, fun i hi hs => h.block i hi (fun s => hs (hT i hi s))⟩
theorem Fx.then_below {S : Nat → Prop} {a b c : World} (h : Fx S a b) (k : Below b.heap.size b c) : Fx S a c := h.trans (Fx.of_below (S := S) k) (fun _ _ s => s)
theorem Fx.setCell {S : Nat → Prop} (w : World) (p o : Nat) (v : Value) (hS : S p) : Fx S w (w.setCell ⟨p, o, none⟩ v) :=
  ⟨rfl, rfl, rfl, by simp [World.setCell], fun k _ hk => Below.heap_setCell _ _ _ _ (fun e => hk (by rw [show k = p from e]; exact hS))⟩
theorem Fx.setCells {S : Nat → Prop} (p : Nat) (hS : S p) : ∀ (vs : List Value) (o : Nat) (w : World), Fx S w (w.setCells p o vs)
  | [], _, w => Fx.refl S w
  | v :: r, o, w => by
    rw [World.setCells]
    exact (Fx.setCell w p o v hS).and (Fx.setCells p hS r (o + 1) _)
theorem Fx.drewN {S : Nat → Prop} (w : World) (n : Nat) : Fx S w (w.drewN n) := Fx.of_below (below_drewN (Below.refl _ _) n)
/-- All but block p is as it was. -/
abbrev One (p : Nat) : Nat → Prop := fun k => k = p
theorem Fx.below {S : Nat → Prop} {a b : World} (h : Fx S a b) {B : Nat} (hB : ∀ k, k < B → ¬ S k) (hs : B ≤ a.heap.size) : Below B a b :=
  ⟨h.os, h.tape, h.output, h.size, fun k hk => h.block k (by omega) (hB k hk)⟩
theorem Fx.cell {S : Nat → Prop} {a b : World} (h : Fx S a b) {x : Addr} {v : Value} (hc : a.cell? x = some v) (hS : ¬ S x.block) : b.cell? x = some v := by
  rw [← hc]
  exact World.cell?_of_block (h.block _ (cell_lt hc) hS)

theorem add_block (ad : Addr) (i : Nat) : (ad.add i).block = ad.block := by
  unfold Addr.add; split <;> rfl

theorem Has.fx {S : Nat → Prop} {w w' : World} {v : Value} {bs : List UInt8} (h : Has w v bs) (hf : Fx S w w') (hd : ∀ k, v.ownBlock = some k → ¬ S k) : Has w' v bs := by
  rcases h with h | ⟨ad, cap, rfl, h2, h3⟩
  · exact .inl h
  · exact .inr ⟨ad, cap, rfl, h2, fun i u hu => hf.cell (h3 i u hu) (by rw [add_block]; exact hd _ rfl)⟩
theorem Blk.fx {S : Nat → Prop} {w w' : World} {g : Nat} {cs : List Value} {t : TypeId} (h : Blk w g cs t) (hf : Fx S w w') (hg : ¬ S g) : Blk w' g cs t := by
  have hl := h.lt
  unfold Blk at h ⊢
  rw [hf.block g hl hg]; exact h
theorem splice_one (cs : List Value) (o : Nat) (v : Value) (r : List Value) (h : o + (v :: r).length ≤ cs.length) :
    (cs.set o v).take (o + 1) ++ r ++ (cs.set o v).drop (o + 1 + r.length) = cs.take o ++ (v :: r) ++ cs.drop (o + (v :: r).length) := by
  simp only [List.length_cons] at h ⊢
  have hl : o < cs.length := by omega
  rw [List.take_add_one, List.getElem?_set_self hl, List.drop_set_of_lt (by omega), List.take_set_of_le (Nat.le_refl _)]
  simp [Nat.add_assoc, Nat.add_comm 1]

theorem Blk.setCells {g : Nat} {t : TypeId} : ∀ (vs : List Value) (o : Nat) (w : World) (cs : List Value), Blk w g cs t → o + vs.length ≤ cs.length → Blk (w.setCells g o vs) g (cs.take o ++ vs ++ cs.drop (o + vs.length)) t
  | [], o, w, cs, h, _ => by rw [World.setCells]; simpa using h
  | v :: r, o, w, cs, h, hl => by
    rw [World.setCells, ← splice_one cs o v r hl]
    exact Blk.setCells r (o + 1) _ _ (h.set o v) (by simp at hl ⊢; omega)

end Go.Proofs.YtomioemhjhhbcaaGreatDoor

set_option linter.unusedVariables false
set_option linter.unusedSimpArgs false
namespace Go.Proofs.YtomioemhjhhbcaaGreatDoor
open Go.RowKit

theorem below_new (W : World) (o : Obj) : Below W.heap.size W (W.alloc o) := (Below.refl _ _).alloc (Nat.le_refl _) _

theorem Has.slice {w : World} {v : Value} {bs : List UInt8} (h : Has w v bs) : ∃ ao cap, v = .slice ao bs.length cap := by
  rcases h with ⟨rfl, rfl⟩ | ⟨ad, cap, rfl, _⟩
  · exact ⟨none, 0, rfl⟩
  · exact ⟨some ad, cap, rfl⟩


theorem Has.len {w : World} {v : Value} {bs : List UInt8} (h : Has w v bs) (W : World) (ty : TypeId) : (Builtin.len_ #[50] ty #[v]).run Tryz.prog W = .ok (.int .i64 bs.length) W := by
  obtain ⟨ao, cap, rfl⟩ := h.slice
  go_simp

/-- A cut of bytes: the value, in whatever world; what it holds. -/
def cutV (v : Value) (l h : Nat) : Value := match v with
  | .slice a _ cap => sliced a l h cap 1
  | v => v

theorem size5 (W : World) : (sizeOf 5).run Tryz.prog W = .ok 1 W := by go_simp
theorem elem37 : Tryz.prog.elem 50 = 5 := by simp [Program.elem, Tryz.underlying50]

theorem Has.cut {w : World} {v : Value} {bs : List UInt8} (h : Has w v bs) (l k : Nat) (hlk : l ≤ k) (hk : k ≤ bs.length) : Has w (cutV v l k) ((bs.drop l).take (k - l)) := by
  have hlen : ((bs.drop l).take (k - l)).length = k - l := by simp; omega
  rcases h with ⟨rfl, rfl⟩ | ⟨ad, cap, rfl, h2, h3⟩
  · simp at hk; subst hk; simp at hlk; subst hlk
    exact .inl ⟨by simp [cutV, sliced], by simp⟩
  · simp only [cutV, sliced, Nat.mul_one]
    by_cases hc : cap = l
    · rw [if_pos hc]
      have hb : bs.drop l = [] := List.drop_eq_nil_of_le (by omega)
      refine .inr ⟨ad, cap - l, by rw [hlen], by rw [hlen]; omega, fun i u hu => ?_⟩
      rw [hb] at hu; simp at hu
    · rw [if_neg hc]
      refine .inr ⟨ad.add l, cap - l, by rw [hlen]; rfl, by rw [hlen]; omega, fun i u hu => ?_⟩
      have hi : i < k - l := by
        rcases Nat.lt_or_ge i (k - l) with h | h
        · exact h
        · rw [List.getElem?_eq_none (by omega)] at hu; cases hu
      rw [List.getElem?_take_of_lt hi, List.getElem?_drop] at hu
      have hcell := h3 (l + i) u hu
      have hadd : (ad.add l).add i = ad.add (l + i) := by
        unfold Addr.add
        by_cases h0 : l = 0
        · subst h0; simp
        · by_cases h1 : i = 0
          · subst h1; simp
          · rw [if_neg h1, if_neg h0, if_neg (by omega)]; simp; omega
      rw [hadd]; exact hcell

theorem Has.cutLH {w : World} {v : Value} {bs : List UInt8} (h : Has w v bs) (l k : Nat) (hlk : l ≤ k) (hk : k ≤ bs.length) (W : World) :
    (Instr.slice 50 v (some (.int .i64 l)) (some (.int .i64 k)) none).run Tryz.prog W = .ok (cutV v l k) W := by
  have ht : Tryz.prog.underlying 50 = some (.slice (Tryz.prog.elem 50)) := by rw [elem37]; exact Tryz.underlying50
  have hc : ∃ ao cap, v = .slice ao bs.length cap ∧ bs.length ≤ cap := by
    rcases h with ⟨rfl, rfl⟩ | ⟨ad, cap, rfl, h2, _⟩
    · exact ⟨_, _, rfl, Nat.le_refl _⟩
    · exact ⟨_, _, rfl, h2⟩
  obtain ⟨ao, cap, rfl, hc⟩ := hc
  rw [run_slice_lh W 50 ao _ cap ht .i64 .i64 l k (by omega) (by omega) (by omega), elem37, size5]
  simp [Result.andThen, cutV]

theorem Has.cutH {w : World} {v : Value} {bs : List UInt8} (h : Has w v bs) (k : Nat) (hk : k ≤ bs.length) (W : World) :
    (Instr.slice 50 v none (some (.int .i64 k)) none).run Tryz.prog W = .ok (cutV v 0 k) W := by
  have ht : Tryz.prog.underlying 50 = some (.slice (Tryz.prog.elem 50)) := by rw [elem37]; exact Tryz.underlying50
  have hc : ∃ ao cap, v = .slice ao bs.length cap ∧ bs.length ≤ cap := by
    rcases h with ⟨rfl, rfl⟩ | ⟨ad, cap, rfl, h2, _⟩
    · exact ⟨_, _, rfl, Nat.le_refl _⟩
    · exact ⟨_, _, rfl, h2⟩
  obtain ⟨ao, cap, rfl, hc⟩ := hc
  rw [run_slice_h W 50 ao _ cap ht .i64 k (by omega) (by omega), elem37, size5]
  simp [Result.andThen, cutV]

theorem Has.cutL {w : World} {v : Value} {bs : List UInt8} (h : Has w v bs) (l : Nat) (hl : l ≤ bs.length) (W : World) :
    (Instr.slice 50 v (some (.int .i64 l)) none none).run Tryz.prog W = .ok (cutV v l bs.length) W := by
  have ht : Tryz.prog.underlying 50 = some (.slice (Tryz.prog.elem 50)) := by rw [elem37]; exact Tryz.underlying50
  obtain ⟨ao, cap, rfl⟩ := h.slice
  rw [run_slice_l W 50 ao _ cap ht .i64 l (by omega) (by omega), elem37, size5]
  simp [Result.andThen, cutV]

theorem cut_shape {w : World} {v : Value} {bs : List UInt8} (h : Has w v bs) (l k : Nat) : ∃ ao c, cutV v l k = .slice ao (k - l) c := by
  obtain ⟨ao, cap, rfl⟩ := h.slice
  exact ⟨_, _, rfl⟩

theorem Own.slice {w : World} {base : Nat} {v : Value} {bs : List UInt8} (h : Own w base v bs) : ∃ ao cap, v = .slice ao bs.length cap := h.has.slice

structure Lik (w w' : World) : Prop where
  heap : w'.heap = w.heap
  os : w'.os = w.os
  tape : w'.tape = w.tape
  output : w'.output = w.output

theorem Lik.below {w w' : World} (h : Lik w w') (B : Nat) : Below B w w' := ⟨h.os, h.tape, h.output, by rw [h.heap]; exact Nat.le_refl _, fun k _ => by rw [h.heap]⟩
theorem Lik.has {w w' : World} (h : Lik w w') {v : Value} {bs : List UInt8} (hh : Has w v bs) : Has w' v bs := hh.below (h.below _)
theorem Lik.cell {w w' : World} (h : Lik w w') (a : Addr) : w'.cell? a = w.cell? a := by unfold World.cell?; rw [h.heap]
theorem at_new (W X : World) (A : Obj) (h : Lik (W.alloc A) X) : X.heap[W.heap.size]? = some A := by
  rw [h.heap]; show (W.heap.push A)[W.heap.size]? = _; simp
theorem at_fst (W X : World) (A B : Obj) (h : Lik ((W.alloc A).alloc B) X) : X.heap[W.heap.size]? = some A := by
  rw [h.heap]; show ((W.heap.push A).push B)[W.heap.size]? = _
  rw [Array.getElem?_push, if_neg (by simp)]; simp
theorem at_snd (W X : World) (A B : Obj) (h : Lik ((W.alloc A).alloc B) X) : X.heap[W.heap.size + 1]? = some B := by
  rw [h.heap]; show ((W.heap.push A).push B)[W.heap.size + 1]? = _
  rw [Array.getElem?_push, if_pos (by simp)]
theorem bel_new (W X : World) (A : Obj) (h : Lik (W.alloc A) X) : Below W.heap.size W X := (below_new W A).trans (h.below _)
theorem bel_two (W X : World) (A B : Obj) (h : Lik ((W.alloc A).alloc B) X) : Below W.heap.size W X := ((below_new W A).alloc (by simp) B).trans (h.below _)
theorem cut_own {v : Value} {l k b : Nat} (h : (cutV v l k).ownBlock = some b) : v.ownBlock = some b := by
  cases v with
  | slice a len cap =>
    cases a with
    | none => simp [cutV, sliced, Value.ownBlock] at h
    | some x =>
      simp only [cutV, sliced] at h
      split at h <;> simp_all [Value.ownBlock, add_block]
  | _ => exact h
end Go.Proofs.YtomioemhjhhbcaaGreatDoor

set_option linter.unusedVariables false
set_option linter.unusedSimpArgs false
namespace Go.Proofs.YtomioemhjhhbcaaGreatDoor
open Go.RowKit

theorem made_one (z : Value) (hz : z.cells = #[z]) (n : Nat) : madeCells z.cells n = (List.replicate n z).toArray := by
  rw [hz]
  apply Array.ext
  · simp [size_madeCells]
  · intro i h1 h2
    simp [madeCells]
    rw [Nat.mod_one]; rfl
theorem Tryz.info3 : (Tryz.prog.info? 3).map (fun i => (i.zero, i.size, i.bytes)) = some (some (.int .i64 0), 1, 8) := by kernel_rfl
theorem Tryz.info134 : (Tryz.prog.info? 167).map (fun i => (i.zero, i.size, i.bytes)) = some (some (.int .u64 0), 1, 8) := by kernel_rfl
theorem run_mk34 (w : World) (l : Nat) (h : l ≤ 140737488355328) : (Instr.makeSlice 50 (.int .i64 (l : Int)) (.int .i64 (l : Int))).run Tryz.prog w = .ok (.slice (some ⟨w.heap.size, 0, none⟩) l l) (w.alloc (.cells ((List.replicate l (0 : UInt8)).map byt).toArray 5)) := by
  obtain ⟨i0, hi, hz0, hz1, hz2⟩ := info_parts Tryz.info5
  have hrun := run_make (P := Tryz.prog) w 50 5 i0 (.int .u8 0) Tryz.underlying50 hi hz0 .i64 .i64 l l (by omega) (by omega) (by rw [hz2]; omega) (by omega)
  rw [hz1, Int.toNat_natCast, Nat.mul_one, made_one _ rfl] at hrun
  rw [hrun, List.map_replicate]
  rfl
theorem run_mk73 (w : World) (l : Nat) (h : l ≤ 17592186044416) : (Instr.makeSlice 79 (.int .i64 (l : Int)) (.int .i64 (l : Int))).run Tryz.prog w = .ok (.slice (some ⟨w.heap.size, 0, none⟩) l l) (w.alloc (.cells (List.replicate l (Value.int .i64 0)).toArray 3)) := by
  obtain ⟨i0, hi, hz0, hz1, hz2⟩ := info_parts Tryz.info3
  have hrun := run_make (P := Tryz.prog) w 79 3 i0 (.int .i64 0) Tryz.underlying79 hi hz0 .i64 .i64 l l (by omega) (by omega) (by rw [hz2]; omega) (by omega)
  rw [hz1, Int.toNat_natCast, Nat.mul_one, made_one _ rfl] at hrun
  exact hrun
theorem run_mk36 (w : World) (l : Nat) (h : l ≤ 17592186044416) : (Instr.makeSlice 68 (.int .i64 (l : Int)) (.int .i64 (l : Int))).run Tryz.prog w = .ok (.slice (some ⟨w.heap.size, 0, none⟩) l l) (w.alloc (.cells (List.replicate l (Value.int .u64 0)).toArray 167)) := by
  obtain ⟨i0, hi, hz0, hz1, hz2⟩ := info_parts Tryz.info134
  have hrun := run_make (P := Tryz.prog) w 68 167 i0 (.int .u64 0) Tryz.underlying68 hi hz0 .i64 .i64 l l (by omega) (by omega) (by rw [hz2]; omega) (by omega)
  rw [hz1, Int.toNat_natCast, Nat.mul_one, made_one _ rfl] at hrun
  exact hrun
theorem alloc_setCell (w : World) (cs : List Value) (t : TypeId) (j : Nat) (v : Value) : (w.alloc (.cells cs.toArray t)).setCell ⟨w.heap.size, j, none⟩ v = w.alloc (.cells (cs.set j v).toArray t) := by
  unfold World.setCell World.alloc
  simp only [World.mk.injEq, and_true]
  apply Array.ext
  · simp
  · intro i h1 h2
    by_cases hi : i = w.heap.size
    · subst hi
      rw [Array.getElem_modify_self]
      simp
    · rw [Array.getElem_modify_of_ne (Ne.symm hi)]
      simp at h1
      simp [Array.getElem_push, show i < w.heap.size by omega]
theorem alloc_setCells (w : World) (t : TypeId) : ∀ (vs : List Value) (o : Nat) (cs : List Value), o + vs.length ≤ cs.length → (w.alloc (.cells cs.toArray t)).setCells w.heap.size o vs = w.alloc (.cells (cs.take o ++ vs ++ cs.drop (o + vs.length)).toArray t)
  | [], o, cs, _ => by simp [World.setCells]
  | v :: r, o, cs, h => by
    rw [World.setCells, alloc_setCell, alloc_setCells w t r (o + 1) (cs.set o v) (by simp at h ⊢; omega), splice_one cs o v r h]

theorem info5s : (Tryz.prog.info? 5).map (·.size) = some 1 := by kernel_rfl
theorem info39s : (Tryz.prog.info? 167).map (·.size) = some 1 := by kernel_rfl

theorem copied_any (v : Value) (bs : List UInt8) (hb : bs.length ≤ 140737488355328) (w : World) (hv : Has w v bs) :
    Calls Tryz.prog 50 #[v] w fun e w' => e = .returned (.slice (some ⟨w.heap.size, 0, none⟩) bs.length bs.length) ∧ w' = w.alloc (.cells (bs.map byt).toArray 5) := by
  have hlen := hv.len
  have hmk := run_mk34 w bs.length hb
  obtain ⟨n, hn⟩ : ∃ n, bs.length = n := ⟨_, rfl⟩
  have hcp : (Builtin.copy_ #[50, 50] 3 #[.slice (some ⟨w.heap.size, 0, none⟩) bs.length bs.length, v]).run Tryz.prog (w.alloc (.cells ((List.replicate bs.length (0 : UInt8)).map byt).toArray 5)) = .ok (.int .i64 (bs.length : Int)) (w.alloc (.cells (bs.map byt).toArray 5)) := by
    rcases hv with ⟨rfl, rfl⟩ | ⟨ad, cap, rfl, h2, h3⟩
    · have := run_copy_none (P := Tryz.prog) (w.alloc (.cells ((List.replicate 0 (0 : UInt8)).map byt).toArray 5)) 50 50 3 5 (some ⟨w.heap.size, 0, none⟩) none 0 0 0 0 Tryz.underlying50 info5s (by simp)
      simpa [goInt] using this
    · have hB := Blk.new w ((List.replicate bs.length (0 : UInt8)).map byt) 5
      have := run_copy_cells (P := Tryz.prog) (w.alloc (.cells ((List.replicate bs.length (0 : UInt8)).map byt).toArray 5)) 50 50 3 5 w.heap.size 0 bs.length bs.length ad bs.length cap (bs.map byt) Tryz.underlying50 info5s (by simp)
        (fun j v hj => by
          rw [List.getElem?_map, Option.map_eq_some_iff] at hj
          obtain ⟨u, hu, rfl⟩ := hj
          have := h3 j u hu
          rw [Below.cell (below_new w _) (cell_lt this)]
          exact this)
        (fun j hj => by
          rw [Nat.zero_add, hB.cell, List.getElem?_eq_getElem (by simpa using hj)]; rfl) (fun j _ => hB.frozen _) (byt_one _)
      rw [alloc_setCells w 5 (bs.map byt) 0 _ (by simp)] at this
      simpa [goInt] using this
  rw [hn] at hlen hmk hcp ⊢
  obtain ⟨w1, hw1⟩ : ∃ w1, w.alloc (.cells ((List.replicate n (0 : UInt8)).map byt).toArray 5) = w1 := ⟨_, rfl⟩
  obtain ⟨w2, hw2⟩ : ∃ w2, w.alloc (.cells (bs.map byt).toArray 5) = w2 := ⟨_, rfl⟩
  obtain ⟨g, hg⟩ : ∃ g, w.heap.size = g := ⟨_, rfl⟩
  rw [hw1, hg] at hmk
  rw [hw1, hw2, hg] at hcp
  rw [hw2, hg]
  clear hw1 hw2 hg hv
  go_enter Tryz.func50, Tryz.ntmps50
  go_wp2
  go_ret
  exact ⟨rfl, rfl⟩
end Go.Proofs.YtomioemhjhhbcaaGreatDoor

set_option linter.unusedVariables false
set_option linter.unusedSimpArgs false
namespace Go.Proofs.YtomioemhjhhbcaaGreatDoor
open Go.RowKit

/-- A device: its sectors' number, the image, the pending writes, the calls left, the loss, whether it is down, how many calls there were. -/
structure Dv where
  n : Nat
  img : List UInt8
  pen : List (Nat × List UInt8)
  left : Nat
  keep : List (BitVec 64)
  torn : Int
  off : Int
  down : Bool
  calls : Nat
structure Dv.ok (D : Dv) : Prop where
  n1 : 1 ≤ D.n
  n2 : D.n ≤ 4096
  len : D.img.length = D.n * 512
  sec : ∀ x ∈ D.pen, x.1 < D.n ∧ x.2.length = 512
  few : D.pen.length ≤ 1000000
  cal : D.calls ≤ 1000000000000
/-- Where it lies: its block, the image's, the newest ones', the pending writes, the loss's numbers, the blocks of the pending bytes. -/
structure Lay where
  p : Nat
  gi : Nat
  gn : Nat
  vp : Value
  vk : Value
  gs : List Nat
def Lay.F (L : Lay) (k : Nat) : Prop := k = L.p ∨ k = L.gi ∨ k = L.gn ∨ L.vp.ownBlock = some k ∨ L.vk.ownBlock = some k ∨ k ∈ L.gs
/-- The cells of a device. -/
def dvC (gi n : Nat) (vp : Value) (gn left : Nat) (vk : Value) (torn off : Int) (down : Bool) (calls : Nat) : List Value :=
  [.slice (some ⟨gi, 0, none⟩) (n * 512) (n * 512), vp, .slice (some ⟨gn, 0, none⟩) n n, .int .i64 left, vk, .int .i64 torn, .int .i64 off, .bool down, .int .i64 calls]
/-- Where a sector's last pending write stands, from 1 on (the list is the other way round). -/
def nwR : List (Nat × List UInt8) → Nat → Nat
  | [], _ => 0
  | x :: r, i => if x.1 = i then r.length + 1 else nwR r i
def nw (pen : List (Nat × List UInt8)) (i : Nat) : Nat := nwR pen.reverse i
theorem nw_nil (i : Nat) : nw [] i = 0 := rfl
theorem nw_snoc (pen : List (Nat × List UInt8)) (x : Nat × List UInt8) (i : Nat) : nw (pen ++ [x]) i = if x.1 = i then pen.length + 1 else nw pen i := by
  simp [nw, nwR]
def nwC (n : Nat) (f : Nat → Nat) : List Value := (List.range n).map fun i => .int .i64 (f i : Int)
theorem nwC_length (n : Nat) (f : Nat → Nat) : (nwC n f).length = n := by simp [nwC]
theorem nwC_at (n : Nat) (f : Nat → Nat) (i : Nat) (h : i < n) : (nwC n f)[i]? = some (.int .i64 (f i : Int)) := by simp [nwC, h]
theorem nwC_set (n : Nat) (f : Nat → Nat) (i u : Nat) : (nwC n f).set i (.int .i64 (u : Int)) = nwC n (fun j => if i = j then u else f j) := by
  apply List.ext_getElem?
  intro j
  rw [List.getElem?_set]
  by_cases hij : i = j
  · subst hij
    rcases Nat.lt_or_ge i n with h | h
    · rw [if_pos rfl, if_pos (by rw [nwC_length]; exact h), nwC_at n _ i h, if_pos rfl]
    · rw [if_pos rfl, if_neg (by rw [nwC_length]; omega), List.getElem?_eq_none (by rw [nwC_length]; exact h)]
  · rw [if_neg hij]
    rcases Nat.lt_or_ge j n with h | h
    · rw [nwC_at n _ j h, nwC_at n _ j h, if_neg hij]
    · rw [List.getElem?_eq_none (by rw [nwC_length]; exact h), List.getElem?_eq_none (by rw [nwC_length]; exact h)]
theorem nwC_congr (n : Nat) (f g : Nat → Nat) (h : ∀ i, i < n → f i = g i) : nwC n f = nwC n g :=
  List.map_congr_left fun i hi => by rw [h i (List.mem_range.1 hi)]
theorem nwC_zero (n : Nat) : nwC n (fun _ => 0) = List.replicate n (.int .i64 0) := by
  apply List.ext_getElem?
  intro j
  rcases Nat.lt_or_ge j n with h | h
  · rw [nwC_at n _ j h, List.getElem?_replicate_of_lt h]; rfl
  · rw [List.getElem?_eq_none (by rw [nwC_length]; exact h), List.getElem?_eq_none (by simpa using h)]
/-- The cells of the pending writes. -/
def penC : List Nat → List (Nat × List UInt8) → List Value
  | g :: gs, x :: r => .int .i64 (x.1 : Int) :: .slice (some ⟨g, 0, none⟩) 512 512 :: penC gs r
  | _, _ => []
theorem penC_length : ∀ (gs : List Nat) (pen : List (Nat × List UInt8)), gs.length = pen.length → (penC gs pen).length = pen.length * 2
  | [], [], _ => rfl
  | g :: gs, x :: r, h => by
    have := penC_length gs r (by simpa using h)
    simp only [penC, List.length_cons, this]
    omega
theorem penC_at : ∀ (gs : List Nat) (pen : List (Nat × List UInt8)) (k g : Nat) (x : Nat × List UInt8), gs[k]? = some g → pen[k]? = some x →
    (penC gs pen)[k * 2]? = some (.int .i64 (x.1 : Int)) ∧ (penC gs pen)[k * 2 + 1]? = some (.slice (some ⟨g, 0, none⟩) 512 512)
  | [], _, k, g, x, h, _ => by simp at h
  | _ :: _, [], k, g, x, _, h => by simp at h
  | g0 :: gs, x0 :: r, 0, g, x, h1, h2 => by
    simp at h1 h2
    subst h1 h2
    exact ⟨rfl, rfl⟩
  | g0 :: gs, x0 :: r, k + 1, g, x, h1, h2 => by
    have := penC_at gs r k g x (by simpa using h1) (by simpa using h2)
    rw [show (k + 1) * 2 = k * 2 + 2 by omega]
    exact this
theorem penC_snoc : ∀ (gs : List Nat) (pen : List (Nat × List UInt8)) (g : Nat) (x : Nat × List UInt8), gs.length = pen.length → penC (gs ++ [g]) (pen ++ [x]) = penC gs pen ++ [.int .i64 (x.1 : Int), .slice (some ⟨g, 0, none⟩) 512 512]
  | [], [], g, x, _ => rfl
  | g0 :: gs, x0 :: r, g, x, h => by
    have := penC_snoc gs r g x (by simpa using h)
    simp only [List.cons_append, penC, this]
/-- Numbers of 64 bits in a slice. -/
def Has64 (w : World) (v : Value) (ks : List (BitVec 64)) : Prop :=
  (v = .slice none 0 0 ∧ ks = []) ∨ ∃ ad cap, v = .slice (some ad) ks.length cap ∧ ks.length ≤ cap ∧ ∀ i u, ks[i]? = some u → w.cell? (ad.add i) = some (wv u)
theorem Has64.nil (w : World) : Has64 w (.slice none 0 0) [] := .inl ⟨rfl, rfl⟩
theorem Has64.fx {S : Nat → Prop} {w w' : World} {v : Value} {bs : List (BitVec 64)} (h : Has64 w v bs) (hf : Fx S w w') (hd : ∀ k, v.ownBlock = some k → ¬ S k) : Has64 w' v bs := by
  rcases h with h | ⟨ad, cap, rfl, h2, h3⟩
  · exact .inl h
  · exact .inr ⟨ad, cap, rfl, h2, fun i u hu => hf.cell (h3 i u hu) (by rw [add_block]; exact hd _ rfl)⟩
theorem Has64.len {w : World} {v : Value} {bs : List (BitVec 64)} (h : Has64 w v bs) (W : World) (ty : TypeId) : (Builtin.len_ #[68] ty #[v]).run Tryz.prog W = .ok (.int .i64 (bs.length : Int)) W := by
  rcases h with ⟨rfl, rfl⟩ | ⟨ad, cap, rfl, _, _⟩
  · go_simp
  · go_simp
/-- The device lies there. -/
structure Dev (w : World) (L : Lay) (D : Dv) : Prop where
  dev : Blk w L.p (dvC L.gi D.n L.vp L.gn D.left L.vk D.torn D.off D.down D.calls) 81
  img : Blk w L.gi (D.img.map byt) 5
  new : Blk w L.gn (nwC D.n (nw D.pen)) 3
  pen : w.ownsRow 0 130 2 L.vp D.pen.length (penC L.gs D.pen)
  bys : ∀ (k g : Nat) (x : Nat × List UInt8), L.gs[k]? = some g → D.pen[k]? = some x → Blk w g (x.2.map byt) 5
  gsl : L.gs.length = D.pen.length
  kp : Has64 w L.vk D.keep
  ok : D.ok
  pi : L.p ≠ L.gi
  pn : L.p ≠ L.gn
  inn : L.gi ≠ L.gn
  vpn : ∀ k, L.vp.ownBlock = some k → k ≠ L.p ∧ k ≠ L.gi ∧ k ≠ L.gn ∧ L.vk.ownBlock ≠ some k ∧ k ∉ L.gs
  vkn : ∀ k, L.vk.ownBlock = some k → k ≠ L.p ∧ k ≠ L.gi ∧ k ≠ L.gn ∧ k < w.heap.size
  gsn : ∀ k ∈ L.gs, k ≠ L.p ∧ k ≠ L.gi ∧ k ≠ L.gn ∧ k < w.heap.size
theorem ownsRow_fx {S : Nat → Prop} {w w' : World} {base : Nat} {e size : Nat} {v : Value} {n : Nat} {xs : List Value} (h : w.ownsRow base e size v n xs) (hf : Fx S w w') (hd : ∀ k, v.ownBlock = some k → ¬ S k) : w'.ownsRow base e size v n xs := by
  obtain ⟨h1, h | ⟨g, cap, cur, hv, hg, hh, r⟩⟩ := h
  · exact ⟨h1, .inl h⟩
  · refine ⟨h1, .inr ⟨g, cap, cur, hv, hg, ?_, r⟩⟩
    rw [hf.block g ?_ (hd g (by rw [hv]; rfl)), hh]
    rcases Nat.lt_or_ge g w.heap.size with hl | hl
    · exact hl
    · rw [Array.getElem?_eq_none hl] at hh; cases hh
theorem ownsRow_lt {w : World} {base : Nat} {e size : Nat} {v : Value} {n : Nat} {xs : List Value} (h : w.ownsRow base e size v n xs) (k : Nat) (hk : v.ownBlock = some k) : k < w.heap.size := by
  obtain ⟨h1, ⟨rfl, _⟩ | ⟨g, cap, cur, rfl, hg, hh, r⟩⟩ := h
  · simp [Value.ownBlock] at hk
  · obtain rfl : g = k := by simpa [Value.ownBlock] using hk
    rcases Nat.lt_or_ge g w.heap.size with hl | hl
    · exact hl
    · rw [Array.getElem?_eq_none hl] at hh; cases hh
theorem Dev.lt {w : World} {L : Lay} {D : Dv} (h : Dev w L D) (k : Nat) (hk : L.F k) : k < w.heap.size := by
  rcases hk with rfl | rfl | rfl | hk | hk | hk
  · exact h.dev.lt
  · exact h.img.lt
  · exact h.new.lt
  · exact ownsRow_lt h.pen k hk
  · exact (h.vkn k hk).2.2.2
  · exact (h.gsn k hk).2.2.2
/-- Nothing of it is touched. -/
theorem Dev.fx {S : Nat → Prop} {w w' : World} {L : Lay} {D : Dv} (h : Dev w L D) (hf : Fx S w w') (hd : ∀ k, L.F k → ¬ S k) : Dev w' L D :=
  { dev := h.dev.fx hf (hd _ (.inl rfl)), img := h.img.fx hf (hd _ (.inr (.inl rfl))), new := h.new.fx hf (hd _ (.inr (.inr (.inl rfl)))),
    pen := ownsRow_fx h.pen hf (fun k hk => hd k (.inr (.inr (.inr (.inl hk))))),
    bys := fun k g x h1 h2 => (h.bys k g x h1 h2).fx hf (hd g (.inr (.inr (.inr (.inr (.inr (List.mem_of_getElem? h1))))))),
    gsl := h.gsl, kp := h.kp.fx hf (fun k hk => hd k (.inr (.inr (.inr (.inr (.inl hk)))))), ok := h.ok, pi := h.pi, pn := h.pn, inn := h.inn, vpn := h.vpn,
    vkn := fun k hk => ⟨(h.vkn k hk).1, (h.vkn k hk).2.1, (h.vkn k hk).2.2.1, Nat.lt_of_lt_of_le (h.vkn k hk).2.2.2 hf.size⟩,
    gsn := fun k hk => ⟨(h.gsn k hk).1, (h.gsn k hk).2.1, (h.gsn k hk).2.2.1, Nat.lt_of_lt_of_le (h.gsn k hk).2.2.2 hf.size⟩ }
theorem Dev.below {w w' : World} {L : Lay} {D : Dv} (h : Dev w L D) (hb : Below w.heap.size w w') : Dev w' L D := h.fx (Fx.of_below (S := fun _ => False) hb) (fun _ _ s => s)

/-- The device has turned, in its own blocks and new ones. -/
structure Turn (w w' : World) (L L' : Lay) : Prop where
  fx : Fx L.F w w'
  own : ∀ k, L'.F k → L.F k ∨ w.heap.size ≤ k
  p : L'.p = L.p
theorem Turn.refl (w : World) (L : Lay) : Turn w w L L := ⟨Fx.refl _ _, fun _ h => .inl h, rfl⟩
theorem Turn.trans {w w1 w2 : World} {L L1 L2 : Lay} (h : Turn w w1 L L1) (k : Turn w1 w2 L1 L2) : Turn w w2 L L2 :=
  ⟨h.fx.trans k.fx (fun i hi h1 => (h.own i h1).resolve_right (by omega)), fun i h2 => by
    rcases k.own i h2 with h3 | h3
    · exact h.own i h3
    · exact .inr (Nat.le_trans h.fx.size h3), k.p.trans h.p⟩

/-- What New makes. -/
def freshD (n : Nat) (img : List UInt8) : Dv := ⟨n, img, [], 0, [], 0, 0, false, 0⟩
def freshL (p gi gn : Nat) : Lay := ⟨p, gi, gn, .slice none 0 0, .slice none 0 0, []⟩
end Go.Proofs.YtomioemhjhhbcaaGreatDoor
