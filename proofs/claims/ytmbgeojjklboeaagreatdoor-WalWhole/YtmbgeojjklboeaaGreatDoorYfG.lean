import Derived.Test.YtmbgeojjklboeaaGreatDoorYa
set_option linter.unusedVariables false
set_option linter.unusedSimpArgs false
namespace Go.Proofs.YtmbgeojjklboeaaGreatDoor
open Go.RowKit

/-- A number brought within a bound. -/
def pickN (k : Int) (n : Nat) : Nat := (k % (n : Int)).toNat
theorem pickN_lt (k : Int) (n : Nat) (h : 0 < n) : pickN k n < n := by
  unfold pickN
  have h1 := Int.emod_nonneg k (show (n : Int) ≠ 0 by omega)
  have h2 := Int.emod_lt_of_pos k (show 0 < (n : Int) by omega)
  omega
theorem int_rem (a b : Int) (hb : ¬ b = 0) (W : World) (x y : Operand) : (do eqGuard .rem 3 x y (.int .i64 a) (.int .i64 b); binOp .rem 3 (.int .i64 a) (.int .i64 b) : Sem Value).run Tryz.prog W = .ok (.int .i64 (a.tmod b)) W := by go_simp
theorem tmod_pick (k : Int) (n : Nat) (h : 0 < n) : (k.tmod (n : Int) < 0 → k.tmod (n : Int) + n = (pickN k n : Int)) ∧ (¬ k.tmod (n : Int) < 0 → k.tmod (n : Int) = (pickN k n : Int)) := by
  unfold pickN
  have hn : (0 : Int) < n := by omega
  have h1 := Int.emod_nonneg k (show (n : Int) ≠ 0 by omega)
  have h2 := Int.emod_lt_of_pos k hn
  rw [Int.toNat_of_nonneg h1]
  have e1 := Int.tmod_eq_emod (a := k) (b := (n : Int))
  constructor
  · intro h3
    split at e1
    · omega
    · rw [e1]; have : ((n : Int).natAbs : Int) = n := by omega
      omega
  · intro h3
    split at e1
    · exact e1.trans (by omega)
    · have : ((n : Int).natAbs : Int) = n := by omega
      omega
set_option maxRecDepth 100000 in
set_option maxHeartbeats 1000000 in
theorem pick_any (k : Int) (n : Nat) (h : 0 < n) (hn : n ≤ 1000000) (w : World) : Calls Tryz.prog 8 #[.int .i64 k, .int .i64 (n : Int)] w fun e w' => e = .returned (.int .i64 (pickN k n : Int)) ∧ w' = w := by
  have tp := tmod_pick k n h
  have hlt := pickN_lt k n h
  refine calls_of_args [.int .i64 k, .int .i64 (n : Int)] Tryz.func8 rfl 14 Tryz.ntmps8 (by show 2 ≤ 14; decide) ?_; refine EW.seq ?_; refine EW.region ?_; refine WL.assign rfl rfl rfl ?_; refine WL.done ?_; refine EW.on ?_; refine EW.seq ?_; refine EW.region ?_; refine WL.move rfl rfl rfl ?_; refine WL.move rfl rfl rfl ?_; refine WL.bin rfl rfl rfl rfl (int_rem _ _ (by omega) _ _ _) ?_; refine WL.assign rfl rfl rfl ?_; refine WL.done ?_; refine EW.on ?_; refine EW.seq ?_; refine EW.seq ?_; refine EW.region ?_; refine WL.move rfl rfl rfl ?_; refine WL.bin rfl rfl rfl rfl (int_lt_d _ _ _ _ _) ?_; refine WL.done ?_; refine EW.on ?_; refine EW.cond_d rfl (fun h9 => ?_) (fun h9 => ?_)
  · refine EW.region ?_; refine WL.move rfl rfl rfl ?_; refine WL.move rfl rfl rfl ?_; refine WL.bin rfl rfl rfl rfl (int_add (c := (pickN k n : Int)) (by rw [tp.1 h9, IntKind.wrap_i64]; omega) _ _ _) ?_; refine WL.assign rfl rfl rfl ?_; refine WL.done ?_; refine EW.on ?_; refine EW.seq ?_; refine EW.region ?_; refine WL.move rfl rfl rfl ?_; refine WL.assign rfl rfl rfl ?_; refine WL.done ?_; refine EW.on ?_; refine EW.ret ?_
    exact EW.returns Tryz.results8 rfl ⟨rfl, rfl⟩
  · refine EW.skip ?_; refine EW.on ?_; refine EW.seq ?_; refine EW.region ?_; refine WL.move rfl rfl rfl ?_; refine WL.assign rfl rfl rfl ?_; refine WL.done ?_; refine EW.on ?_; refine EW.ret ?_
    exact EW.returns Tryz.results8 rfl ⟨by rw [tp.2 h9], rfl⟩
def lfC (a m : Int) (v : Value) : List Value := [.int .i64 a, .int .i64 m, v]
theorem fld36 (q j : Nat) (hj : j < 2) (W : World) : (Instr.fieldAt 24 (.pointer (some ⟨q, 0, none⟩)) j).run Tryz.prog W = .ok (.pointer (some ⟨q, j, none⟩)) W := by
  have h : j = 0 ∨ j = 1 := by omega
  rcases h with rfl | rfl <;> go_simp
theorem bld44 (p more : Nat) (W : World) : (Instr.build 40 [(2, .int .i64 (p : Int)), (3, .int .i64 (more : Int))].toArray).run Tryz.prog W = .ok (.agg (rmC none none p more (.slice none 0 0)).toArray) W := by kernel_rfl
theorem stcp {W : World} {q j : Nat} {cs : List Value} {t T : TypeId} {v0 : Value} {o : Option Addr} (hT : T = 36 ∨ T = 37) (hb : Blk W q cs t) (h : cs[j]? = some v0) : ∃ W', (Instr.storeAt T (.pointer (some ⟨q, j, none⟩)) (.pointer o)).run Tryz.prog W = .ok () W' ∧ Blk W' q (cs.set j (.pointer o)) t ∧ Fx (fun k => k = q) W W' := by
  have hc : W.cell? ⟨q, j, none⟩ = some v0 := (hb.cell j).trans h
  have hf := hb.frozen j
  refine ⟨W.setCell ⟨q, j, none⟩ (.pointer o), ?_, hb.set j _, Fx.setCell _ _ _ _ rfl⟩
  rcases hT with rfl | rfl <;> go_simp
theorem stc42 {W : World} {q j : Nat} {cs : List Value} {t : TypeId} {v0 v : Value} (hv : ∃ ao n c, v = .slice ao n c) (hb : Blk W q cs t) (h : cs[j]? = some v0) : ∃ W', (Instr.storeAt 38 (.pointer (some ⟨q, j, none⟩)) v).run Tryz.prog W = .ok () W' ∧ Blk W' q (cs.set j v) t ∧ Fx (fun k => k = q) W W' := by
  obtain ⟨ao, n, c, rfl⟩ := hv
  have hc : W.cell? ⟨q, j, none⟩ = some v0 := (hb.cell j).trans h
  have hf := hb.frozen j
  exact ⟨W.setCell ⟨q, j, none⟩ (.slice ao n c), by go_simp, hb.set j _, Fx.setCell _ _ _ _ rfl⟩
theorem bsl42 (s : List UInt8) (w : World) : (Instr.buildSlice 38 1 [(0, strV s)].toArray).run Tryz.prog w = .ok (.slice (some ⟨w.heap.size, 0, none⟩) 1 1) (w.alloc (.cells [strV s].toArray 9)) := by
  unfold strV
  go_simp
  try rfl
theorem ne22s (q : Nat) (W : World) (x y : Operand) : (do eqGuard .neq 37 x y (.pointer (some ⟨q, 0, none⟩)) (.pointer none); binOp .neq 37 (.pointer (some ⟨q, 0, none⟩)) (.pointer none) : Sem Value).run Tryz.prog W = .ok (.bool true) W := by go_simp
theorem img_zero (N p more : Nat) (hN : N = 4 * p + 1 + more) : imgS N (fun _ => zS) = zerL (512 * (1 + 2 * p)) ++ (List.replicate p (zerL 1024)).flatten ++ zerL (512 * more) := by
  have h1 : ∀ n, imgS n (fun _ => zS) = zerL (512 * n) := by
    intro n
    induction n with
    | zero => rfl
    | succ n ih =>
      unfold imgS at *
      rw [List.range_succ, List.flatMap_append, ih, List.flatMap_cons, List.flatMap_nil, List.append_nil]
      unfold zerL zS
      rw [List.replicate_append_replicate]
      congr 1
  have h2 : (List.replicate p (zerL 1024)).flatten = zerL (1024 * p) := by
    unfold zerL
    rw [List.flatten_replicate_replicate]
    congr 1
    omega
  rw [h1, h2]
  unfold zerL
  rw [List.replicate_append_replicate, List.replicate_append_replicate]
  congr 1
  omega
def enE (q : Nat) (d l : Value) (t : Nat) : List (Nat × Value) := [(4, .pointer (some ⟨q, 0, none⟩)), (7, l), (8, .bool false), (9, .nilIface), (10, .int .i64 (t : Int))]
structure EnR (w w6 : World) (q p more : Nat) (d l : Option Addr) (x : Nat × Value) (W : World) : Prop where
  b : Below w.heap.size w W
  f : Fx (fun k => k = q ∨ w6.heap.size ≤ k) w6 W
  r : Blk W q (rmC d l p more x.2) 40
  o : Os W w6.heap.size x.2 (List.replicate x.1 (zerL 1024))
  le : x.1 ≤ p
end Go.Proofs.YtmbgeojjklboeaaGreatDoor

set_option linter.unusedVariables false
set_option linter.unusedSimpArgs false
namespace Go.Proofs.YtmbgeojjklboeaaGreatDoor
open Go.RowKit

/-- Two ways meet: what is known there. -/
theorem EW.join {P : Program} {n : Fm} {Q : Exit → Act → World → Prop} {e : List (Nat × Value)} {w : World} {α : Type} {x y : Code} (E : α → List (Nat × Value)) (R : α → World → Prop) (h : EW P n x (Exit.then (fun a w => ∃ d, Env n a (E d) ∧ R d w) Q) e w) (k : ∀ d w, R d w → EW P n y Q (E d) w) : EW P n (.seq x y) Q e w :=
  EW.seq (fun a ha => wp_mono (h a ha) (fun ex a' w' hq => by
    cases ex with
    | normal =>
      obtain ⟨d, h1, h2⟩ := hq
      exact k d w' h2 a' h1
    | _ => exact hq))
theorem EW.met {n : Fm} {Q : Exit → Act → World → Prop} {e : List (Nat × Value)} {w : World} {α : Type} {E : α → List (Nat × Value)} {R : α → World → Prop} (d : α) (l : List Nat) (he : keepE e l = E d) (hR : R d w) : ∀ a, Env n a e → Exit.then (fun a w => ∃ d, Env n a (E d) ∧ R d w) Q .normal a w := fun a ha => ⟨d, by rw [← he]; exact ha.less (keepE_sub e l), hR⟩
/-- An image in three parts: the log, the homes, what is beyond. -/
theorem pairs_flat (g : Nat → List UInt8) (p : Nat) : (List.range (2 * p)).flatMap g = (List.range p).flatMap (fun n => g (2 * n) ++ g (2 * n + 1)) := by
  induction p with
  | zero => rfl
  | succ p ih =>
    rw [show 2 * (p + 1) = 2 * p + 1 + 1 by omega, List.range_succ, List.range_succ, List.range_succ, List.flatMap_append, List.flatMap_append, List.flatMap_append, ih]
    simp
theorem range_split (a b : Nat) : List.range (a + b) = List.range a ++ (List.range b).map (a + ·) := by
  rw [List.range_add]
theorem img_parts (p more : Nat) (f : Nat → List UInt8) : imgS (4 * p + 1 + more) f = imgS (1 + 2 * p) f ++ ((List.range p).map (fun n => f (1 + 2 * (p + n)) ++ f (1 + 2 * (p + n) + 1))).flatten ++ (List.range more).flatMap (fun i => f (1 + 4 * p + i)) := by
  unfold imgS
  rw [show 4 * p + 1 + more = (1 + 2 * p) + 2 * p + more by omega, range_split, range_split, List.flatMap_append, List.flatMap_append, List.flatMap_map, List.flatMap_map, pairs_flat, List.flatten_eq_flatMap, List.flatMap_map]
  congr 1
  · congr 1
    rw [List.flatMap_def, List.flatMap_def]
    congr 1
    apply List.map_congr_left
    intro n _
    show f (1 + 2 * p + 2 * n) ++ f (1 + 2 * p + (2 * n + 1)) = id (f (1 + 2 * (p + n)) ++ f (1 + 2 * (p + n) + 1))
    rw [show 1 + 2 * p + 2 * n = 1 + 2 * (p + n) by omega, show 1 + 2 * p + (2 * n + 1) = 1 + 2 * (p + n) + 1 by omega]
    rfl
  · rw [List.flatMap_def, List.flatMap_def]
    congr 1
    apply List.map_congr_left
    intro n _
    show f (1 + 2 * p + 2 * p + n) = f (1 + 4 * p + n)
    rw [show 1 + 2 * p + 2 * p + n = 1 + 4 * p + n by omega]
def cutL (img : List UInt8) (a k : Nat) : List UInt8 := (img.drop a).take k
theorem flat_len2 (f : Nat → List UInt8) (p : Nat) (h : ∀ n, n < p → (f n).length = 1024) : ((List.range p).map f).flatten.length = 1024 * p := by
  induction p with
  | zero => rfl
  | succ p ih =>
    rw [List.range_succ, List.map_append, List.flatten_append, List.length_append, ih (fun n hn => h n (by omega))]
    simp [h p (by omega)]
    omega
theorem imgS_zero (f : Nat → List UInt8) (k : Nat) (h : ∀ i, i < k → f i = zS) : imgS k f = zerL (512 * k) := by
  induction k with
  | zero => rfl
  | succ k ih =>
    have := ih (fun i hi => h i (by omega))
    unfold imgS at *
    rw [List.range_succ, List.flatMap_append, this, List.flatMap_cons, List.flatMap_nil, List.append_nil, h k (by omega)]
    unfold zerL zS
    rw [List.replicate_append_replicate]
    congr 1
/-- Page n as an Open must leave it. -/
def pgL (img : List UInt8) (p b n : Nat) : List UInt8 := if n < 8 ∧ b / 2 ^ n % 2 = 1 then cutL img (512 + 1024 * n) 1024 else cutL img (512 + 1024 * p + 1024 * n) 1024
end Go.Proofs.YtmbgeojjklboeaaGreatDoor

set_option linter.unusedVariables false
set_option linter.unusedSimpArgs false
namespace Go.Proofs.YtmbgeojjklboeaaGreatDoor
open Go.RowKit

/-- The head of an image: no marker stands, or one for the pages of the bits b. -/
def Mrk (img : List UInt8) (p b : Nat) : Prop := (b = 0 ∧ bAt img 511 = 0) ∨ (b ≠ 0 ∧ b < 2 ^ min p 8 ∧ bAt img 0 = b ∧ (∀ j, 1 ≤ j → j < 511 → bAt img j = 0) ∧ bAt img 511 = 1)
theorem zB_of (bs : List UInt8) (h : ∀ j, j < bs.length → bAt bs j = 0) : zB bs = true := by
  unfold zB
  rw [List.all_eq_true]
  intro x hx
  obtain ⟨j, hj⟩ := List.getElem?_of_mem hx
  have hlt := (List.getElem?_eq_some_iff.1 hj).1
  have := h j hlt
  unfold bAt at this
  rw [List.getD_eq_getElem?_getD, hj, Option.getD_some] at this
  have e : x = 0 := UInt8.toNat_inj.1 this
  rw [e]
  rfl
theorem last_some {l : List Nat} (h : l ≠ []) : ∃ x, l[l.length - 1]? = some x ∧ x ∈ l := by
  have hp : l.length - 1 < l.length := by
    have := List.length_pos_iff.2 h
    omega
  exact ⟨_, List.getElem?_eq_getElem hp, List.getElem_mem hp⟩
end Go.Proofs.YtmbgeojjklboeaaGreatDoor

set_option linter.unusedVariables false
set_option linter.unusedSimpArgs false
namespace Go.Proofs.YtmbgeojjklboeaaGreatDoor
open Go.RowKit

/-- What the second loop has done to the head of the image. -/
def Hd2 (st : Bool) (p : Nat) (bs : List UInt8) (b : UInt8) (i : Nat) : Prop := (st = true → (i = 0 → b = 0) ∧ (0 < i → bAt bs 0 = b.toNat ∧ b.toNat < 2 ^ min p 8 ∧ ∀ j, 1 ≤ j → j < i → bAt bs j = 0)) ∧ (st = false → b = 0 ∧ (i = 512 → bAt bs 511 = 0))
/-- The pages so far. -/
def psT (img : List UInt8) (p b n : Nat) : List (List UInt8) := (List.range n).map (pgL img p b) ++ List.replicate (p - n) (zerL 1024)
end Go.Proofs.YtmbgeojjklboeaaGreatDoor

set_option linter.unusedVariables false
set_option linter.unusedSimpArgs false
namespace Go.Proofs.YtmbgeojjklboeaaGreatDoor
open Go.RowKit

structure G0 (w3 : World) (K : Nat) (u : Value) (i : Nat) (W : World) : Prop where
  e : Below w3.heap.size w3 W
  o : ∃ bs, Ob W w3.heap.size u bs ∧ bs.length = K
  le : i ≤ K
structure G2 (w3 : World) (K : Nat) (st : Bool) (p : Nat) (u : Value) (b : UInt8) (i : Nat) (W : World) : Prop where
  e : Below w3.heap.size w3 W
  o : ∃ bs, Ob W w3.heap.size u bs ∧ bs.length = K ∧ Hd2 st p bs b i
  le : i ≤ 512
structure G3 (w3 : World) (K p : Nat) (u : Value) (b : UInt8) (W : World) : Prop where
  e : Below w3.heap.size w3 W
  o : ∃ img, Ob W w3.heap.size u img ∧ img.length = K ∧ Mrk img p b.toNat
structure G4 (wC : World) (bb p : Nat) (vp : Value) (img : List UInt8) (b n : Nat) (W : World) : Prop where
  f : Fx (fun k => vp.ownBlock = some k) wC W
  o : Os W bb vp (psT img p b n)
  le : n ≤ p
end Go.Proofs.YtmbgeojjklboeaaGreatDoor
