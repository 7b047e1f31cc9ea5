import Derived.Test.YthfcabhelldokaaPy
set_option linter.unusedVariables false
set_option linter.unusedSimpArgs false
namespace Go.Proofs.Ythfcabhelldokaa
open Go.RowKit

section
variable {P : Program} {n : Nat} {e : List (Nat × Value)} {w : World}
theorem EW.returns3 {fn : Func} {R : Ending → World → Prop} {t u x : Nat} {v v' v'' : Value} (hres : fn.results = #[.tmp t, .tmp u, .tmp x]) (hv : e.lookup t = some v) (hv' : e.lookup u = some v') (hv'' : e.lookup x = some v'') (h : R (.returned (.tuple #[v, v', v''])) w) : ∀ a, Env n a e → bodyPost P fn R .ret a w := fun a ha =>
  bodyPost_ret (v := .tuple #[v, v', v'']) (by rw [results_tmp3 hres, ha.kn t v hv, ha.kn u v' hv', ha.kn x v'' hv'']) ha.df h
end
theorem quo512g (k : Nat) (h : k < 1000000000000) (W : World) (x y : Operand) : (do eqGuard .quo 3 x y (.int .i64 (k : Int)) (.int .i64 512); binOp .quo 3 (.int .i64 (k : Int)) (.int .i64 512) : Sem Value).run Try.prog W = .ok (.int .i64 ((k / 512 : Nat) : Int)) W := by
  have q1 : (k : Int) / 512 = ((k / 512 : Nat) : Int) := by omega
  have q4 : k / 512 < 1000000000000 := by omega
  obtain ⟨q, hq⟩ : ∃ q, k / 512 = q := ⟨_, rfl⟩
  rw [hq] at q1 q4 ⊢
  clear hq
  go_simp
  rw [IntKind.wrap_i64]; omega
theorem rem512 (k : Nat) (h : k < 1000000000000) (W : World) (x y : Operand) : (do eqGuard .rem 3 x y (.int .i64 (k : Int)) (.int .i64 512); binOp .rem 3 (.int .i64 (k : Int)) (.int .i64 512) : Sem Value).run Try.prog W = .ok (.int .i64 ((k % 512 : Nat) : Int)) W := by
  have q1 : (k : Int) % 512 = ((k % 512 : Nat) : Int) := by omega
  obtain ⟨q, hq⟩ : ∃ q, k % 512 = q := ⟨_, rfl⟩
  rw [hq] at q1 ⊢
  clear hq
  go_simp
  rw [Int.tmod_eq_emod_of_nonneg (by omega)]; exact q1
/-- An image that is taken. -/
def okI (l : Nat) : Prop := l % 512 = 0 ∧ 1 ≤ l / 512 ∧ l / 512 ≤ 4096
set_option maxRecDepth 100000 in
set_option maxHeartbeats 1000000 in
theorem load_no (v : Value) (img : List UInt8) (hb : img.length ≤ 1000000000) (hn : ¬ okI img.length) (w : World) (hv : Has w v img) : Calls Try.prog 27 #[v] w fun e w' => e = .returned (.tuple #[.pointer none, .int .i64 83]) ∧ w' = w := by
  have hlen := hv.len
  by_cases c1 : img.length % 512 = 0
  · have z1 : ((img.length % 512 : Nat) : Int) = 0 := by omega
    by_cases c2 : img.length / 512 < 1
    · have z2 : ((img.length / 512 : Nat) : Int) < 1 := by omega
      refine calls_of_args [v] Try.func27 rfl 23 Try.ntmps27 (by show 1 ≤ 23; decide) ?_
      refine EW.seq ?_
      refine EW.region ?_
      first | refine WL.assign rfl rfl rfl ?_
      first | refine WL.assign rfl rfl rfl ?_
      refine WL.done ?_
      refine EW.on ?_
      refine EW.seq ?_
      refine EW.region ?_
      first | refine WL.move rfl rfl rfl ?_
      refine WL.len rfl rfl rfl (hlen _ _) ?_
      refine WL.bin rfl rfl rfl rfl (quo512g _ (by omega) _ _ _) ?_
      first | refine WL.assign rfl rfl rfl ?_
      refine WL.done ?_
      refine EW.on ?_
      refine EW.seq ?_
      refine EW.seq ?_
      refine EW.region ?_
      first | refine WL.move rfl rfl rfl ?_
      refine WL.len rfl rfl rfl (hlen _ _) ?_
      refine WL.bin rfl rfl rfl rfl (rem512 _ (by omega) _ _ _) ?_
      refine WL.bin rfl rfl rfl rfl (int_ne_f z1 _ _ _) ?_
      first | refine WL.move rfl rfl rfl ?_
      first | refine WL.move rfl rfl rfl ?_ | refine WL.skip _ rfl rfl rfl ?_
      refine WL.bin rfl rfl rfl rfl (int_lt_t z2 _ _ _) ?_
      first | refine WL.pick rfl rfl rfl rfl ?_
      first | refine WL.move rfl rfl rfl ?_
      refine WL.skip _ rfl rfl rfl ?_
      refine WL.skip _ rfl rfl rfl ?_
      first | refine WL.pick rfl rfl rfl rfl ?_
      refine WL.done ?_
      refine EW.on ?_
      refine EW.cond_t rfl ?_
      refine EW.seq ?_
      refine EW.region ?_
      first | refine WL.assign rfl rfl rfl ?_
      first | refine WL.assign rfl rfl rfl ?_
      refine WL.done ?_
      refine EW.on ?_
      refine EW.ret ?_
      repeat (first | refine pr_then ?_ | refine pr_block ?_)
      exact EW.returns2 Try.results27 rfl rfl ⟨rfl, rfl⟩
    · have z2 : ¬ ((img.length / 512 : Nat) : Int) < 1 := by omega
      have z3 : (4096 : Int) < ((img.length / 512 : Nat) : Int) := by
        rcases Nat.lt_or_ge 4096 (img.length / 512) with h1 | h1
        · omega
        · exact absurd ⟨c1, by omega, h1⟩ hn
      refine calls_of_args [v] Try.func27 rfl 23 Try.ntmps27 (by show 1 ≤ 23; decide) ?_
      refine EW.seq ?_
      refine EW.region ?_
      first | refine WL.assign rfl rfl rfl ?_
      first | refine WL.assign rfl rfl rfl ?_
      refine WL.done ?_
      refine EW.on ?_
      refine EW.seq ?_
      refine EW.region ?_
      first | refine WL.move rfl rfl rfl ?_
      refine WL.len rfl rfl rfl (hlen _ _) ?_
      refine WL.bin rfl rfl rfl rfl (quo512g _ (by omega) _ _ _) ?_
      first | refine WL.assign rfl rfl rfl ?_
      refine WL.done ?_
      refine EW.on ?_
      refine EW.seq ?_
      refine EW.seq ?_
      refine EW.region ?_
      first | refine WL.move rfl rfl rfl ?_
      refine WL.len rfl rfl rfl (hlen _ _) ?_
      refine WL.bin rfl rfl rfl rfl (rem512 _ (by omega) _ _ _) ?_
      refine WL.bin rfl rfl rfl rfl (int_ne_f z1 _ _ _) ?_
      first | refine WL.move rfl rfl rfl ?_
      first | refine WL.move rfl rfl rfl ?_ | refine WL.skip _ rfl rfl rfl ?_
      refine WL.bin rfl rfl rfl rfl (int_lt_f z2 _ _ _) ?_
      first | refine WL.pick rfl rfl rfl rfl ?_
      first | refine WL.move rfl rfl rfl ?_
      first | refine WL.move rfl rfl rfl ?_ | refine WL.skip _ rfl rfl rfl ?_
      refine WL.bin rfl rfl rfl rfl (int_gt_t z3 _ _ _) ?_
      first | refine WL.pick rfl rfl rfl rfl ?_
      refine WL.done ?_
      refine EW.on ?_
      refine EW.cond_t rfl ?_
      refine EW.seq ?_
      refine EW.region ?_
      first | refine WL.assign rfl rfl rfl ?_
      first | refine WL.assign rfl rfl rfl ?_
      refine WL.done ?_
      refine EW.on ?_
      refine EW.ret ?_
      repeat (first | refine pr_then ?_ | refine pr_block ?_)
      exact EW.returns2 Try.results27 rfl rfl ⟨rfl, rfl⟩
  · have z1 : ¬ ((img.length % 512 : Nat) : Int) = 0 := by omega
    refine calls_of_args [v] Try.func27 rfl 23 Try.ntmps27 (by show 1 ≤ 23; decide) ?_
    refine EW.seq ?_
    refine EW.region ?_
    first | refine WL.assign rfl rfl rfl ?_
    first | refine WL.assign rfl rfl rfl ?_
    refine WL.done ?_
    refine EW.on ?_
    refine EW.seq ?_
    refine EW.region ?_
    first | refine WL.move rfl rfl rfl ?_
    refine WL.len rfl rfl rfl (hlen _ _) ?_
    refine WL.bin rfl rfl rfl rfl (quo512g _ (by omega) _ _ _) ?_
    first | refine WL.assign rfl rfl rfl ?_
    refine WL.done ?_
    refine EW.on ?_
    refine EW.seq ?_
    refine EW.seq ?_
    refine EW.region ?_
    first | refine WL.move rfl rfl rfl ?_
    refine WL.len rfl rfl rfl (hlen _ _) ?_
    refine WL.bin rfl rfl rfl rfl (rem512 _ (by omega) _ _ _) ?_
    refine WL.bin rfl rfl rfl rfl (int_ne_t z1 _ _ _) ?_
    first | refine WL.move rfl rfl rfl ?_
    refine WL.skip _ rfl rfl rfl ?_
    refine WL.skip _ rfl rfl rfl ?_
    first | refine WL.pick rfl rfl rfl rfl ?_
    first | refine WL.move rfl rfl rfl ?_
    refine WL.skip _ rfl rfl rfl ?_
    refine WL.skip _ rfl rfl rfl ?_
    first | refine WL.pick rfl rfl rfl rfl ?_
    refine WL.done ?_
    refine EW.on ?_
    refine EW.cond_t rfl ?_
    refine EW.seq ?_
    refine EW.region ?_
    first | refine WL.assign rfl rfl rfl ?_
    first | refine WL.assign rfl rfl rfl ?_
    refine WL.done ?_
    refine EW.on ?_
    refine EW.ret ?_
    repeat (first | refine pr_then ?_ | refine pr_block ?_)
    exact EW.returns2 Try.results27 rfl rfl ⟨rfl, rfl⟩
theorem rfresh {w : World} (g n : Nat) (ao : Option Addr) (l c : Nat) (img : List UInt8) (h1 : 1 ≤ n) (h2 : n ≤ 4096) (hl : img.length = n * 512) (hb : Blk w g (rvC ⟨g, .slice ao l c, .slice none 0 0, .slice none 0 0, [], [], 0, 0⟩ (freshD n img)) 96) (ho : w.ownsRow 0 5 1 (.slice ao l c) img.length (img.map byt)) (hg : Value.ownBlock (.slice ao l c) ≠ some g) : RDev w ⟨g, .slice ao l c, .slice none 0 0, .slice none 0 0, [], [], 0, 0⟩ (freshD n img) :=
  { dev := hb, img := ho, pen := World.ownsRow_nil _ _ _ _, bys := fun k v x e _ => by simp at e, vsl := rfl, kp := Has64.nil _, los := fun e => absurd rfl e, ok := ⟨h1, h2, hl, fun x hx => by simp [freshD] at hx, by simp [freshD], by simp [freshD]⟩, bp := hg, lp := by simp [Value.ownBlock], bl := fun k _ => by simp [Value.ownBlock], kn := fun k hk => by simp [Value.ownBlock] at hk, vn := fun v hv => by simp at hv }
theorem build96v (ao : Option Addr) (l c : Nat) (W : World) : (Instr.build 96 #[(0, .slice ao l c)]).run Try.prog W = .ok (.agg (rfC (.slice ao l c) (.slice none 0 0) false 0 (.slice none 0 0) 0 0 0).toArray) W := by kernel_rfl
set_option maxRecDepth 100000 in
set_option maxHeartbeats 1000000 in
theorem rload_ok (v : Value) (img : List UInt8) (n : Nat) (h1 : 1 ≤ n) (h2 : n ≤ 4096) (hl : img.length = n * 512) (w : World) (hv : Has w v img) : Calls Try.prog 38 #[v] w fun e w' => ∃ R : Rl, e = .returned (.tuple #[.pointer (some ⟨R.p, 0, none⟩), .int .i64 0]) ∧ Below w.heap.size w w' ∧ RDev w' R (freshD n img) ∧ ∀ k, R.F k → w.heap.size ≤ k := by
  have hlen := hv.len
  have z1 : ¬ (img.length : Int) = 0 := by omega
  have z2 : ((img.length % 512 : Nat) : Int) = 0 := by omega
  have z3 : ¬ (2097152 : Int) < (img.length : Int) := by omega
  obtain ⟨ao, l, c, w1, hcp, ho, be1, hn1⟩ := copied_ex v img hv (by omega)
  obtain ⟨g, hg⟩ : ∃ g, w1.heap.size = g := ⟨_, rfl⟩
  have hbd := build96v ao l c w1
  have hbox := run_boxR (P := Try.prog) 96 (rfC (.slice ao l c) (.slice none 0 0) false 0 (.slice none 0 0) 0 0 0) w1 g hg
  have hb : Blk (w1.alloc (.cells (rfC (.slice ao l c) (.slice none 0 0) false 0 (.slice none 0 0) 0 0 0).toArray 96)) g (rvC ⟨g, .slice ao l c, .slice none 0 0, .slice none 0 0, [], [], 0, 0⟩ (freshD n img)) 96 := Blk.newAt hg
  have be2 : Below w1.heap.size w1 (w1.alloc (.cells (rfC (.slice ao l c) (.slice none 0 0) false 0 (.slice none 0 0) 0 0 0).toArray 96)) := below_new _ _
  obtain ⟨w2, hw2⟩ : ∃ w2, w1.alloc (.cells (rfC (.slice ao l c) (.slice none 0 0) false 0 (.slice none 0 0) 0 0 0).toArray 96) = w2 := ⟨_, rfl⟩
  rw [hw2] at hbox hb be2
  have hr := rfresh g n ao l c img h1 h2 hl hb (ownsRow_fx ho (Fx.of_below (S := fun _ => False) be2) (fun _ _ s => s)) (fun e => by have := (hn1 g e).2; omega)
  refine calls_of_args [v] Try.func38 rfl 22 Try.ntmps38 (by show 1 ≤ 22; decide) ?_
  refine EW.seq ?_
  refine EW.region ?_
  first | refine WL.assign rfl rfl rfl ?_
  first | refine WL.assign rfl rfl rfl ?_
  refine WL.done ?_
  refine EW.on ?_
  refine EW.seq ?_
  refine EW.seq ?_
  refine EW.region ?_
  first | refine WL.move rfl rfl rfl ?_
  refine WL.len rfl rfl rfl (hlen _ _) ?_
  refine WL.bin rfl rfl rfl rfl (int_eq_f z1 _ _ _) ?_
  first | refine WL.move rfl rfl rfl ?_
  first | refine WL.move rfl rfl rfl ?_ | refine WL.skip _ rfl rfl rfl ?_
  refine WL.len rfl rfl rfl (hlen _ _) ?_
  refine WL.bin rfl rfl rfl rfl (rem512 _ (by omega) _ _ _) ?_
  refine WL.bin rfl rfl rfl rfl (int_ne_f z2 _ _ _) ?_
  first | refine WL.pick rfl rfl rfl rfl ?_
  first | refine WL.move rfl rfl rfl ?_
  first | refine WL.move rfl rfl rfl ?_ | refine WL.skip _ rfl rfl rfl ?_
  refine WL.len rfl rfl rfl (hlen _ _) ?_
  refine WL.bin rfl rfl rfl rfl (int_gt_f z3 _ _ _) ?_
  first | refine WL.pick rfl rfl rfl rfl ?_
  refine WL.done ?_
  refine EW.on ?_
  refine EW.cond_f rfl ?_
  refine EW.skip ?_
  refine EW.on ?_
  refine EW.seq ?_
  refine EW.region ?_
  first | refine WL.move rfl rfl rfl ?_
  refine WL.call [v] enter59 rfl rfl rfl hcp ?_
  rintro x w9 ⟨rfl, hz⟩
  rw [hz]; clear hz w9
  refine ⟨_, rfl, ?_⟩
  refine WL.build1 rfl rfl rfl hbd ?_
  refine WL.box rfl rfl rfl hbox ?_
  first | refine WL.assign rfl rfl rfl ?_
  first | refine WL.assign rfl rfl rfl ?_
  refine WL.done ?_
  refine EW.on ?_
  refine EW.ret ?_
  refine EW.returns2 Try.results38 rfl rfl ⟨⟨g, .slice ao l c, .slice none 0 0, .slice none 0 0, [], [], 0, 0⟩, rfl, be1.trans (be2.mono be1.size), hr, fun k hk => ?_⟩
  rcases hk with hk | hk | hk | hk | ⟨u, hu, _⟩
  · have : k = g := hk
    have := be1.size; omega
  · exact (hn1 k hk).1
  · simp [Value.ownBlock] at hk
  · simp [Value.ownBlock] at hk
  · simp at hu
set_option maxRecDepth 100000 in
set_option maxHeartbeats 1000000 in
theorem rload_no (v : Value) (img : List UInt8) (hb : img.length ≤ 1000000000) (hn : ¬ okI img.length) (w : World) (hv : Has w v img) : Calls Try.prog 38 #[v] w fun e w' => e = .returned (.tuple #[.pointer none, .int .i64 83]) ∧ w' = w := by
  have hlen := hv.len
  by_cases c0 : img.length = 0
  · have z1 : (img.length : Int) = 0 := by omega
    refine calls_of_args [v] Try.func38 rfl 22 Try.ntmps38 (by show 1 ≤ 22; decide) ?_
    refine EW.seq ?_
    refine EW.region ?_
    first | refine WL.assign rfl rfl rfl ?_
    first | refine WL.assign rfl rfl rfl ?_
    refine WL.done ?_
    refine EW.on ?_
    refine EW.seq ?_
    refine EW.seq ?_
    refine EW.region ?_
    first | refine WL.move rfl rfl rfl ?_
    refine WL.len rfl rfl rfl (hlen _ _) ?_
    refine WL.bin rfl rfl rfl rfl (int_eq_t z1 _ _ _) ?_
    first | refine WL.move rfl rfl rfl ?_
    refine WL.skip _ rfl rfl rfl ?_
    refine WL.skip _ rfl rfl rfl ?_
    refine WL.skip _ rfl rfl rfl ?_
    refine WL.skip _ rfl rfl rfl ?_
    first | refine WL.pick rfl rfl rfl rfl ?_
    first | refine WL.move rfl rfl rfl ?_
    refine WL.skip _ rfl rfl rfl ?_
    refine WL.skip _ rfl rfl rfl ?_
    refine WL.skip _ rfl rfl rfl ?_
    first | refine WL.pick rfl rfl rfl rfl ?_
    refine WL.done ?_
    refine EW.on ?_
    refine EW.cond_t rfl ?_
    refine EW.seq ?_
    refine EW.region ?_
    first | refine WL.assign rfl rfl rfl ?_
    first | refine WL.assign rfl rfl rfl ?_
    refine WL.done ?_
    refine EW.on ?_
    refine EW.ret ?_
    repeat (first | refine pr_then ?_ | refine pr_block ?_)
    exact EW.returns2 Try.results38 rfl rfl ⟨rfl, rfl⟩
  · have z1 : ¬ (img.length : Int) = 0 := by omega
    by_cases c1 : img.length % 512 = 0
    · have z2 : ((img.length % 512 : Nat) : Int) = 0 := by omega
      have z3 : (2097152 : Int) < (img.length : Int) := by
        rcases Nat.lt_or_ge 2097152 img.length with h1 | h1
        · omega
        · exact absurd ⟨c1, by omega, by omega⟩ hn
      refine calls_of_args [v] Try.func38 rfl 22 Try.ntmps38 (by show 1 ≤ 22; decide) ?_
      refine EW.seq ?_
      refine EW.region ?_
      first | refine WL.assign rfl rfl rfl ?_
      first | refine WL.assign rfl rfl rfl ?_
      refine WL.done ?_
      refine EW.on ?_
      refine EW.seq ?_
      refine EW.seq ?_
      refine EW.region ?_
      first | refine WL.move rfl rfl rfl ?_
      refine WL.len rfl rfl rfl (hlen _ _) ?_
      refine WL.bin rfl rfl rfl rfl (int_eq_f z1 _ _ _) ?_
      first | refine WL.move rfl rfl rfl ?_
      first | refine WL.move rfl rfl rfl ?_ | refine WL.skip _ rfl rfl rfl ?_
      refine WL.len rfl rfl rfl (hlen _ _) ?_
      refine WL.bin rfl rfl rfl rfl (rem512 _ (by omega) _ _ _) ?_
      refine WL.bin rfl rfl rfl rfl (int_ne_f z2 _ _ _) ?_
      first | refine WL.pick rfl rfl rfl rfl ?_
      first | refine WL.move rfl rfl rfl ?_
      first | refine WL.move rfl rfl rfl ?_ | refine WL.skip _ rfl rfl rfl ?_
      refine WL.len rfl rfl rfl (hlen _ _) ?_
      refine WL.bin rfl rfl rfl rfl (int_gt_t z3 _ _ _) ?_
      first | refine WL.pick rfl rfl rfl rfl ?_
      refine WL.done ?_
      refine EW.on ?_
      refine EW.cond_t rfl ?_
      refine EW.seq ?_
      refine EW.region ?_
      first | refine WL.assign rfl rfl rfl ?_
      first | refine WL.assign rfl rfl rfl ?_
      refine WL.done ?_
      refine EW.on ?_
      refine EW.ret ?_
      repeat (first | refine pr_then ?_ | refine pr_block ?_)
      exact EW.returns2 Try.results38 rfl rfl ⟨rfl, rfl⟩
    · have z2 : ¬ ((img.length % 512 : Nat) : Int) = 0 := by omega
      refine calls_of_args [v] Try.func38 rfl 22 Try.ntmps38 (by show 1 ≤ 22; decide) ?_
      refine EW.seq ?_
      refine EW.region ?_
      first | refine WL.assign rfl rfl rfl ?_
      first | refine WL.assign rfl rfl rfl ?_
      refine WL.done ?_
      refine EW.on ?_
      refine EW.seq ?_
      refine EW.seq ?_
      refine EW.region ?_
      first | refine WL.move rfl rfl rfl ?_
      refine WL.len rfl rfl rfl (hlen _ _) ?_
      refine WL.bin rfl rfl rfl rfl (int_eq_f z1 _ _ _) ?_
      first | refine WL.move rfl rfl rfl ?_
      first | refine WL.move rfl rfl rfl ?_ | refine WL.skip _ rfl rfl rfl ?_
      refine WL.len rfl rfl rfl (hlen _ _) ?_
      refine WL.bin rfl rfl rfl rfl (rem512 _ (by omega) _ _ _) ?_
      refine WL.bin rfl rfl rfl rfl (int_ne_t z2 _ _ _) ?_
      first | refine WL.pick rfl rfl rfl rfl ?_
      first | refine WL.move rfl rfl rfl ?_
      refine WL.skip _ rfl rfl rfl ?_
      refine WL.skip _ rfl rfl rfl ?_
      refine WL.skip _ rfl rfl rfl ?_
      first | refine WL.pick rfl rfl rfl rfl ?_
      refine WL.done ?_
      refine EW.on ?_
      refine EW.cond_t rfl ?_
      refine EW.seq ?_
      refine EW.region ?_
      first | refine WL.assign rfl rfl rfl ?_
      first | refine WL.assign rfl rfl rfl ?_
      refine WL.done ?_
      refine EW.on ?_
      refine EW.ret ?_
      repeat (first | refine pr_then ?_ | refine pr_block ?_)
      exact EW.returns2 Try.results38 rfl rfl ⟨rfl, rfl⟩
theorem ptr_eq_t' (t : TypeId) (ht : t = 28 ∨ t = 44) (W : World) (x y : Operand) : (do eqGuard .eql t x y (.pointer none) (.pointer none); binOp .eql t (.pointer none) (.pointer none) : Sem Value).run Try.prog W = .ok (.bool true) W := by
  rcases ht with rfl | rfl <;> go_simp
theorem ptr_eq_f' (t : TypeId) (ht : t = 28 ∨ t = 44) (ad : Addr) (W : World) (x y : Operand) : (do eqGuard .eql t x y (.pointer (some ad)) (.pointer none); binOp .eql t (.pointer (some ad)) (.pointer none) : Sem Value).run Try.prog W = .ok (.bool false) W := by
  rcases ht with rfl | rfl <;> go_simp
/-- Both are nil, or a pair of fresh devices. -/
def Par0 (w W : World) (dp rp : Option Addr) : Prop := (dp = none ∧ rp = none) ∨ ∃ L R D, dp = some ⟨L.p, 0, none⟩ ∧ rp = some ⟨R.p, 0, none⟩ ∧ Two W L R D ∧ (∀ k, L.F k ∨ R.F k → w.heap.size ≤ k) ∧ D.calls = 0 ∧ D.pen = [] ∧ D.left = 0
theorem Par0.fx {S : Nat → Prop} {w W W' : World} {dp rp : Option Addr} (h : Par0 w W dp rp) (hf : Fx S W W') (hd : ∀ k, w.heap.size ≤ k → k < W.heap.size → ¬ S k) : Par0 w W' dp rp := by
  rcases h with h | ⟨L, R, D, e1, e2, h1, h2, h3⟩
  · exact .inl h
  · exact .inr ⟨L, R, D, e1, e2, h1.fx hf (fun k hk => hd k (h2 k hk) (h1.lt k hk)), h2, h3⟩
theorem freshL_F (p gi gn k : Nat) (h : (freshL p gi gn).F k) : k = p ∨ k = gi ∨ k = gn := by
  rcases h with h | h | h | h | h | h
  · exact .inl h
  · exact .inr (.inl h)
  · exact .inr (.inr h)
  · simp [freshL, Value.ownBlock] at h
  · simp [freshL, Value.ownBlock] at h
  · simp [freshL] at h
set_option maxRecDepth 100000 in
set_option maxHeartbeats 1000000 in
theorem made_no2 (n : Int) (h : n < 1 ∨ 4096 < n) (v : Value) (w : World) (hv : Has w v []) : Calls Try.prog 17 #[.int .i64 n, v] w fun e w' => e = .returned (.tuple #[.pointer none, .pointer none, .bool true]) ∧ w' = w := by
  have hlen : ∀ W ty, (Builtin.len_ #[34] ty #[v]).run Try.prog W = .ok (.int .i64 0) W := fun W ty => hv.len W ty
  have c1 := new_no n h w
  have c2 := refnew_no n h w
  refine calls_of_args [.int .i64 n, v] Try.func17 rfl 85 Try.ntmps17 (by show 2 ≤ 85; decide) ?_
  refine EW.seq ?_
  refine EW.region ?_
  first | refine WL.assign rfl rfl rfl ?_
  first | refine WL.assign rfl rfl rfl ?_
  first | refine WL.assign rfl rfl rfl ?_
  refine WL.done ?_
  refine EW.on ?_
  refine EW.seq ?_
  refine EW.seq ?_
  refine EW.region ?_
  first | refine WL.move rfl rfl rfl ?_
  refine WL.len rfl rfl rfl (hlen _ _) ?_
  refine WL.bin rfl rfl rfl rfl (int_gt_f (by decide) _ _ _) ?_
  refine WL.done ?_
  refine EW.on ?_
  refine EW.cond_f rfl ?_
  refine EW.skip ?_
  refine EW.on ?_
  refine EW.seq ?_
  refine EW.region ?_
  first | refine WL.move rfl rfl rfl ?_
  refine WL.call [.int .i64 n] enter18 rfl rfl rfl c1 ?_
  rintro x w9 ⟨rfl, hz⟩
  rw [hz]; clear hz w9
  refine ⟨_, rfl, ?_⟩
  first | refine WL.move rfl rfl rfl ?_
  first | refine WL.extract rfl rfl rfl (ext_2 _ _ _).1 ?_
  first | refine WL.extract rfl rfl rfl (ext_2 _ _ _).2 ?_
  first | refine WL.assign rfl rfl rfl ?_
  first | refine WL.assign rfl rfl rfl ?_
  refine WL.done ?_
  refine EW.on ?_
  refine EW.seq ?_
  refine EW.region ?_
  first | refine WL.move rfl rfl rfl ?_
  refine WL.call [.int .i64 n] enter39 rfl rfl rfl c2 ?_
  rintro x w9 ⟨rfl, hz⟩
  rw [hz]; clear hz w9
  refine ⟨_, rfl, ?_⟩
  first | refine WL.move rfl rfl rfl ?_
  first | refine WL.extract rfl rfl rfl (ext_2 _ _ _).1 ?_
  first | refine WL.extract rfl rfl rfl (ext_2 _ _ _).2 ?_
  first | refine WL.assign rfl rfl rfl ?_
  first | refine WL.assign rfl rfl rfl ?_
  refine WL.done ?_
  refine EW.on ?_
  refine EW.seq ?_
  refine EW.region ?_
  first | refine WL.move rfl rfl rfl ?_
  first | refine WL.move rfl rfl rfl ?_
  first | refine WL.move rfl rfl rfl ?_
  first | refine WL.move rfl rfl rfl ?_
  refine WL.bin rfl rfl rfl rfl (int_eq_t rfl _ _ _) ?_
  first | refine WL.move rfl rfl rfl ?_
  first | refine WL.move rfl rfl rfl ?_ | refine WL.skip _ rfl rfl rfl ?_
  refine WL.bin rfl rfl rfl rfl (ptr_eq_t' _ (by decide) _ _ _) ?_
  first | refine WL.move rfl rfl rfl ?_ | refine WL.skip _ rfl rfl rfl ?_
  refine WL.bin rfl rfl rfl rfl (ptr_eq_t' _ (by decide) _ _ _) ?_
  refine WL.bin rfl rfl rfl rfl (bool_eq_t _ _ _ _) ?_
  first | refine WL.pick rfl rfl rfl rfl ?_
  first | refine WL.assign rfl rfl rfl ?_
  first | refine WL.assign rfl rfl rfl ?_
  first | refine WL.assign rfl rfl rfl ?_
  refine WL.done ?_
  refine EW.on ?_
  refine EW.ret ?_
  exact EW.returns3 Try.results17 rfl rfl rfl ⟨rfl, rfl⟩
set_option maxRecDepth 100000 in
set_option maxHeartbeats 1000000 in
theorem made_new2 (n : Nat) (h1 : 1 ≤ n) (h2 : n ≤ 4096) (v : Value) (w : World) (hv : Has w v []) : Calls Try.prog 17 #[.int .i64 (n : Int), v] w fun e w' => e = .returned (.tuple #[.pointer (some ⟨w.heap.size + 2, 0, none⟩), .pointer (some ⟨w.heap.size + 4, 0, none⟩), .bool true]) ∧ w' = refW (newW w n (zer n)) n := by
  have hlen : ∀ W ty, (Builtin.len_ #[34] ty #[v]).run Try.prog W = .ok (.int .i64 0) W := fun W ty => hv.len W ty
  have c1 := new_any n h1 h2 w
  have c2 := refnew_any n h1 h2 (newW w n (zer n))
  rw [show (newW w n (zer n)).heap.size + 1 = w.heap.size + 4 by unfold newW; simp] at c2
  refine calls_of_args [.int .i64 (n : Int), v] Try.func17 rfl 85 Try.ntmps17 (by show 2 ≤ 85; decide) ?_
  refine EW.seq ?_
  refine EW.region ?_
  first | refine WL.assign rfl rfl rfl ?_
  first | refine WL.assign rfl rfl rfl ?_
  first | refine WL.assign rfl rfl rfl ?_
  refine WL.done ?_
  refine EW.on ?_
  refine EW.seq ?_
  refine EW.seq ?_
  refine EW.region ?_
  first | refine WL.move rfl rfl rfl ?_
  refine WL.len rfl rfl rfl (hlen _ _) ?_
  refine WL.bin rfl rfl rfl rfl (int_gt_f (by decide) _ _ _) ?_
  refine WL.done ?_
  refine EW.on ?_
  refine EW.cond_f rfl ?_
  refine EW.skip ?_
  refine EW.on ?_
  refine EW.seq ?_
  refine EW.region ?_
  first | refine WL.move rfl rfl rfl ?_
  refine WL.call [.int .i64 (n : Int)] enter18 rfl rfl rfl c1 ?_
  rintro x w9 ⟨rfl, hz⟩
  rw [hz]; clear hz w9
  refine ⟨_, rfl, ?_⟩
  first | refine WL.move rfl rfl rfl ?_
  first | refine WL.extract rfl rfl rfl (ext_2 _ _ _).1 ?_
  first | refine WL.extract rfl rfl rfl (ext_2 _ _ _).2 ?_
  first | refine WL.assign rfl rfl rfl ?_
  first | refine WL.assign rfl rfl rfl ?_
  refine WL.done ?_
  refine EW.on ?_
  refine EW.seq ?_
  refine EW.region ?_
  first | refine WL.move rfl rfl rfl ?_
  refine WL.call [.int .i64 (n : Int)] enter39 rfl rfl rfl c2 ?_
  rintro x w9 ⟨rfl, hz⟩
  rw [hz]; clear hz w9
  refine ⟨_, rfl, ?_⟩
  first | refine WL.move rfl rfl rfl ?_
  first | refine WL.extract rfl rfl rfl (ext_2 _ _ _).1 ?_
  first | refine WL.extract rfl rfl rfl (ext_2 _ _ _).2 ?_
  first | refine WL.assign rfl rfl rfl ?_
  first | refine WL.assign rfl rfl rfl ?_
  refine WL.done ?_
  refine EW.on ?_
  refine EW.seq ?_
  refine EW.region ?_
  first | refine WL.move rfl rfl rfl ?_
  first | refine WL.move rfl rfl rfl ?_
  first | refine WL.move rfl rfl rfl ?_
  first | refine WL.move rfl rfl rfl ?_
  refine WL.bin rfl rfl rfl rfl (int_eq_t rfl _ _ _) ?_
  first | refine WL.move rfl rfl rfl ?_
  first | refine WL.move rfl rfl rfl ?_ | refine WL.skip _ rfl rfl rfl ?_
  refine WL.bin rfl rfl rfl rfl (ptr_eq_f' _ (by decide) _ _ _ _) ?_
  first | refine WL.move rfl rfl rfl ?_ | refine WL.skip _ rfl rfl rfl ?_
  refine WL.bin rfl rfl rfl rfl (ptr_eq_f' _ (by decide) _ _ _ _) ?_
  refine WL.bin rfl rfl rfl rfl (bool_eq_t _ _ _ _) ?_
  first | refine WL.pick rfl rfl rfl rfl ?_
  first | refine WL.assign rfl rfl rfl ?_
  first | refine WL.assign rfl rfl rfl ?_
  first | refine WL.assign rfl rfl rfl ?_
  refine WL.done ?_
  refine EW.on ?_
  refine EW.ret ?_
  exact EW.returns3 Try.results17 rfl rfl rfl ⟨rfl, rfl⟩
theorem made_nil (n : Int) (v : Value) (w : World) (hv : Has w v []) : Calls Try.prog 17 #[.int .i64 n, v] w fun e w' => ∃ dp rp, e = .returned (.tuple #[.pointer dp, .pointer rp, .bool true]) ∧ Below w.heap.size w w' ∧ Par0 w w' dp rp := by
  by_cases hn : n < 1 ∨ 4096 < n
  · exact (made_no2 n hn v w hv).mono fun e w' ⟨h1, h2⟩ => ⟨none, none, h1, by rw [h2]; exact Below.refl _ _, .inl ⟨rfl, rfl⟩⟩
  · obtain ⟨k, rfl⟩ : ∃ k : Nat, n = (k : Int) := ⟨n.toNat, (Int.toNat_of_nonneg (by omega)).symm⟩
    have k1 : 1 ≤ k := by omega
    have k2 : k ≤ 4096 := by omega
    refine (made_new2 k k1 k2 v w hv).mono fun e w' ⟨h1, h2⟩ => ⟨_, _, h1, ?_, ?_⟩
    · rw [h2]; exact (newW_below w k _).trans ((refW_below _ k).mono (newW_below w k _).size)
    · have hs : (newW w k (zer k)).heap.size = w.heap.size + 3 := by unfold newW; simp
      have hd := (newW_dev w k (zer k) k1 k2 (zer_length k)).below (refW_below (newW w k (zer k)) k)
      have hb : Blk (refW (newW w k (zer k)) k) (w.heap.size + 4) (rvC ⟨w.heap.size + 4, .slice (some ⟨w.heap.size + 3, 0, none⟩) (k * 512) (k * 512), .slice none 0 0, .slice none 0 0, [], [], 0, 0⟩ (freshD k (zer k))) 96 := by
        have := Blk.newAt (w := (newW w k (zer k)).alloc (.cells ((zer k).map byt).toArray 5)) (cs := rfC (.slice (some ⟨(newW w k (zer k)).heap.size, 0, none⟩) (k * 512) (k * 512)) (.slice none 0 0) false 0 (.slice none 0 0) 0 0 0) (t := 96) (g := w.heap.size + 4) (by simp [hs])
        rw [hs] at this
        unfold refW
        rw [hs]
        exact this
      have hbi : Blk (refW (newW w k (zer k)) k) (w.heap.size + 3) ((zer k).map byt) 5 := by
        unfold refW
        exact (Blk.newAt (by rw [hs])).on (below_new _ _)
      have ho : (refW (newW w k (zer k)) k).ownsRow 0 5 1 (.slice (some ⟨w.heap.size + 3, 0, none⟩) (k * 512) (k * 512)) (zer k).length ((zer k).map byt) := ⟨by simp, .inr ⟨w.heap.size + 3, k * 512, ((zer k).map byt).toArray, by rw [zer_length], Nat.zero_le _, hbi, by rw [zer_length]; exact Nat.le_refl _, by unfold maxLen; omega, by simp [zer_length], List.take_of_length_le (by simp)⟩⟩
      have hr := rfresh (w.heap.size + 4) k _ _ _ (zer k) k1 k2 (zer_length k) hb ho (by simp [Value.ownBlock])
      rw [h2]
      have hRF : ∀ j, (⟨w.heap.size + 4, .slice (some ⟨w.heap.size + 3, 0, none⟩) (k * 512) (k * 512), .slice none 0 0, .slice none 0 0, [], [], 0, 0⟩ : Rl).F j → j = w.heap.size + 4 ∨ j = w.heap.size + 3 := fun j hj => by
        rcases hj with e | e | e | e | ⟨u, hu, _⟩
        · exact .inl e
        · exact .inr (by simpa [Value.ownBlock] using e.symm)
        · simp [Value.ownBlock] at e
        · simp [Value.ownBlock] at e
        · simp at hu
      refine .inr ⟨_, _, _, rfl, rfl, ⟨hd, hr, fun j h3 h4 => ?_⟩, fun j hj => ?_, rfl, rfl, rfl⟩
      · have h5 := freshL_F _ _ _ j h3
        have h6 := hRF j h4
        omega
      · rcases hj with hj | hj
        · have h5 := freshL_F _ _ _ j hj; omega
        · have h6 := hRF j hj; omega
def mdE2 (dv rv : Value) (ei fi : Int) (g n c t : Nat) : List (Nat × Value) := [(7, .slice (some ⟨g, 0, none⟩) n c), (8, dv), (9, .int .i64 ei), (10, rv), (11, .int .i64 fi), (12, .bool true), (13, .int .i64 (t : Int))]
set_option maxRecDepth 100000 in
set_option maxHeartbeats 1000000 in
theorem made_img (n : Int) (v : Value) (img : List UInt8) (w : World) (hv : Has w v img) (hl0 : 0 < img.length) (hb : img.length ≤ 1000000000) : Calls Try.prog 17 #[.int .i64 n, v] w fun e w' => ∃ dp rp, e = .returned (.tuple #[.pointer dp, .pointer rp, .bool true]) ∧ Below w.heap.size w w' ∧ Par0 w w' dp rp := by
  have hlen := hv.len
  have hvc := hv.convert
  have z0 : (0 : Int) < (img.length : Int) := by omega
  obtain ⟨cap, w1, hcf, be1, sz1, hcap, hcell, hfz⟩ := conv_full w img
  obtain ⟨g, hg⟩ : ∃ g, w.heap.size = g := ⟨_, rfl⟩
  rw [hg] at hcf hcell hfz sz1
  have hh1 : Has w1 (.slice (some ⟨g, 0, none⟩) img.length cap) img := .inr ⟨⟨g, 0, none⟩, cap, rfl, hcap, fun j u hu => by rw [add_plain]; exact hcell j u hu⟩
  obtain ⟨dp, E, C, hld, hbeC, hlr⟩ : ∃ dp E, ∃ C : World → Prop, (Calls Try.prog 27 #[.slice (some ⟨g, 0, none⟩) img.length cap] w1 fun e w' => e = .returned (.tuple #[.pointer dp, .int .i64 E]) ∧ C w') ∧ (∀ w2, C w2 → Below w1.heap.size w1 w2) ∧ (∀ w2, C w2 → Calls Try.prog 38 #[v] w2 fun e w' => ∃ rp, e = .returned (.tuple #[.pointer rp, .int .i64 E]) ∧ Below w2.heap.size w2 w' ∧ Par0 w1 w' dp rp) := by
    by_cases hok : okI img.length
    · obtain ⟨h1, h2, h3⟩ := hok
      have hl : img.length = img.length / 512 * 512 := by omega
      refine ⟨some ⟨w1.heap.size + 2, 0, none⟩, 0, fun w2 => w2 = newW w1 (img.length / 512) img, load_ok _ img _ h2 h3 hl w1 hh1, fun w2 hw2 => by rw [hw2]; exact newW_below _ _ _, fun w2 hw2 => ?_⟩
      have hd := newW_dev w1 (img.length / 512) img h2 h3 hl
      have be2 : Below w1.heap.size w1 w2 := by rw [hw2]; exact newW_below _ _ _
      refine (rload_ok v img _ h2 h3 hl w2 ((hv.below be1).below be2)).mono fun e w' ⟨R, e1, e2, e3, e4⟩ => ⟨_, e1, e2, .inr ⟨_, R, _, rfl, rfl, ⟨(hw2 ▸ hd).below e2, e3, fun k h5 h6 => ?_⟩, fun k hk => ?_, rfl, rfl, rfl⟩⟩
      · have h7 := (hw2 ▸ hd : Dev w2 _ _).lt k h5
        have := e4 k h6
        omega
      · rcases hk with hk | hk
        · have := freshL_F _ _ _ k hk; omega
        · have := e4 k hk; have := be2.size; omega
    · exact ⟨none, 83, fun w2 => w2 = w1, load_no _ img hb hok w1 hh1, fun w2 hw2 => by rw [hw2]; exact Below.refl _ _, fun w2 hw2 => (rload_no v img hb hok w2 (by rw [hw2]; exact hv.below be1)).mono fun e w' ⟨e1, e2⟩ => ⟨none, e1, by rw [e2]; exact Below.refl _ _, .inl ⟨rfl, rfl⟩⟩⟩
  refine calls_of_args [.int .i64 n, v] Try.func17 rfl 85 Try.ntmps17 (by show 2 ≤ 85; decide) ?_
  refine EW.seq ?_
  refine EW.region ?_
  first | refine WL.assign rfl rfl rfl ?_
  first | refine WL.assign rfl rfl rfl ?_
  first | refine WL.assign rfl rfl rfl ?_
  refine WL.done ?_
  refine EW.on ?_
  refine EW.seq ?_
  refine EW.seq ?_
  refine EW.region ?_
  first | refine WL.move rfl rfl rfl ?_
  refine WL.len rfl rfl rfl (hlen _ _) ?_
  refine WL.bin rfl rfl rfl rfl (int_gt_t z0 _ _ _) ?_
  refine WL.done ?_
  refine EW.on ?_
  refine EW.cond_t rfl ?_
  refine EW.seq ?_
  refine EW.region ?_
  first | refine WL.move rfl rfl rfl ?_
  refine WL.conv rfl rfl rfl hvc ?_
  refine WL.conv rfl rfl rfl hcf ?_
  first | refine WL.assign rfl rfl rfl ?_
  refine WL.done ?_
  refine EW.on ?_
  refine EW.seq ?_
  refine EW.region ?_
  first | refine WL.move rfl rfl rfl ?_
  refine WL.call [.slice (some ⟨g, 0, none⟩) img.length cap] enter27 rfl rfl rfl hld ?_
  rintro x w2 ⟨rfl, hC⟩
  refine ⟨_, rfl, ?_⟩
  have be2 := hbeC w2 hC
  have hlr2 := hlr w2 hC
  first | refine WL.move rfl rfl rfl ?_
  first | refine WL.extract rfl rfl rfl (ext_2 _ _ _).1 ?_
  first | refine WL.extract rfl rfl rfl (ext_2 _ _ _).2 ?_
  first | refine WL.assign rfl rfl rfl ?_
  first | refine WL.assign rfl rfl rfl ?_
  refine WL.done ?_
  refine EW.on ?_
  refine EW.seq ?_
  refine EW.region ?_
  first | refine WL.move rfl rfl rfl ?_
  refine WL.call [v] enter38 rfl rfl rfl hlr2 ?_
  rintro x w3 ⟨rp, rfl, be3, hpar⟩
  refine ⟨_, rfl, ?_⟩
  first | refine WL.move rfl rfl rfl ?_
  first | refine WL.extract rfl rfl rfl (ext_2 _ _ _).1 ?_
  first | refine WL.extract rfl rfl rfl (ext_2 _ _ _).2 ?_
  first | refine WL.assign rfl rfl rfl ?_
  first | refine WL.assign rfl rfl rfl ?_
  refine WL.done ?_
  have be13 : Below w1.heap.size w1 w3 := be2.trans (be3.mono be2.size)
  have hh3 := (hh1.below be13).convert
  have hv3 := ((hv.below be1).below be13).convert
  have hc3 : ∀ i u, img[i]? = some u → w3.cell? ⟨g, i, none⟩ = some (byt u) := fun i u hu => (be13.cell (show g < w1.heap.size by omega)).trans (hcell i u hu)
  have hf3 : ∀ i, i < img.length → w3.frozen? ⟨g, i, none⟩ = false := fun i hi => by
    rw [World.frozen?_of_block (be13.block g (by omega))]; exact hfz i hi
  refine EW.on ?_
  refine EW.seq ?_
  refine EW.region ?_
  first | refine WL.move rfl rfl rfl ?_
  refine WL.conv rfl rfl rfl hh3 ?_
  first | refine WL.move rfl rfl rfl ?_
  refine WL.conv rfl rfl rfl hv3 ?_
  refine WL.bin rfl rfl rfl rfl (str_eq_t _ _ _ _) ?_
  first | refine WL.assign rfl rfl rfl ?_
  refine WL.done ?_
  refine EW.on ?_
  refine EW.seq ?_
  refine EW.seq ?_
  refine EW.region ?_
  first | refine WL.assign rfl rfl rfl ?_
  refine WL.done ?_
  refine EW.on ?_
  refine EW.block ?_
  refine EW.loop (mdE2 (.pointer dp) (.pointer rp) E E g img.length cap) (fun t w' => t ≤ img.length ∧ Fx (fun k => k = g) w3 w' ∧ ∀ i, i < img.length → w'.frozen? ⟨g, i, none⟩ = false ∧ ∃ u, w'.cell? ⟨g, i, none⟩ = some u) (fun t => img.length - t) 0 [7, 8, 9, 10, 11, 12, 13] rfl ⟨Nat.zero_le _, Fx.refl _ _, fun i hi => ⟨hf3 i hi, _, hc3 i _ (List.getElem?_eq_getElem hi)⟩⟩ ?_
  rintro t wr ⟨ht, hfr, hcs⟩
  show EW _ _ _ _ [(7, .slice (some ⟨g, 0, none⟩) img.length cap), (8, .pointer dp), (9, .int .i64 E), (10, .pointer rp), (11, .int .i64 E), (12, .bool true), (13, .int .i64 (t : Int))] _
  by_cases hlt : t < img.length
  · have z1 : (t : Int) < (img.length : Int) := Int.ofNat_lt.2 hlt
    have tn := tnB t _ hlt (by omega)
    obtain ⟨fz, u, hu⟩ := hcs t hlt
    have s1 := st5k hu fz
    have f1 : Fx (fun k => k = g) wr (wr.setCell ⟨g, t, none⟩ (.int .u8 238)) := Fx.setCell wr g t _ rfl
    refine EW.seq ?_
    refine EW.seq ?_
    refine EW.region ?_
    first | refine WL.move rfl rfl rfl ?_
    first | refine WL.move rfl rfl rfl ?_
    refine WL.len rfl rfl rfl (len34 _ _ _ _ _) ?_
    first | refine WL.bin rfl rfl rfl rfl (int_lt_t ‹_› _ _ _) ?_ | refine WL.bin rfl rfl rfl rfl (int_lt_f ‹_› _ _ _) ?_
    refine WL.done ?_
    refine EW.on ?_
    refine EW.cond_t rfl ?_
    refine EW.skip ?_
    refine EW.on ?_
    refine EW.seq ?_
    refine EW.block ?_
    refine EW.region ?_
    first | refine WL.move rfl rfl rfl ?_
    first | refine WL.move rfl rfl rfl ?_
    refine WL.index rfl rfl rfl rfl (idx34c g _ _ t hlt _) ?_
    refine WL.store rfl rfl rfl s1 ?_
    refine WL.done ?_
    refine pn_block ?_
    refine EW.on ?_
    refine EW.region ?_
    first | refine WL.move rfl rfl rfl ?_
    first | refine WL.bin rfl rfl rfl rfl (int_add ‹_› _ _ _) ?_
    first | refine WL.assign rfl rfl rfl ?_
    refine WL.done ?_
    refine EW.again (t + 1) [7, 8, 9, 10, 11, 12, 13] rfl ⟨hlt, hfr.and f1, fun i hi => ⟨?_, ?_⟩⟩ (by show img.length - (t + 1) < img.length - t; omega)
    · simp; exact (hcs i hi).1
    · obtain ⟨x, hx⟩ := (hcs i hi).2
      exact cell?_setCell_some hx
  · have z1 : ¬ (t : Int) < (img.length : Int) := fun hh => hlt (Int.ofNat_lt.1 hh)
    have hp4 : Par0 w wr dp rp := by
      have hp := hpar.fx hfr (fun k h1 h2 e => by omega)
      rcases hp with hp | ⟨L, R, D, e1, e2, e3, e4, e5⟩
      · exact .inl hp
      · exact .inr ⟨L, R, D, e1, e2, e3, fun k hk => Nat.le_trans be1.size (e4 k hk), e5⟩
    have be4 : Below w.heap.size w wr := (be1.trans (be13.mono be1.size)).trans (hfr.below (fun k hk e => by omega) (Nat.le_trans be1.size be13.size))
    refine EW.seq ?_
    refine EW.seq ?_
    refine EW.region ?_
    first | refine WL.move rfl rfl rfl ?_
    first | refine WL.move rfl rfl rfl ?_
    refine WL.len rfl rfl rfl (len34 _ _ _ _ _) ?_
    first | refine WL.bin rfl rfl rfl rfl (int_lt_t ‹_› _ _ _) ?_ | refine WL.bin rfl rfl rfl rfl (int_lt_f ‹_› _ _ _) ?_
    refine WL.done ?_
    refine EW.on ?_
    refine EW.cond_f rfl ?_
    refine EW.exit ?_
    repeat refine px_then ?_
    refine px_block ?_
    refine EW.on ?_
    refine EW.seq ?_
    have hp5 := hp4
    rcases hp5 with ⟨rfl, rfl⟩ | ⟨L, R, D, rfl, rfl, _⟩
    · refine EW.region ?_
      first | refine WL.move rfl rfl rfl ?_
      first | refine WL.move rfl rfl rfl ?_
      first | refine WL.move rfl rfl rfl ?_
      first | refine WL.move rfl rfl rfl ?_
      refine WL.bin rfl rfl rfl rfl (int_eq_t rfl _ _ _) ?_
      first | refine WL.move rfl rfl rfl ?_
      first | refine WL.move rfl rfl rfl ?_ | refine WL.skip _ rfl rfl rfl ?_
      refine WL.bin rfl rfl rfl rfl (ptr_eq_t' _ (by decide) _ _ _) ?_
      first | refine WL.move rfl rfl rfl ?_ | refine WL.skip _ rfl rfl rfl ?_
      refine WL.bin rfl rfl rfl rfl (ptr_eq_t' _ (by decide) _ _ _) ?_
      refine WL.bin rfl rfl rfl rfl (bool_eq_t _ _ _ _) ?_
      first | refine WL.pick rfl rfl rfl rfl ?_
      first | refine WL.move rfl rfl rfl ?_
      first | refine WL.move rfl rfl rfl ?_ | refine WL.skip _ rfl rfl rfl ?_
      first | refine WL.pick rfl rfl rfl rfl ?_
      first | refine WL.assign rfl rfl rfl ?_
      first | refine WL.assign rfl rfl rfl ?_
      first | refine WL.assign rfl rfl rfl ?_
      refine WL.done ?_
      refine EW.on ?_
      refine EW.ret ?_
      repeat (first | refine pr_then ?_ | refine pr_block ?_)
      exact EW.returns3 Try.results17 rfl rfl rfl ⟨_, _, rfl, be4, hp4⟩
    · refine EW.region ?_
      first | refine WL.move rfl rfl rfl ?_
      first | refine WL.move rfl rfl rfl ?_
      first | refine WL.move rfl rfl rfl ?_
      first | refine WL.move rfl rfl rfl ?_
      refine WL.bin rfl rfl rfl rfl (int_eq_t rfl _ _ _) ?_
      first | refine WL.move rfl rfl rfl ?_
      first | refine WL.move rfl rfl rfl ?_ | refine WL.skip _ rfl rfl rfl ?_
      refine WL.bin rfl rfl rfl rfl (ptr_eq_f' _ (by decide) _ _ _ _) ?_
      first | refine WL.move rfl rfl rfl ?_ | refine WL.skip _ rfl rfl rfl ?_
      refine WL.bin rfl rfl rfl rfl (ptr_eq_f' _ (by decide) _ _ _ _) ?_
      refine WL.bin rfl rfl rfl rfl (bool_eq_t _ _ _ _) ?_
      first | refine WL.pick rfl rfl rfl rfl ?_
      first | refine WL.move rfl rfl rfl ?_
      first | refine WL.move rfl rfl rfl ?_ | refine WL.skip _ rfl rfl rfl ?_
      first | refine WL.pick rfl rfl rfl rfl ?_
      first | refine WL.assign rfl rfl rfl ?_
      first | refine WL.assign rfl rfl rfl ?_
      first | refine WL.assign rfl rfl rfl ?_
      refine WL.done ?_
      refine EW.on ?_
      refine EW.ret ?_
      repeat (first | refine pr_then ?_ | refine pr_block ?_)
      exact EW.returns3 Try.results17 rfl rfl rfl ⟨_, _, rfl, be4, hp4⟩
end Go.Proofs.Ythfcabhelldokaa
