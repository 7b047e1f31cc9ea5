import Derived.Test.YtnfikgnploockaaDoorSc
set_option linter.unusedVariables false
set_option linter.unusedSimpArgs false
namespace Go.Proofs.YtnfikgnploockaaDoor
open Go.RowKit

/-- A group's number, the highest byte first. -/
def gN (bs : List UInt8) : Nat := bs.foldl (fun n b => n * 256 + b.toNat) 0
theorem gN_snoc (bs : List UInt8) (u : UInt8) : gN (bs ++ [u]) = gN bs * 256 + u.toNat := by simp [gN]
theorem gN_lt (bs : List UInt8) : gN bs < 256 ^ bs.length := by
  have h : ∀ (l : List UInt8) (a n : Nat), a < 256 ^ n → l.foldl (fun n b => n * 256 + b.toNat) a < 256 ^ (n + l.length) := by
    intro l
    induction l with
    | nil => intro a n h; simpa using h
    | cons u l ih =>
      intro a n h
      have := ih (a * 256 + u.toNat) (n + 1) (by rw [Nat.pow_succ]; have := u.toNat_lt; omega)
      rwa [List.foldl_cons, List.length_cons, show n + (l.length + 1) = n + 1 + l.length by omega]
  have := h bs 0 0 (by decide)
  simpa [gN] using this
theorem take_succ' {α : Type} {l : List α} {i : Nat} {u : α} (h : l[i]? = some u) : l.take (i + 1) = l.take i ++ [u] := by
  rw [List.take_add_one, h]; rfl
theorem shl8 (n : Nat) (hn : n < 72057594037927936) (W : World) (x y : Operand) : (do eqGuard .shl 78 x y (.int .u64 (n : Int)) (.int .u64 8); binOp .shl 78 (.int .u64 (n : Int)) (.int .u64 8) : Sem Value).run Tryd.prog W = .ok (.int .u64 ((n * 256 : Nat) : Int)) W := by
  go_simp
  rw [IntKind.wrap_u64]; omega
theorem or8 (n b : Nat) (hb : b < 256) (hn : n < 72057594037927936) (W : World) (x y : Operand) : (do eqGuard .or 78 x y (.int .u64 ((n * 256 : Nat) : Int)) (.int .u64 (b : Int)); binOp .or 78 (.int .u64 ((n * 256 : Nat) : Int)) (.int .u64 (b : Int)) : Sem Value).run Tryd.prog W = .ok (.int .u64 ((n * 256 + b : Nat) : Int)) W := by
  have h := (bits_nat .u64 64 (by decide) (fun n h0 h1 => by rw [IntKind.wrap_u64]; omega) (n * 256) b (by omega) (by omega)).2
  have e : n * 256 ||| b = n * 256 + b := by
    rw [show n * 256 = 2 ^ 8 * n by omega]
    exact (Nat.two_pow_add_eq_or_of_lt hb n).symm
  rw [e] at h
  go_simp
  simpa using h
theorem conv5_78 (u : UInt8) (W : World) : (Go.convert 5 78 (byt u)).run Tryd.prog W = .ok (.int .u64 ((u.toNat : Nat) : Int)) W := by
  have := u.toNat_lt
  unfold byt
  go_simp
  rw [IntKind.wrap_u64]; omega
theorem rem78 (n : Nat) (W : World) (x y : Operand) : (do eqGuard .rem 78 x y (.int .u64 (n : Int)) (.int .u64 100000); binOp .rem 78 (.int .u64 (n : Int)) (.int .u64 100000) : Sem Value).run Tryd.prog W = .ok (.int .u64 ((n % 100000 : Nat) : Int)) W := by
  go_simp
  rw [Int.tmod_eq_emod_of_nonneg (by omega)]
theorem add78 (r : Nat) (hr : r < 100000) (W : World) (x y : Operand) : (do eqGuard .add 78 x y (.int .u64 100000) (.int .u64 (r : Int)); binOp .add 78 (.int .u64 100000) (.int .u64 (r : Int)) : Sem Value).run Tryd.prog W = .ok (.int .u64 ((100000 + r : Nat) : Int)) W := by
  go_simp
  rw [IntKind.wrap_u64]; omega
theorem idx27 (ad : Addr) (n cap m : Nat) (h : m < n) (W : World) : (Instr.indexAt 27 (.slice (some ad) n cap) (.int .i64 (m : Int))).run Tryd.prog W = .ok (.pointer (some (ad.add m))) W := by
  have hm : (m : Int) < (n : Int) := by omega
  go_simp
theorem ld5 {w : World} {ad : Addr} {u : UInt8} (h : w.cell? ad = some (byt u)) : (Instr.loadAt 5 (.pointer (some ad))).run Tryd.prog w = .ok (byt u) w := by
  unfold byt at *
  go_simp
theorem Has.get {w : World} {v : Value} {bs : List UInt8} (h : Has w v bs) {i : Nat} {u : UInt8} (hu : bs[i]? = some u) : ∃ ad, (∀ W, (Instr.indexAt 27 v (.int .i64 (i : Int))).run Tryd.prog W = .ok (.pointer (some ad)) W) ∧ ∀ W, Has W v bs → (Instr.loadAt 5 (.pointer (some ad))).run Tryd.prog W = .ok (byt u) W := by
  have hi : i < bs.length := (List.getElem?_eq_some_iff.1 hu).1
  rcases h with ⟨rfl, rfl⟩ | ⟨ad, cap, rfl, h2, h3⟩
  · simp at hi
  · refine ⟨ad.add i, fun W => idx27 ad _ cap i hi W, fun W hW => ?_⟩
    rcases hW with ⟨e, _⟩ | ⟨ad', cap', e, _, h4⟩
    · cases e
    · cases e
      exact ld5 (h4 i u hu)
theorem len27 {w : World} {v : Value} {bs : List UInt8} (h : Has w v bs) (ty : TypeId) (W : World) : (Builtin.len_ #[27] ty #[v]).run Tryd.prog W = .ok (.int .i64 (bs.length : Int)) W := by
  rcases h with ⟨rfl, rfl⟩ | ⟨ad, cap, rfl, h2, h3⟩ <;> go_simp
def gE (v : Value) (bs : List UInt8) (i : Nat) : List (Nat × Value) := [(3, .int .u64 ((gN (bs.take i) : Nat) : Int)), (6, v), (7, .int .i64 (bs.length : Int)), (8, .int .i64 (i : Int))]
theorem gN_lt7 {bs : List UInt8} (h : bs.length ≤ 7) : gN bs < 72057594037927936 := Nat.lt_of_lt_of_le (gN_lt bs) (Nat.pow_le_pow_right (by decide) h)
theorem d5_rem (n : Nat) : d5 (n % 100000) = d5 n := by
  unfold d5 Lib.dg
  simp only [Nat.reducePow, List.cons.injEq, and_true]
  refine ⟨?_, ?_, ?_, ?_, ?_⟩ <;> congr 2 <;> omega
set_option maxRecDepth 100000 in
set_option maxHeartbeats 1000000 in
theorem group_any (v : Value) (bs : List UInt8) (hl : bs.length = 5) (w : World) (hv : Has w v bs) (hS : Pst w) : Calls Tryd.prog 35 #[v] w fun e w' => e = .returned (sv (d5 (gN bs))) ∧ Below w.heap.size w w' := by
  refine calls_of_args [v] Tryd.func35 rfl 23 Tryd.ntmps35 (by show 1 ≤ 23; decide) ?_
  refine EW.seq ?_
  refine EW.region ?_
  first | refine WL.assign rfl rfl rfl ?_
  refine WL.done ?_
  refine EW.on ?_
  refine EW.seq ?_
  refine EW.region ?_
  first | refine WL.assign rfl rfl rfl ?_
  refine WL.done ?_
  refine EW.on ?_
  refine EW.seq ?_
  refine EW.seq ?_
  refine EW.region ?_
  first | refine WL.move rfl rfl rfl ?_
  refine WL.len rfl rfl rfl (len27 hv _ _) ?_
  first | refine WL.move rfl rfl rfl ?_
  refine WL.done ?_
  refine EW.on ?_
  refine EW.block ?_
  refine EW.loop (gE v bs) (fun i W => i ≤ 5 ∧ W = w) (fun i => 5 - i) 0 [3, 6, 7, 8] rfl ⟨by omega, rfl⟩ ?_
  rintro i W ⟨hi, hz⟩
  rw [hz]
  clear hz W
  refine EW.seq ?_
  refine EW.region ?_
  refine WL.bin rfl rfl rfl rfl (int_lt_d _ _ _ _ _) ?_
  refine WL.done ?_
  refine EW.on ?_
  refine EW.seq ?_
  refine EW.cond_d rfl (fun h9 => ?_) (fun h9 => ?_)
  · refine EW.skip ?_
    refine EW.on ?_
    refine EW.seq ?_
    refine EW.block ?_
    refine EW.seq ?_
    obtain ⟨u, hu⟩ : ∃ u, bs[i]? = some u := ⟨_, List.getElem?_eq_getElem (by omega)⟩
    obtain ⟨ad, ra, la⟩ := hv.get hu
    have hN : gN (bs.take i) < 72057594037927936 := gN_lt7 (by rw [List.length_take]; omega)
    have hub : u.toNat < 256 := u.toNat_lt
    refine EW.region ?_
    refine WL.index rfl rfl rfl rfl (ra _) ?_
    refine WL.load rfl rfl rfl (la _ hv) ?_
    first | refine WL.assign rfl rfl rfl ?_
    refine WL.done ?_
    refine EW.on ?_
    refine EW.region ?_
    first | refine WL.move rfl rfl rfl ?_
    refine WL.bin rfl rfl rfl rfl (shl8 _ hN _ _ _) ?_
    first | refine WL.move rfl rfl rfl ?_
    refine WL.conv rfl rfl rfl (conv5_78 u _) ?_
    refine WL.bin rfl rfl rfl rfl (or8 _ _ hub hN _ _ _) ?_
    first | refine WL.assign rfl rfl rfl ?_
    refine WL.done ?_
    refine pn_block ?_
    refine EW.on ?_
    refine EW.region ?_
    refine WL.bin rfl rfl rfl rfl (int_add (c := ((i + 1 : Nat) : Int)) (by rw [IntKind.wrap_i64]; omega) _ _ _) ?_
    first | refine WL.move rfl rfl rfl ?_
    refine WL.done ?_
    exact EW.again (E := gE v bs) (R := fun i W => i ≤ 5 ∧ W = w) (m := fun i => 5 - i) (x := i) (i + 1) [3, 6, 7, 8] (by unfold gE; rw [take_succ' hu, gN_snoc]; rfl) ⟨by omega, rfl⟩ (by show 5 - (i + 1) < 5 - i; omega)
  · refine EW.exit ?_
    refine px_then ?_
    refine px_then ?_
    refine px_block ?_
    refine EW.on ?_
    refine EW.seq ?_
    have hbi : bs.take i = bs := List.take_of_length_le (by omega)
    refine EW.region ?_
    first | refine WL.move rfl rfl rfl ?_
    refine WL.bin rfl rfl rfl rfl (rem78 _ _ _ _) ?_
    refine WL.bin rfl rfl rfl rfl (add78 _ (Nat.mod_lt _ (by decide)) _ _ _) ?_
    refine WL.call [.int .u64 ((100000 + gN (bs.take i) % 100000 : Nat) : Int), .int .i64 10] enter42 rfl rfl rfl (fmt42 _ (Nat.mod_lt _ (by decide)) w hS) ?_
    rintro _ w1 ⟨rfl, hb⟩
    refine ⟨_, rfl, ?_⟩
    refine WL.sliceL rfl rfl rfl rfl (cutL_s (49 :: d5 _) 1 (by show 1 ≤ 6; decide) _) ?_
    first | refine WL.assign rfl rfl rfl ?_
    refine WL.done ?_
    refine EW.on ?_
    refine EW.ret ?_
    exact EW.returns Tryd.results35 rfl ⟨by show Ending.returned (sv (d5 (gN (bs.take i) % 100000))) = _; rw [d5_rem, hbi], hb⟩
end Go.Proofs.YtnfikgnploockaaDoor
