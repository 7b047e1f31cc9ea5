import Derived.Test.YtnakeieeopbeiaaPwr
import Derived.Test.YtnakeieeopbeiaaPri
import Derived.Test.YtnakeieeopbeiaaNew
set_option linter.unusedVariables false
set_option linter.unusedSimpArgs false
namespace Go.Proofs.Ytnakeieeopbeiaa
open Go.RowKit Prm

theorem key_info {k : List UInt8} (h : k.length = 32) : (Try.prog.info? 23).map (·.size) = some (k.map byt).length := by rw [List.length_map, h]; kernel_rfl
theorem build23 (W : World) : (Instr.build 23 #[]).run Try.prog W = .ok (.agg (z32.map byt).toArray) W := by kernel_rfl
theorem uni_build0 {P : Program} {ops : Array Oper} {S : World → Prop} {o : Oper} {a : Act} (hw : Region.wanted o (yielded ops a.tmps) = true) (t : TypeId) (ho : o.op = .build t #[]) (v : Value) (h : ∀ W, (Instr.build t #[]).run P W = .ok v W) : Uni P ops S o v a := by
  refine .inl ⟨hw, .inl fun W _ => ?_⟩
  unfold execOp
  simp only [ho, List.map_toArray, List.map_nil]
  simp only [Sem.run_bind, h W, Result.andThen_ok, Sem.run_pure]
theorem z32_length : z32.length = 32 := by simp [z32]
theorem kn_z32 : kn z32 = 0 := by decide +kernel
def primeR : List UInt8 := List.replicate 30 255 ++ [127]
theorem primeK_eq (u : UInt8) : primeK u = u :: primeR := by kernel_rfl
theorem psum_cons (u : UInt8) (l : List UInt8) (s : Nat) : ∀ r, psum (u :: l) (s + 1) r = psum l s r
  | 0 => rfl
  | r + 1 => by
    rw [psum, psum, psum_cons u l s r, show s + 1 + r = (s + r) + 1 by omega, List.getD_cons_succ]
theorem kn_cons (u : UInt8) (l : List UInt8) : kn (u :: l) = u.toNat + 256 * psum l 0 31 := by
  unfold kn
  have h := psum_add (u :: l) 0 1 31
  rw [show 1 + 31 = 32 from rfl, show 0 + 1 = 1 from rfl, psum_cons u l 0 31] at h
  rw [h]
  simp [psum]
theorem kn_primeK (u : UInt8) : kn (primeK u) = u.toNat + 57896044618658097711785492504343953926634992332820282019728792003956564819712 := by
  have h : 256 * psum primeR 0 31 = 57896044618658097711785492504343953926634992332820282019728792003956564819712 := by decide +kernel
  rw [primeK_eq, kn_cons, h]
theorem kn_prime (n : UInt8) (h : n.toNat ≤ 237) : kn (primeK (UInt8.ofNat (237 - n.toNat))) = P - n.toNat := by
  rw [kn_primeK, UInt8.toNat_ofNat']
  unfold P
  omega
theorem prime0 (W : World) : ∃ K : List UInt8, K.length = 32 ∧ kn K = P ∧ ∀ W, Calls Try.prog 13 #[.int .u8 0] W fun e w' => e = .returned (.agg (K.map byt).toArray) ∧ Below W.heap.size W w' :=
  ⟨_, primeK_length _, kn_prime 0 (by decide), fun W => prime_any 0 (by decide) W⟩
theorem prime1 (W : World) : ∃ K : List UInt8, K.length = 32 ∧ kn K = P - 1 ∧ ∀ W, Calls Try.prog 13 #[.int .u8 1] W fun e w' => e = .returned (.agg (K.map byt).toArray) ∧ Below W.heap.size W w' :=
  ⟨_, primeK_length _, kn_prime 1 (by decide), fun W => prime_any 1 (by decide) W⟩
end Go.Proofs.Ytnakeieeopbeiaa
