import Derived.Test.YtnfikgnploockaaDoorCards
import Derived.Test.YtnfikgnploockaaDoorTie
import Derived.WalkKit
import Derived.ProofKit
import Derived.OpenShut
import Derived.ChangeOld
import Derived.Below
import Derived.SizedLaws
import Derived.Deep.DeepHandedRow
import Derived.Lib.LaidTab
import Derived.Test.YtnfikgnploockaaDoorRowK
import Derived.Test.YtnfikgnploockaaDoorSk
set_option linter.unusedVariables false
set_option linter.unusedSimpArgs false
namespace Go.Proofs.YtnfikgnploockaaDoor.safetySame
open Go.ChangeShapes Go.WideShapes Go.ChangeAt Go.RowKit

theorem consts {W : World} (h : laidMetH Tryd.prog Rows.safetySameRow.laid W) : Lst W := Row.consts4 (Rows.safetySameRow.named.getD 2 default) (Rows.safetySameRow.named.getD 3 default) (Rows.safetySameRow.named.getD 1 default) (Rows.safetySameRow.named.getD 0 default) (by kernel_rfl) (by kernel_rfl) (by kernel_rfl) h

set_option maxRecDepth 100000 in
theorem contract (H : Type) (enc : TypeId × Value → H) (W : World) (base : Nat) (args : Array Value) (ds gs : List (DataW H)) (before : List MemPlace)
    (hval : ∀ (j : Nat) t v, Tryd.f5.params[j]? = some t → args[j]? = some v → Value.okWide Tryd.prog W .any base t v)
    (hW : DataW.Whole enc Tryd.prog Tryd.f5.params.toList Rows.safetySameSpec.vars false W args.toList ds gs before) (hL : laidMetH Tryd.prog Rows.safetySameRow.laid W) :
    Calls Tryd.prog 5 args W fun e W' => ∃ v, e = .returned v ∧ Rows.safetySameSpec.post enc Tryd.prog Tryd.f5 false true false false W args v W' := by
  have hW' := hW
  obtain ⟨p, q, hA0, hV, rfl, hfz, hnd⟩ := hW
  have hA : DataW.TrodAll enc Tryd.prog W 0 (fun _ => true) true Tryd.f5.params.toList args.toList ds p := hA0
  rw [Tryd.params5] at hA hval
  obtain ⟨v0, vs0, d0, ds0, p0, q0, hargs, rfl, rfl, h0, r0⟩ := trodAll_cons hA
  obtain ⟨v1, vs1, d1, ds1, p1, q1, rfl, rfl, rfl, h1, r1⟩ := trodAll_cons r0
  obtain ⟨v2, vs2, d2, ds2, p2, q2, rfl, rfl, rfl, h2, r2⟩ := trodAll_cons r1
  obtain ⟨v3, vs3, d3, ds3, p3, q3, rfl, rfl, rfl, h3, r3⟩ := trodAll_cons r2
  obtain ⟨rfl, rfl, rfl⟩ := trodAll_nil r3
  obtain rfl : args = #[v0, v1, v2, v3] := by cases args; simp_all
  obtain ⟨rfl, rfl⟩ := trodVars_none hV
  have lt0 : ∀ x ∈ p0, x.block < W.heap.size := by obtain ⟨m, hm⟩ := h0; exact DataW.trod_lt m _ _ _ hm
  have lt1 : ∀ x ∈ p1, x.block < W.heap.size := by obtain ⟨m, hm⟩ := h1; exact DataW.trod_lt m _ _ _ hm
  have lt2 : ∀ x ∈ p2, x.block < W.heap.size := by obtain ⟨m, hm⟩ := h2; exact DataW.trod_lt m _ _ _ hm
  have lt3 : ∀ x ∈ p3, x.block < W.heap.size := by obtain ⟨m, hm⟩ := h3; exact DataW.trod_lt m _ _ _ hm
  obtain ⟨k0, rfl⟩ := Row.str_of (hval 0 9 v0 rfl rfl) h0
  obtain ⟨k1, l1, rfl⟩ := Row.key_of (hval 1 23 v1 rfl rfl) h1
  obtain ⟨k2, rfl⟩ := Row.str_of (hval 2 9 v2 rfl rfl) h2
  obtain ⟨k3, l3, rfl⟩ := Row.key_of (hval 3 23 v3 rfl rfl) h3
  clear hA0 hval
  refine (same_any k0 k1 k2 k3 l1 l3 W (consts hL)).mono fun e W' ⟨he, bel⟩ => ?_
  subst he
  exact ⟨_, rfl, _, _, _, [], _, [], hW', trodAll_mk1 (shut_bool Tryd.underlying4 _), (trodAll_cons_mk (Below.trod Row.laidOut (by kernel_rfl) (of_decide_eq_true (by kernel_rfl)) h0 bel lt0) (trodAll_cons_mk (Below.trod Row.laidOut (by kernel_rfl) (of_decide_eq_true (by kernel_rfl)) h1 bel lt1) (trodAll_cons_mk (Below.trod Row.laidOut (by kernel_rfl) (of_decide_eq_true (by kernel_rfl)) h2 bel lt2) (trodAll_cons_mk (Below.trod Row.laidOut (by kernel_rfl) (of_decide_eq_true (by kernel_rfl)) h3 bel lt3) trodAll_mk0)))), rfl, bel.frame _, fun h => by cases h⟩

theorem laid_met (os : Os) : laidMet Tryd.prog Rows.safetySameRow.laid (World.forCall ({ World.holding Tryd.prog os ⟨#[], #[], []⟩ with heap := (((((World.holding Tryd.prog os ⟨#[], #[], []⟩).heap).modify 0 fun | .cells _ t frozen => .cells (Kn.map (fun n : Nat => Value.int .u32 (n : Int))).toArray t frozen | o => o).modify 3 fun | .cells _ t frozen => .cells (Lib.pow10Tab.map (fun n : Int => Value.int .u64 n)).toArray t frozen | o => o).modify 5 fun | .cells _ t frozen => .cells (Row.db32.map byt).toArray t frozen | o => o).modify 6 fun | .cells _ t frozen => .cells (Row.db64.map byt).toArray t frozen | o => o }) (fun _ _ => 0) ⟨#[], #[.string ⟨#[]⟩, .agg (z32.map byt).toArray, .string ⟨#[]⟩, .agg (z32.map byt).toArray], []⟩).memory :=
  laidMet_of_run' 8 (by kernel_rfl) (by kernel_rfl)
theorem reads (os : Os) {H : Type} (enc : TypeId × Value → H) : ∃ places, DataW.whole enc Tryd.prog (World.forCall ({ World.holding Tryd.prog os ⟨#[], #[], []⟩ with heap := (((((World.holding Tryd.prog os ⟨#[], #[], []⟩).heap).modify 0 fun | .cells _ t frozen => .cells (Kn.map (fun n : Nat => Value.int .u32 (n : Int))).toArray t frozen | o => o).modify 3 fun | .cells _ t frozen => .cells (Lib.pow10Tab.map (fun n : Int => Value.int .u64 n)).toArray t frozen | o => o).modify 5 fun | .cells _ t frozen => .cells (Row.db32.map byt).toArray t frozen | o => o).modify 6 fun | .cells _ t frozen => .cells (Row.db64.map byt).toArray t frozen | o => o }) (fun _ _ => 0) ⟨#[], #[.string ⟨#[]⟩, .agg (z32.map byt).toArray, .string ⟨#[]⟩, .agg (z32.map byt).toArray], []⟩).memory Tryd.f5.params.toList Rows.safetySameSpec.vars false #[Value.string ⟨#[]⟩, .agg (z32.map byt).toArray, .string ⟨#[]⟩, .agg (z32.map byt).toArray].toList 8 = some ([.lit (.string []), .agg (List.replicate 32 (.lit (.int .u8 0))), .lit (.string []), .agg (List.replicate 32 (.lit (.int .u8 0)))], [], places) :=
  ⟨[], by kernel_rfl⟩

set_option maxRecDepth 100000 in
theorem lifted (os : Os) (started : os.Started) (H : Type) (enc : TypeId × Value → H) (F : Stop.Interp) :
    ReturnsInHanded {} Tryd.checked os 5 .any ((OpenSpec.ofChange Rows.safetySameSpec).preRow enc Tryd.prog Tryd.f5 Rows.safetySameRow.domain false Rows.safetySameRow.laid) (((OpenSpec.ofChange Rows.safetySameSpec).at F).post enc Tryd.prog Tryd.f5 false true false false) := by
  obtain ⟨places, hx⟩ := reads os enc
  refine returnsInHanded_of_row (C := Tryd.checked) (s := OpenSpec.ofChange Rows.safetySameSpec) Row.own started (by kernel_rfl) Tryd.func5
    (witness_row_at (enc := enc) (C := Tryd.checked) false ({ World.holding Tryd.prog os ⟨#[], #[], []⟩ with heap := (((((World.holding Tryd.prog os ⟨#[], #[], []⟩).heap).modify 0 fun | .cells _ t frozen => .cells (Kn.map (fun n : Nat => Value.int .u32 (n : Int))).toArray t frozen | o => o).modify 3 fun | .cells _ t frozen => .cells (Lib.pow10Tab.map (fun n : Int => Value.int .u64 n)).toArray t frozen | o => o).modify 5 fun | .cells _ t frozen => .cells (Row.db32.map byt).toArray t frozen | o => o).modify 6 fun | .cells _ t frozen => .cells (Row.db64.map byt).toArray t frozen | o => o }) #[.string ⟨#[]⟩, .agg (z32.map byt).toArray, .string ⟨#[]⟩, .agg (z32.map byt).toArray] rfl (by kernel_rfl) (by kernel_rfl) (by kernel_rfl)
      (OpenSpec.preRow_of_cond 8 hx (by kernel_rfl) (fun k hk => by cases hk) (by kernel_rfl) (laid_met os))) ?_
  intro W base args ds gs before hval hW _ _ _ hL _ _
  exact contract H enc W base args ds gs before hval hW hL

theorem said : Rows.SafetySameSaid :=
  OpenClaim.holds_of_cond 5 Tryd.f5 rfl rfl rfl rfl rfl rfl rfl ⟨rfl, rfl, rfl, rfl, rfl⟩ rfl rfl rfl rfl rfl (by kernel_rfl) Tryd.func5 (by kernel_rfl)
    (of_decide_eq_true (by kernel_rfl)) (by unfold Func.isWrapper; first | (rw [if_pos (by decide +kernel)]; kernel_rfl) | (rw [if_neg (by decide +kernel)]; exact ⟨rfl, rfl⟩))
    (fun os started H enc _ F => by rw [OpenClaim.pre_eq_preRow]; exact lifted os started H enc F)

theorem plain (f : FuncId) (fn : Func) (hf : Tryd.pinned.checked.prog.funcNamed Rows.safetySameRow.func = some f) (hfn : Tryd.pinned.checked.prog.funcs[f]? = some fn) :
    false = Tryd.pinned.checked.prog.looks [] ∧ ∀ (j : Nat) t, fn.params[j]? = some t → Tryd.pinned.checked.prog.wantsStandIn t = false := by
  obtain rfl : f = 5 := Option.some.inj ((show Tryd.prog.funcNamed Rows.safetySameRow.func = some 5 by kernel_rfl).symm.trans hf) |>.symm
  obtain rfl : fn = Tryd.f5 := (Option.some.inj (Tryd.func5.symm.trans hfn)).symm
  refine ⟨by kernel_rfl, fun j t ht => ?_⟩
  rw [Tryd.params5] at ht
  have ht' := Array.mem_of_getElem? ht
  obtain rfl | rfl : t = 9 ∨ t = 23 := by simp at ht'; rcases ht' with h | h | h | h <;> simp [h]
  · exact (show Tryd.prog.wantsStandIn 9 = false by kernel_rfl)
  · exact (show Tryd.prog.wantsStandIn 23 = false by kernel_rfl)

theorem card : Rows.SafetySameCardSaid :=
  Claim7.holds_tied_plain_at .later [] _ _ _ _ said (fun _ h => by cases h) (by kernel_rfl) (fun _ h => by cases h) safetySame_row_tie rfl ⟨rfl, rfl⟩ (by kernel_rfl) rfl plain (by kernel_rfl)
end Go.Proofs.YtnfikgnploockaaDoor.safetySame

namespace Go.Proofs.YtnfikgnploockaaDoor
theorem safetySame_holds : Rows.SafetySameCardSaid := safetySame.card
end Go.Proofs.YtnfikgnploockaaDoor
