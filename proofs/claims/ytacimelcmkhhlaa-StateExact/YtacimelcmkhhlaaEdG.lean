import Derived.Test.YtacimelcmkhhlaaJg
import Derived.Laws.Tables
import Derived.Test.YtacimelcmkhhlaaOz
import Derived.Recover
set_option linter.unusedVariables false
set_option linter.unusedSimpArgs false
namespace Go.Proofs.Ytacimelcmkhhlaa
open Go.RowKit

theorem fold_set : ∀ (vs : List Value) (off k : Nat) (cs : List Value), off + k + vs.length ≤ cs.length → (vs.zipIdx k).foldl (fun (cs : Array Value) (x : Value × Nat) => cs.setIfInBounds (off + x.2) x.1) cs.toArray = (cs.take (off + k) ++ vs ++ cs.drop (off + k + vs.length)).toArray
  | [], off, k, cs, _ => by simp
  | v :: r, off, k, cs, h => by
    rw [List.zipIdx_cons, List.foldl_cons]
    simp only [List.length_cons] at h
    have e : (cs.toArray.setIfInBounds (off + k) v) = (cs.set (off + k) v).toArray := by simp
    show (r.zipIdx (k + 1)).foldl _ (cs.toArray.setIfInBounds (off + k) v) = _
    rw [e, fold_set r off (k + 1) (cs.set (off + k) v) (by rw [List.length_set]; omega), ← Nat.add_assoc, splice_one cs (off + k) v r (by simp only [List.length_cons]; omega)]
theorem fill_one {place : Nat → Option (Nat × Nat)} {a m b vs : List Value} {i off n : Nat} {v : Value} {rest : List (Nat × Value)} (hp : place i = some (off, n)) (hv : v.cells = vs.toArray) (hn : vs.length = n) (hm : m.length = n) (ho : a.length = off) : Instr.fill place (a ++ (m ++ b)).toArray ((i, v) :: rest) = Instr.fill place (a ++ (vs ++ b)).toArray rest := by
  have h1 : ¬ (off + n > (a ++ (m ++ b)).length) := by simp; omega
  have hf := fold_set vs off 0 (a ++ (m ++ b)) (by simp; omega)
  have e : (a ++ (m ++ b)).take (off + 0) ++ vs ++ (a ++ (m ++ b)).drop (off + 0 + vs.length) = a ++ (vs ++ b) := by
    rw [Nat.add_zero, ← ho, List.take_left, hn, ← hm, ← List.drop_drop, List.drop_left, List.drop_left, List.append_assoc]
  rw [e] at hf
  have hz : v.cells.zipIdx.foldl (fun (cs : Array Value) (x : Value × Nat) => cs.setIfInBounds (off + x.2) x.1) (a ++ (m ++ b)).toArray = (a ++ (vs ++ b)).toArray := by
    rw [hv, ← hf, ← Array.foldl_toList]
    simp
  rw [Instr.fill, hp]
  simp only [hv, List.size_toArray, hn, h1, decide_false, ne_eq, not_true_eq_false, Bool.or_self, Bool.false_eq_true, if_false]
  rw [← hv]
  exact congrArg (fun x => Instr.fill place x rest) hz
theorem fill_nil (place : Nat → Option (Nat × Nat)) (cs : Array Value) : Instr.fill place cs [] = some cs := rfl
theorem built_of {t : TypeId} {fields : Array Field} {zs : List Value} {places : List (Nat × Nat)} (hz : (Try.prog.info? t).map (·.zero) = some (some (.agg zs.toArray))) (hu : Try.prog.underlying t = some (.struct fields)) (hp : fields.toList.mapM (fun f => (Try.prog.info? f.type).map fun i => (f.offset, i.size)) = some places) (parts : List (Nat × Value)) : Try.prog.built t parts = Instr.fill (places.toArray[·]?) zs.toArray parts := by
  cases hit : Try.prog.info? t with
  | none => simp [hit] at hz
  | some it =>
    simp [hit] at hz
    simp only [Program.built, hit, hu, hz, hp]
    rfl
theorem takeB {b : List UInt8} (h : b.length = 64) : (b.take 32).length = 32 := by rw [List.length_take, h]; rfl
/-- A function that defers is entered. -/
theorem calls_of_argsD {P : Program} {f : FuncId} {fn : Func} {c : Code} {w : World} {R : Ending → World → Prop} (l : List Value) (hf : P.funcs[f]? = some fn) (hb : fn.body = some c) (n : Nat) (hn : fn.ntmps = n) (hl : l.length ≤ n) (h : EW P ⟨n, []⟩ c (bodyPostD P fn R) (argE 0 l) w) : Calls P f l.toArray w R := by
  subst hn
  exact calls_of_wp_defers hf hb (h _ (frame_env fn.ntmps l.toArray (argE 0 l) (by simpa using hl) (argE_spec l)))
section
variable {P : Program} {n : Fm} {ops : Array Oper} {Q : Exit → Act → World → Prop} {e : List (Nat × Value)} {w : World} {ty : TypeId} {ps : String} {af : Array Edge} {gd : Option (Nat × Bool)} {r : List Oper}
theorem Env.defer {a : Act} (h : Env n a e) (d : Deferred) : Env ⟨n.k, d :: n.D⟩ ({ a with defers := d :: a.defers }.put none undef) e := ⟨by simp [Act.put, h.df], by simp [Act.put, h.sz], fun i v hi => by have := h.kn i v hi; simpa [Act.put] using this⟩
end
section
variable {P : Program} {n : Fm} {ops : Array Oper} {Q : Exit → Act → List Frame → World → Prop} {e : List (Nat × Value)} {cs : List Frame} {w : World} {ty : TypeId} {ps : String} {af : Array Edge} {gd : Option (Nat × Bool)} {l : List Nat} {j : Nat}
end
end Go.Proofs.Ytacimelcmkhhlaa
