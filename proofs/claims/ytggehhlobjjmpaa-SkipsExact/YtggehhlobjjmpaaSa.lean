import Derived.Test.YtggehhlobjjmpaaHa
import Derived.Test.YtggehhlobjjmpaaOy
import Derived.Laws.StructEq
import Derived.ChangeKeysEq
import Derived.Great.BuildSlice
set_option linter.unusedVariables false
set_option linter.unusedSimpArgs false
namespace Go.Proofs.Ytggehhlobjjmpaa
open Go.RowKit

def z32 : List UInt8 := List.replicate 32 0
theorem z32l : z32.length = 32 := rfl
/-- A key as a value. -/
def kv (K : List UInt8) : Value := .agg (K.map byt).toArray
def u32v (n : Nat) : Value := .int .u32 (n : Int)
/-- A skipped key: its place and its bytes. -/
structure Sk where
  t : Nat
  n : Nat
  k : List UInt8
structure Sk.ok (s : Sk) : Prop where
  t : s.t < 4294967296
  n : s.n < 4294967296
  k : s.k.length = 32
instance : DecidableEq Sk := fun a b => decidable_of_iff (a.t = b.t ∧ a.n = b.n ∧ a.k = b.k) (by cases a; cases b; simp)
instance : Inhabited Sk := ⟨⟨0, 0, z32⟩⟩
def Sk.cs (s : Sk) : List Value := [u32v s.t] ++ ([u32v s.n] ++ s.k.map byt)
def Sk.v (s : Sk) : Value := .agg s.cs.toArray
theorem Sk.len {s : Sk} (k : s.ok) : s.cs.length = 34 := by simp [Sk.cs, k.k]
def Sk.z : Sk := ⟨0, 0, z32⟩
theorem Sk.z_ok : Sk.z.ok := ⟨by decide, by decide, rfl⟩
theorem byts_one (K : List UInt8) : (K.map byt).toArray.all (·.oneCell') = true := by
  rw [List.all_toArray, List.all_eq_true]
  exact byt_one K
theorem Sk.one (s : Sk) : s.cs.toArray.all (·.oneCell') = true := by
  rw [List.all_toArray, List.all_eq_true]
  intro v hv
  simp only [Sk.cs, List.mem_append, List.mem_singleton] at hv
  rcases hv with rfl | rfl | hv
  · rfl
  · rfl
  · exact byt_one s.k v hv
theorem u29 : Try.prog.underlying 29 = some (.array 32 5) := by kernel_rfl
theorem i29 {K : List UInt8} (h : K.length = 32) : (Try.prog.info? 29).map (·.size) = some (K.map byt).length := by rw [List.length_map, h]; kernel_rfl
theorem i39 {s : Sk} (h : s.ok) : (Try.prog.info? 39).map (·.size) = some s.cs.length := by rw [Sk.len h]; kernel_rfl
section
variable {w : World} {q o : Nat} {cs a m b : List Value} {t : TypeId}
theorem Blk.range (hb : Blk w q cs t) (hc : cs = a ++ (m ++ b)) (ho : a.length = o) : w.rangeAt q o m := fun j v hj => by
  have hl := (List.getElem?_eq_some_iff.1 hj).1
  rw [hb.cell, hc, List.getElem?_append_right (by omega), ho, Nat.add_sub_cancel_left, List.getElem?_append_left hl]
  exact hj
theorem Blk.ldA (hb : Blk w q cs t) {ty : TypeId} {d : TypeDesc} (hu : Try.prog.underlying ty = some d) (hd : d.isRow = true) (hi : (Try.prog.info? ty).map (·.size) = some m.length) (hc : cs = a ++ (m ++ b)) (ho : a.length = o) : (Instr.loadAt ty (.pointer (some ⟨q, o, none⟩))).run Try.prog w = .ok (.agg m.toArray) w :=
  run_loadAt_mid w q o ty m d (hb.range hc ho) hu hd hi
theorem Blk.stA (hb : Blk w q cs t) {ty : TypeId} {vs : List Value} (hi : (Try.prog.info? ty).map (·.size) = some vs.length) (h1 : vs.toArray.all (·.oneCell') = true) (hc : cs = a ++ (m ++ b)) (ho : a.length = o) (hm : m.length = vs.length) : ∃ w', (Instr.storeAt ty (.pointer (some ⟨q, o, none⟩)) (.agg vs.toArray)).run Try.prog w = .ok () w' ∧ Blk w' q (a ++ (vs ++ b)) t ∧ Fx (fun k => k = q) w w' := by
  have hl : o + vs.length ≤ cs.length := by rw [hc, List.length_append, List.length_append]; omega
  refine ⟨_, run_storeAt_mid w q o ty vs.toArray (fun j hj => ⟨?_, hb.frozen _⟩) (by rw [List.size_toArray]; exact hi) h1, ?_, Fx.setCells (S := fun k => k = q) q rfl _ _ _⟩
  · rw [List.size_toArray] at hj
    rw [hb.cell, List.getElem?_eq_getElem (by omega)]; rfl
  · have := Blk.setCells vs o w cs hb hl
    have e : cs.take o ++ vs ++ cs.drop (o + vs.length) = a ++ (vs ++ b) := by
      rw [hc, ← ho, List.take_left, ← hm, ← List.drop_drop, List.drop_left, List.drop_left, List.append_assoc]
    rw [e] at this
    exact this
theorem Blk.st1 (hb : Blk w q cs t) {x : Value} (hc : cs = a ++ ([x] ++ b)) (ho : a.length = o) (v : Value) : Blk (w.setCell ⟨q, o, none⟩ v) q (a ++ ([v] ++ b)) t := by
  have := hb.set o v
  rw [hc] at this
  rw [List.set_append_right _ _ (by omega), ho, Nat.sub_self] at this
  exact this
theorem Blk.at1 (hb : Blk w q cs t) {x : Value} (hc : cs = a ++ ([x] ++ b)) (ho : a.length = o) : w.cell? ⟨q, o, none⟩ = some x := by
  rw [hb.cell, hc, List.getElem?_append_right (by omega), ho, Nat.sub_self]; rfl
theorem Blk.ldU (hb : Blk w q cs t) {n : Nat} (hc : cs = a ++ ([u32v n] ++ b)) (ho : a.length = o) : (Instr.loadAt 31 (.pointer (some ⟨q, o, none⟩))).run Try.prog w = .ok (u32v n) w := by
  have h := hb.at1 hc ho
  unfold u32v at *
  go_simp
theorem Blk.stU (hb : Blk w q cs t) {x : Value} (hc : cs = a ++ ([x] ++ b)) (ho : a.length = o) (n : Nat) : ∃ w', (Instr.storeAt 31 (.pointer (some ⟨q, o, none⟩)) (u32v n)).run Try.prog w = .ok () w' ∧ Blk w' q (a ++ ([u32v n] ++ b)) t ∧ Fx (fun k => k = q) w w' := by
  have h := hb.at1 hc ho
  have hf := hb.frozen o
  refine ⟨w.setCell ⟨q, o, none⟩ (u32v n), ?_, hb.st1 hc ho _, Fx.setCell (S := fun k => k = q) _ _ _ _ rfl⟩
  unfold u32v
  go_simp
theorem Blk.stI3 (hb : Blk w q cs t) {x : Value} (hc : cs = a ++ ([x] ++ b)) (ho : a.length = o) (n : Int) : ∃ w', (Instr.storeAt 3 (.pointer (some ⟨q, o, none⟩)) (.int .i64 n)).run Try.prog w = .ok () w' ∧ Blk w' q (a ++ ([.int .i64 n] ++ b)) t ∧ Fx (fun k => k = q) w w' := by
  have h := hb.at1 hc ho
  have hf := hb.frozen o
  refine ⟨w.setCell ⟨q, o, none⟩ (.int .i64 n), ?_, hb.st1 hc ho _, Fx.setCell (S := fun k => k = q) _ _ _ _ rfl⟩
  go_simp
end
theorem byts_at (L : List UInt8) (i : Nat) (h : i < L.length) : (L.map byt)[i]? = some (.int .u8 ((L.getD i 0).toNat : Int)) := by
  simp [List.getElem?_eq_getElem h, byt]
theorem run_part (L : List UInt8) (i : Nat) (h : i < L.length) (W : World) : (part 5 (L.map byt).toArray (i * 1)).run Try.prog W = .ok (.int .u8 ((L.getD i 0).toNat : Int)) W := by
  have h1 : (L.map byt).toArray[i]? = some (.int .u8 ((L.getD i 0).toNat : Int)) := by rw [List.getElem?_toArray, byts_at L i h]
  simp only [part, Sem.run_bind, Try.isAgg5, Result.andThen_ok, Nat.mul_one, h1]
  simp
theorem eqItems_is (L M : List UInt8) (d : Nat) (W : World) : ∀ (is : List Nat), (∀ i ∈ is, i < L.length ∧ i < M.length) →
    (Op.eqItems (d + 1) 5 1 (L.map byt).toArray (M.map byt).toArray is).run Try.prog W = .ok (is.all fun i => L.getD i 0 == M.getD i 0) W
  | [], _ => by simp [Op.eqItems]
  | i :: is, h => by
    obtain ⟨h1, h2⟩ := h i (by simp)
    have he := run_equalIn_int (P := Try.prog) W d 5 .u8 .u8 ((L.getD i 0).toNat : Int) ((M.getD i 0).toNat : Int) Try.underlying5
    have ih := eqItems_is L M d W is (fun j hj => h j (by simp [hj]))
    simp only [Op.eqItems, Sem.run_bind, run_part L i h1 W, run_part M i h2 W, he, Result.andThen_ok, List.all_cons]
    generalize (is.all fun i => L.getD i 0 == M.getD i 0) = r at ih ⊢
    generalize L.getD i 0 = x
    generalize M.getD i 0 = y
    by_cases hq : x = y
    · subst hq
      simp
      exact ih
    · have : (x.toNat : Int) ≠ (y.toNat : Int) := by
        intro hh
        exact hq (UInt8.toNat_inj.1 (by omega))
      simp [hq, this]
theorem getD_ext {L M : List UInt8} {n : Nat} (h1 : L.length = n) (h2 : M.length = n) (h : ∀ i, i < n → L.getD i 0 = M.getD i 0) : L = M := by
  apply List.ext_getElem (by omega)
  intro i hi hi'
  have := h i (by omega)
  rw [List.getD_eq_getElem?_getD, List.getD_eq_getElem?_getD, List.getElem?_eq_getElem hi, List.getElem?_eq_getElem hi'] at this
  simpa using this
theorem arrD (ty : TypeId) (n : Nat) (hu : Try.prog.underlying ty = some (.array n 5)) (L M : List UInt8) (h1 : L.length = n) (h2 : M.length = n) (d : Nat) (W : World) : (Op.equalIn (d + 2) ty (.agg (L.map byt).toArray) (.agg (M.map byt).toArray)).run Try.prog W = .ok (decide (L = M)) W := by
  obtain ⟨i0, hi, _⟩ := info_parts Try.info5
  rw [run_equalIn_array W (d + 1) (L.map byt).toArray (M.map byt).toArray hu hi]
  have hc : Try.prog.cellsOf 5 = 1 := by kernel_rfl
  have key : ((List.range n).all fun i => L.getD i 0 == M.getD i 0) = decide (L = M) := by
    by_cases hq : L = M
    · subst hq
      simp
    · rw [decide_eq_false hq, List.all_eq_false]
      refine Classical.byContradiction fun hn => hq (getD_ext h1 h2 fun i hi => ?_)
      refine Classical.byContradiction fun hne => hn ⟨i, List.mem_range.2 hi, ?_⟩
      simpa using hne
  rw [hc, eqItems_is L M d W _ (fun i hi => by have := List.mem_range.1 hi; omega), key]
theorem eqF_nil (d : Nat) (xs ys : Array Value) (W : World) : (Op.eqFields d xs ys []).run Try.prog W = .ok true W := rfl
theorem eqF_cons {d : Nat} {xs ys : Array Value} {f : Field} {fs : List Field} {W : World} {a b : Value} {r r' : Bool} (hn : f.name ≠ "_") (ha : (part f.type xs f.offset).run Try.prog W = .ok a W) (hb : (part f.type ys f.offset).run Try.prog W = .ok b W) (he : (Op.equalIn d f.type a b).run Try.prog W = .ok r W) (ht : (Op.eqFields d xs ys fs).run Try.prog W = .ok r' W) : (Op.eqFields d xs ys (f :: fs)).run Try.prog W = .ok (r && r') W := by
  simp only [Op.eqFields, hn, ne_eq, not_false_eq_true, if_true, Sem.run_bind, ha, hb, he, Result.andThen_ok]
  cases r
  · simp
  · simp [ht]
theorem part_row {ty : TypeId} {cs a m b : List Value} {o : Nat} (hg : ∀ w, (isAgg ty).run Try.prog w = .ok true w) (hs : ∀ w, (sizeOf ty).run Try.prog w = .ok m.length w) (hc : cs = a ++ (m ++ b)) (ho : a.length = o) (W : World) : (part ty cs.toArray o).run Try.prog W = .ok (.agg m.toArray) W := by
  have e : cs.toArray.extract o (o + m.length) = m.toArray := by
    rw [hc, List.extract_toArray, List.extract_eq_take_drop, ← ho, List.drop_left, Nat.add_sub_cancel_left, List.take_left]
  simp only [part, Sem.run_bind, hg, Result.andThen_ok, if_true, hs, e, Sem.run_pure]
theorem part_one {ty : TypeId} {cs a b : List Value} {x : Value} {o : Nat} (hg : ∀ w, (isAgg ty).run Try.prog w = .ok false w) (hc : cs = a ++ ([x] ++ b)) (ho : a.length = o) (W : World) : (part ty cs.toArray o).run Try.prog W = .ok x W := by
  have e : cs.toArray[o]? = some x := by
    rw [List.getElem?_toArray, hc, List.getElem?_append_right (by omega), ho, Nat.sub_self]; rfl
  simp only [part, Sem.run_bind, hg, Result.andThen_ok, Bool.false_eq_true, if_false, e, Sem.run_pure]
theorem eqU (d n m : Nat) (W : World) : (Op.equalIn (d + 1) 31 (u32v n) (u32v m)).run Try.prog W = .ok (decide (n = m)) W := by
  unfold u32v
  rw [run_equalIn_int (P := Try.prog) W d 31 .u32 .u32 (n : Int) (m : Int) Try.underlying31]
  have key : ((n : Int) == (m : Int)) = decide (n = m) := by
    by_cases h : n = m
    · simp [h]
    · have : (n : Int) ≠ (m : Int) := by omega
      simp [h, this]
  rw [key]
theorem sz29 {K : List UInt8} (h : K.length = 32) : ∀ w, (sizeOf 29).run Try.prog w = .ok (K.map byt).length w := fun w => by rw [List.length_map, h]; exact Try.sizeOf29 w
theorem eqSk (g h : Sk) (kg : g.ok) (kh : h.ok) (W : World) : (Op.equalIn 10000 39 g.v h.v).run Try.prog W = .ok (decide (g = h)) W := by
  unfold Sk.v
  rw [run_equalIn_struct W 9999 39 _ _ (by kernel_rfl) (by kernel_rfl)]
  simp only [Program.fieldsOf, Try.underlying39]
  have e : decide (g = h) = (decide (g.t = h.t) && (decide (g.n = h.n) && (decide (g.k = h.k) && true))) := by
    rw [Bool.and_true, ← Bool.decide_and, ← Bool.decide_and]
    apply decide_eq_decide.2
    cases g; cases h; simp
  rw [e]
  refine eqF_cons (by decide) (part_one (a := []) Try.isAgg31 rfl rfl W) (part_one (a := []) Try.isAgg31 rfl rfl W) (eqU 9998 _ _ W) ?_
  refine eqF_cons (by decide) (part_one (a := [u32v g.t]) Try.isAgg31 rfl rfl W) (part_one (a := [u32v h.t]) Try.isAgg31 rfl rfl W) (eqU 9998 _ _ W) ?_
  refine eqF_cons (by decide) (part_row (a := [u32v g.t] ++ [u32v g.n]) (b := []) Try.isAgg29 (sz29 kg.k) (by simp [Sk.cs]) rfl W) (part_row (a := [u32v h.t] ++ [u32v h.n]) (b := []) Try.isAgg29 (sz29 kh.k) (by simp [Sk.cs]) rfl W) (arrD 29 32 u29 _ _ kg.k kh.k 9997 W) ?_
  exact eqF_nil _ _ _ _
/-- A place as a value. -/
def plV (t n : Nat) : Value := .agg [u32v t, u32v n].toArray
theorem eqPl (a b c d : Nat) (W : World) : (Op.equalIn 10000 63 (plV a b) (plV c d)).run Try.prog W = .ok (decide (a = c ∧ b = d)) W := by
  unfold plV
  rw [run_equalIn_struct W 9999 63 _ _ (by kernel_rfl) (by kernel_rfl)]
  simp only [Program.fieldsOf, Try.underlying63]
  have e : decide (a = c ∧ b = d) = (decide (a = c) && (decide (b = d) && true)) := by
    rw [Bool.and_true, ← Bool.decide_and]
  rw [e]
  refine eqF_cons (by decide) (part_one (a := []) Try.isAgg31 rfl rfl W) (part_one (a := []) Try.isAgg31 rfl rfl W) (eqU 9998 _ _ W) ?_
  refine eqF_cons (by decide) (part_one (a := [u32v a]) Try.isAgg31 rfl rfl W) (part_one (a := [u32v c]) Try.isAgg31 rfl rfl W) (eqU 9998 _ _ W) ?_
  exact eqF_nil _ _ _ _
theorem neq39 (g h : Sk) (kg : g.ok) (kh : h.ok) (W : World) (x y : Operand) : (do eqGuard .neq 39 x y g.v h.v; binOp .neq 39 g.v h.v : Sem Value).run Try.prog W = .ok (.bool (decide (¬ g = h))) W := by
  have he := eqSk g h kg kh W
  have hg : Try.prog.eqGuardType Try.prog.depth 39 = false := by kernel_rfl
  unfold Sk.v at *
  rw [Sem.run_bind, run_eqGuard_agg W .neq 39 x y _ _ hg, Result.andThen_ok, run_neq_struct, he, Result.andThen_ok]
  rw [decide_not]
theorem eql29 (K L : List UInt8) (hk : K.length = 32) (hl : L.length = 32) (W : World) (x y : Operand) : (do eqGuard .eql 29 x y (kv K) (kv L); binOp .eql 29 (kv K) (kv L) : Sem Value).run Try.prog W = .ok (.bool (decide (K = L))) W := by
  have he := arrD 29 32 u29 K L hk hl 9998 W
  have hg : Try.prog.eqGuardType Try.prog.depth 29 = false := by kernel_rfl
  unfold kv
  rw [Sem.run_bind, run_eqGuard_agg W .eql 29 x y _ _ hg, Result.andThen_ok, run_eql_struct, he, Result.andThen_ok]
theorem neq29 (K L : List UInt8) (hk : K.length = 32) (hl : L.length = 32) (W : World) (x y : Operand) : (do eqGuard .neq 29 x y (kv K) (kv L); binOp .neq 29 (kv K) (kv L) : Sem Value).run Try.prog W = .ok (.bool (decide (¬ K = L))) W := by
  have he := arrD 29 32 u29 K L hk hl 9998 W
  have hg : Try.prog.eqGuardType Try.prog.depth 29 = false := by kernel_rfl
  unfold kv
  rw [Sem.run_bind, run_eqGuard_agg W .neq 29 x y _ _ hg, Result.andThen_ok, run_neq_struct, he, Result.andThen_ok]
  rw [decide_not]
theorem eqlU (n m : Nat) (W : World) (x y : Operand) : (do eqGuard .eql 31 x y (u32v n) (u32v m); binOp .eql 31 (u32v n) (u32v m) : Sem Value).run Try.prog W = .ok (.bool (decide (n = m))) W := by
  unfold u32v
  go_simp
  by_cases h : n = m
  · subst h; simp
  · have : (n : Int) ≠ (m : Int) := by omega
    simp [h, this]
theorem lssU (n m : Nat) (W : World) (x y : Operand) : (do eqGuard .lss 31 x y (u32v n) (u32v m); binOp .lss 31 (u32v n) (u32v m) : Sem Value).run Try.prog W = .ok (.bool (decide (n < m))) W := by
  unfold u32v
  go_simp
theorem gtrU (n m : Nat) (W : World) (x y : Operand) : (do eqGuard .gtr 31 x y (u32v n) (u32v m); binOp .gtr 31 (u32v n) (u32v m) : Sem Value).run Try.prog W = .ok (.bool (decide (m < n))) W := by
  unfold u32v
  go_simp
theorem neqU (n m : Nat) (W : World) (x y : Operand) : (do eqGuard .neq 31 x y (u32v n) (u32v m); binOp .neq 31 (u32v n) (u32v m) : Sem Value).run Try.prog W = .ok (.bool (decide (¬ n = m))) W := by
  unfold u32v
  go_simp
  by_cases h : n = m
  · subst h; simp
  · have : (n : Int) ≠ (m : Int) := by omega
    simp [h, this]
theorem addU (a b : Nat) (h : a + b < 4294967296) (W : World) (x y : Operand) : (do eqGuard .add 31 x y (u32v a) (u32v b); binOp .add 31 (u32v a) (u32v b) : Sem Value).run Try.prog W = .ok (u32v (a + b)) W := by
  have e : IntKind.u32.wrap ((a : Int) + (b : Int)) = ((a + b : Nat) : Int) := by
    simp [IntKind.wrap, IntKind.bits, IntKind.signed]; omega
  unfold u32v
  go_simp
theorem cvU (i : Nat) (h : i < 4294967296) (W : World) : (Go.convert 3 31 (.int .i64 (i : Int))).run Try.prog W = .ok (u32v i) W := by
  have e : IntKind.u32.wrap (i : Int) = (i : Int) := by
    simp [IntKind.wrap, IntKind.bits, IntKind.signed]; omega
  unfold u32v
  go_simp
theorem f39_0 (ad : Addr) (W : World) : (Instr.fieldAt 39 (.pointer (some ad)) 0).run Try.prog W = .ok (.pointer (some (ad.add 0))) W := by go_simp
theorem f39_1 (ad : Addr) (W : World) : (Instr.fieldAt 39 (.pointer (some ad)) 1).run Try.prog W = .ok (.pointer (some (ad.add 1))) W := by go_simp
theorem f39_2 (ad : Addr) (W : World) : (Instr.fieldAt 39 (.pointer (some ad)) 2).run Try.prog W = .ok (.pointer (some (ad.add 2))) W := by go_simp
theorem f63_0 (ad : Addr) (W : World) : (Instr.fieldAt 63 (.pointer (some ad)) 0).run Try.prog W = .ok (.pointer (some (ad.add 0))) W := by go_simp
theorem f63_1 (ad : Addr) (W : World) : (Instr.fieldAt 63 (.pointer (some ad)) 1).run Try.prog W = .ok (.pointer (some (ad.add 1))) W := by go_simp
theorem f59_0 (ad : Addr) (W : World) : (Instr.fieldAt 59 (.pointer (some ad)) 0).run Try.prog W = .ok (.pointer (some (ad.add 0))) W := by go_simp
theorem f59_1 (ad : Addr) (W : World) : (Instr.fieldAt 59 (.pointer (some ad)) 1).run Try.prog W = .ok (.pointer (some (ad.add 1))) W := by go_simp
theorem f68_0 (ad : Addr) (W : World) : (Instr.fieldAt 68 (.pointer (some ad)) 0).run Try.prog W = .ok (.pointer (some (ad.add 0))) W := by go_simp
theorem f68_1 (ad : Addr) (W : World) : (Instr.fieldAt 68 (.pointer (some ad)) 1).run Try.prog W = .ok (.pointer (some (ad.add 1))) W := by go_simp
theorem len22 (ao : Option Addr) (n c : Nat) (W : World) (ty : TypeId) : (Builtin.len_ #[22] ty #[.slice ao n c]).run Try.prog W = .ok (.int .i64 (n : Int)) W := by go_simp
theorem len36 (ao : Option Addr) (n c : Nat) (W : World) (ty : TypeId) : (Builtin.len_ #[36] ty #[.slice ao n c]).run Try.prog W = .ok (.int .i64 (n : Int)) W := by go_simp
theorem idx22 (ad : Addr) (n cap m : Nat) (h : m < n) (W : World) : (Instr.indexAt 22 (.slice (some ad) n cap) (.int .i64 (m : Int))).run Try.prog W = .ok (.pointer (some (ad.add (m * 32)))) W := by
  have hm : (m : Int) < (n : Int) := by omega
  go_simp
theorem idx36 (ad : Addr) (n cap m : Nat) (h : m < n) (W : World) : (Instr.indexAt 36 (.slice (some ad) n cap) (.int .i64 (m : Int))).run Try.prog W = .ok (.pointer (some (ad.add (m * 34)))) W := by
  have hm : (m : Int) < (n : Int) := by omega
  go_simp
end Go.Proofs.Ytggehhlobjjmpaa
