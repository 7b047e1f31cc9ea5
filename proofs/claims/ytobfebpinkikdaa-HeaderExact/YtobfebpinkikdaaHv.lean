import Derived.Test.YtobfebpinkikdaaHu
import Derived.Lib.AppendZeros
set_option linter.unusedVariables false
set_option linter.unusedSimpArgs false
namespace Go.Proofs.Ytobfebpinkikdaa
open Go.RowKit

theorem zero_bytes (n : Nat) : (Builtin.zeroCells (Value.int .u8 0).cells n).toList = (List.replicate n (0 : UInt8)).map byt := by
  apply List.ext_getElem
  · simp [Builtin.zeroCells, Value.cells]
  · intro i h1 h2
    simp [Builtin.zeroCells, Value.cells, Nat.mod_one]
    rfl
/-- 'append(s, make([]byte, n)...)', s the call's own bytes. -/
theorem run_zeros (w : World) (base : Nat) (v : Value) (bs : List UInt8) (hown : Own w base v bs) (n : Nat) (hb : bs.length + n ≤ 1000000) (hbase : base ≤ w.heap.size) (ty : TypeId) :
    ∃ v' w', (Builtin.append_ #[31, 3] ty #[v, .int .i64 (n : Int)]).run Try.prog w = .ok v' w' ∧ Own w' base v' (bs ++ List.replicate n 0) ∧ w.grownBy w' v.ownBlock := by
  obtain ⟨i0, hi, hz0, hz1, hz2⟩ := info_parts Try.info5
  have hw : IntKind.i64.wrap (n : Int) = n := by rw [IntKind.wrap_i64]; omega
  have hneg : ¬ ((n : Int) < 0) := by omega
  have h48i : ¬ (281474976710656 < (n : Int) * (i0.bytes : Int)) := by rw [hz2]; omega
  have hge := grownCap_ge w
  have hown' := hown
  rcases Nat.eq_zero_or_pos n with rfl | hpos
  · have w0 : IntKind.i64.wrap 0 = 0 := by rw [IntKind.wrap_i64]; omega
    refine ⟨v, w, ?_, by simpa using hown, grown_refl _ _⟩
    obtain ⟨_, ⟨rfl, hz⟩ | ⟨g, cp, cur, rfl, hg, hh2, hn, hc, hs, ht⟩⟩ := hown'
    · simp [Builtin.append_, run_underlying Try.underlying31, run_underlying Try.underlying3, sizeOf, typeInfo, hi, asInt, asIntOf, w0]
    · simp [Builtin.append_, run_underlying Try.underlying31, run_underlying Try.underlying3, sizeOf, typeInfo, hi, asInt, asIntOf, w0, hn, storeCells]
  · have hn0 : n ≠ 0 := by omega
    have hns : ¬ (n * i0.size = 0) := by rw [hz1]; omega
    have made : ∀ old, Own (w.drew.alloc (.cells ((bs.map byt).toArray ++ ((List.replicate n 0).map byt).toArray ++ Builtin.zeroCells (Value.int .u8 0).cells (grownCap w (bs.length + n) old 5 - (bs.length + n))) 5)) base (.slice (some ⟨w.heap.size, 0, none⟩) (bs.length + n) (grownCap w (bs.length + n) old 5)) (bs ++ List.replicate n 0) := by
      intro old
      have hg := hge (bs.length + n) old 5
      refine ⟨by simp, .inr ⟨w.heap.size, _, _, by rw [List.length_append, List.length_replicate], hbase, heap_alloc_new w.drew _, by rw [List.length_append, List.length_replicate]; exact hg, grownCap_le_maxLen w _ old 5 (by unfold maxLen; omega), ?_, ?_⟩⟩
      · simp only [Array.size_append, List.size_toArray, List.length_map, size_zeroCells, Value.cells]
        simp
        omega
      · simp only [Array.toList_append, Nat.mul_one, List.append_assoc]
        rw [← List.append_assoc, ← List.map_append, ← List.length_map (f := byt)]
        exact List.take_left
    have grew : ∀ (o : Obj) (row : Option Nat), w.grownBy (w.drew.alloc o) row := fun o row => ⟨rfl, rfl, rfl, by simp, fun k hk _ => Below.heap_alloc w.drew o k hk⟩
    have hzb : Builtin.zeroCells (Value.int .u8 0).cells n = ((List.replicate n (0 : UInt8)).map byt).toArray := by
      rw [← zero_bytes n]
    obtain ⟨h1, ⟨rfl, hz⟩ | ⟨g, cp, cur, rfl, hg, hh2, hn, hc, hs, ht⟩⟩ := hown'
    · have hbs : bs = [] := List.eq_nil_of_length_eq_zero hz
      subst hbs
      have hr := Lib.run_append_nil_zeros (P := Try.prog) w 31 3 ty 5 i0 (.int .u8 0) .i64 .i64 Try.underlying31 Try.underlying3 hi hz0 n hpos (by rw [hz1]; decide) (by omega) (by rw [hz2]; omega)
      have m := made 0
      rw [hzb] at hr
      simp only [List.map_nil, List.length_nil, Nat.zero_add, List.nil_append] at m
      exact ⟨_, _, hr, by simpa using m, grew _ _⟩
    · by_cases hroom : bs.length + n ≤ cp
      · have hst := run_storeCells_at Try.prog g (bs.length * 1) 5 ((List.replicate n (0 : UInt8)).map byt) 0 cur w hh2 (by rw [hs, List.length_map, List.length_replicate]; omega) (byt_one _)
        simp only [Nat.add_zero] at hst
        simp only [Nat.mul_one] at hst hs ht
        rw [← zero_bytes n] at hst
        have hzl := zero_bytes n
        generalize hZ : Builtin.zeroCells (Value.int .u8 0).cells n = Z at hst hzl
        have hst' : (storeCells ((⟨g, 0, none⟩ : Addr).add bs.length) Z.toList).run Try.prog w = .ok () (w.setRow g (cur.toList.take bs.length ++ Z.toList ++ cur.toList.drop (bs.length + Z.toList.length)).toArray) := by
          rw [add_plain]; exact hst
        have hr : (Builtin.append_ #[31, 3] ty #[.slice (some ⟨g, 0, none⟩) bs.length cp, .int .i64 (n : Int)]).run Try.prog w = .ok (.slice (some ⟨g, 0, none⟩) (bs.length + n) cp) (w.setRow g (cur.toList.take bs.length ++ Z.toList ++ cur.toList.drop (bs.length + Z.toList.length)).toArray) := by
          have h48n : ¬ (281474976710656 < (n : Int)) := by omega
          simp [Builtin.append_, run_underlying Try.underlying31, run_underlying Try.underlying3, sizeOf, typeInfo, zeroValue, hi, hz0, hz1, hz2, asInt, asIntOf, hw, hneg, hn0, h48n, hroom, hZ, hst', -List.append_assoc]
        have hlz : Z.toList.length = n := by rw [hzl, List.length_map, List.length_replicate]
        refine ⟨_, _, hr, ⟨by simp, .inr ⟨g, cp, _, by rw [List.length_append, List.length_replicate], hg, setRow_heap w g cur _ 5 _ hh2, by rw [List.length_append, List.length_replicate]; exact hroom, hc, ?_, ?_⟩⟩, ⟨rfl, rfl, rfl, by simp, fun k _ hk => setRow_other w g k _ (fun e => hk (by rw [e]; rfl))⟩⟩
        · simp only [List.size_toArray, List.length_append, List.length_take, List.length_drop, Array.length_toList, hlz]
          omega
        · rw [ht, hzl, List.length_append, Nat.mul_one, List.length_replicate, List.map_append]
          rw [show bs.length + n = (bs.map byt ++ (List.replicate n (0 : UInt8)).map byt).length by simp]
          exact List.take_left
      · have holds : ∀ j u, (bs.map byt)[j]? = some u → w.cell? ((⟨g, 0, none⟩ : Addr).add j) = some u := World.ownsRow.cells hown (g := g) rfl
        have hcap := nextcap_le (bs.length + n) cp (by omega)
        have hfo := run_firstCells_some (P := Try.prog) w.drew 1 bs.length ⟨g, 0, none⟩ bs.length cp (bs.map byt) (by simp) (by simpa using holds)
        have m := made cp
        rw [← hzb] at m
        generalize hZ : Builtin.zeroCells (Value.int .u8 0).cells n = Z at m
        have h48n : ¬ (281474976710656 < (n : Int)) := by omega
        have h63' : ¬ (9223372036854775807 < ((bs.length : Int) + (n : Int))) := by omega
        have h48' : ¬ (281474976710656 < Builtin.nextslicecap (bs.length + n) cp) := by omega
        refine ⟨_, _, ?_, m, grew _ _⟩
        simp [Builtin.append_, run_underlying Try.underlying31, run_underlying Try.underlying3, sizeOf, typeInfo, zeroValue, hi, hz0, hz1, hz2, asInt, asIntOf, hw, hneg, hn0, h48n, h63', h48', hroom, hZ, Question.forced, hfo, newRow, grownCap]
theorem rem_i (a b : Int) (h : b ≠ 0) {c : Int} (hc : Int.tmod a b = c) (W : World) (x y : Operand) : (do eqGuard .rem 3 x y (.int .i64 a) (.int .i64 b); binOp .rem 3 (.int .i64 a) (.int .i64 b) : Sem Value).run Try.prog W = .ok (.int .i64 c) W := by
  subst hc
  go_simp
def rsD (x : Int) (m : Nat) : Nat := ((x.tmod m + m).tmod m).toNat
theorem tmod_lt (x : Int) {m : Nat} (h : 0 < m) : -(m : Int) < x.tmod m ∧ x.tmod m < (m : Int) := by
  constructor
  · have := Int.lt_tmod_of_pos x (show (0 : Int) < (m : Int) by omega)
    exact this
  · exact Int.tmod_lt_of_pos x (by omega)
theorem rsD_lt (x : Int) {m : Nat} (h : 0 < m) : rsD x m < m ∧ ((x.tmod m + m).tmod m : Int) = (rsD x m : Int) := by
  have h1 := tmod_lt x h
  have h2 := tmod_lt (x.tmod m + m) h
  have h3 : 0 ≤ (x.tmod m + (m : Int)).tmod m := Int.tmod_nonneg _ (by omega)
  unfold rsD
  omega
set_option maxRecDepth 100000 in
set_option maxHeartbeats 1000000 in
theorem rest_any (x : Int) (m : Nat) (h : 0 < m) (hm : m ≤ 1000000000) (w : World) : Calls Try.prog 10 #[.int .i64 x, .int .i64 (m : Int)] w fun e w' => e = .returned (.int .i64 (rsD x m : Int)) ∧ w' = w := by
  have h1 := tmod_lt x h
  refine calls_of_args [.int .i64 x, .int .i64 (m : Int)] Try.func10 rfl 12 Try.ntmps10 (by show 2 ≤ 12; decide) ?_
  refine EW.seq ?_
  refine EW.region ?_
  first | refine WL.assign rfl rfl rfl ?_
  refine WL.done ?_
  refine EW.on ?_
  refine EW.seq ?_
  refine EW.region ?_
  first | refine WL.move rfl rfl rfl ?_
  first | refine WL.move rfl rfl rfl ?_
  refine WL.bin rfl rfl rfl rfl (rem_i _ (m : Int) (by omega) rfl _ _ _) ?_
  first | refine WL.move rfl rfl rfl ?_
  refine WL.bin rfl rfl rfl rfl (int_add (c := x.tmod m + (m : Int)) (by rw [IntKind.wrap_i64]; omega) _ _ _) ?_
  first | refine WL.move rfl rfl rfl ?_
  refine WL.bin rfl rfl rfl rfl (rem_i _ (m : Int) (by omega) rfl _ _ _) ?_
  first | refine WL.assign rfl rfl rfl ?_
  refine WL.done ?_
  refine EW.on ?_
  refine EW.ret ?_
  exact EW.returns Try.results10 rfl ⟨by rw [(rsD_lt x h).2], rfl⟩
/-- A right packet with its body. -/
structure RtP (w : World) (p : Pk) (k : Nat) (body : List UInt8) : Prop where
  hk : p.k = (k : Int)
  k12 : k = 1 ∨ k = 2
  ok : p.ok
  fl : fltD (k : Int) p.hl body.length = 0
  hs : Has w p.bv body
theorem RtP.below {w w' : World} {p : Pk} {k : Nat} {body : List UInt8} (h : RtP w p k body) (hb : Below w.heap.size w w') : RtP w' p k body := ⟨h.hk, h.k12, h.ok, h.fl, h.hs.below hb⟩
theorem pack_any (p : Pk) (k : Nat) (body : List UInt8) (w : World) (h : RtP w p k body) : Calls Try.prog 9 #[p.v] w fun e w' => ∃ v, e = .returned (.tuple #[v, .int .i64 0]) ∧ Ob w' w.heap.size v (packB k p.hl p.hd body) ∧ Below w.heap.size w w' := by
  have hf := h.fl
  have hk := h.hk
  rcases h.k12 with rfl | rfl
  · exact pack_1 p h.ok body w h.hs hk hf
  · exact pack_2 p h.ok body w h.hs hk hf
theorem idxK (q o m : Nat) (h : m < 32) (W : World) : (Instr.indexAt 23 (.pointer (some ⟨q, o, none⟩)) (.int .i64 (m : Int))).run Try.prog W = .ok (.pointer (some ⟨q, o + m, none⟩)) W := by
  have hm : (m : Int) < 32 := by omega
  go_simp
  try simp
  try rw [Addr.add_mid]
theorem or8_1 (a : UInt8) (W : World) (x y : Operand) : (do eqGuard .or 5 x y (byt a) (.int .u8 1); binOp .or 5 (byt a) (.int .u8 1) : Sem Value).run Try.prog W = .ok (byt (a ||| 1)) W := by
  have e : bits .or .u8 (a.toNat : Int) 1 = ((a.toNat ||| 1 : Nat) : Int) := by
    have h := or_u8 a 1
    rw [UInt8.toNat_or] at h
    exact h
  unfold byt
  go_simp
theorem orU_1 {n : Nat} (h : n < 4294967296) (W : World) (x y : Operand) : (do eqGuard .or 24 x y (u32v n) (.int .u32 1); binOp .or 24 (u32v n) (.int .u32 1) : Sem Value).run Try.prog W = .ok (u32v (n ||| 1)) W := by
  have e := u32_or_nat n 1 h (by decide)
  have e' : bits .or .u32 (n : Int) 1 = ((n ||| 1 : Nat) : Int) := e
  unfold u32v
  go_simp
theorem or1_ne (n : Nat) : ¬ n ||| 1 = 0 := fun h => by
  have : 1 ≤ n ||| 1 := Nat.right_le_or
  omega
theorem or1_lt {n : Nat} (h : n < 4294967296) : n ||| 1 < 4294967296 := Nat.or_lt_two_pow (n := 32) h (by decide)
theorem ldByte {w : World} {q o : Nat} {cs a b : List Value} {t : TypeId} {u : UInt8} (hb : Blk w q cs t) (hc : cs = a ++ ([byt u] ++ b)) (ho : a.length = o) : (Instr.loadAt 5 (.pointer (some ⟨q, o, none⟩))).run Try.prog w = .ok (byt u) w := by
  have h := hb.at1 hc ho
  unfold byt at *
  go_simp
theorem stByte {w : World} {q o : Nat} {cs a b : List Value} {t : TypeId} {x : Value} (hb : Blk w q cs t) (hc : cs = a ++ ([x] ++ b)) (ho : a.length = o) (u : UInt8) : ∃ w', (Instr.storeAt 5 (.pointer (some ⟨q, o, none⟩)) (byt u)).run Try.prog w = .ok () w' ∧ Blk w' q (a ++ ([byt u] ++ b)) t ∧ Fx (fun k => k = q) w w' := by
  have h := hb.at1 hc ho
  have hf := hb.frozen o
  refine ⟨w.setCell ⟨q, o, none⟩ (byt u), ?_, hb.st1 hc ho _, Fx.setCell (S := fun k => k = q) _ _ _ _ rfl⟩
  unfold byt
  go_simp
section
variable {P : Program} {n : Nat} {ops : Array Oper} {S : Nat → World → Prop} {K : List (Nat × Value) → (World → Prop) → Prop} {i c lv : Nat} {ty : TypeId} {ps : String} {af : Array Edge} {gd : Option (Nat × Bool)} {r : List (Oper × Nat × Nat)} {e : List (Nat × Value)} {C : World → Prop}
theorem ZE.app2 {t s : TypeId} {x y : Operand} {u u' : Value} (C' : Value → World → Prop) (hw : wantE ops e ⟨some i, .call { callee := .builtin .append, args := #[x, y], argTypes := #[t, s] }, ty, ps, af, gd⟩ = some true) (hi : decide (i < n) = true) (hx : evE e x = some u) (hy : evE e y = some u') (h1 : ∀ v w, C' v w → S lv w) (hr : ∀ w, C w → ∃ v w', (Builtin.append_ #[t, s] ty #[u, u']).run P w = .ok v w' ∧ C' v w') (k : ∀ v, (∃ w, C' v w) → wpZE P n ops S K r ((i, v) :: e) (C' v)) : wpZE P n ops S K ((⟨some i, .call { callee := .builtin .append, args := #[x, y], argTypes := #[t, s] }, ty, ps, af, gd⟩, 1, lv) :: r) e C :=
  ZE.eff C' hw hi h1 (fun W hW => by
    obtain ⟨v, w', h2, h3⟩ := hr W hW
    exact ⟨v, w', fun a ha => by simp [execOp, resolve, invoke, builtin, ha.ev hx, ha.ev hy, h2, Result.andThen], h3⟩) k
end
/-- 'append' of any bytes to none. -/
theorem app_nil {w : World} {v : Value} {bs : List UInt8} (h : Has w v bs) (hl : bs.length ≤ 140737488355328) (ty : TypeId) : ∃ v' w', (Builtin.append_ #[31, 31] ty #[.slice none 0 0, v]).run Try.prog w = .ok v' w' ∧ Ob w' w.heap.size v' bs ∧ Below w.heap.size w w' := by
  have h0 : Own w w.heap.size (.slice none 0 0) [] := ⟨rfl, .inl ⟨rfl, rfl⟩⟩
  rcases h with ⟨rfl, rfl⟩ | ⟨ad, cap, rfl, h2, h3⟩
  · obtain ⟨i, hi, hz0, hz1, hz2⟩ := info_parts Try.info5
    exact ⟨_, w, run_append_owned_none (P := Try.prog) w 0 31 ty 5 i 1 Try.underlying31 hi _ 0 [] ⟨rfl, .inl ⟨rfl, rfl⟩⟩, Ob.nil _ _, Below.refl _ _⟩
  · obtain ⟨v', w', r1, r2, r3⟩ := run_app w w.heap.size _ [] h0 ad cap bs h3 (by simp; omega) (Nat.le_refl _) ty
    exact ⟨v', w', r1, by simpa using r2.ob, (grown_fx r3).below (fun k hk e => by cases e) (Nat.le_refl _)⟩
theorem Has.offB' {w : World} {v : Value} {bs : List UInt8} (h : Has w v bs) {k : Nat} (hk : w.heap.size ≤ k) : Off v bs k := by
  by_cases e2 : v.ownBlock = some k
  · rcases h.blk e2 with e3 | e3
    · exact .inl e3
    · omega
  · exact .inr e2
theorem cutV_own {v : Value} {l h g : Nat} (e : (cutV v l h).ownBlock = some g) : v.ownBlock = some g := by
  cases v with
  | slice a n c =>
    simp only [cutV, sliced] at e
    cases a with
    | none => split at e <;> cases e
    | some ad =>
      split at e
      · exact e
      · simp only [Option.map_some, Value.ownBlock, add_block] at e ⊢
        exact e
  | _ => exact e
theorem id_first {l : List UInt8} (h : l.length = 32) : ∃ u r, l = u :: r := by
  cases l with
  | nil => simp at h
  | cons u r => exact ⟨u, r, rfl⟩
theorem or8_ne (u : UInt8) (r : List UInt8) : ¬ (u ||| 1) :: r = z32 := fun h => by
  have h1 : u ||| 1 = 0 := by
    have h0 : some (u ||| 1) = some 0 := congrArg List.head? h
    exact Option.some.inj h0
  have h2 : (u ||| 1).toNat = 0 := by rw [h1]; rfl
  rw [UInt8.toNat_or] at h2
  exact or1_ne _ h2
set_option maxRecDepth 100000 in
set_option maxHeartbeats 4000000 in
theorem right_1big (p : Pk) (kp : p.ok) (body : List UInt8) (w : World) (hy : Has w p.bv body) (hr : rsD p.k 2 = 0) (hb : 544 < body.length) (hmax : body.length ≤ 140737488355328) : Calls Try.prog 8 #[p.v] w fun e w' => ∃ p' : Pk, ∃ k body', e = .returned p'.v ∧ RtP w' p' k body' ∧ (∀ j, Off p.bv body j → j < w.heap.size → Off p'.bv body' j) ∧ Below w.heap.size w w' := by
  obtain ⟨w1, q1, r1, by1, e1, hq1⟩ := box_any 33 p.cs w
  obtain ⟨w2, q2, r2, bx2, e2, hq2⟩ := new_any (t := 33) (cs := Pk.z.cs) zv33 w1
  have l1 := e1.size
  have hq1l := by1.lt
  have by2 := by1.on e2
  have sb2 := e1.trans (e2.mono l1)
  have hy2 := hy.below sb2
  have hoq : Off p.bv body q1 := hy.offB' (by omega)
  have ob_own : ∀ {W : World} {b : Nat} {v : Value} {bs : List UInt8}, Ob W b v bs → Own W b v bs := fun h => by
    obtain ⟨hx, h1 | ⟨g, cp, cur, rfl, hg, hr⟩⟩ := h.row
    · exact ⟨hx, .inl h1⟩
    · exact ⟨hx, .inr ⟨g, cp, cur, rfl, h.base _ rfl, hr⟩⟩
  obtain ⟨u, idr, hid⟩ := id_first kp.l.i
  have hil : idr.length = 31 := by have := kp.l.i; rw [hid] at this; simpa using this
  obtain ⟨hl', hhl⟩ : ∃ h : Hl, h = ⟨(u ||| 1) :: idr, p.hl.once, p.hl.pre ||| 1⟩ := ⟨_, rfl⟩
  have hlk : hl'.ok := by rw [hhl]; exact ⟨by simp [hil], kp.l.o, or1_lt kp.l.p⟩
  have hsu : suitD 1 hl' := ⟨fun h => absurd h (by decide), fun _ => by rw [hhl]; exact ⟨or8_ne u idr, or1_ne _⟩⟩
  have z30 : (544 : Int) < (body.length : Int) := by omega
  have z38 : ¬ ((body.take 544).length : Int) < 32 := by rw [List.length_take]; omega
  refine calls_of_args [p.v] Try.func8 rfl 49 Try.ntmps8 (by show 1 ≤ 49; decide) ?_
  refine EW.seq ?_
  refine EW.region ?_
  refine WL.box rfl rfl rfl r1 ?_
  refine WL.new rfl rfl r2 ?_
  refine WL.done ?_
  refine EW.on ?_
  refine EW.seq ?_
  refine EW.region ?_
  refine WL.field rfl rfl rfl (f33_0 q1 0 _) ?_
  refine WL.load rfl rfl rfl (ldPkK by2) ?_
  refine WL.call [.int .i64 p.k, .int .i64 2] enter10 rfl rfl rfl (rest_any p.k 2 (by decide) (by decide) _) ?_
  rintro _ wz ⟨rfl, hz⟩
  rw [hz, hr]
  clear hz
  refine ⟨_, rfl, ?_⟩
  refine WL.bin rfl rfl rfl rfl (int_add (c := 1) (by decide) _ _ _) ?_
  refine WL.field rfl rfl rfl (f33_0 q1 0 _) ?_
  obtain ⟨w3, s3, by3, f3⟩ := stPkK by2 1
  refine WL.store rfl rfl rfl s3 ?_
  have sb3 := sb2.trans (f3.low (by omega) (by have := sb2.size; omega))
  have bx3 := bx2.fx f3 (fun e => by omega)
  have hy3 := hy2.fxo f3 (fun k hk => by have hk : k = q1 := hk; rw [hk]; exact hoq)
  have ok3 : Pk.ok ⟨1, p.hl, p.hd, p.bv⟩ := ⟨kp.l, kp.d⟩
  refine WL.done ?_
  refine EW.on ?_
  refine EW.seq ?_
  refine EW.seq ?_
  refine EW.region ?_
  refine WL.field rfl rfl rfl (f33_0 q1 0 _) ?_
  refine WL.load rfl rfl rfl (ldPkK by3) ?_
  first | refine WL.bin rfl rfl rfl rfl (int_eq_t rfl _ _ _) ?_ | refine WL.bin rfl rfl rfl rfl (int_eq_t ‹_› _ _ _) ?_ | refine WL.bin rfl rfl rfl rfl (int_eq_f ‹_› _ _ _) ?_ | refine WL.bin rfl rfl rfl rfl (int_eq_d _ _ _ _ _) ?_
  refine WL.done ?_
  refine EW.on ?_
  refine EW.cond_f rfl ?_
  refine EW.seq ?_
  refine EW.region ?_
  refine WL.field rfl rfl rfl (f33_1 q1 0 _) ?_
  refine WL.field rfl rfl rfl (f26_0 q1 _ _) ?_
  refine WL.index rfl rfl rfl rfl (idxK q1 _ 0 (by decide) _) ?_
  refine WL.load rfl rfl rfl (ldByte (u := u) (a := [.int .i64 1]) (b := idr.map byt ++ (p.hl.once.map byt ++ ([u32v p.hl.pre] ++ (p.hd.cs ++ [p.bv])))) by3 (by simp [Pk.cs, Hl.cs, hid]) rfl) ?_
  refine WL.bin rfl rfl rfl rfl (or8_1 _ _ _ _) ?_
  refine WL.field rfl rfl rfl (f33_1 q1 0 _) ?_
  refine WL.field rfl rfl rfl (f26_0 q1 _ _) ?_
  refine WL.index rfl rfl rfl rfl (idxK q1 _ 0 (by decide) _) ?_
  obtain ⟨w4, s4, by4', f4⟩ := stByte (x := byt u) (a := [.int .i64 1]) (o := 1) (b := idr.map byt ++ (p.hl.once.map byt ++ ([u32v p.hl.pre] ++ (p.hd.cs ++ [p.bv])))) by3 (by simp [Pk.cs, Hl.cs, hid]) rfl (u ||| 1)
  refine WL.store rfl rfl rfl s4 ?_
  have by4 : Blk w4 q1 (Pk.cs ⟨1, ⟨(u ||| 1) :: idr, p.hl.once, p.hl.pre⟩, p.hd, p.bv⟩) 33 := by simpa [Pk.cs, Hl.cs] using by4'
  have sb4 := sb3.trans (f4.low (by omega) (by have := sb3.size; omega))
  have bx4 := bx3.fx f4 (fun e => by omega)
  have hy4 := hy3.fxo f4 (fun k hk => by have hk : k = q1 := hk; rw [hk]; exact hoq)
  have ok4 : Pk.ok ⟨1, ⟨(u ||| 1) :: idr, p.hl.once, p.hl.pre⟩, p.hd, p.bv⟩ := ⟨⟨by simp; omega, kp.l.o, kp.l.p⟩, kp.d⟩
  refine WL.done ?_
  refine EW.on ?_
  refine EW.region ?_
  refine WL.field rfl rfl rfl (f33_1 q1 0 _) ?_
  refine WL.field rfl rfl rfl (f26_2 q1 _ _) ?_
  refine WL.load rfl rfl rfl (by4.ldU (n := p.hl.pre) (a := [.int .i64 1] ++ (((u ||| 1) :: idr).map byt ++ p.hl.once.map byt)) (b := p.hd.cs ++ [p.bv]) (by simp [Pk.cs, Hl.cs]) (by simp [kp.l.o]; omega)) ?_
  refine WL.bin rfl rfl rfl rfl (orU_1 kp.l.p _ _ _) ?_
  refine WL.field rfl rfl rfl (f33_1 q1 0 _) ?_
  refine WL.field rfl rfl rfl (f26_2 q1 _ _) ?_
  obtain ⟨w5, s5, by5', f5⟩ := by4.stU (x := u32v p.hl.pre) (o := 65) (a := [.int .i64 1] ++ (((u ||| 1) :: idr).map byt ++ p.hl.once.map byt)) (b := p.hd.cs ++ [p.bv]) (by simp [Pk.cs, Hl.cs]) (by simp [kp.l.o]; omega) (p.hl.pre ||| 1)
  refine WL.store rfl rfl rfl s5 ?_
  have by5 : Blk w5 q1 (Pk.cs ⟨1, hl', p.hd, p.bv⟩) 33 := by simpa [Pk.cs, Hl.cs, hhl] using by5'
  have sb5 := sb4.trans (f5.low (by omega) (by have := sb4.size; omega))
  have bx5 := bx4.fx f5 (fun e => by omega)
  have hy5 := hy4.fxo f5 (fun k hk => by have hk : k = q1 := hk; rw [hk]; exact hoq)
  have ok5 : Pk.ok ⟨1, hl', p.hd, p.bv⟩ := ⟨hlk, kp.d⟩
  refine WL.done ?_
  refine EW.on ?_
  refine EW.seq ?_
  refine EW.seq ?_
  refine EW.region ?_
  refine WL.field rfl rfl rfl (f33_3 q1 0 _) ?_
  refine WL.load rfl rfl rfl (ldPkB by5 ok5) ?_
  refine WL.len rfl rfl rfl (hy5.len _ _) ?_
  first | refine WL.bin rfl rfl rfl rfl (int_gt_t ‹_› _ _ _) ?_ | refine WL.bin rfl rfl rfl rfl (int_gt_f ‹_› _ _ _) ?_ | refine WL.bin rfl rfl rfl rfl (int_gt_d _ _ _ _ _) ?_
  refine WL.done ?_
  refine EW.on ?_
  refine EW.cond_t rfl ?_
  refine EW.region ?_
  refine WL.field rfl rfl rfl (f33_3 q1 0 _) ?_
  refine WL.load rfl rfl rfl (ldPkB by5 ok5) ?_
  refine WL.sliceH rfl rfl rfl rfl (by rw [sl22]; exact hy5.cutH 544 (by omega) _) ?_
  refine WL.field rfl rfl rfl (f33_3 q1 0 _) ?_
  obtain ⟨w6, s6, by6, f6⟩ := stPkB by5 ok5 (cutV p.bv 0 544) (hy5.cut 0 544 (by omega) (by omega)).sl
  refine WL.store rfl rfl rfl s6 ?_
  have hyc := hy5.cut 0 544 (by omega) (by omega)
  have hoc : Off (cutV p.bv 0 544) ((body.drop 0).take (544 - 0)) q1 := (hy.cut 0 544 (by omega) (by omega)).offB' (by omega)
  rw [show ((body.drop 0).take (544 - 0)) = body.take 544 from rfl] at hyc hoc
  have sb6 := sb5.trans (f6.low (by omega) (by have := sb5.size; omega))
  have bx6 := bx5.fx f6 (fun e => by omega)
  have hy6 := hyc.fxo f6 (fun k hk => by have hk : k = q1 := hk; rw [hk]; exact hoc)
  have ok6 : Pk.ok ⟨1, hl', p.hd, cutV p.bv 0 544⟩ := ⟨hlk, kp.d⟩
  refine WL.done ?_
  refine EW.on ?_
  refine EW.seq ?_
  refine EW.seq ?_
  refine EW.region ?_
  refine WL.field rfl rfl rfl (f33_3 q1 0 _) ?_
  refine WL.load rfl rfl rfl (ldPkB by6 ok6) ?_
  refine WL.len rfl rfl rfl (hy6.len _ _) ?_
  first | refine WL.bin rfl rfl rfl rfl (int_lt_t ‹_› _ _ _) ?_ | refine WL.bin rfl rfl rfl rfl (int_lt_f ‹_› _ _ _) ?_ | refine WL.bin rfl rfl rfl rfl (int_lt_d _ _ _ _ _) ?_
  refine WL.done ?_
  refine EW.on ?_
  refine EW.cond_f rfl ?_
  refine EW.skip ?_
  refine EW.on ?_
  refine EW.seq ?_
  refine EW.region ?_
  refine WL.load rfl rfl rfl (ldPk by6 ok6) ?_
  obtain ⟨we, se, bxe, fe⟩ := stPk bx6 Pk.z_ok ⟨1, hl', p.hd, (cutV p.bv 0 544)⟩ ⟨hlk, kp.d⟩ hy6.sl
  refine WL.store rfl rfl rfl se ?_
  refine WL.done ?_
  refine EW.on ?_
  refine EW.ret ?_
  refine EW.returnsC Try.results8 rfl bxe Try.underlying33 rfl (i33 ⟨hlk, kp.d⟩) ⟨_, 1, (body.take 544), rfl, ⟨rfl, by decide, ⟨hlk, kp.d⟩, ?_, hy6.fxo fe (fun k hk => by have hk : k = q2 := hk; rw [hk]; exact (hy.cut 0 544 (by omega) (by omega)).offB' (by omega))⟩, fun j h _ => .inr (fun e => by
    rcases h with h | h
    · rw [h] at hb; simp at hb
    · exact h (cutV_own e)), sb6.trans (fe.low (by omega) (by have := sb6.size; omega))⟩
  show fltD 1 hl' _ = 0
  unfold fltD
  rw [if_pos (by decide), if_pos hsu, if_neg (by simp; omega), if_neg (by simp; omega)]
set_option maxRecDepth 100000 in
set_option maxHeartbeats 4000000 in
theorem right_1mid (p : Pk) (kp : p.ok) (body : List UInt8) (w : World) (hy : Has w p.bv body) (hr : rsD p.k 2 = 0) (hb : 32 ≤ body.length) (hb2 : body.length ≤ 544) : Calls Try.prog 8 #[p.v] w fun e w' => ∃ p' : Pk, ∃ k body', e = .returned p'.v ∧ RtP w' p' k body' ∧ (∀ j, Off p.bv body j → j < w.heap.size → Off p'.bv body' j) ∧ Below w.heap.size w w' := by
  obtain ⟨w1, q1, r1, by1, e1, hq1⟩ := box_any 33 p.cs w
  obtain ⟨w2, q2, r2, bx2, e2, hq2⟩ := new_any (t := 33) (cs := Pk.z.cs) zv33 w1
  have l1 := e1.size
  have hq1l := by1.lt
  have by2 := by1.on e2
  have sb2 := e1.trans (e2.mono l1)
  have hy2 := hy.below sb2
  have hoq : Off p.bv body q1 := hy.offB' (by omega)
  have ob_own : ∀ {W : World} {b : Nat} {v : Value} {bs : List UInt8}, Ob W b v bs → Own W b v bs := fun h => by
    obtain ⟨hx, h1 | ⟨g, cp, cur, rfl, hg, hr⟩⟩ := h.row
    · exact ⟨hx, .inl h1⟩
    · exact ⟨hx, .inr ⟨g, cp, cur, rfl, h.base _ rfl, hr⟩⟩
  obtain ⟨u, idr, hid⟩ := id_first kp.l.i
  have hil : idr.length = 31 := by have := kp.l.i; rw [hid] at this; simpa using this
  obtain ⟨hl', hhl⟩ : ∃ h : Hl, h = ⟨(u ||| 1) :: idr, p.hl.once, p.hl.pre ||| 1⟩ := ⟨_, rfl⟩
  have hlk : hl'.ok := by rw [hhl]; exact ⟨by simp [hil], kp.l.o, or1_lt kp.l.p⟩
  have hsu : suitD 1 hl' := ⟨fun h => absurd h (by decide), fun _ => by rw [hhl]; exact ⟨or8_ne u idr, or1_ne _⟩⟩
  have z30 : ¬ (544 : Int) < (body.length : Int) := by omega
  have z38 : ¬ (body.length : Int) < 32 := by omega
  refine calls_of_args [p.v] Try.func8 rfl 49 Try.ntmps8 (by show 1 ≤ 49; decide) ?_
  refine EW.seq ?_
  refine EW.region ?_
  refine WL.box rfl rfl rfl r1 ?_
  refine WL.new rfl rfl r2 ?_
  refine WL.done ?_
  refine EW.on ?_
  refine EW.seq ?_
  refine EW.region ?_
  refine WL.field rfl rfl rfl (f33_0 q1 0 _) ?_
  refine WL.load rfl rfl rfl (ldPkK by2) ?_
  refine WL.call [.int .i64 p.k, .int .i64 2] enter10 rfl rfl rfl (rest_any p.k 2 (by decide) (by decide) _) ?_
  rintro _ wz ⟨rfl, hz⟩
  rw [hz, hr]
  clear hz
  refine ⟨_, rfl, ?_⟩
  refine WL.bin rfl rfl rfl rfl (int_add (c := 1) (by decide) _ _ _) ?_
  refine WL.field rfl rfl rfl (f33_0 q1 0 _) ?_
  obtain ⟨w3, s3, by3, f3⟩ := stPkK by2 1
  refine WL.store rfl rfl rfl s3 ?_
  have sb3 := sb2.trans (f3.low (by omega) (by have := sb2.size; omega))
  have bx3 := bx2.fx f3 (fun e => by omega)
  have hy3 := hy2.fxo f3 (fun k hk => by have hk : k = q1 := hk; rw [hk]; exact hoq)
  have ok3 : Pk.ok ⟨1, p.hl, p.hd, p.bv⟩ := ⟨kp.l, kp.d⟩
  refine WL.done ?_
  refine EW.on ?_
  refine EW.seq ?_
  refine EW.seq ?_
  refine EW.region ?_
  refine WL.field rfl rfl rfl (f33_0 q1 0 _) ?_
  refine WL.load rfl rfl rfl (ldPkK by3) ?_
  first | refine WL.bin rfl rfl rfl rfl (int_eq_t rfl _ _ _) ?_ | refine WL.bin rfl rfl rfl rfl (int_eq_t ‹_› _ _ _) ?_ | refine WL.bin rfl rfl rfl rfl (int_eq_f ‹_› _ _ _) ?_ | refine WL.bin rfl rfl rfl rfl (int_eq_d _ _ _ _ _) ?_
  refine WL.done ?_
  refine EW.on ?_
  refine EW.cond_f rfl ?_
  refine EW.seq ?_
  refine EW.region ?_
  refine WL.field rfl rfl rfl (f33_1 q1 0 _) ?_
  refine WL.field rfl rfl rfl (f26_0 q1 _ _) ?_
  refine WL.index rfl rfl rfl rfl (idxK q1 _ 0 (by decide) _) ?_
  refine WL.load rfl rfl rfl (ldByte (u := u) (a := [.int .i64 1]) (b := idr.map byt ++ (p.hl.once.map byt ++ ([u32v p.hl.pre] ++ (p.hd.cs ++ [p.bv])))) by3 (by simp [Pk.cs, Hl.cs, hid]) rfl) ?_
  refine WL.bin rfl rfl rfl rfl (or8_1 _ _ _ _) ?_
  refine WL.field rfl rfl rfl (f33_1 q1 0 _) ?_
  refine WL.field rfl rfl rfl (f26_0 q1 _ _) ?_
  refine WL.index rfl rfl rfl rfl (idxK q1 _ 0 (by decide) _) ?_
  obtain ⟨w4, s4, by4', f4⟩ := stByte (x := byt u) (a := [.int .i64 1]) (o := 1) (b := idr.map byt ++ (p.hl.once.map byt ++ ([u32v p.hl.pre] ++ (p.hd.cs ++ [p.bv])))) by3 (by simp [Pk.cs, Hl.cs, hid]) rfl (u ||| 1)
  refine WL.store rfl rfl rfl s4 ?_
  have by4 : Blk w4 q1 (Pk.cs ⟨1, ⟨(u ||| 1) :: idr, p.hl.once, p.hl.pre⟩, p.hd, p.bv⟩) 33 := by simpa [Pk.cs, Hl.cs] using by4'
  have sb4 := sb3.trans (f4.low (by omega) (by have := sb3.size; omega))
  have bx4 := bx3.fx f4 (fun e => by omega)
  have hy4 := hy3.fxo f4 (fun k hk => by have hk : k = q1 := hk; rw [hk]; exact hoq)
  have ok4 : Pk.ok ⟨1, ⟨(u ||| 1) :: idr, p.hl.once, p.hl.pre⟩, p.hd, p.bv⟩ := ⟨⟨by simp; omega, kp.l.o, kp.l.p⟩, kp.d⟩
  refine WL.done ?_
  refine EW.on ?_
  refine EW.region ?_
  refine WL.field rfl rfl rfl (f33_1 q1 0 _) ?_
  refine WL.field rfl rfl rfl (f26_2 q1 _ _) ?_
  refine WL.load rfl rfl rfl (by4.ldU (n := p.hl.pre) (a := [.int .i64 1] ++ (((u ||| 1) :: idr).map byt ++ p.hl.once.map byt)) (b := p.hd.cs ++ [p.bv]) (by simp [Pk.cs, Hl.cs]) (by simp [kp.l.o]; omega)) ?_
  refine WL.bin rfl rfl rfl rfl (orU_1 kp.l.p _ _ _) ?_
  refine WL.field rfl rfl rfl (f33_1 q1 0 _) ?_
  refine WL.field rfl rfl rfl (f26_2 q1 _ _) ?_
  obtain ⟨w5, s5, by5', f5⟩ := by4.stU (x := u32v p.hl.pre) (o := 65) (a := [.int .i64 1] ++ (((u ||| 1) :: idr).map byt ++ p.hl.once.map byt)) (b := p.hd.cs ++ [p.bv]) (by simp [Pk.cs, Hl.cs]) (by simp [kp.l.o]; omega) (p.hl.pre ||| 1)
  refine WL.store rfl rfl rfl s5 ?_
  have by5 : Blk w5 q1 (Pk.cs ⟨1, hl', p.hd, p.bv⟩) 33 := by simpa [Pk.cs, Hl.cs, hhl] using by5'
  have sb5 := sb4.trans (f5.low (by omega) (by have := sb4.size; omega))
  have bx5 := bx4.fx f5 (fun e => by omega)
  have hy5 := hy4.fxo f5 (fun k hk => by have hk : k = q1 := hk; rw [hk]; exact hoq)
  have ok5 : Pk.ok ⟨1, hl', p.hd, p.bv⟩ := ⟨hlk, kp.d⟩
  refine WL.done ?_
  refine EW.on ?_
  refine EW.seq ?_
  refine EW.seq ?_
  refine EW.region ?_
  refine WL.field rfl rfl rfl (f33_3 q1 0 _) ?_
  refine WL.load rfl rfl rfl (ldPkB by5 ok5) ?_
  refine WL.len rfl rfl rfl (hy5.len _ _) ?_
  first | refine WL.bin rfl rfl rfl rfl (int_gt_t ‹_› _ _ _) ?_ | refine WL.bin rfl rfl rfl rfl (int_gt_f ‹_› _ _ _) ?_ | refine WL.bin rfl rfl rfl rfl (int_gt_d _ _ _ _ _) ?_
  refine WL.done ?_
  refine EW.on ?_
  refine EW.cond_f rfl ?_
  refine EW.skip ?_
  refine EW.on ?_
  refine EW.seq ?_
  refine EW.seq ?_
  refine EW.region ?_
  refine WL.field rfl rfl rfl (f33_3 q1 0 _) ?_
  refine WL.load rfl rfl rfl (ldPkB by5 ok5) ?_
  refine WL.len rfl rfl rfl (hy5.len _ _) ?_
  first | refine WL.bin rfl rfl rfl rfl (int_lt_t ‹_› _ _ _) ?_ | refine WL.bin rfl rfl rfl rfl (int_lt_f ‹_› _ _ _) ?_ | refine WL.bin rfl rfl rfl rfl (int_lt_d _ _ _ _ _) ?_
  refine WL.done ?_
  refine EW.on ?_
  refine EW.cond_f rfl ?_
  refine EW.skip ?_
  refine EW.on ?_
  refine EW.seq ?_
  refine EW.region ?_
  refine WL.load rfl rfl rfl (ldPk by5 ok5) ?_
  obtain ⟨we, se, bxe, fe⟩ := stPk bx5 Pk.z_ok ⟨1, hl', p.hd, p.bv⟩ ⟨hlk, kp.d⟩ hy5.sl
  refine WL.store rfl rfl rfl se ?_
  refine WL.done ?_
  refine EW.on ?_
  refine EW.ret ?_
  refine EW.returnsC Try.results8 rfl bxe Try.underlying33 rfl (i33 ⟨hlk, kp.d⟩) ⟨_, 1, body, rfl, ⟨rfl, by decide, ⟨hlk, kp.d⟩, ?_, hy5.fxo fe (fun k hk => by have hk : k = q2 := hk; rw [hk]; exact hy.offB' (by omega))⟩, fun j h _ => h, sb5.trans (fe.low (by omega) (by have := sb5.size; omega))⟩
  show fltD 1 hl' _ = 0
  unfold fltD
  rw [if_pos (by decide), if_pos hsu, if_neg (by simp; omega), if_neg (by simp; omega)]
set_option maxRecDepth 100000 in
set_option maxHeartbeats 4000000 in
theorem right_1low (p : Pk) (kp : p.ok) (body : List UInt8) (w : World) (hy : Has w p.bv body) (hr : rsD p.k 2 = 0) (hb : body.length < 32) : Calls Try.prog 8 #[p.v] w fun e w' => ∃ p' : Pk, ∃ k body', e = .returned p'.v ∧ RtP w' p' k body' ∧ (∀ j, Off p.bv body j → j < w.heap.size → Off p'.bv body' j) ∧ Below w.heap.size w w' := by
  obtain ⟨w1, q1, r1, by1, e1, hq1⟩ := box_any 33 p.cs w
  obtain ⟨w2, q2, r2, bx2, e2, hq2⟩ := new_any (t := 33) (cs := Pk.z.cs) zv33 w1
  have l1 := e1.size
  have hq1l := by1.lt
  have by2 := by1.on e2
  have sb2 := e1.trans (e2.mono l1)
  have hy2 := hy.below sb2
  have hoq : Off p.bv body q1 := hy.offB' (by omega)
  have ob_own : ∀ {W : World} {b : Nat} {v : Value} {bs : List UInt8}, Ob W b v bs → Own W b v bs := fun h => by
    obtain ⟨hx, h1 | ⟨g, cp, cur, rfl, hg, hr⟩⟩ := h.row
    · exact ⟨hx, .inl h1⟩
    · exact ⟨hx, .inr ⟨g, cp, cur, rfl, h.base _ rfl, hr⟩⟩
  obtain ⟨u, idr, hid⟩ := id_first kp.l.i
  have hil : idr.length = 31 := by have := kp.l.i; rw [hid] at this; simpa using this
  obtain ⟨hl', hhl⟩ : ∃ h : Hl, h = ⟨(u ||| 1) :: idr, p.hl.once, p.hl.pre ||| 1⟩ := ⟨_, rfl⟩
  have hlk : hl'.ok := by rw [hhl]; exact ⟨by simp [hil], kp.l.o, or1_lt kp.l.p⟩
  have hsu : suitD 1 hl' := ⟨fun h => absurd h (by decide), fun _ => by rw [hhl]; exact ⟨or8_ne u idr, or1_ne _⟩⟩
  have hsub : IntKind.i64.wrap (32 - (body.length : Int)) = ((32 - body.length : Nat) : Int) := by rw [IntKind.wrap_i64]; omega
  have z30 : ¬ (544 : Int) < (body.length : Int) := by omega
  have z38 : (body.length : Int) < 32 := by omega
  refine calls_of_args [p.v] Try.func8 rfl 49 Try.ntmps8 (by show 1 ≤ 49; decide) ?_
  refine EW.seq ?_
  refine EW.region ?_
  refine WL.box rfl rfl rfl r1 ?_
  refine WL.new rfl rfl r2 ?_
  refine WL.done ?_
  refine EW.on ?_
  refine EW.seq ?_
  refine EW.region ?_
  refine WL.field rfl rfl rfl (f33_0 q1 0 _) ?_
  refine WL.load rfl rfl rfl (ldPkK by2) ?_
  refine WL.call [.int .i64 p.k, .int .i64 2] enter10 rfl rfl rfl (rest_any p.k 2 (by decide) (by decide) _) ?_
  rintro _ wz ⟨rfl, hz⟩
  rw [hz, hr]
  clear hz
  refine ⟨_, rfl, ?_⟩
  refine WL.bin rfl rfl rfl rfl (int_add (c := 1) (by decide) _ _ _) ?_
  refine WL.field rfl rfl rfl (f33_0 q1 0 _) ?_
  obtain ⟨w3, s3, by3, f3⟩ := stPkK by2 1
  refine WL.store rfl rfl rfl s3 ?_
  have sb3 := sb2.trans (f3.low (by omega) (by have := sb2.size; omega))
  have bx3 := bx2.fx f3 (fun e => by omega)
  have hy3 := hy2.fxo f3 (fun k hk => by have hk : k = q1 := hk; rw [hk]; exact hoq)
  have ok3 : Pk.ok ⟨1, p.hl, p.hd, p.bv⟩ := ⟨kp.l, kp.d⟩
  refine WL.done ?_
  refine EW.on ?_
  refine EW.seq ?_
  refine EW.seq ?_
  refine EW.region ?_
  refine WL.field rfl rfl rfl (f33_0 q1 0 _) ?_
  refine WL.load rfl rfl rfl (ldPkK by3) ?_
  first | refine WL.bin rfl rfl rfl rfl (int_eq_t rfl _ _ _) ?_ | refine WL.bin rfl rfl rfl rfl (int_eq_t ‹_› _ _ _) ?_ | refine WL.bin rfl rfl rfl rfl (int_eq_f ‹_› _ _ _) ?_ | refine WL.bin rfl rfl rfl rfl (int_eq_d _ _ _ _ _) ?_
  refine WL.done ?_
  refine EW.on ?_
  refine EW.cond_f rfl ?_
  refine EW.seq ?_
  refine EW.region ?_
  refine WL.field rfl rfl rfl (f33_1 q1 0 _) ?_
  refine WL.field rfl rfl rfl (f26_0 q1 _ _) ?_
  refine WL.index rfl rfl rfl rfl (idxK q1 _ 0 (by decide) _) ?_
  refine WL.load rfl rfl rfl (ldByte (u := u) (a := [.int .i64 1]) (b := idr.map byt ++ (p.hl.once.map byt ++ ([u32v p.hl.pre] ++ (p.hd.cs ++ [p.bv])))) by3 (by simp [Pk.cs, Hl.cs, hid]) rfl) ?_
  refine WL.bin rfl rfl rfl rfl (or8_1 _ _ _ _) ?_
  refine WL.field rfl rfl rfl (f33_1 q1 0 _) ?_
  refine WL.field rfl rfl rfl (f26_0 q1 _ _) ?_
  refine WL.index rfl rfl rfl rfl (idxK q1 _ 0 (by decide) _) ?_
  obtain ⟨w4, s4, by4', f4⟩ := stByte (x := byt u) (a := [.int .i64 1]) (o := 1) (b := idr.map byt ++ (p.hl.once.map byt ++ ([u32v p.hl.pre] ++ (p.hd.cs ++ [p.bv])))) by3 (by simp [Pk.cs, Hl.cs, hid]) rfl (u ||| 1)
  refine WL.store rfl rfl rfl s4 ?_
  have by4 : Blk w4 q1 (Pk.cs ⟨1, ⟨(u ||| 1) :: idr, p.hl.once, p.hl.pre⟩, p.hd, p.bv⟩) 33 := by simpa [Pk.cs, Hl.cs] using by4'
  have sb4 := sb3.trans (f4.low (by omega) (by have := sb3.size; omega))
  have bx4 := bx3.fx f4 (fun e => by omega)
  have hy4 := hy3.fxo f4 (fun k hk => by have hk : k = q1 := hk; rw [hk]; exact hoq)
  have ok4 : Pk.ok ⟨1, ⟨(u ||| 1) :: idr, p.hl.once, p.hl.pre⟩, p.hd, p.bv⟩ := ⟨⟨by simp; omega, kp.l.o, kp.l.p⟩, kp.d⟩
  refine WL.done ?_
  refine EW.on ?_
  refine EW.region ?_
  refine WL.field rfl rfl rfl (f33_1 q1 0 _) ?_
  refine WL.field rfl rfl rfl (f26_2 q1 _ _) ?_
  refine WL.load rfl rfl rfl (by4.ldU (n := p.hl.pre) (a := [.int .i64 1] ++ (((u ||| 1) :: idr).map byt ++ p.hl.once.map byt)) (b := p.hd.cs ++ [p.bv]) (by simp [Pk.cs, Hl.cs]) (by simp [kp.l.o]; omega)) ?_
  refine WL.bin rfl rfl rfl rfl (orU_1 kp.l.p _ _ _) ?_
  refine WL.field rfl rfl rfl (f33_1 q1 0 _) ?_
  refine WL.field rfl rfl rfl (f26_2 q1 _ _) ?_
  obtain ⟨w5, s5, by5', f5⟩ := by4.stU (x := u32v p.hl.pre) (o := 65) (a := [.int .i64 1] ++ (((u ||| 1) :: idr).map byt ++ p.hl.once.map byt)) (b := p.hd.cs ++ [p.bv]) (by simp [Pk.cs, Hl.cs]) (by simp [kp.l.o]; omega) (p.hl.pre ||| 1)
  refine WL.store rfl rfl rfl s5 ?_
  have by5 : Blk w5 q1 (Pk.cs ⟨1, hl', p.hd, p.bv⟩) 33 := by simpa [Pk.cs, Hl.cs, hhl] using by5'
  have sb5 := sb4.trans (f5.low (by omega) (by have := sb4.size; omega))
  have bx5 := bx4.fx f5 (fun e => by omega)
  have hy5 := hy4.fxo f5 (fun k hk => by have hk : k = q1 := hk; rw [hk]; exact hoq)
  have ok5 : Pk.ok ⟨1, hl', p.hd, p.bv⟩ := ⟨hlk, kp.d⟩
  refine WL.done ?_
  refine EW.on ?_
  refine EW.seq ?_
  refine EW.seq ?_
  refine EW.region ?_
  refine WL.field rfl rfl rfl (f33_3 q1 0 _) ?_
  refine WL.load rfl rfl rfl (ldPkB by5 ok5) ?_
  refine WL.len rfl rfl rfl (hy5.len _ _) ?_
  first | refine WL.bin rfl rfl rfl rfl (int_gt_t ‹_› _ _ _) ?_ | refine WL.bin rfl rfl rfl rfl (int_gt_f ‹_› _ _ _) ?_ | refine WL.bin rfl rfl rfl rfl (int_gt_d _ _ _ _ _) ?_
  refine WL.done ?_
  refine EW.on ?_
  refine EW.cond_f rfl ?_
  refine EW.skip ?_
  refine EW.on ?_
  refine EW.seq ?_
  refine EW.seq ?_
  refine EW.region ?_
  refine WL.field rfl rfl rfl (f33_3 q1 0 _) ?_
  refine WL.load rfl rfl rfl (ldPkB by5 ok5) ?_
  refine WL.len rfl rfl rfl (hy5.len _ _) ?_
  first | refine WL.bin rfl rfl rfl rfl (int_lt_t ‹_› _ _ _) ?_ | refine WL.bin rfl rfl rfl rfl (int_lt_f ‹_› _ _ _) ?_ | refine WL.bin rfl rfl rfl rfl (int_lt_d _ _ _ _ _) ?_
  refine WL.done ?_
  refine EW.on ?_
  refine EW.cond_t rfl ?_
  refine EW.ordB [(0, 0, 0), (1, 0, 1), (3, 0, 0), (4, 0, 1), (5, 0, 0), (6, 0, 0), (2, 1, 1), (7, 1, 1), (8, 0, 0), (9, 1, 0)] (by kernel_rfl) rfl (by kernel_rfl) ?_
  simp only [opsZ, List.getD_cons_zero, List.getD_cons_succ]
  refine ZE.field rfl rfl rfl rfl sz0 (fun W => f33_3 q1 0 W) ?_
  refine ZE.load rfl rfl rfl rfl sz1 (fun W hW => ldPkB (by5.on (sb_of hW)) ok5) ?_
  refine ZE.field rfl rfl rfl rfl sz0 (fun W => f33_3 q1 0 W) ?_
  refine ZE.load rfl rfl rfl rfl sz1 (fun W hW => ldPkB (by5.on (sb_of hW)) ok5) ?_
  refine ZE.len rfl rfl rfl rfl sz0 (fun W => hy5.len W _) ?_
  refine ZE.bin rfl rfl rfl rfl rfl sz0 (fun W => int_sub hsub W _ _) ?_
  refine ZE.app2 (fun v W => Ob W w5.heap.size v body ∧ Below w5.heap.size w5 W) rfl rfl rfl rfl (fun _ _ h => .inr h.2) (fun W hW => by
    obtain ⟨v', w', a1, a2, a3⟩ := app_nil (hy5.below hW) (by omega) 31
    exact ⟨v', w', a1, a2.lower hW.size, hW.trans (a3.mono hW.size)⟩) ?_
  rintro va ⟨_, _, _⟩
  refine ZE.app2 (fun v W => Ob W w5.heap.size v (body ++ List.replicate (32 - body.length) 0) ∧ Below w5.heap.size w5 W) rfl rfl rfl rfl (fun _ _ h => .inr h.2) (fun W hW => by
    obtain ⟨v', w', a1, a2, a3⟩ := run_zeros W w5.heap.size va body (ob_own hW.1) (32 - body.length) (by omega) hW.2.size 31
    exact ⟨v', w', a1, a2.ob, hW.2.trans ((grown_fx a3).below (fun k hk e => by have := hW.1.base k e; omega) hW.2.size)⟩) ?_
  rintro vz ⟨Wz, oz, _⟩
  refine ZE.field rfl rfl rfl rfl sz0 (fun W => f33_3 q1 0 W) ?_
  refine ZE.store (fun W => Ob W w5.heap.size vz (body ++ List.replicate (32 - body.length) 0) ∧ Blk W q1 (Pk.cs ⟨1, hl', p.hd, vz⟩) 33 ∧ Blk W q2 Pk.z.cs 33 ∧ Below w.heap.size w W) rfl rfl rfl (fun _ _ => .inl rfl) (fun W hW => by
    obtain ⟨w', a1, a2, a3⟩ := stPkB (by5.on hW.2) ok5 vz oz.has.sl
    exact ⟨w', a1, hW.1.fx a3 (fun k hk e => by have hk : k = q1 := hk; have := hW.1.base k e; have := by5.lt; omega), a2, (bx5.on hW.2).fx a3 (fun e => by omega), (sb5.trans (hW.2.mono (by have := sb5.size; omega))).trans (a3.low (by omega) (by have := hW.2.size; have := sb5.size; omega))⟩) ?_
  rintro w9 ⟨oz9, by9, bx9, sb9⟩
  have hszi := sb5.size
  have hy9 := oz9.has
  have ok9 : Pk.ok ⟨1, hl', p.hd, vz⟩ := ⟨hlk, kp.d⟩
  have hoq9 : Off vz (body ++ List.replicate (32 - body.length) 0) q2 := .inr fun e => by have := oz9.base _ e; have := bx5.lt; omega
  refine EW.on ?_
  refine EW.seq ?_
  refine EW.region ?_
  refine WL.load rfl rfl rfl (ldPk by9 ok9) ?_
  obtain ⟨we, se, bxe, fe⟩ := stPk bx9 Pk.z_ok ⟨1, hl', p.hd, vz⟩ ⟨hlk, kp.d⟩ hy9.sl
  refine WL.store rfl rfl rfl se ?_
  refine WL.done ?_
  refine EW.on ?_
  refine EW.ret ?_
  refine EW.returnsC Try.results8 rfl bxe Try.underlying33 rfl (i33 ⟨hlk, kp.d⟩) ⟨_, 1, (body ++ List.replicate (32 - body.length) 0), rfl, ⟨rfl, by decide, ⟨hlk, kp.d⟩, ?_, hy9.fxo fe (fun k hk => by have hk : k = q2 := hk; rw [hk]; exact hoq9)⟩, fun j _ hj => .inr (fun e => by have := oz9.base _ e; omega), sb9.trans (fe.low (by omega) (by have := sb9.size; omega))⟩
  show fltD 1 hl' _ = 0
  unfold fltD
  rw [if_pos (by decide), if_pos hsu, if_neg (by simp; omega), if_neg (by simp; omega)]
set_option maxRecDepth 100000 in
set_option maxHeartbeats 4000000 in
theorem right_2big (p : Pk) (kp : p.ok) (body : List UInt8) (w : World) (hy : Has w p.bv body) (hr : rsD p.k 2 = 1) (hb : 544 < body.length) (hmax : body.length ≤ 140737488355328) : Calls Try.prog 8 #[p.v] w fun e w' => ∃ p' : Pk, ∃ k body', e = .returned p'.v ∧ RtP w' p' k body' ∧ (∀ j, Off p.bv body j → j < w.heap.size → Off p'.bv body' j) ∧ Below w.heap.size w w' := by
  obtain ⟨w1, q1, r1, by1, e1, hq1⟩ := box_any 33 p.cs w
  obtain ⟨w2, q2, r2, bx2, e2, hq2⟩ := new_any (t := 33) (cs := Pk.z.cs) zv33 w1
  have l1 := e1.size
  have hq1l := by1.lt
  have by2 := by1.on e2
  have sb2 := e1.trans (e2.mono l1)
  have hy2 := hy.below sb2
  have hoq : Off p.bv body q1 := hy.offB' (by omega)
  have ob_own : ∀ {W : World} {b : Nat} {v : Value} {bs : List UInt8}, Ob W b v bs → Own W b v bs := fun h => by
    obtain ⟨hx, h1 | ⟨g, cp, cur, rfl, hg, hr⟩⟩ := h.row
    · exact ⟨hx, .inl h1⟩
    · exact ⟨hx, .inr ⟨g, cp, cur, rfl, h.base _ rfl, hr⟩⟩
  obtain ⟨hl', hhl⟩ : ∃ h : Hl, h = Hl.z := ⟨_, rfl⟩
  have hlk : hl'.ok := by rw [hhl]; exact Hl.z_ok
  have hsu : suitD 2 hl' := ⟨fun _ => hhl, fun h => absurd rfl h⟩
  have z30 : (544 : Int) < (body.length : Int) := by omega
  have z38 : ¬ ((body.take 544).length : Int) < 32 := by rw [List.length_take]; omega
  refine calls_of_args [p.v] Try.func8 rfl 49 Try.ntmps8 (by show 1 ≤ 49; decide) ?_
  refine EW.seq ?_
  refine EW.region ?_
  refine WL.box rfl rfl rfl r1 ?_
  refine WL.new rfl rfl r2 ?_
  refine WL.done ?_
  refine EW.on ?_
  refine EW.seq ?_
  refine EW.region ?_
  refine WL.field rfl rfl rfl (f33_0 q1 0 _) ?_
  refine WL.load rfl rfl rfl (ldPkK by2) ?_
  refine WL.call [.int .i64 p.k, .int .i64 2] enter10 rfl rfl rfl (rest_any p.k 2 (by decide) (by decide) _) ?_
  rintro _ wz ⟨rfl, hz⟩
  rw [hz, hr]
  clear hz
  refine ⟨_, rfl, ?_⟩
  refine WL.bin rfl rfl rfl rfl (int_add (c := 2) (by decide) _ _ _) ?_
  refine WL.field rfl rfl rfl (f33_0 q1 0 _) ?_
  obtain ⟨w3, s3, by3, f3⟩ := stPkK by2 2
  refine WL.store rfl rfl rfl s3 ?_
  have sb3 := sb2.trans (f3.low (by omega) (by have := sb2.size; omega))
  have bx3 := bx2.fx f3 (fun e => by omega)
  have hy3 := hy2.fxo f3 (fun k hk => by have hk : k = q1 := hk; rw [hk]; exact hoq)
  have ok3 : Pk.ok ⟨2, p.hl, p.hd, p.bv⟩ := ⟨kp.l, kp.d⟩
  refine WL.done ?_
  refine EW.on ?_
  refine EW.seq ?_
  refine EW.seq ?_
  refine EW.region ?_
  refine WL.field rfl rfl rfl (f33_0 q1 0 _) ?_
  refine WL.load rfl rfl rfl (ldPkK by3) ?_
  first | refine WL.bin rfl rfl rfl rfl (int_eq_t rfl _ _ _) ?_ | refine WL.bin rfl rfl rfl rfl (int_eq_t ‹_› _ _ _) ?_ | refine WL.bin rfl rfl rfl rfl (int_eq_f ‹_› _ _ _) ?_ | refine WL.bin rfl rfl rfl rfl (int_eq_d _ _ _ _ _) ?_
  refine WL.done ?_
  refine EW.on ?_
  refine EW.cond_t rfl ?_
  refine EW.region ?_
  refine WL.buildN [] rfl rfl rfl (bd26 _) ?_
  refine WL.field rfl rfl rfl (f33_1 q1 0 _) ?_
  obtain ⟨w4, s4, by4, f4⟩ := stPkL by3 ok3 Hl.z Hl.z_ok
  refine WL.store rfl rfl rfl s4 ?_
  have sb4 := sb3.trans (f4.low (by omega) (by have := sb3.size; omega))
  have bx4 := bx3.fx f4 (fun e => by omega)
  have hy4 := hy3.fxo f4 (fun k hk => by have hk : k = q1 := hk; rw [hk]; exact hoq)
  have ok4 : Pk.ok ⟨2, Hl.z, p.hd, p.bv⟩ := ⟨Hl.z_ok, kp.d⟩
  refine WL.done ?_
  rw [← hhl] at *
  refine EW.on ?_
  refine EW.seq ?_
  refine EW.seq ?_
  refine EW.region ?_
  refine WL.field rfl rfl rfl (f33_3 q1 0 _) ?_
  refine WL.load rfl rfl rfl (ldPkB by4 ok4) ?_
  refine WL.len rfl rfl rfl (hy4.len _ _) ?_
  first | refine WL.bin rfl rfl rfl rfl (int_gt_t ‹_› _ _ _) ?_ | refine WL.bin rfl rfl rfl rfl (int_gt_f ‹_› _ _ _) ?_ | refine WL.bin rfl rfl rfl rfl (int_gt_d _ _ _ _ _) ?_
  refine WL.done ?_
  refine EW.on ?_
  refine EW.cond_t rfl ?_
  refine EW.region ?_
  refine WL.field rfl rfl rfl (f33_3 q1 0 _) ?_
  refine WL.load rfl rfl rfl (ldPkB by4 ok4) ?_
  refine WL.sliceH rfl rfl rfl rfl (by rw [sl22]; exact hy4.cutH 544 (by omega) _) ?_
  refine WL.field rfl rfl rfl (f33_3 q1 0 _) ?_
  obtain ⟨w5, s5, by5, f5⟩ := stPkB by4 ok4 (cutV p.bv 0 544) (hy4.cut 0 544 (by omega) (by omega)).sl
  refine WL.store rfl rfl rfl s5 ?_
  have hyc := hy4.cut 0 544 (by omega) (by omega)
  have hoc : Off (cutV p.bv 0 544) ((body.drop 0).take (544 - 0)) q1 := (hy.cut 0 544 (by omega) (by omega)).offB' (by omega)
  rw [show ((body.drop 0).take (544 - 0)) = body.take 544 from rfl] at hyc hoc
  have sb5 := sb4.trans (f5.low (by omega) (by have := sb4.size; omega))
  have bx5 := bx4.fx f5 (fun e => by omega)
  have hy5 := hyc.fxo f5 (fun k hk => by have hk : k = q1 := hk; rw [hk]; exact hoc)
  have ok5 : Pk.ok ⟨2, hl', p.hd, cutV p.bv 0 544⟩ := ⟨hlk, kp.d⟩
  refine WL.done ?_
  refine EW.on ?_
  refine EW.seq ?_
  refine EW.seq ?_
  refine EW.region ?_
  refine WL.field rfl rfl rfl (f33_3 q1 0 _) ?_
  refine WL.load rfl rfl rfl (ldPkB by5 ok5) ?_
  refine WL.len rfl rfl rfl (hy5.len _ _) ?_
  first | refine WL.bin rfl rfl rfl rfl (int_lt_t ‹_› _ _ _) ?_ | refine WL.bin rfl rfl rfl rfl (int_lt_f ‹_› _ _ _) ?_ | refine WL.bin rfl rfl rfl rfl (int_lt_d _ _ _ _ _) ?_
  refine WL.done ?_
  refine EW.on ?_
  refine EW.cond_f rfl ?_
  refine EW.skip ?_
  refine EW.on ?_
  refine EW.seq ?_
  refine EW.region ?_
  refine WL.load rfl rfl rfl (ldPk by5 ok5) ?_
  obtain ⟨we, se, bxe, fe⟩ := stPk bx5 Pk.z_ok ⟨2, hl', p.hd, (cutV p.bv 0 544)⟩ ⟨hlk, kp.d⟩ hy5.sl
  refine WL.store rfl rfl rfl se ?_
  refine WL.done ?_
  refine EW.on ?_
  refine EW.ret ?_
  refine EW.returnsC Try.results8 rfl bxe Try.underlying33 rfl (i33 ⟨hlk, kp.d⟩) ⟨_, 2, (body.take 544), rfl, ⟨rfl, by decide, ⟨hlk, kp.d⟩, ?_, hy5.fxo fe (fun k hk => by have hk : k = q2 := hk; rw [hk]; exact (hy.cut 0 544 (by omega) (by omega)).offB' (by omega))⟩, fun j h _ => .inr (fun e => by
    rcases h with h | h
    · rw [h] at hb; simp at hb
    · exact h (cutV_own e)), sb5.trans (fe.low (by omega) (by have := sb5.size; omega))⟩
  show fltD 2 hl' _ = 0
  unfold fltD
  rw [if_pos (by decide), if_pos hsu, if_neg (by simp; omega), if_neg (by simp; omega)]
set_option maxRecDepth 100000 in
set_option maxHeartbeats 4000000 in
theorem right_2mid (p : Pk) (kp : p.ok) (body : List UInt8) (w : World) (hy : Has w p.bv body) (hr : rsD p.k 2 = 1) (hb : 32 ≤ body.length) (hb2 : body.length ≤ 544) : Calls Try.prog 8 #[p.v] w fun e w' => ∃ p' : Pk, ∃ k body', e = .returned p'.v ∧ RtP w' p' k body' ∧ (∀ j, Off p.bv body j → j < w.heap.size → Off p'.bv body' j) ∧ Below w.heap.size w w' := by
  obtain ⟨w1, q1, r1, by1, e1, hq1⟩ := box_any 33 p.cs w
  obtain ⟨w2, q2, r2, bx2, e2, hq2⟩ := new_any (t := 33) (cs := Pk.z.cs) zv33 w1
  have l1 := e1.size
  have hq1l := by1.lt
  have by2 := by1.on e2
  have sb2 := e1.trans (e2.mono l1)
  have hy2 := hy.below sb2
  have hoq : Off p.bv body q1 := hy.offB' (by omega)
  have ob_own : ∀ {W : World} {b : Nat} {v : Value} {bs : List UInt8}, Ob W b v bs → Own W b v bs := fun h => by
    obtain ⟨hx, h1 | ⟨g, cp, cur, rfl, hg, hr⟩⟩ := h.row
    · exact ⟨hx, .inl h1⟩
    · exact ⟨hx, .inr ⟨g, cp, cur, rfl, h.base _ rfl, hr⟩⟩
  obtain ⟨hl', hhl⟩ : ∃ h : Hl, h = Hl.z := ⟨_, rfl⟩
  have hlk : hl'.ok := by rw [hhl]; exact Hl.z_ok
  have hsu : suitD 2 hl' := ⟨fun _ => hhl, fun h => absurd rfl h⟩
  have z30 : ¬ (544 : Int) < (body.length : Int) := by omega
  have z38 : ¬ (body.length : Int) < 32 := by omega
  refine calls_of_args [p.v] Try.func8 rfl 49 Try.ntmps8 (by show 1 ≤ 49; decide) ?_
  refine EW.seq ?_
  refine EW.region ?_
  refine WL.box rfl rfl rfl r1 ?_
  refine WL.new rfl rfl r2 ?_
  refine WL.done ?_
  refine EW.on ?_
  refine EW.seq ?_
  refine EW.region ?_
  refine WL.field rfl rfl rfl (f33_0 q1 0 _) ?_
  refine WL.load rfl rfl rfl (ldPkK by2) ?_
  refine WL.call [.int .i64 p.k, .int .i64 2] enter10 rfl rfl rfl (rest_any p.k 2 (by decide) (by decide) _) ?_
  rintro _ wz ⟨rfl, hz⟩
  rw [hz, hr]
  clear hz
  refine ⟨_, rfl, ?_⟩
  refine WL.bin rfl rfl rfl rfl (int_add (c := 2) (by decide) _ _ _) ?_
  refine WL.field rfl rfl rfl (f33_0 q1 0 _) ?_
  obtain ⟨w3, s3, by3, f3⟩ := stPkK by2 2
  refine WL.store rfl rfl rfl s3 ?_
  have sb3 := sb2.trans (f3.low (by omega) (by have := sb2.size; omega))
  have bx3 := bx2.fx f3 (fun e => by omega)
  have hy3 := hy2.fxo f3 (fun k hk => by have hk : k = q1 := hk; rw [hk]; exact hoq)
  have ok3 : Pk.ok ⟨2, p.hl, p.hd, p.bv⟩ := ⟨kp.l, kp.d⟩
  refine WL.done ?_
  refine EW.on ?_
  refine EW.seq ?_
  refine EW.seq ?_
  refine EW.region ?_
  refine WL.field rfl rfl rfl (f33_0 q1 0 _) ?_
  refine WL.load rfl rfl rfl (ldPkK by3) ?_
  first | refine WL.bin rfl rfl rfl rfl (int_eq_t rfl _ _ _) ?_ | refine WL.bin rfl rfl rfl rfl (int_eq_t ‹_› _ _ _) ?_ | refine WL.bin rfl rfl rfl rfl (int_eq_f ‹_› _ _ _) ?_ | refine WL.bin rfl rfl rfl rfl (int_eq_d _ _ _ _ _) ?_
  refine WL.done ?_
  refine EW.on ?_
  refine EW.cond_t rfl ?_
  refine EW.region ?_
  refine WL.buildN [] rfl rfl rfl (bd26 _) ?_
  refine WL.field rfl rfl rfl (f33_1 q1 0 _) ?_
  obtain ⟨w4, s4, by4, f4⟩ := stPkL by3 ok3 Hl.z Hl.z_ok
  refine WL.store rfl rfl rfl s4 ?_
  have sb4 := sb3.trans (f4.low (by omega) (by have := sb3.size; omega))
  have bx4 := bx3.fx f4 (fun e => by omega)
  have hy4 := hy3.fxo f4 (fun k hk => by have hk : k = q1 := hk; rw [hk]; exact hoq)
  have ok4 : Pk.ok ⟨2, Hl.z, p.hd, p.bv⟩ := ⟨Hl.z_ok, kp.d⟩
  refine WL.done ?_
  rw [← hhl] at *
  refine EW.on ?_
  refine EW.seq ?_
  refine EW.seq ?_
  refine EW.region ?_
  refine WL.field rfl rfl rfl (f33_3 q1 0 _) ?_
  refine WL.load rfl rfl rfl (ldPkB by4 ok4) ?_
  refine WL.len rfl rfl rfl (hy4.len _ _) ?_
  first | refine WL.bin rfl rfl rfl rfl (int_gt_t ‹_› _ _ _) ?_ | refine WL.bin rfl rfl rfl rfl (int_gt_f ‹_› _ _ _) ?_ | refine WL.bin rfl rfl rfl rfl (int_gt_d _ _ _ _ _) ?_
  refine WL.done ?_
  refine EW.on ?_
  refine EW.cond_f rfl ?_
  refine EW.skip ?_
  refine EW.on ?_
  refine EW.seq ?_
  refine EW.seq ?_
  refine EW.region ?_
  refine WL.field rfl rfl rfl (f33_3 q1 0 _) ?_
  refine WL.load rfl rfl rfl (ldPkB by4 ok4) ?_
  refine WL.len rfl rfl rfl (hy4.len _ _) ?_
  first | refine WL.bin rfl rfl rfl rfl (int_lt_t ‹_› _ _ _) ?_ | refine WL.bin rfl rfl rfl rfl (int_lt_f ‹_› _ _ _) ?_ | refine WL.bin rfl rfl rfl rfl (int_lt_d _ _ _ _ _) ?_
  refine WL.done ?_
  refine EW.on ?_
  refine EW.cond_f rfl ?_
  refine EW.skip ?_
  refine EW.on ?_
  refine EW.seq ?_
  refine EW.region ?_
  refine WL.load rfl rfl rfl (ldPk by4 ok4) ?_
  obtain ⟨we, se, bxe, fe⟩ := stPk bx4 Pk.z_ok ⟨2, hl', p.hd, p.bv⟩ ⟨hlk, kp.d⟩ hy4.sl
  refine WL.store rfl rfl rfl se ?_
  refine WL.done ?_
  refine EW.on ?_
  refine EW.ret ?_
  refine EW.returnsC Try.results8 rfl bxe Try.underlying33 rfl (i33 ⟨hlk, kp.d⟩) ⟨_, 2, body, rfl, ⟨rfl, by decide, ⟨hlk, kp.d⟩, ?_, hy4.fxo fe (fun k hk => by have hk : k = q2 := hk; rw [hk]; exact hy.offB' (by omega))⟩, fun j h _ => h, sb4.trans (fe.low (by omega) (by have := sb4.size; omega))⟩
  show fltD 2 hl' _ = 0
  unfold fltD
  rw [if_pos (by decide), if_pos hsu, if_neg (by simp; omega), if_neg (by simp; omega)]
set_option maxRecDepth 100000 in
set_option maxHeartbeats 4000000 in
theorem right_2low (p : Pk) (kp : p.ok) (body : List UInt8) (w : World) (hy : Has w p.bv body) (hr : rsD p.k 2 = 1) (hb : body.length < 32) : Calls Try.prog 8 #[p.v] w fun e w' => ∃ p' : Pk, ∃ k body', e = .returned p'.v ∧ RtP w' p' k body' ∧ (∀ j, Off p.bv body j → j < w.heap.size → Off p'.bv body' j) ∧ Below w.heap.size w w' := by
  obtain ⟨w1, q1, r1, by1, e1, hq1⟩ := box_any 33 p.cs w
  obtain ⟨w2, q2, r2, bx2, e2, hq2⟩ := new_any (t := 33) (cs := Pk.z.cs) zv33 w1
  have l1 := e1.size
  have hq1l := by1.lt
  have by2 := by1.on e2
  have sb2 := e1.trans (e2.mono l1)
  have hy2 := hy.below sb2
  have hoq : Off p.bv body q1 := hy.offB' (by omega)
  have ob_own : ∀ {W : World} {b : Nat} {v : Value} {bs : List UInt8}, Ob W b v bs → Own W b v bs := fun h => by
    obtain ⟨hx, h1 | ⟨g, cp, cur, rfl, hg, hr⟩⟩ := h.row
    · exact ⟨hx, .inl h1⟩
    · exact ⟨hx, .inr ⟨g, cp, cur, rfl, h.base _ rfl, hr⟩⟩
  obtain ⟨hl', hhl⟩ : ∃ h : Hl, h = Hl.z := ⟨_, rfl⟩
  have hlk : hl'.ok := by rw [hhl]; exact Hl.z_ok
  have hsu : suitD 2 hl' := ⟨fun _ => hhl, fun h => absurd rfl h⟩
  have hsub : IntKind.i64.wrap (32 - (body.length : Int)) = ((32 - body.length : Nat) : Int) := by rw [IntKind.wrap_i64]; omega
  have z30 : ¬ (544 : Int) < (body.length : Int) := by omega
  have z38 : (body.length : Int) < 32 := by omega
  refine calls_of_args [p.v] Try.func8 rfl 49 Try.ntmps8 (by show 1 ≤ 49; decide) ?_
  refine EW.seq ?_
  refine EW.region ?_
  refine WL.box rfl rfl rfl r1 ?_
  refine WL.new rfl rfl r2 ?_
  refine WL.done ?_
  refine EW.on ?_
  refine EW.seq ?_
  refine EW.region ?_
  refine WL.field rfl rfl rfl (f33_0 q1 0 _) ?_
  refine WL.load rfl rfl rfl (ldPkK by2) ?_
  refine WL.call [.int .i64 p.k, .int .i64 2] enter10 rfl rfl rfl (rest_any p.k 2 (by decide) (by decide) _) ?_
  rintro _ wz ⟨rfl, hz⟩
  rw [hz, hr]
  clear hz
  refine ⟨_, rfl, ?_⟩
  refine WL.bin rfl rfl rfl rfl (int_add (c := 2) (by decide) _ _ _) ?_
  refine WL.field rfl rfl rfl (f33_0 q1 0 _) ?_
  obtain ⟨w3, s3, by3, f3⟩ := stPkK by2 2
  refine WL.store rfl rfl rfl s3 ?_
  have sb3 := sb2.trans (f3.low (by omega) (by have := sb2.size; omega))
  have bx3 := bx2.fx f3 (fun e => by omega)
  have hy3 := hy2.fxo f3 (fun k hk => by have hk : k = q1 := hk; rw [hk]; exact hoq)
  have ok3 : Pk.ok ⟨2, p.hl, p.hd, p.bv⟩ := ⟨kp.l, kp.d⟩
  refine WL.done ?_
  refine EW.on ?_
  refine EW.seq ?_
  refine EW.seq ?_
  refine EW.region ?_
  refine WL.field rfl rfl rfl (f33_0 q1 0 _) ?_
  refine WL.load rfl rfl rfl (ldPkK by3) ?_
  first | refine WL.bin rfl rfl rfl rfl (int_eq_t rfl _ _ _) ?_ | refine WL.bin rfl rfl rfl rfl (int_eq_t ‹_› _ _ _) ?_ | refine WL.bin rfl rfl rfl rfl (int_eq_f ‹_› _ _ _) ?_ | refine WL.bin rfl rfl rfl rfl (int_eq_d _ _ _ _ _) ?_
  refine WL.done ?_
  refine EW.on ?_
  refine EW.cond_t rfl ?_
  refine EW.region ?_
  refine WL.buildN [] rfl rfl rfl (bd26 _) ?_
  refine WL.field rfl rfl rfl (f33_1 q1 0 _) ?_
  obtain ⟨w4, s4, by4, f4⟩ := stPkL by3 ok3 Hl.z Hl.z_ok
  refine WL.store rfl rfl rfl s4 ?_
  have sb4 := sb3.trans (f4.low (by omega) (by have := sb3.size; omega))
  have bx4 := bx3.fx f4 (fun e => by omega)
  have hy4 := hy3.fxo f4 (fun k hk => by have hk : k = q1 := hk; rw [hk]; exact hoq)
  have ok4 : Pk.ok ⟨2, Hl.z, p.hd, p.bv⟩ := ⟨Hl.z_ok, kp.d⟩
  refine WL.done ?_
  rw [← hhl] at *
  refine EW.on ?_
  refine EW.seq ?_
  refine EW.seq ?_
  refine EW.region ?_
  refine WL.field rfl rfl rfl (f33_3 q1 0 _) ?_
  refine WL.load rfl rfl rfl (ldPkB by4 ok4) ?_
  refine WL.len rfl rfl rfl (hy4.len _ _) ?_
  first | refine WL.bin rfl rfl rfl rfl (int_gt_t ‹_› _ _ _) ?_ | refine WL.bin rfl rfl rfl rfl (int_gt_f ‹_› _ _ _) ?_ | refine WL.bin rfl rfl rfl rfl (int_gt_d _ _ _ _ _) ?_
  refine WL.done ?_
  refine EW.on ?_
  refine EW.cond_f rfl ?_
  refine EW.skip ?_
  refine EW.on ?_
  refine EW.seq ?_
  refine EW.seq ?_
  refine EW.region ?_
  refine WL.field rfl rfl rfl (f33_3 q1 0 _) ?_
  refine WL.load rfl rfl rfl (ldPkB by4 ok4) ?_
  refine WL.len rfl rfl rfl (hy4.len _ _) ?_
  first | refine WL.bin rfl rfl rfl rfl (int_lt_t ‹_› _ _ _) ?_ | refine WL.bin rfl rfl rfl rfl (int_lt_f ‹_› _ _ _) ?_ | refine WL.bin rfl rfl rfl rfl (int_lt_d _ _ _ _ _) ?_
  refine WL.done ?_
  refine EW.on ?_
  refine EW.cond_t rfl ?_
  refine EW.ordB [(0, 0, 0), (1, 0, 1), (3, 0, 0), (4, 0, 1), (5, 0, 0), (6, 0, 0), (2, 1, 1), (7, 1, 1), (8, 0, 0), (9, 1, 0)] (by kernel_rfl) rfl (by kernel_rfl) ?_
  simp only [opsZ, List.getD_cons_zero, List.getD_cons_succ]
  refine ZE.field rfl rfl rfl rfl sz0 (fun W => f33_3 q1 0 W) ?_
  refine ZE.load rfl rfl rfl rfl sz1 (fun W hW => ldPkB (by4.on (sb_of hW)) ok4) ?_
  refine ZE.field rfl rfl rfl rfl sz0 (fun W => f33_3 q1 0 W) ?_
  refine ZE.load rfl rfl rfl rfl sz1 (fun W hW => ldPkB (by4.on (sb_of hW)) ok4) ?_
  refine ZE.len rfl rfl rfl rfl sz0 (fun W => hy4.len W _) ?_
  refine ZE.bin rfl rfl rfl rfl rfl sz0 (fun W => int_sub hsub W _ _) ?_
  refine ZE.app2 (fun v W => Ob W w4.heap.size v body ∧ Below w4.heap.size w4 W) rfl rfl rfl rfl (fun _ _ h => .inr h.2) (fun W hW => by
    obtain ⟨v', w', a1, a2, a3⟩ := app_nil (hy4.below hW) (by omega) 31
    exact ⟨v', w', a1, a2.lower hW.size, hW.trans (a3.mono hW.size)⟩) ?_
  rintro va ⟨_, _, _⟩
  refine ZE.app2 (fun v W => Ob W w4.heap.size v (body ++ List.replicate (32 - body.length) 0) ∧ Below w4.heap.size w4 W) rfl rfl rfl rfl (fun _ _ h => .inr h.2) (fun W hW => by
    obtain ⟨v', w', a1, a2, a3⟩ := run_zeros W w4.heap.size va body (ob_own hW.1) (32 - body.length) (by omega) hW.2.size 31
    exact ⟨v', w', a1, a2.ob, hW.2.trans ((grown_fx a3).below (fun k hk e => by have := hW.1.base k e; omega) hW.2.size)⟩) ?_
  rintro vz ⟨Wz, oz, _⟩
  refine ZE.field rfl rfl rfl rfl sz0 (fun W => f33_3 q1 0 W) ?_
  refine ZE.store (fun W => Ob W w4.heap.size vz (body ++ List.replicate (32 - body.length) 0) ∧ Blk W q1 (Pk.cs ⟨2, hl', p.hd, vz⟩) 33 ∧ Blk W q2 Pk.z.cs 33 ∧ Below w.heap.size w W) rfl rfl rfl (fun _ _ => .inl rfl) (fun W hW => by
    obtain ⟨w', a1, a2, a3⟩ := stPkB (by4.on hW.2) ok4 vz oz.has.sl
    exact ⟨w', a1, hW.1.fx a3 (fun k hk e => by have hk : k = q1 := hk; have := hW.1.base k e; have := by4.lt; omega), a2, (bx4.on hW.2).fx a3 (fun e => by omega), (sb4.trans (hW.2.mono (by have := sb4.size; omega))).trans (a3.low (by omega) (by have := hW.2.size; have := sb4.size; omega))⟩) ?_
  rintro w9 ⟨oz9, by9, bx9, sb9⟩
  have hszi := sb4.size
  have hy9 := oz9.has
  have ok9 : Pk.ok ⟨2, hl', p.hd, vz⟩ := ⟨hlk, kp.d⟩
  have hoq9 : Off vz (body ++ List.replicate (32 - body.length) 0) q2 := .inr fun e => by have := oz9.base _ e; have := bx4.lt; omega
  refine EW.on ?_
  refine EW.seq ?_
  refine EW.region ?_
  refine WL.load rfl rfl rfl (ldPk by9 ok9) ?_
  obtain ⟨we, se, bxe, fe⟩ := stPk bx9 Pk.z_ok ⟨2, hl', p.hd, vz⟩ ⟨hlk, kp.d⟩ hy9.sl
  refine WL.store rfl rfl rfl se ?_
  refine WL.done ?_
  refine EW.on ?_
  refine EW.ret ?_
  refine EW.returnsC Try.results8 rfl bxe Try.underlying33 rfl (i33 ⟨hlk, kp.d⟩) ⟨_, 2, (body ++ List.replicate (32 - body.length) 0), rfl, ⟨rfl, by decide, ⟨hlk, kp.d⟩, ?_, hy9.fxo fe (fun k hk => by have hk : k = q2 := hk; rw [hk]; exact hoq9)⟩, fun j _ hj => .inr (fun e => by have := oz9.base _ e; omega), sb9.trans (fe.low (by omega) (by have := sb9.size; omega))⟩
  show fltD 2 hl' _ = 0
  unfold fltD
  rw [if_pos (by decide), if_pos hsu, if_neg (by simp; omega), if_neg (by simp; omega)]
theorem right_any' (p : Pk) (kp : p.ok) (body : List UInt8) (w : World) (hy : Has w p.bv body) (hmax : body.length ≤ 140737488355328) : Calls Try.prog 8 #[p.v] w fun e w' => ∃ p' : Pk, ∃ k body', e = .returned p'.v ∧ RtP w' p' k body' ∧ (∀ j, Off p.bv body j → j < w.heap.size → Off p'.bv body' j) ∧ Below w.heap.size w w' := by
  have h2 := (rsD_lt p.k (show 0 < 2 by decide)).1
  by_cases hr : rsD p.k 2 = 0
  · by_cases h1 : 544 < body.length
    · exact right_1big p kp body w hy hr h1 hmax
    · by_cases h2 : body.length < 32
      · exact right_1low p kp body w hy hr h2
      · exact right_1mid p kp body w hy hr (by omega) (by omega)
  · have hr : rsD p.k 2 = 1 := by omega
    by_cases h1 : 544 < body.length
    · exact right_2big p kp body w hy hr h1 hmax
    · by_cases h2 : body.length < 32
      · exact right_2low p kp body w hy hr h2
      · exact right_2mid p kp body w hy hr (by omega) (by omega)
end Go.Proofs.Ytobfebpinkikdaa
