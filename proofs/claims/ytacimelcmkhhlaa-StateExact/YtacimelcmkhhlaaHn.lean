import Derived.Test.YtacimelcmkhhlaaHm
set_option linter.unusedVariables false
set_option linter.unusedSimpArgs false
namespace Go.Proofs.Ytacimelcmkhhlaa
open Go.RowKit

theorem info5s : (Try.prog.info? 5).map (·.size) = some 1 := by kernel_rfl
/-- Bytes laid over zeros. -/
def padR (Z bs : List UInt8) : List UInt8 := bs.take Z.length ++ Z.drop (bs.take Z.length).length
theorem padR_len (Z bs : List UInt8) : (padR Z bs).length = Z.length := by
  unfold padR
  rw [List.length_append, List.length_drop]
  have : (bs.take Z.length).length ≤ Z.length := by rw [List.length_take]; omega
  omega
theorem padR_full {Z bs : List UInt8} (h : bs.length = Z.length) : padR Z bs = bs := by
  unfold padR
  rw [List.take_of_length_le (by omega), List.drop_of_length_le (by omega), List.append_nil]
theorem cpB {w : World} {p off : Nat} {cs a b : List Value} {t : TypeId} {Z : List UInt8} (hb : Blk w p cs t) (hc : cs = a ++ (Z.map byt ++ b)) (ho : a.length = off) (cc : Nat) {v : Value} {bs : List UInt8} (hv : Has w v bs) (ty : TypeId) : ∃ (x : Int) (w' : World), (Builtin.copy_ #[38, 38] ty #[.slice (some ⟨p, off, none⟩) Z.length cc, v]).run Try.prog w = .ok (.int .i64 x) w' ∧ Blk w' p (a ++ ((padR Z bs).map byt ++ b)) t ∧ Fx (fun k => k = p) w w' := by
  have hl : (bs.take Z.length).length = min Z.length bs.length := List.length_take
  have hcl : off + Z.length ≤ cs.length := by rw [hc, List.length_append, List.length_append, List.length_map]; omega
  rcases hv with ⟨rfl, rfl⟩ | ⟨ad, cap, rfl, h2, h3⟩
  · have hrun := run_copy_none (P := Try.prog) w 38 38 ty 5 (some ⟨p, off, none⟩) none Z.length cc 0 0 Try.underlying38 info5s (by simp)
    exact ⟨_, _, hrun, by rw [hc] at hb; simpa [padR] using hb, Fx.refl _ _⟩
  · have hrun := run_copy_cells (P := Try.prog) w 38 38 ty 5 p off Z.length cc ad bs.length cap ((bs.take Z.length).map byt) Try.underlying38 info5s (by rw [List.length_map, hl]; exact Nat.min_comm _ _)
      (fun j v hj => by
        rw [List.getElem?_map, Option.map_eq_some_iff] at hj
        obtain ⟨u, hu, rfl⟩ := hj
        have hjq : j < (bs.take Z.length).length := (List.getElem?_eq_some_iff.1 hu).1
        rw [List.getElem?_take_of_lt (by omega)] at hu
        exact h3 j u hu)
      (fun j hj => by
        rw [List.length_map] at hj
        rw [hb.cell, List.getElem?_eq_getElem (by omega)]; rfl) (fun j _ => hb.frozen _) (byt_one _)
    refine ⟨_, _, hrun, ?_, Fx.setCells (S := fun k => k = p) p rfl _ _ _⟩
    have h := Blk.setCells ((bs.take Z.length).map byt) off w cs hb (by rw [List.length_map]; omega)
    have e : cs.take off ++ (bs.take Z.length).map byt ++ cs.drop (off + ((bs.take Z.length).map byt).length) = a ++ ((padR Z bs).map byt ++ b) := by
      rw [hc, ← ho, List.take_left, ← List.drop_drop, List.drop_left, List.length_map, List.drop_append_of_le_length (by rw [List.length_map]; omega), padR, List.map_append, ← List.map_drop]
      simp
    rw [e] at h
    exact h
section
variable {P : Program} {n : Fm} {ops : Array Oper} {S : Nat → World → Prop} {K : List (Nat × Value) → (World → Prop) → Prop} {i c lv : Nat} {ty : TypeId} {ps : String} {af : Array Edge} {gd : Option (Nat × Bool)} {r : List (Oper × Nat × Nat)} {e : List (Nat × Value)} {C : World → Prop}
theorem ZE.copy {t s : TypeId} {x y : Operand} {u u' : Value} (C' : Value → World → Prop) (hw : wantE ops e ⟨some i, .call { callee := .builtin .copy, args := #[x, y], argTypes := #[t, s] }, ty, ps, af, gd⟩ = some true) (hi : decide (i < n.k) = true) (hx : evE e x = some u) (hy : evE e y = some u') (h1 : ∀ v w, C' v w → S lv w) (hr : ∀ w, C w → ∃ v w', (Builtin.copy_ #[t, s] ty #[u, u']).run P w = .ok v w' ∧ C' v w') (k : ∀ v, (∃ w, C' v w) → wpZE P n ops S K r ((i, v) :: e) (C' v)) : wpZE P n ops S K ((⟨some i, .call { callee := .builtin .copy, args := #[x, y], argTypes := #[t, s] }, ty, ps, af, gd⟩, 1, lv) :: r) e C :=
  ZE.eff C' hw hi h1 (fun W hW => by
    obtain ⟨v, w', h2, h3⟩ := hr W hW
    exact ⟨v, w', fun a ha => by simp [execOp, resolve, invoke, builtin, ha.ev hx, ha.ev hy, h2, Result.andThen], h3⟩) k
end
/-- The reader apart from a block. -/
theorem Rd.fx {w w' : World} {q : Nat} {v : Value} {c : List UInt8} {at_ : Nat} {f : Int} (h : Rd w q v c at_ f) {g : Nat} (hf : Fx (fun k => k = g) w w') (hq : q ≠ g) (hv : Off v c g) : Rd w' q v c at_ f :=
  ⟨h.bl.fx hf hq, h.hs.fxo hf (fun k hk => by have e : k = g := hk; rw [e]; exact hv), h.le⟩
theorem Rd.off {w : World} {q : Nat} {v : Value} {c : List UInt8} {at_ : Nat} {f : Int} (h : Rd w q v c at_ f) {g : Nat} (hg : w.heap.size ≤ g) : Off v c g := by
  by_cases e2 : v.ownBlock = some g
  · rcases h.hs.blk e2 with e3 | e3
    · exact .inl e3
    · omega
  · exact .inr e2
def keyR (c : List UInt8) (s : Nat × Int) : List UInt8 := padR z32 (rB c 32 s)
theorem keyR_len (c : List UInt8) (s : Nat × Int) : (keyR c s).length = 32 := padR_len _ _
set_option maxRecDepth 100000 in
set_option maxHeartbeats 4000000 in
theorem rkey_any (q : Nat) (v : Value) (c : List UInt8) (s : Nat × Int) (w : World) (hr : Rd w q v c s.1 s.2) (hl : c.length ≤ 140737488355328) : Calls Try.prog 63 #[.pointer (some ⟨q, 0, none⟩)] w fun e w' => e = .returned (kv (keyR c s)) ∧ Rd w' q v c (rS c 32 s).1 (rS c 32 s).2 ∧ Fx (fun k => k = q) w w' := by
  obtain ⟨w1, q1, r1, bx1, e1, hq1⟩ := new_any (t := 25) (cs := z32.map byt) zv25 w
  obtain ⟨w2, q2, r2, bx2, e2, hq2⟩ := new_any (t := 25) (cs := z32.map byt) zv25 w1
  have l1 := e1.size
  have l2 := e2.size
  have hq1' := bx1.lt
  have hqw := hr.bl.lt
  have bx1' := bx1.on e2
  have rd2 := (hr.below e1).below e2
  have hoq2 : Off v c q2 := (hr.below e1).off (by omega)
  have hoq1 : Off v c q1 := hr.off (by omega)
  refine calls_of_args [.pointer (some ⟨q, 0, none⟩)] Try.func63 rfl 9 Try.ntmps63 (by show 1 ≤ 9; decide) ?_
  refine EW.seq ?_
  refine EW.region ?_
  refine WL.new rfl rfl r1 ?_
  refine WL.done ?_
  refine EW.on ?_
  refine EW.seq ?_
  refine EW.region ?_
  refine WL.new rfl rfl r2 ?_
  refine WL.done ?_
  refine EW.on ?_
  refine EW.seq ?_
  refine EW.ordB [(0, 0, 0), (1, 0, 0), (2, 1, 0), (3, 1, 0)] (by kernel_rfl) rfl (by kernel_rfl) ?_
  simp only [opsZ, List.getD_cons_zero, List.getD_cons_succ]
  refine ZE.slice0 rfl rfl rfl rfl sz0 (fun W => sl25 q2 0 W) ?_
  first | refine ZE.move rfl rfl rfl rfl sz0 ?_
  refine ZE.callR [.pointer (some ⟨q, 0, none⟩), .int .i64 32] (fun u W => Ob W w2.heap.size u (rB c 32 s) ∧ Rd W q v c (rS c 32 s).1 (rS c 32 s).2 ∧ Fx (fun k => k = q) w2 W) enter61 rfl rfl rfl (fun _ _ _ => .inl rfl) (fun W hW => (rfix_any q 32 v c s W (rd2.below hW) hl (by decide)).mono fun e w' ⟨u, g1, g2, g3, g4⟩ => ⟨u, g1, g2.lower hW.size, g3, (Fx.of_below hW).and g4⟩) ?_
  rintro vr ⟨_, _⟩
  refine ZE.copy (fun x W => Blk W q2 ((keyR c s).map byt) 25 ∧ Blk W q1 (z32.map byt) 25 ∧ Rd W q v c (rS c 32 s).1 (rS c 32 s).2 ∧ Fx (fun k => k = q ∨ k = q2) w2 W) rfl rfl rfl rfl (fun _ _ _ => .inl rfl) ?_ ?_
  · rintro W ⟨g1, g2, g3⟩
    obtain ⟨x, W2, c1, c2, c3⟩ := cpB (a := []) (b := []) (Z := z32) (off := 0) (bx2.fx g3 (fun e => by omega)) (by simp) rfl 32 g1.has 3
    refine ⟨_, W2, c1, by simpa [keyR] using c2, (bx1'.fx g3 (fun e => by omega)).fx c3 (fun e => by omega), g2.fx c3 (by omega) hoq2, (g3.mono (fun k _ e => .inl e)).trans c3 (fun k _ e => .inr e)⟩
  rintro vc ⟨_, _⟩
  rintro w3 ⟨y2, y1, rd3, f3⟩
  refine EW.on ?_
  refine EW.seq ?_
  refine EW.region ?_
  refine WL.load rfl rfl rfl (y2.ldA (a := []) (b := []) (m := (keyR c s).map byt) u25 rfl (i25 (keyR_len c s)) (by simp) rfl) ?_
  obtain ⟨w4, s4, b4, f4⟩ := y1.stA (a := []) (b := []) (m := z32.map byt) (ty := 25) (vs := (keyR c s).map byt) (i25 (keyR_len c s)) (byts_one' _) (by simp) rfl (by simp [keyR_len, z32])
  refine WL.store rfl rfl rfl s4 ?_
  refine WL.done ?_
  refine EW.on ?_
  refine EW.ret ?_
  refine EW.returnsC Try.results63 rfl b4 u25 rfl (by simpa using i25 (keyR_len c s)) ⟨by simp [kv], rd3.fx f4 (by omega) hoq1, ?_⟩
  refine ((Fx.of_below (S := fun k => k = q) (e1.trans (e2.mono l1))).trans f3 (fun k hk e => ?_)).trans f4 (fun k hk e => ?_)
  · rcases e with e | e
    · exact e
    · omega
  · have e : k = q1 := e
    omega
end Go.Proofs.Ytacimelcmkhhlaa
