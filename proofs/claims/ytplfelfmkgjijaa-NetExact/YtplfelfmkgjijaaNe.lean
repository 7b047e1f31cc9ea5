import Derived.Test.YtplfelfmkgjijaaNd
set_option linter.unusedVariables false
set_option linter.unusedSimpArgs false
namespace Go.Proofs.Ytplfelfmkgjijaa
open Go.RowKit

theorem Nt.lk {w : World} {p r : Nat} {nodes most next : Int} {E : List Me} {c : Nat} (h : Nt w p r nodes most next E c) : lkE E next = none := lk_of_none fun m hm e => by have := h.up m hm; omega
theorem Nt.len {w : World} {p r : Nat} {nodes most next : Int} {E : List Me} {c : Nat} (h : Nt w p r nodes most next E c) : True := trivial
theorem lk_has {w : World} {p r : Nat} {nodes most next : Int} {E : List Me} {c : Nat} (h : Nt w p r nodes most next E c) (k : Int) : Has w ((lkE E k).getD Fl.z).v ((lkE E k).getD Fl.z).b ∧ ((lkE E k).getD Fl.z).b.length ≤ 140737488355328 := by
  cases hl : lkE E k with
  | none => exact ⟨Has.nil _, Nat.zero_le _⟩
  | some x =>
    obtain ⟨m, hm, rfl, _⟩ := lk_some hl
    exact ⟨h.hs m hm, h.lb m hm⟩
section
variable {P : Program} {n : Nat} {ops : Array Oper} {S : Nat → World → Prop} {K : List (Nat × Value) → (World → Prop) → Prop} {i c lv : Nat} {ty : TypeId} {ps : String} {af : Array Edge} {gd : Option (Nat × Bool)} {r : List (Oper × Nat × Nat)} {e : List (Nat × Value)} {C : World → Prop}
theorem ZE.mup {t : TypeId} {x y z : Operand} {u u' u'' : Value} (C' : World → Prop) (hw : wantE ops e ⟨none, .mapUpdate t x y z, ty, ps, af, gd⟩ = some true) (hx : evE e x = some u) (hy : evE e y = some u') (hz : evE e z = some u'') (h1 : ∀ w, C' w → S lv w) (hr : ∀ w, C w → ∃ w', (Instr.mapUpdate t u u' u'').run P w = .ok () w' ∧ C' w') (k : wpZE P n ops S K r e C') : wpZE P n ops S K ((⟨none, .mapUpdate t x y z, ty, ps, af, gd⟩, 1, lv) :: r) e C :=
  ZE.turn (fun _ => C') hw (fun j hj => by cases hj) (fun _ => h1) (fun W hW a ha => by
    obtain ⟨w', h2, h3⟩ := hr W hW
    exact .inr (.inl ⟨w', (by simp [execOp, ha.ev hx, ha.ev hy, ha.ev hz, h2, Result.andThen]), h3⟩)) (fun _ _ => k)
theorem ZE.lenW {t : TypeId} {x : Operand} {u v : Value} (h1 : decide (c = 1) = false) (hw : wantE ops e ⟨some i, .call { callee := .builtin .len, args := #[x], argTypes := #[t] }, ty, ps, af, gd⟩ = some true) (hi : decide (i < n) = true) (hx : evE e x = some u) (hc : ∀ w, C w → SZ S c lv C w) (hr : ∀ w, SZ S c lv C w → (Builtin.len_ #[t] ty #[u]).run P w = .ok v w) (k : wpZE P n ops S K r ((i, v) :: e) C) : wpZE P n ops S K ((⟨some i, .call { callee := .builtin .len, args := #[x], argTypes := #[t] }, ty, ps, af, gd⟩, c, lv) :: r) e C :=
  ZE.val h1 hw hi hc (fun a ha W hW => by simp [execOp, resolve, invoke, builtin, ha.ev hx, hr W hW, Result.andThen]) k
end
theorem stN {w : World} {p r : Nat} {nodes most next : Int} {E : List Me} {c : Nat} (h : Nt w p r nodes most next E c) (k : Int) (hk : next ≤ k) : ∃ w', (Instr.storeAt 3 (.pointer (some ⟨p, 2, none⟩)) (.int .i64 k)).run Try.prog w = .ok () w' ∧ Nt w' p r nodes most k E c ∧ Fx (fun j => j = p) w w' := by
  obtain ⟨w', r1, b1, f1⟩ := stI h.bl (j := 2) (by show 2 < 4; decide) k
  exact ⟨w', r1, ⟨b1, h.mp.fx f1 (fun e => h.ne e.symm), fun m hm => (h.hs m hm).fxo f1 (fun j hj => by have e : j = p := hj; rw [e]; exact (h.hs m hm).offB h.bl (nob_net _ _ _ _)), h.lb, h.asc, fun m hm => by have := h.up m hm; omega⟩, f1⟩
set_option maxRecDepth 100000 in
set_option maxHeartbeats 4000000 in
theorem start_any {w : World} {p r : Nat} {nodes most next : Int} {E : List Me} {c : Nat} (h : Nt w p r nodes most next E c) (x : Fl) (hx : Has w x.v x.b) (hl : x.b.length ≤ 140737488355328) (hn : 0 ≤ next ∧ next < 9000000000000000000) : Calls Try.prog 21 #[.pointer (some ⟨p, 0, none⟩), x.g] w fun e w' =>
    (most ≤ E.length ∧ e = .returned (.tuple #[.int .i64 0, .int .i64 231]) ∧ Below w.heap.size w w') ∨
    (¬ most ≤ E.length ∧ ∃ v', e = .returned (.tuple #[.int .i64 next, .int .i64 0]) ∧ Nt w' p r nodes most (next + 1) (E ++ [⟨⟨next, x.f, x.t, v', x.b⟩, c⟩]) (c + 1) ∧ Fresh w v' ∧ Fx (fun k => k = p ∨ k = r) w w') := by
  obtain ⟨w1, q, r1, b1, l1, hq, s1⟩ := box36 x w
  have hsx := sh_of hx
  have n1 := h.on l1
  refine calls_of_args [.pointer (some ⟨p, 0, none⟩), x.g] Try.func21 rfl 39 Try.ntmps21 (by show 2 ≤ 39; decide) ?_
  refine EW.seq ?_
  refine EW.region ?_
  refine WL.box rfl rfl rfl r1 ?_
  first | refine WL.assign rfl rfl rfl ?_
  first | refine WL.assign rfl rfl rfl ?_
  refine WL.done ?_
  refine EW.on ?_
  refine EW.seq ?_
  refine EW.seq ?_
  refine EW.ordB [(0, 0, 0), (1, 0, 0), (2, 0, 0), (3, 0, 1), (4, 0, 1), (5, 0, 0), (6, 0, 0), (7, 0, 0), (8, 0, 1), (9, 0, 0)] (by kernel_rfl) rfl (by kernel_rfl) ?_
  simp only [opsZ, List.getD_cons_zero, List.getD_cons_succ]
  first | refine ZE.move rfl rfl rfl rfl sz0 ?_
  first | refine ZE.nilc rfl rfl rfl rfl sz0 ?_
  refine ZE.field rfl rfl rfl rfl sz0 (fun W => g58_3 p W) ?_
  refine ZE.load rfl rfl rfl rfl sz1 (fun W hW => ld56 (n1.on (sb_of hW))) ?_
  refine ZE.lenW rfl rfl rfl rfl sz1 (fun W hW => len56 (n1.on (sb_of hW)).mp _) ?_
  first | refine ZE.move rfl rfl rfl rfl sz0 ?_
  first | refine ZE.nilc rfl rfl rfl rfl sz0 ?_
  refine ZE.field rfl rfl rfl rfl sz0 (fun W => g58_1 p W) ?_
  refine ZE.load rfl rfl rfl rfl sz1 (fun W hW => ldMo (n1.on (sb_of hW))) ?_
  refine ZE.bin rfl rfl rfl rfl rfl sz0 (fun W => int_ge_d _ _ W _ _) ?_
  rintro W hW
  refine EW.on ?_
  refine EW.cond_d rfl (fun h15 => ?_) (fun h15 => ?_)
  · refine EW.seq ?_
    refine EW.region ?_
    first | refine WL.assign rfl rfl rfl ?_
    first | refine WL.assign rfl rfl rfl ?_
    refine WL.done ?_
    refine EW.on ?_
    refine EW.ret ?_
    refine pr_then ?_
    exact EW.returns2 Try.results21 rfl rfl (.inl ⟨h15, rfl, bt l1 hW⟩)
  · refine EW.skip ?_
    refine EW.on ?_
    refine EW.seq ?_
    have n2 := n1.on hW
    have b2 := b1.on hW
    have hx2 : Has W x.v x.b := hx.below (bt l1 hW)
    refine EW.region ?_
    refine WL.load rfl rfl rfl (ld36 b2) ?_
    refine WL.call [x.g] enter23 rfl rfl rfl (own_any x _ hx2 hl) ?_
    rintro y w3 ⟨v', rfl, own3, l3⟩
    refine ⟨_, rfl, ?_⟩
    obtain ⟨w4, r4, b4, f4⟩ := st36 (y := ⟨x.n, x.f, x.t, v', x.b⟩) (b2.on l3) (sh_of own3.has)
    have hq3 : q < W.heap.size := by have := b2.lt; omega
    have own4 := own3.fx f4 (fun j hj e => by have := own3.ownBlock j hj; omega)
    have n4 := (n2.on l3).fx f4 (by have := h.bl.lt; omega) (by have := h.mp.ltb; omega) (fun m hm j hj => by
      have e : j = q := hj
      rw [e]
      exact ((n2.on l3).hs m hm).offB (b2.on l3) (nob_fl hsx))
    obtain ⟨w5, r5, b5, f5⟩ := stI b4 (j := 0) (by show 0 < 4; decide) next
    replace b5 : Blk w5 q (Fl.cs ⟨next, x.f, x.t, v', x.b⟩) 36 := b5
    have own5 := own4.fx f5 (fun j hj e => by have := own3.ownBlock j hj; omega)
    have n5 := n4.fx f5 (by have := h.bl.lt; omega) (by have := h.mp.ltb; omega) (fun m hm j hj => by
      have e : j = q := hj
      rw [e]
      exact (n4.hs m hm).offB b4 (nob_fl (sh_of own4.has)))
    refine WL.store rfl rfl rfl r4 ?_
    refine WL.done ?_
    refine EW.on ?_
    refine EW.seq ?_
    refine EW.region ?_
    first | refine WL.move rfl rfl rfl ?_
    first | refine WL.nilc rfl rfl rfl ?_
    refine WL.field rfl rfl rfl (g58_2 p _) ?_
    refine WL.load rfl rfl rfl (ldNe n4) ?_
    refine WL.field rfl rfl rfl (g36_0 q _) ?_
    refine WL.store rfl rfl rfl r5 ?_
    refine WL.done ?_
    refine EW.on ?_
    refine EW.seq ?_
    refine EW.ordB [(0, 0, 0), (1, 0, 0), (2, 0, 0), (3, 0, 1), (4, 0, 0), (5, 0, 1), (6, 0, 1), (7, 1, 0)] (by kernel_rfl) rfl (by kernel_rfl) ?_
    simp only [opsZ, List.getD_cons_zero, List.getD_cons_succ]
    first | refine ZE.move rfl rfl rfl rfl sz0 ?_
    first | refine ZE.nilc rfl rfl rfl rfl sz0 ?_
    refine ZE.field rfl rfl rfl rfl sz0 (fun W => g58_3 p W) ?_
    refine ZE.load rfl rfl rfl rfl sz1 (fun W hW => ld56 (n5.on (sb_of hW))) ?_
    refine ZE.field rfl rfl rfl rfl sz0 (fun W => g36_0 q W) ?_
    refine ZE.load rfl rfl rfl rfl sz1 (fun W hW => ldI (b5.on (sb_of hW)) rfl) ?_
    refine ZE.load rfl rfl rfl rfl sz1 (fun W hW => ld36 (b5.on (sb_of hW))) ?_
    refine ZE.mup (fun W => Mp W r (E ++ [⟨⟨next, x.f, x.t, v', x.b⟩, c⟩]) (c + 1) ∧ Fx (fun k => k = r) w5 W) rfl rfl rfl rfl (fun _ _ => .inl rfl) (fun W hW => ?_) ?_
    · obtain ⟨w', u1, u2, u3⟩ := run_up (n5.on hW).mp ⟨next, x.f, x.t, v', x.b⟩ (sh_of own4.has) h.lk
      exact ⟨w', u1, u2, (Fx.of_below hW).trans u3 (fun _ _ e => e)⟩
    rintro W5 ⟨mp6, f6⟩
    refine EW.on ?_
    refine EW.seq ?_
    have fresh : Fresh w v' := fun j hj => by
      have := own3.ownBlock j hj
      have := l1.size
      have := hW.size
      omega
    have hne : ∀ j, v'.ownBlock = some j → ¬ j = r := fun j hj e => by
      have := fresh j hj
      have := h.mp.ltb
      omega
    have n6b : Blk W5 p [.int .i64 nodes, .int .i64 most, .int .i64 next, .map (some r)] 58 := n5.bl.fx f6 h.ne
    have ld6 : (Instr.loadAt 3 (.pointer (some ⟨p, 2, none⟩))).run Try.prog W5 = .ok (.int .i64 next) W5 := ldI n6b rfl
    obtain ⟨w7, r7, b7n, f7⟩ := stI n6b (j := 2) (by show 2 < 4; decide) (next + 1)
    have b7 : Blk w7 q (Fl.cs ⟨next, x.f, x.t, v', x.b⟩) 36 := (b5.fx f6 (by have := h.mp.ltb; omega)).fx f7 (by have := h.bl.lt; omega)
    have hsz5 : W.heap.size ≤ W5.heap.size := by have := l3.size; have := f4.size; have := f5.size; have := f6.size; omega
    have fin : Fx (fun k => k = p ∨ k = r) w w7 := by
      have a1 : Fx (fun k => k = p ∨ k = r) w w3 := Fx.of_below (bt (bt l1 hW) l3)
      have a2 := a1.trans f4 (fun i hi e => by have e' : i = q := e; omega)
      have a3 := a2.trans f5 (fun i hi e => by have e' : i = q := e; omega)
      have a4 := a3.trans f6 (fun i hi e => .inr e)
      exact a4.trans f7 (fun i hi e => .inl e)
    have n7 : Nt w7 p r nodes most (next + 1) (E ++ [⟨⟨next, x.f, x.t, v', x.b⟩, c⟩]) (c + 1) := by
      refine ⟨b7n, mp6.fx f7 (fun e => h.ne e.symm), fun m hm => ?_, fun m hm => ?_, ?_, fun m hm => ?_⟩
      · have hold : Has W5 m.x.v m.x.b := by
          rcases List.mem_append.1 hm with hm | hm
          · exact (n5.hs m hm).fxo f6 (fun j hj => by have e : j = r := hj; rw [e]; exact map_off (n5.hs m hm) n5.mp.hp)
          · rw [List.mem_singleton.1 hm]
            exact (own5.fx f6 (fun j hj e => hne j hj e)).has
        exact hold.fxo f7 (fun j hj => by have e : j = p := hj; rw [e]; exact hold.offB n6b (nob_net _ _ _ _))
      · rcases List.mem_append.1 hm with hm | hm
        · exact h.lb m hm
        · rw [List.mem_singleton.1 hm]; exact hl
      · rw [List.map_append, List.pairwise_append]
        refine ⟨h.asc, by simp, fun a ha b hb => ?_⟩
        obtain ⟨m, hm, rfl⟩ := List.mem_map.1 ha
        simp only [List.map_cons, List.map_nil, List.mem_singleton] at hb
        rw [hb]
        exact h.up m hm
      · rcases List.mem_append.1 hm with hm | hm
        · have := h.up m hm; omega
        · rw [List.mem_singleton.1 hm]; show next < next + 1; omega
    refine EW.region ?_
    first | refine WL.move rfl rfl rfl ?_
    first | refine WL.nilc rfl rfl rfl ?_
    refine WL.field rfl rfl rfl (g58_2 p _) ?_
    refine WL.load rfl rfl rfl ld6 ?_
    refine WL.bin rfl rfl rfl rfl (int_add (c := next + 1) (by rw [IntKind.wrap_i64]; omega) _ _ _) ?_
    first | refine WL.nilc rfl rfl rfl ?_
    refine WL.field rfl rfl rfl (g58_2 p _) ?_
    refine WL.store rfl rfl rfl r7 ?_
    refine WL.done ?_
    refine EW.on ?_
    refine EW.seq ?_
    refine EW.region ?_
    refine WL.field rfl rfl rfl (g36_0 q _) ?_
    refine WL.load rfl rfl rfl (ldI b7 rfl) ?_
    first | refine WL.assign rfl rfl rfl ?_
    first | refine WL.assign rfl rfl rfl ?_
    refine WL.done ?_
    refine EW.on ?_
    refine EW.ret ?_
    exact EW.returns2 Try.results21 rfl rfl (.inr ⟨h15, v', rfl, n7, fresh, fin⟩)
end Go.Proofs.Ytplfelfmkgjijaa
