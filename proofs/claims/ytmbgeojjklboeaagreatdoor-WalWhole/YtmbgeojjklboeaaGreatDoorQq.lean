import Derived.Test.YtmbgeojjklboeaaGreatDoorQp
import Derived.Test.YtmbgeojjklboeaaGreatDoorXfG
set_option linter.unusedVariables false
set_option linter.unusedSimpArgs false
namespace Go.Proofs.YtmbgeojjklboeaaGreatDoor
open Go.RowKit

theorem enter26 (args : Array Value) (W : World) : (callFunc 26 args).run Tryz.prog W = .ok (.enter 26 args) W := run_enter Tryz.func26 (by kernel_rfl) (by kernel_rfl) args W
theorem sec_img : ∀ (N : Nat) (s : Nat → List UInt8), (∀ i, i < N → (s i).length = 512) → ∀ i, i < N → secB (imgS N s) i = s i
  | 0, _, _, i, hi => absurd hi (Nat.not_lt_zero _)
  | N + 1, s, h, i, hi => by
    have e : imgS (N + 1) s = imgS N s ++ s N := by unfold imgS; rw [List.range_succ]; simp
    have hl := imgS_len N s (fun i hi => h i (by omega))
    unfold secB
    rw [e]
    by_cases hiN : i = N
    · subst hiN
      have hs : (s i).length ≤ 512 := by have := h i hi; omega
      rw [← hl, List.drop_left, List.take_of_length_le hs]
    · have h1 : i * 512 + 512 ≤ N * 512 := by omega
      have hle : i * 512 ≤ (imgS N s).length := by rw [hl]; exact Nat.le_trans (Nat.le_add_right _ 512) h1
      have hle2 : 512 ≤ ((imgS N s).drop (i * 512)).length := by rw [List.length_drop, hl]; exact Nat.le_sub_of_add_le (by rw [Nat.add_comm]; exact h1)
      rw [List.drop_append_of_le_length hle, List.take_append_of_le_length hle2]
      exact sec_img N s (fun i hi => h i (by omega)) i (by omega)
theorem strd {W : World} {q p more : Nat} {d l : Option Addr} {v : Value} (a : Option Addr) (hb : Blk W q (rmC d l p more v) 40) : ∃ W', (Instr.storeAt 36 (.pointer (some ⟨q, 0, none⟩)) (.pointer a)).run Tryz.prog W = .ok () W' ∧ Blk W' q (rmC a l p more v) 40 ∧ Fx (fun k => k = q) W W' := by
  have hc : W.cell? ⟨q, 0, none⟩ = some (.pointer d) := hb.cell 0
  have hf := hb.frozen 0
  exact ⟨W.setCell ⟨q, 0, none⟩ (.pointer a), by go_simp, hb.set 0 _, Fx.setCell (S := fun k => k = q) _ _ _ _ rfl⟩
set_option maxRecDepth 100000 in
set_option maxHeartbeats 4000000 in
theorem anew_any {w : World} {L : Lay} {c : Nat} {s : Nat → List UInt8} {q ql p more : Nat} {v : Value} {ps : List (List UInt8)} (h : Rm w L c s q ql p more v ps) (hp1 : 1 ≤ p) (hp2 : p ≤ 20) (hmore : more ≤ 3) : Calls Tryz.prog 7 #[.pointer (some ⟨q, 0, none⟩)] w fun e w' => e = .returned (.bool true) ∧ ∃ L' s' ql', Rm w' L' 0 s' q ql' p more v ps ∧ Fx (fun k => k = q) w w' ∧ (∀ k, L'.F k → w.heap.size ≤ k) ∧ w.heap.size ≤ ql' := by
  have hroom : roomD ((4 * p + 1 + more : Nat) : Int) = (p : Int) := by
    unfold roomD
    rw [if_neg (by omega), Int.tdiv_eq_ediv_of_nonneg (by omega), Int.min_eq_left (by omega)]
    omega
  have hil : (imgS (4 * p + 1 + more) s).length = (4 * p + 1 + more) * 512 := imgS_len _ s (fun i hi => h.dk.len i hi)
  have hsec : ∀ i, i < 4 * p + 1 + more → secB (imgS (4 * p + 1 + more) s) i = s i := sec_img _ s (fun i hi => h.dk.len i hi)
  refine calls_of_args [.pointer (some ⟨q, 0, none⟩)] Tryz.func7 rfl 55 Tryz.ntmps7 (by show 1 ≤ 55; decide) ?_; refine EW.seq ?_; refine EW.region ?_; refine WL.assign rfl rfl rfl ?_; refine WL.done ?_; refine EW.on ?_; refine EW.seq ?_; refine EW.region ?_; refine WL.move rfl rfl rfl ?_; refine WL.nilc rfl rfl rfl ?_; refine WL.field rfl rfl rfl (fld44 q 0 (by decide) _) ?_; refine WL.load rfl rfl rfl (ldD h.rm rfl) ?_; refine WL.call [.pointer (some ⟨L.p, 0, none⟩)] enter17 rfl rfl rfl (kimage_any h.dk) ?_
  rintro _ w1 ⟨u, rfl, o1, e1⟩
  refine ⟨_, rfl, ?_⟩; refine WL.assign rfl rfl rfl ?_; refine WL.done ?_; refine EW.on ?_; refine EW.seq ?_; refine EW.region ?_; refine WL.move rfl rfl rfl ?_; refine WL.call [u] enter26 rfl rfl rfl (load_ok u (imgS (4 * p + 1 + more) s) (4 * p + 1 + more) (by omega) (by omega) hil w1 o1.has) ?_
  rintro _ w2 ⟨rfl, hw2⟩
  obtain ⟨L2, hL2, hF2, d2⟩ := Dk.new w1 (4 * p + 1 + more) (imgS (4 * p + 1 + more) s) (by omega) (by omega) hil
  have e2 : Below w1.heap.size w1 w2 := by rw [hw2]; exact newW_below _ _ _
  rw [← hw2] at d2
  replace d2 := d2.congr (fun i hi => hsec i hi)
  rw [← hL2]
  have e02 := e1.trans (e2.mono e1.size)
  refine ⟨_, rfl, ?_⟩; refine WL.move rfl rfl rfl ?_; refine WL.extract rfl rfl rfl (ext_2 _ _ _).1 ?_; refine WL.extract rfl rfl rfl (ext_2 _ _ _).2 ?_; refine WL.assign rfl rfl rfl ?_; refine WL.assign rfl rfl rfl ?_; refine WL.done ?_; refine EW.on ?_; refine EW.seq ?_; refine EW.seq ?_; refine EW.region ?_; refine WL.move rfl rfl rfl ?_; refine WL.bin rfl rfl rfl rfl (int_ne_f rfl _ _ _) ?_; refine WL.move rfl rfl rfl ?_
  first | refine WL.move rfl rfl rfl ?_ | refine WL.skip _ rfl rfl rfl ?_
  refine WL.bin rfl rfl rfl rfl (eq41s L2.p _ _ _) ?_; refine WL.pick rfl rfl rfl rfl ?_; refine WL.done ?_; refine EW.on ?_; refine EW.cond_f rfl ?_; refine EW.skip ?_; refine EW.on ?_; refine EW.seq ?_; refine EW.region ?_; refine WL.move rfl rfl rfl ?_; refine WL.call [.pointer (some ⟨L2.p, 0, none⟩)] enter11 rfl rfl rfl (open_zero d2 p (by omega) hroom hp1 (by omega) (by omega) (by rw [h.ds.log 0 (by omega), bAt_zS])) ?_
  rintro _ w3 ⟨vg, L3, c3, rfl, ⟨q5, rfl, hq5, lg3⟩, hlg3, t3, d3, _, hc3⟩
  have hc30 := hc3 (fun j hj hcov => by
    have : j < 1 + 2 * p := by simpa [covB] using hcov
    rw [h.ds.log j this]; exact zB_zS)
  subst hc30
  have hF3 : ∀ k, L3.F k → w1.heap.size ≤ k := fun k hk => (t3.own k hk).elim (hF2 k) (fun h => Nat.le_trans e2.size h)
  have e3 : Below w1.heap.size w2 w3 := t3.fx.below (fun k hk hF => by have := hF2 k hF; omega) e2.size
  have e03 : Below w.heap.size w w3 := e02.trans (e3.mono e1.size)
  refine ⟨_, rfl, ?_⟩; refine WL.move rfl rfl rfl ?_; refine WL.extract rfl rfl rfl (ext_3 _ _ _ _).1 ?_; refine WL.extract rfl rfl rfl (ext_3 _ _ _ _).2.1 ?_; refine WL.extract rfl rfl rfl (ext_3 _ _ _ _).2.2 ?_; refine WL.assign rfl rfl rfl ?_; refine WL.assign rfl rfl rfl ?_; refine WL.assign rfl rfl rfl ?_; refine WL.done ?_; refine EW.on ?_; refine EW.seq ?_; refine EW.seq ?_; refine EW.region ?_; refine WL.move rfl rfl rfl ?_; refine WL.bin rfl rfl rfl rfl (ne24n _ _) ?_; refine WL.move rfl rfl rfl ?_
  first | refine WL.move rfl rfl rfl ?_ | refine WL.skip _ rfl rfl rfl ?_
  refine WL.bin rfl rfl rfl rfl (eq22s q5 _ _ _) ?_; refine WL.pick rfl rfl rfl rfl ?_; refine WL.move rfl rfl rfl ?_
  first | refine WL.move rfl rfl rfl ?_ | refine WL.skip _ rfl rfl rfl ?_
  refine WL.pick rfl rfl rfl rfl ?_; refine WL.move rfl rfl rfl ?_
  first | refine WL.move rfl rfl rfl ?_ | refine WL.skip _ rfl rfl rfl ?_
  refine WL.call [.pointer (some ⟨L2.p, 0, none⟩)] enter18 rfl rfl rfl (by rw [← t3.p]; exact kcalls_any d3) ?_
  rintro _ w4 ⟨rfl, hz4⟩
  rw [hz4]
  refine ⟨_, rfl, ?_⟩; refine WL.bin rfl rfl rfl rfl (int_ne_f rfl _ _ _) ?_; refine WL.pick rfl rfl rfl rfl ?_; refine WL.done ?_; refine EW.on ?_; refine EW.cond_f rfl ?_; refine EW.skip ?_; refine EW.on ?_; refine EW.seq ?_; refine EW.region ?_; refine WL.move rfl rfl rfl ?_; refine WL.move rfl rfl rfl ?_; refine WL.move rfl rfl rfl ?_; refine WL.move rfl rfl rfl ?_; refine WL.nilc rfl rfl rfl ?_; refine WL.field rfl rfl rfl (fld44 q 0 (by decide) _) ?_
  obtain ⟨w5, s5, rm5, x5⟩ := strd (some ⟨L2.p, 0, none⟩) (h.rm.on e03)
  refine WL.store rfl rfl rfl s5 ?_; refine WL.nilc rfl rfl rfl ?_; refine WL.field rfl rfl rfl (fld44 q 1 (by decide) _) ?_
  obtain ⟨w6, s6, rm6, x6⟩ := strm (some ⟨q5, 0, none⟩) rm5
  refine WL.store rfl rfl rfl s6 ?_
  have x36 : Fx (fun k => k = q) w3 w6 := x5.and x6
  have hql := h.rm.lt
  have hs1 := e1.size
  have q3F : ¬ L3.F q := fun hF => by have := hF3 q hF; omega
  have R6 : Rm w6 L3 0 (wipS [(0, 1 + 2 * p)] s) q q5 p more v ps := ⟨d3.fxS x36 (fun k hk e => q3F (by have e : k = q := e; rw [← e]; exact hk)), by rw [t3.p]; exact rm6, by rw [t3.p]; exact lg3.fx x36 (by have := e2.size; omega), (h.os.below e03).fx x36 (fun k hk => ne_type (own_type h.os.row hk) h.rm (by decide)), dst_wip h.ds.rst h.ds.hom h.ds.len, q3F, hlg3 q5 hq5 ⟨q5, rfl, rfl⟩, fun k hk hF => by have := hF3 k hF; have := h.os.lt hk; omega, h.pl⟩
  refine WL.done ?_; refine EW.on ?_; refine EW.seq ?_; refine EW.region ?_; refine WL.move rfl rfl rfl ?_; refine WL.call [.pointer (some ⟨q, 0, none⟩)] enter13 rfl rfl rfl (clean_ok R6.dk R6.rm R6.os R6.ds.len (by omega) (by omega) R6.pl R6.ds.img) ?_
  rintro _ w7 ⟨rfl, l7⟩
  refine ⟨_, rfl, ?_⟩; refine WL.assign rfl rfl rfl ?_; refine WL.done ?_; refine EW.on ?_; refine EW.ret ?_
  exact EW.returns Tryz.results7 rfl ⟨rfl, L3, _, q5, R6.on l7, ((Fx.of_below e03).trans x36 (fun _ _ h => h)).then_below l7, fun k hk => by have := hF3 k hk; omega, by have := e02.size; omega⟩
end Go.Proofs.YtmbgeojjklboeaaGreatDoor
