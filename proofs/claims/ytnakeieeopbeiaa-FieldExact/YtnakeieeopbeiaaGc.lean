import Derived.Test.YtnakeieeopbeiaaGb
import Derived.Test.YtnakeieeopbeiaaEnt
set_option linter.unusedVariables false
set_option linter.unusedSimpArgs false
namespace Go.Proofs.Ytnakeieeopbeiaa
open Go.RowKit


theorem own_at {w : World} {v : Value} {ds : List Nat} {p : Nat} {cs : List Value} {t : TypeId} (hp : Blk w p cs t) (hn : v.ownBlock ≠ some p) (h : w.ownsRow 0 3 1 v ds.length (dv ds)) (j : Nat) (u : Value) : (w.setCell ⟨p, j, none⟩ u).ownsRow 0 3 1 v ds.length (dv ds) :=
  ownsRow_fx (S := fun k => k = p) h (Fx.setCell w p j u rfl) (fun k hk e => hn (by rw [hk, e]))
def adE (p i v : Nat) : List (Nat × Value) := [(0, .pointer (some ⟨p, 0, none⟩)), (1, .int .i64 (i : Int)), (2, .int .i64 (v : Int))]
def AdR (p : Nat) (x : Value) (ds : List Nat) (i : Nat) (w : World) (y : Nat × Value) (w' : World) : Prop := Blk w' p [y.2] 78 ∧ w'.ownsRow 0 3 1 y.2 (ds ++ List.replicate y.1 0).length (dv (ds ++ List.replicate y.1 0)) ∧ Fx (fun k => k = p ∨ x.ownBlock = some k) w w' ∧ (∀ k, y.2.ownBlock = some k → x.ownBlock = some k ∨ w.heap.size ≤ k) ∧ y.1 ≤ i + 1 - ds.length
set_option maxRecDepth 100000 in
set_option maxHeartbeats 1000000 in
theorem add_law (p : Nat) (x : Value) (ds : List Nat) (i v : Nat) (w : World) (hx : Blk w p [x] 78) (hown : w.ownsRow 0 3 1 x ds.length (dv ds)) (hne : x.ownBlock ≠ some p) (hl : ds.length ≤ 100) (hi : i ≤ 100) (hb : ds.getD i 0 + v < 9223372036854775808) : Calls Try.prog 58 #[.pointer (some ⟨p, 0, none⟩), .int .i64 (i : Int), .int .i64 (v : Int)] w fun e w' => e = .returned (.tuple #[]) ∧ ∃ x', Blk w' p [x'] 78 ∧ w'.ownsRow 0 3 1 x' (addD ds i v).length (dv (addD ds i v)) ∧ Fx (fun k => k = p ∨ x.ownBlock = some k) w w' ∧ (∀ k, x'.ownBlock = some k → x.ownBlock = some k ∨ w.heap.size ≤ k) := by
  have hpl := hx.lt
  refine calls_of_args [.pointer (some ⟨p, 0, none⟩), .int .i64 (i : Int), .int .i64 (v : Int)] Try.func58 rfl 32 Try.ntmps58 (by show 3 ≤ 32; decide) ?_
  refine EW.seq ?_
  refine EW.block ?_
  refine EW.loop (fun _ => adE p i v) (AdR p x ds i w) (fun y => i + 1 - ds.length - y.1) (0, x) [0, 1, 2] rfl ⟨hx, by simpa using hown, Fx.refl _ _, fun k hk => .inl hk, Nat.zero_le _⟩ ?_
  rintro ⟨k, xt⟩ wr ⟨hbk, ho, hfx, hnw, hk⟩
  have hbk : Blk wr p [xt] 78 := hbk
  have ho : wr.ownsRow 0 3 1 xt (ds ++ List.replicate k 0).length (dv (ds ++ List.replicate k 0)) := ho
  have hnw : ∀ j, xt.ownBlock = some j → x.ownBlock = some j ∨ w.heap.size ≤ j := hnw
  have hk : k ≤ i + 1 - ds.length := hk
  have hlen : (ds ++ List.replicate k 0).length = ds.length + k := by simp
  have hlo := own_len ho
  rw [hlen] at hlo
  have hld := hbk.cell 0
  have hld : wr.cell? ⟨p, 0, none⟩ = some xt := hld
  have hxp : xt.ownBlock ≠ some p := fun e => by
    rcases hnw p e with e | e
    · exact hne e
    · omega
  show EW _ _ _ _ [(0, .pointer (some ⟨p, 0, none⟩)), (1, .int .i64 (i : Int)), (2, .int .i64 (v : Int))] _
  by_cases h1 : ds.length + k ≤ i
  · have z1 : ((ds.length + k : Nat) : Int) ≤ (i : Int) := by omega
    obtain ⟨w1, ao, l, c, w2, hbs, hap, hown2, hfx2, hnw1⟩ := push78 wr xt (ds ++ List.replicate k 0) ho 0 (by omega) 78
    have e1 : ds ++ List.replicate k 0 ++ [0] = ds ++ List.replicate (k + 1) 0 := by rw [List.replicate_succ', List.append_assoc]
    rw [e1] at hown2
    have hb2 : Blk w2 p [xt] 78 := hbk.fx hfx2 hxp
    have hc2 : w2.cell? ⟨p, 0, none⟩ = some xt := hb2.cell 0
    have hnp : Value.ownBlock (.slice ao l c) ≠ some p := fun e => by
      rcases hnw1 p e with e | e
      · exact hxp e
      · have := hbk.lt; omega
    have hst := st78 (ao := ao) (l := l) (c := c) hc2 (hb2.frozen 0)
    refine EW.seq ?_
    refine EW.seq ?_
    refine EW.region ?_
    first | refine WL.move rfl rfl rfl ?_
    first | refine WL.nilc rfl rfl rfl ?_
    refine WL.load rfl rfl rfl (ld78 hld) ?_
    refine WL.len rfl rfl rfl (hlo _ _) ?_
    first | refine WL.move rfl rfl rfl ?_
    refine WL.bin rfl rfl rfl rfl (ile_t z1 _ _ _) ?_
    refine WL.done ?_
    refine EW.on ?_
    refine EW.cond_t rfl ?_
    refine EW.skip ?_
    refine EW.on ?_
    refine EW.block ?_
    refine EW.region ?_
    first | refine WL.move rfl rfl rfl ?_
    first | refine WL.move rfl rfl rfl ?_
    first | refine WL.nilc rfl rfl rfl ?_
    refine WL.load rfl rfl rfl (ld78 hld) ?_
    refine WL.bsl rfl rfl rfl hbs ?_
    refine WL.app rfl rfl rfl rfl hap ?_
    first | refine WL.nilc rfl rfl rfl ?_
    refine WL.store rfl rfl rfl hst ?_
    refine WL.done ?_
    refine pn_block ?_
    refine EW.again (E := fun _ => adE p i v) (R := AdR p x ds i w) (m := fun y => i + 1 - ds.length - y.1) (x := (k, xt)) (k + 1, .slice ao l c) [0, 1, 2] rfl ⟨hb2.set 0 _, own_at hb2 hnp hown2 0 _, ?_, ?_, by show k + 1 ≤ _; omega⟩ (by show i + 1 - ds.length - (k + 1) < i + 1 - ds.length - k; omega)
    · refine (hfx.trans hfx2 (fun j hj e => ?_)).trans (Fx.setCell (S := fun k => k = p) w2 p 0 _ rfl) (fun j _ e => .inl e)
      rcases hnw j e with e | e
      · exact .inr e
      · omega
    · intro j hj
      rcases hnw1 j hj with e | e
      · exact hnw j e
      · exact .inr (Nat.le_trans hfx.size e)
  · have z1 : ¬ ((ds.length + k : Nat) : Int) ≤ (i : Int) := by omega
    have hkk : i + 1 - ds.length = k := by omega
    obtain ⟨wd, hwd⟩ : ∃ wd, { wr with drawn := wr.drawn + 1 } = wd := ⟨_, rfl⟩
    have bed : Below wr.heap.size wr wd := by rw [← hwd]; exact below_drawn wr
    have hbd := hbk.on bed
    have hod := ownsRow_fx ho (Fx.of_below (S := fun _ => False) bed) (fun _ _ s => s)
    have hcd : wd.cell? ⟨p, 0, none⟩ = some xt := hbd.cell 0
    obtain ⟨g, cap, hxe, hcap, hcl, hfr, hset⟩ := own_parts hod (by omega)
    have hil : i < (ds ++ List.replicate k 0).length := by omega
    have hci := hcl i hil
    rw [pad_getD] at hci
    have hix : ∀ V, (Instr.indexAt 78 xt (.int .i64 (i : Int))).run Try.prog V = .ok (.pointer (some ⟨g, i, none⟩)) V := fun V => by rw [hxe]; exact idx78 g _ _ i hil V
    have had := waddN (ds.getD i 0) v hb
    have hst := st3 (z := ((ds.getD i 0 + v : Nat) : Int)) hci (hfr i)
    have hgb : xt.ownBlock = some g := by rw [hxe]; rfl
    have hgp : p ≠ g := fun e => hxp (by rw [hgb, e])
    refine EW.seq ?_
    refine EW.seq ?_
    refine EW.region ?_
    first | refine WL.move rfl rfl rfl ?_
    first | refine WL.nilc rfl rfl rfl ?_
    refine WL.load rfl rfl rfl (ld78 hld) ?_
    refine WL.len rfl rfl rfl (hlo _ _) ?_
    first | refine WL.move rfl rfl rfl ?_
    refine WL.bin rfl rfl rfl rfl (ile_f z1 _ _ _) ?_
    refine WL.done ?_
    refine EW.on ?_
    refine EW.cond_f rfl ?_
    refine EW.exit ?_
    repeat refine px_then ?_
    refine px_block ?_
    refine EW.on ?_
    refine EW.chain 12 0 2 (fun V => V.cell? ⟨p, 0, none⟩ = some xt ∧ V.cell? ⟨g, i, none⟩ = some (.int .i64 ((ds.getD i 0 : Nat) : Int))) (by kernel_rfl) rfl (by kernel_rfl) (by rw [hwd]; exact ⟨hcd, hci⟩) (by kernel_rfl) ?_
    rw [hwd]
    simp only [List.take_succ_cons, List.take_zero, List.drop_succ_cons, List.drop_zero, List.map_cons, List.map_nil, List.cons_append, List.nil_append, List.append_nil]
    refine OE.move rfl rfl rfl ?_
    refine OE.nilc rfl rfl rfl ?_
    refine OE.load rfl rfl rfl (fun V hV => ld78 hV.1) ?_
    refine OE.move rfl rfl rfl ?_
    refine OE.move rfl rfl rfl ?_
    refine OE.nilc rfl rfl rfl ?_
    refine OE.load rfl rfl rfl (fun V hV => ld78 hV.1) ?_
    refine OE.move rfl rfl rfl ?_
    refine OE.index rfl rfl rfl rfl (fun V => hix V) ?_
    refine OE.load rfl rfl rfl (fun V hV => ld3 hV.2) ?_
    refine OE.move rfl rfl rfl ?_
    refine OE.bin rfl rfl rfl rfl (fun V => int_add had V _ _) ?_
    refine fun W5 hW => ?_
    rw [hW]
    refine WL.index rfl rfl rfl rfl (hix _) ?_
    refine WL.store rfl rfl rfl hst ?_
    refine WL.done ?_
    refine EW.falls Try.results58 ⟨rfl, xt, hbd.setOther g i _ hgp, ?_, ?_, hnw⟩
    · have hs := hset i (ds.getD i 0 + v) hil
      rw [show addD ds i v = (ds ++ List.replicate k 0).set i (ds.getD i 0 + v) from by unfold addD; rw [hkk, pad_getD]]
      exact hs
    · refine (hfx.then_below bed).trans (Fx.setCell (S := fun k => k = g) wd g i _ rfl) (fun j hj e => ?_)
      subst e
      rcases hnw _ hgb with e | e
      · exact .inr e
      · omega
end Go.Proofs.Ytnakeieeopbeiaa
