import Derived.Test.YtnakeieeopbeiaaGc
set_option linter.unusedVariables false
set_option linter.unusedSimpArgs false
namespace Go.Proofs.Ytnakeieeopbeiaa
open Go.RowKit

theorem mk16 (w : World) : (Instr.makeSlice 78 (.int .i64 16) (.int .i64 16)).run Try.prog w = .ok (.slice (some ⟨w.heap.size, 0, none⟩) 16 16) (w.alloc (.cells (dv z16).toArray 3)) := by kernel_rfl
theorem new78 (w : World) : (Instr.alloc 78 true (.tuple #[])).run Try.prog w = .ok (.pointer (some ⟨w.heap.size, 0, none⟩)) (w.alloc (.cells [Value.slice none 0 0].toArray 78)) := by kernel_rfl
def cpD (ds : List Nat) (t : Nat) : List Nat := ds.take t ++ List.replicate (16 - t) 0
theorem cpD_length (ds : List Nat) (t : Nat) (h : 16 ≤ ds.length) (ht : t ≤ 16) : (cpD ds t).length = 16 := by simp [cpD]; omega
theorem cpD_next (ds : List Nat) (t : Nat) (h : 16 ≤ ds.length) (ht : t < 16) : cpD ds (t + 1) = (cpD ds t).set t (ds.getD t 0) := by
  apply List.ext_getElem?
  intro j
  have m1 : min (t + 1) ds.length = t + 1 := by omega
  have m2 : min t ds.length = t := by omega
  unfold cpD
  simp only [List.getElem?_set, List.getElem?_append, List.length_take, List.getElem?_take, List.getElem?_replicate, List.length_append, List.length_replicate, m1, m2]
  rcases Nat.lt_trichotomy j t with e | e | e
  · rw [if_pos (show j < t + 1 by omega), if_pos (show j < t + 1 by omega), if_neg (show ¬ t = j by omega), if_pos e, if_pos e]
  · subst e
    have hj : j < ds.length := by omega
    rw [if_pos (show j < j + 1 by omega), if_pos (show j < j + 1 by omega), if_pos rfl, if_pos (show j < j + (16 - j) by omega), List.getD_eq_getElem?_getD]
    simp [hj]
  · rw [if_neg (show ¬ j < t + 1 by omega), if_neg (show ¬ t = j by omega), if_neg (show ¬ j < t by omega)]
    by_cases e2 : j < 16
    · rw [if_pos (by omega), if_pos (by omega)]
    · rw [if_neg (by omega), if_neg (by omega)]
theorem cpD_end (ds : List Nat) : cpD ds 16 = ds.take 16 := by simp [cpD]
def foS (d : List Nat) : Nat → List Nat
  | 0 => fo0 d
  | t + 1 => foT d t
theorem own16 {w : World} {g : Nat} {l : List Nat} (hl : l.length = 16) (h : Blk w g (dv l) 3) : w.ownsRow 0 3 1 (.slice (some ⟨g, 0, none⟩) 16 16) l.length (dv l) :=
  ⟨by simp [dv_length], .inr ⟨g, 16, (dv l).toArray, by rw [hl], Nat.zero_le _, h, by omega, by decide, by simp [dv_length, hl], by simp; exact List.take_of_length_le (by rw [dv_length]; exact Nat.le_refl _)⟩⟩
theorem wm19 (b : Nat) (h : b < 65536) : IntKind.i64.wrap (19 * (b : Int)) = ((19 * b : Nat) : Int) := by rw [IntKind.wrap_i64]; omega
theorem wm38 (b : Nat) (h : b < 65536) : IntKind.i64.wrap (38 * (b : Int)) = ((38 * b : Nat) : Int) := by rw [IntKind.wrap_i64]; omega
theorem wsub16 (t : Nat) (h : t < 1000) : IntKind.i64.wrap (((16 + t : Nat) : Int) - 16) = (t : Int) := by rw [IntKind.wrap_i64]; omega
theorem tn15 (t : Nat) (h : t < 1000) : IntKind.i64.wrap (((15 + t : Nat) : Int) + 1) = ((15 + (t + 1) : Nat) : Int) := by rw [IntKind.wrap_i64]; omega
def fcE (n : Nat) (v : Value) (t : Nat) : List (Nat × Value) := [(0, v), (3, .pointer (some ⟨n + 1, 0, none⟩)), (4, .int .i64 (t : Int))]
def FcR (n : Nat) (ds : List Nat) (w : World) (t : Nat) (w' : World) : Prop := t ≤ 16 ∧ Blk w' (n + 1) [.slice (some ⟨n, 0, none⟩) 16 16] 78 ∧ Blk w' n (dv (cpD ds t)) 3 ∧ Below n w w'
def fsE (n : Nat) (v : Value) (y : Nat × Value) : List (Nat × Value) := [(0, v), (3, .pointer (some ⟨n + 1, 0, none⟩)), (5, .int .i64 ((15 + y.1 : Nat) : Int))]
def FsR (n : Nat) (ds : List Nat) (w : World) (y : Nat × Value) (w' : World) : Prop := y.1 ≤ ds.length - 15 ∧ Blk w' (n + 1) [y.2] 78 ∧ w'.ownsRow 0 3 1 y.2 (foS ds y.1).length (dv (foS ds y.1)) ∧ Below n w w' ∧ ∀ k, y.2.ownBlock = some k → n ≤ k ∧ k ≠ n + 1
set_option maxRecDepth 100000 in
set_option maxHeartbeats 1000000 in
theorem folded_law (v : Value) (ds : List Nat) (w : World) (hv : Dig w v ds) (h16 : 16 ≤ ds.length) (hl : ds.length ≤ 60) (hd : ∀ j, ds.getD j 0 < 65536) : Calls Try.prog 55 #[v] w fun e w' => ∃ v', e = .returned v' ∧ w'.ownsRow 0 3 1 v' (foD ds).length (dv (foD ds)) ∧ Below w.heap.size w w' := by
  have hv0 := hv
  obtain ⟨g, cap, hve, h2, h3, h4⟩ := hv
  have hlen : ∀ W ty, (Builtin.len_ #[78] ty #[v]).run Try.prog W = .ok (.int .i64 (ds.length : Int)) W := fun W ty => by rw [hve]; exact len78 _ _ _ _ _
  have hix : ∀ t, t < ds.length → ∀ V, (Instr.indexAt 78 v (.int .i64 (t : Int))).run Try.prog V = .ok (.pointer (some ⟨g, t, none⟩)) V := fun t h V => by rw [hve]; exact idx78 g _ _ t h V
  obtain ⟨n, hn⟩ : ∃ n, w.heap.size = n := ⟨_, rfl⟩
  have hmk := mk16 w
  have hb1 := Blk.new w (dv z16) 3
  have be1 : Below w.heap.size w (w.alloc (.cells (dv z16).toArray 3)) := below_new _ _
  have hs1 : (w.alloc (.cells (dv z16).toArray 3)).heap.size = n + 1 := by simp [hn]
  rw [hn] at hmk hb1 be1 h3
  rw [hn]
  obtain ⟨w1, hw1⟩ : ∃ w1, w.alloc (.cells (dv z16).toArray 3) = w1 := ⟨_, rfl⟩
  rw [hw1] at hmk hb1 be1 hs1
  have hnw := new78 w1
  have hb2 := Blk.new w1 [Value.slice none 0 0] 78
  have be2 : Below w1.heap.size w1 (w1.alloc (.cells [Value.slice none 0 0].toArray 78)) := below_new _ _
  have hb3 := hb1.on be2
  rw [hs1] at hnw hb2 be2
  obtain ⟨w2, hw2⟩ : ∃ w2, w1.alloc (.cells [Value.slice none 0 0].toArray 78) = w2 := ⟨_, rfl⟩
  rw [hw2] at hnw hb2 be2 hb3
  have hst := st78 (ao := some ⟨n, 0, none⟩) (l := 16) (c := 16) (hb2.cell 0) (hb2.frozen 0)
  have be3 : Below n w (w2.setCell ⟨n + 1, 0, none⟩ (.slice (some ⟨n, 0, none⟩) 16 16)) := (be1.trans (be2.mono (by omega))).trans ((Fx.setCell (S := fun k => k = n + 1) w2 (n + 1) 0 _ rfl).below (fun k hk e => by omega) (by have := be2.size; have := hs1; omega))
  refine calls_of_args [v] Try.func55 rfl 50 Try.ntmps55 (by show 1 ≤ 50; decide) ?_
  refine EW.seq ?_
  refine EW.region ?_
  first | refine WL.assign rfl rfl rfl ?_
  refine WL.done ?_
  refine EW.on ?_
  refine EW.seq ?_
  refine EW.region ?_
  refine WL.mks rfl rfl rfl rfl hmk ?_
  refine WL.new rfl rfl hnw ?_
  refine WL.store rfl rfl rfl hst ?_
  refine WL.done ?_
  refine EW.on ?_
  refine EW.seq ?_
  refine EW.seq ?_
  refine EW.region ?_
  first | refine WL.assign rfl rfl rfl ?_
  refine WL.done ?_
  refine EW.on ?_
  refine EW.block ?_
  refine EW.loop (fcE n v) (FcR n ds w) (fun t => 16 - t) 0 [0, 3, 4] rfl ⟨by omega, hb2.set 0 _, hb3.setOther _ _ _ (by omega), be3⟩ ?_
  rintro t wr ⟨ht, hbx, hbd, hbe⟩
  show EW _ _ _ _ [(0, v), (3, .pointer (some ⟨n + 1, 0, none⟩)), (4, .int .i64 (t : Int))] _
  by_cases h1 : t < 16
  · have z1 : (t : Int) < 16 := by omega
    have tn := tnD t (by omega)
    obtain ⟨wd, hwd⟩ : ∃ wd, { wr with drawn := wr.drawn + 1 } = wd := ⟨_, rfl⟩
    have bed : Below wr.heap.size wr wd := by rw [← hwd]; exact below_drawn wr
    have hbx' := hbx.on bed
    have hbd' := hbd.on bed
    have hbe' := hbe.trans (bed.mono (by have := hbd.lt; omega))
    have hcx : wd.cell? ⟨n + 1, 0, none⟩ = some (.slice (some ⟨n, 0, none⟩) 16 16) := hbx'.cell 0
    have hct : wd.cell? ⟨g, t, none⟩ = some (.int .i64 ((ds.getD t 0 : Nat) : Int)) := (hbe'.cell h3).trans (h4 t (by omega))
    have hcp := cpD_length ds t h16 ht
    have hcn : wd.cell? ⟨n, t, none⟩ = some (.int .i64 (((cpD ds t).getD t 0 : Nat) : Int)) := (hbd'.cell t).trans (dv_at _ t (by omega))
    have hst := st3 (z := ((ds.getD t 0 : Nat) : Int)) hcn (hbd'.frozen t)
    have hixn : ∀ V, (Instr.indexAt 78 (.slice (some ⟨n, 0, none⟩) 16 16) (.int .i64 (t : Int))).run Try.prog V = .ok (.pointer (some ⟨n, t, none⟩)) V := fun V => idx78 n 16 16 t h1 V
    have hb4 := hbd'.set t (.int .i64 ((ds.getD t 0 : Nat) : Int))
    rw [dv_set, ← cpD_next ds t h16 h1] at hb4
    have be4 := hbe'.trans ((Fx.setCell (S := fun k => k = n) wd n t (.int .i64 ((ds.getD t 0 : Nat) : Int)) rfl).below (B := n) (fun k hk e => by omega) (by have := hbd'.lt; omega))
    refine EW.seq ?_
    refine EW.seq ?_
    refine EW.region ?_
    first | refine WL.move rfl rfl rfl ?_
    refine WL.bin rfl rfl rfl rfl (int_lt_t z1 _ _ _) ?_
    refine WL.done ?_
    refine EW.on ?_
    refine EW.cond_t rfl ?_
    refine EW.skip ?_
    refine EW.on ?_
    refine EW.seq ?_
    refine EW.block ?_
    refine EW.chain 6 0 2 (fun V => V.cell? ⟨n + 1, 0, none⟩ = some (.slice (some ⟨n, 0, none⟩) 16 16) ∧ V.cell? ⟨g, t, none⟩ = some (.int .i64 ((ds.getD t 0 : Nat) : Int))) (by kernel_rfl) rfl (by kernel_rfl) (by rw [hwd]; exact ⟨hcx, hct⟩) (by kernel_rfl) ?_
    rw [hwd]
    simp only [List.take_succ_cons, List.take_zero, List.drop_succ_cons, List.drop_zero, List.map_cons, List.map_nil, List.cons_append, List.nil_append, List.append_nil]
    refine OE.load rfl rfl rfl (fun V hV => ld78 hV.1) ?_
    refine OE.move rfl rfl rfl ?_
    refine OE.move rfl rfl rfl ?_
    refine OE.move rfl rfl rfl ?_
    refine OE.index rfl rfl rfl rfl (fun V => hix t (by omega) V) ?_
    refine OE.load rfl rfl rfl (fun V hV => ld3 hV.2) ?_
    refine fun W5 hW => ?_
    rw [hW]
    refine WL.index rfl rfl rfl rfl (hixn _) ?_
    refine WL.store rfl rfl rfl hst ?_
    refine WL.done ?_
    refine pn_block ?_
    refine EW.on ?_
    refine EW.region ?_
    first | refine WL.move rfl rfl rfl ?_
    first | refine WL.bin rfl rfl rfl rfl (int_add ‹_› _ _ _) ?_
    first | refine WL.assign rfl rfl rfl ?_
    refine WL.done ?_
    refine EW.again (E := fcE n v) (R := FcR n ds w) (m := fun t => 16 - t) (x := t) (t + 1) [0, 3, 4] rfl ⟨by omega, hbx'.setOther _ _ _ (by omega), hb4, be4⟩ (by show 16 - (t + 1) < 16 - t; omega)
  · have z1 : ¬ (t : Int) < 16 := by omega
    obtain rfl : t = 16 := by omega
    rw [cpD_end] at hbd
    obtain ⟨wd, hwd⟩ : ∃ wd, { wr with drawn := wr.drawn + 1 } = wd := ⟨_, rfl⟩
    have bed : Below wr.heap.size wr wd := by rw [← hwd]; exact below_drawn wr
    have hbx' := hbx.on bed
    have hbd' := hbd.on bed
    have hbe' := hbe.trans (bed.mono (by have := hbd.lt; omega))
    have hcx : wd.cell? ⟨n + 1, 0, none⟩ = some (.slice (some ⟨n, 0, none⟩) 16 16) := hbx'.cell 0
    have hct : wd.cell? ⟨g, 15, none⟩ = some (.int .i64 ((ds.getD 15 0 : Nat) : Int)) := (hbe'.cell h3).trans (h4 15 (by omega))
    have hlt : (ds.take 16).length = 16 := by rw [List.length_take]; omega
    have hcn : wd.cell? ⟨n, 15, none⟩ = some (.int .i64 (((ds.take 16).getD 15 0 : Nat) : Int)) := (hbd'.cell 15).trans (dv_at _ 15 (by omega))
    have hst := st3 (z := ((ds.getD 15 0 % 32768 : Nat) : Int)) hcn (hbd'.frozen 15)
    have hixn : ∀ V, (Instr.indexAt 78 (.slice (some ⟨n, 0, none⟩) 16 16) (.int .i64 15)).run Try.prog V = .ok (.pointer (some ⟨n, 15, none⟩)) V := fun V => idx78 n 16 16 15 (by decide) V
    have hix5 : ∀ V, (Instr.indexAt 78 v (.int .i64 15)).run Try.prog V = .ok (.pointer (some ⟨g, 15, none⟩)) V := fun V => hix 15 (by omega) V
    have hb4 := hbd'.set 15 (.int .i64 ((ds.getD 15 0 % 32768 : Nat) : Int))
    rw [dv_set, show (ds.take 16).set 15 (ds.getD 15 0 % 32768) = fo0 ds from rfl] at hb4
    have be4 := hbe'.trans ((Fx.setCell (S := fun k => k = n) wd n 15 (.int .i64 ((ds.getD 15 0 % 32768 : Nat) : Int)) rfl).below (B := n) (fun k hk e => by omega) (by have := hbd'.lt; omega))
    refine EW.seq ?_
    refine EW.seq ?_
    refine EW.region ?_
    first | refine WL.move rfl rfl rfl ?_
    refine WL.bin rfl rfl rfl rfl (int_lt_f z1 _ _ _) ?_
    refine WL.done ?_
    refine EW.on ?_
    refine EW.cond_f rfl ?_
    refine EW.exit ?_
    repeat refine px_then ?_
    refine px_block ?_
    refine EW.on ?_
    refine EW.seq ?_
    refine EW.chain 5 0 2 (fun V => V.cell? ⟨n + 1, 0, none⟩ = some (.slice (some ⟨n, 0, none⟩) 16 16) ∧ V.cell? ⟨g, 15, none⟩ = some (.int .i64 ((ds.getD 15 0 : Nat) : Int))) (by kernel_rfl) rfl (by kernel_rfl) (by rw [hwd]; exact ⟨hcx, hct⟩) (by kernel_rfl) ?_
    rw [hwd]
    simp only [List.take_succ_cons, List.take_zero, List.drop_succ_cons, List.drop_zero, List.map_cons, List.map_nil, List.cons_append, List.nil_append, List.append_nil]
    refine OE.load rfl rfl rfl (fun V hV => ld78 hV.1) ?_
    refine OE.move rfl rfl rfl ?_
    refine OE.index rfl rfl rfl rfl (fun V => hix5 V) ?_
    refine OE.load rfl rfl rfl (fun V hV => ld3 hV.2) ?_
    refine OE.bin rfl rfl rfl rfl (fun V => remN _ 32768 (by decide) V _ _ (by decide)) ?_
    refine fun W5 hW => ?_
    rw [hW]
    refine WL.index rfl rfl rfl rfl (hixn _) ?_
    refine WL.store rfl rfl rfl hst ?_
    refine WL.done ?_
    refine EW.on ?_
    refine EW.seq ?_
    refine EW.seq ?_
    refine EW.region ?_
    first | refine WL.assign rfl rfl rfl ?_
    refine WL.done ?_
    refine EW.on ?_
    refine EW.block ?_
    refine EW.loop (fsE n v) (FsR n ds w) (fun y => ds.length - 15 - y.1) (0, .slice (some ⟨n, 0, none⟩) 16 16) [0, 3, 5] rfl ⟨Nat.zero_le _, hbx'.setOther _ _ _ (by omega), own16 (fo0_length ds h16) hb4, be4, fun k hk => by have hk : some n = some k := hk; cases hk; exact ⟨Nat.le_refl _, by omega⟩⟩ ?_
    clear hbx hbd hbe hbx' hbd' hbe' hcx hct hcn hst hixn hix5 hb4 be4 bed hwd
    rintro ⟨s, x⟩ wq ⟨hs, hbx, ho, hbe, hnb⟩
    have hs : s ≤ ds.length - 15 := hs
    have hbx : Blk wq (n + 1) [x] 78 := hbx
    have ho : wq.ownsRow 0 3 1 x (foS ds s).length (dv (foS ds s)) := ho
    have hnb : ∀ k, x.ownBlock = some k → n ≤ k ∧ k ≠ n + 1 := hnb
    have hcx : wq.cell? ⟨n + 1, 0, none⟩ = some x := hbx.cell 0
    show EW _ _ _ _ [(0, v), (3, .pointer (some ⟨n + 1, 0, none⟩)), (5, .int .i64 ((15 + s : Nat) : Int))] _
    by_cases h1 : 15 + s < ds.length
    · have z1 : ((15 + s : Nat) : Int) < (ds.length : Int) := by omega
      have tn := tn15 s (by omega)
      have hci : wq.cell? ⟨g, 15 + s, none⟩ = some (.int .i64 ((ds.getD (15 + s) 0 : Nat) : Int)) := (hbe.cell h3).trans (h4 (15 + s) h1)
      have hxn : x.ownBlock ≠ some (n + 1) := fun e => (hnb _ e).2 rfl
      have hnq : n + 1 < wq.heap.size := hbx.lt
      have hdi := hd (15 + s)
      refine EW.seq ?_
      refine EW.seq ?_
      refine EW.region ?_
      first | refine WL.move rfl rfl rfl ?_
      first | refine WL.move rfl rfl rfl ?_
      refine WL.len rfl rfl rfl (hlen _ _) ?_
      refine WL.bin rfl rfl rfl rfl (int_lt_t z1 _ _ _) ?_
      refine WL.done ?_
      refine EW.on ?_
      refine EW.cond_t rfl ?_
      refine EW.skip ?_
      refine EW.on ?_
      refine EW.seq ?_
      refine EW.block ?_
      refine EW.seq ?_
      refine EW.region ?_
      first | refine WL.move rfl rfl rfl ?_
      first | refine WL.move rfl rfl rfl ?_
      refine WL.index rfl rfl rfl rfl (hix _ h1 _) ?_
      refine WL.load rfl rfl rfl (ld3 hci) ?_
      first | refine WL.assign rfl rfl rfl ?_
      refine WL.done ?_
      refine EW.on ?_
      refine EW.seq ?_
      refine EW.seq ?_
      cases s with
      | zero =>
        have hd5 := hd 15
        have hix5 : ∀ V, (Instr.indexAt 78 v (.int .i64 15)).run Try.prog V = .ok (.pointer (some ⟨g, 15, none⟩)) V := fun V => hix 15 (by omega) V
        have hf0 : (fo0 ds).getD 0 0 < 65536 := by rw [fo0_getD ds h16 0, if_pos (by decide)]; exact hd 0
        have h19 : ds.getD 15 0 / 32768 < 65536 := by omega
        have hadd := add_law (n + 1) x (fo0 ds) 0 (19 * (ds.getD 15 0 / 32768)) wq hbx ho hxn (by rw [fo0_length ds h16]; decide) (by decide) (by omega)
        refine EW.region ?_
        first | refine WL.move rfl rfl rfl ?_
        refine WL.bin rfl rfl rfl rfl (int_eq_t rfl _ _ _) ?_
        refine WL.done ?_
        refine EW.on ?_
        refine EW.cond_t rfl ?_
        refine EW.seq ?_
        refine EW.region ?_
        first | refine WL.move rfl rfl rfl ?_
        refine WL.index rfl rfl rfl rfl (hix5 _) ?_
        refine WL.load rfl rfl rfl (ld3 hci) ?_
        refine WL.bin rfl rfl rfl rfl (quoN _ 32768 (by decide) (by omega) _ _ _ (by decide)) ?_
        first | refine WL.assign rfl rfl rfl ?_
        refine WL.done ?_
        refine EW.on ?_
        refine EW.seq ?_
        refine EW.region ?_
        first | refine WL.move rfl rfl rfl ?_
        refine WL.bin rfl rfl rfl rfl (int_mul (wm19 _ h19) _ _ _) ?_
        refine WL.call [.pointer (some ⟨n + 1, 0, none⟩), .int .i64 0, .int .i64 ((19 * (ds.getD 15 0 / 32768) : Nat) : Int)] enter58 rfl rfl rfl hadd ?_
        rintro x wz ⟨rfl, x', hbx', ho', hfx', hnw'⟩
        refine ⟨_, rfl, ?_⟩
        refine WL.done ?_
        refine EW.on ?_
        refine EW.exit ?_
        repeat refine px_then ?_
        refine px_block ?_
        refine EW.on ?_
        refine EW.region ?_
        first | refine WL.move rfl rfl rfl ?_
        first | refine WL.bin rfl rfl rfl rfl (int_add ‹_› _ _ _) ?_
        first | refine WL.assign rfl rfl rfl ?_
        refine WL.done ?_
        refine EW.again (E := fsE n v) (R := FsR n ds w) (m := fun y => ds.length - 15 - y.1) (x := (0, x)) (0 + 1, x') [0, 3, 5] rfl ⟨by show 0 + 1 ≤ _; omega, hbx', ho', hbe.trans (hfx'.below (fun k hk e => ?_) (by omega)), fun k hk => ?_⟩ (by show ds.length - 15 - (0 + 1) < ds.length - 15 - (0); omega)
        · rcases e with e | e
          · omega
          · have := (hnb k e).1; omega
        · rcases hnw' k hk with e | e
          · exact hnb k e
          · exact ⟨by omega, by omega⟩
      | succ t =>
        have e1 : 15 + (t + 1) = 16 + t := by omega
        have z2 : ¬ ((15 + (t + 1) : Nat) : Int) = 15 := by omega
        have hft := foT_dig ds h16 hd t t
        rw [if_neg (Nat.lt_irrefl _)] at hft
        have hadd := add_law (n + 1) x (foT ds t) t (38 * ds.getD (15 + (t + 1)) 0) wq hbx ho hxn (by rw [foT_length ds h16]; omega) (by omega) (by omega)
        have hsub : IntKind.i64.wrap (((15 + (t + 1) : Nat) : Int) - 16) = (t : Int) := by rw [e1]; exact wsub16 t (by omega)
        rw [show addD (foT ds t) t (38 * ds.getD (15 + (t + 1)) 0) = foS ds (t + 1 + 1) from by rw [e1]; rfl] at hadd
        refine EW.region ?_
        first | refine WL.move rfl rfl rfl ?_
        refine WL.bin rfl rfl rfl rfl (int_eq_f z2 _ _ _) ?_
        refine WL.done ?_
        refine EW.on ?_
        refine EW.cond_f rfl ?_
        refine EW.skip ?_
        refine EW.on ?_
        refine EW.region ?_
        first | refine WL.move rfl rfl rfl ?_
        refine WL.bin rfl rfl rfl rfl (int_sub hsub _ _ _) ?_
        first | refine WL.move rfl rfl rfl ?_
        refine WL.bin rfl rfl rfl rfl (int_mul (wm38 _ hdi) _ _ _) ?_
        refine WL.call [.pointer (some ⟨n + 1, 0, none⟩), .int .i64 (t : Int), .int .i64 ((38 * ds.getD (15 + (t + 1)) 0 : Nat) : Int)] enter58 rfl rfl rfl hadd ?_
        rintro x wz ⟨rfl, x', hbx', ho', hfx', hnw'⟩
        refine ⟨_, rfl, ?_⟩
        refine WL.done ?_
        refine pn_block ?_
        refine EW.on ?_
        refine EW.region ?_
        first | refine WL.move rfl rfl rfl ?_
        first | refine WL.bin rfl rfl rfl rfl (int_add ‹_› _ _ _) ?_
        first | refine WL.assign rfl rfl rfl ?_
        refine WL.done ?_
        refine EW.again (E := fsE n v) (R := FsR n ds w) (m := fun y => ds.length - 15 - y.1) (x := (t + 1, x)) (t + 1 + 1, x') [0, 3, 5] rfl ⟨by show t + 1 + 1 ≤ _; omega, hbx', ho', hbe.trans (hfx'.below (fun k hk e => ?_) (by omega)), fun k hk => ?_⟩ (by show ds.length - 15 - (t + 1 + 1) < ds.length - 15 - (t + 1); omega)
        · rcases e with e | e
          · omega
          · have := (hnb k e).1; omega
        · rcases hnw' k hk with e | e
          · exact hnb k e
          · exact ⟨by omega, by omega⟩
    · have z1 : ¬ ((15 + s : Nat) : Int) < (ds.length : Int) := by omega
      obtain ⟨t, rfl⟩ : ∃ t, s = t + 1 := ⟨s - 1, by omega⟩
      rw [show foS ds (t + 1) = foD ds from by show foT ds t = foT ds (ds.length - 16); rw [show ds.length - 16 = t by omega]] at ho
      refine EW.seq ?_
      refine EW.seq ?_
      refine EW.region ?_
      first | refine WL.move rfl rfl rfl ?_
      first | refine WL.move rfl rfl rfl ?_
      refine WL.len rfl rfl rfl (hlen _ _) ?_
      refine WL.bin rfl rfl rfl rfl (int_lt_f z1 _ _ _) ?_
      refine WL.done ?_
      refine EW.on ?_
      refine EW.cond_f rfl ?_
      refine EW.exit ?_
      repeat refine px_then ?_
      refine px_block ?_
      refine EW.on ?_
      refine EW.seq ?_
      refine EW.region ?_
      refine WL.load rfl rfl rfl (ld78 hcx) ?_
      first | refine WL.assign rfl rfl rfl ?_
      refine WL.done ?_
      refine EW.on ?_
      refine EW.ret ?_
      repeat (first | refine pr_then ?_ | refine pr_block ?_)
      exact EW.returns Try.results55 rfl ⟨x, rfl, ho, hbe⟩
end Go.Proofs.Ytnakeieeopbeiaa
