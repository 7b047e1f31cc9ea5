import Derived.Test.YthfcabhelldokaaBf
import Derived.Lib.ConvBytes
import Derived.Test.YthfcabhelldokaaTwG
set_option linter.unusedVariables false
set_option linter.unusedSimpArgs false
namespace Go.Proofs.Ythfcabhelldokaa
open Go.RowKit

theorem bytesW_below (w : World) (e : TypeId) (s : ByteArray) : Below w.heap.size w (Lib.bytesWorld w e s) :=
  ⟨rfl, rfl, rfl, by rw [Lib.bytesWorld_size]; omega, fun i hi => Lib.bytesWorld_at_old w e s i hi⟩
theorem conv_full (w : World) (bs : List UInt8) : ∃ cap w1, (Go.convert 9 34 (.string ⟨bs.toArray⟩)).run Try.prog w = .ok (.slice (some ⟨w.heap.size, 0, none⟩) bs.length cap) w1 ∧ Below w.heap.size w w1 ∧ w1.heap.size = w.heap.size + 1 ∧ bs.length ≤ cap ∧ (∀ i u, bs[i]? = some u → w1.cell? ⟨w.heap.size, i, none⟩ = some (byt u)) ∧ ∀ i, i < bs.length → w1.frozen? ⟨w.heap.size, i, none⟩ = false := by
  have hcv := Lib.run_convert_string_bytes (P := Try.prog) w 9 34 5 ⟨bs.toArray⟩ Try.underlying9 Try.underlying34 Try.underlying5
  have hge := grownCap_ge w (⟨bs.toArray⟩ : ByteArray).size 0 5
  have hsz : (⟨bs.toArray⟩ : ByteArray).size = bs.length := by simp [ByteArray.size]
  rw [hsz] at hcv hge
  refine ⟨_, _, hcv, bytesW_below _ _ _, Lib.bytesWorld_size _ _ _, hge, fun i u hu => ?_, fun i hi => ?_⟩
  · have hi : i < bs.length := (List.getElem?_eq_some_iff.1 hu).1
    rw [Lib.bytesWorld_cell w 5 ⟨bs.toArray⟩ i (by rw [hsz]; exact hi)]
    have e : (⟨bs.toArray⟩ : ByteArray).data.toList.getD i 0 = u := by
      show bs.toArray.toList.getD i 0 = u
      rw [List.getD_eq_getElem?_getD]; simp [hu]
    rw [e]; rfl
  · have h1 := Lib.bytesWorld_at_new w 5 ⟨bs.toArray⟩
    have h2 : bs.length ≤ (Lib.bytesCells w 5 ⟨bs.toArray⟩).size := by unfold Lib.bytesCells; simp [ByteArray.size]
    simp [World.frozen?, h1]
    omega
theorem WL.sliceH {P : Program} {n : Nat} {ops : Array Oper} {Q : Exit → Act → World → Prop} {i : Nat} {ty : TypeId} {ps : String} {af : Array Edge} {gd : Option (Nat × Bool)} {r : List Oper} {e : List (Nat × Value)} {w : World} {t : TypeId} {x hi : Operand} {u uh v : Value} (hw : wantE ops e ⟨some i, .slice t x none (some hi) none, ty, ps, af, gd⟩ = some true) (hi' : decide (i < n) = true) (hx : evE e x = some u) (hh : evE e hi = some uh) (hr : (Instr.sliceAt t u none (some uh) none).run P w = .ok v w) (k : WL P n ops Q r ((i, v) :: e) w) : WL P n ops Q (⟨some i, .slice t x none (some hi) none, ty, ps, af, gd⟩ :: r) e w :=
  WL.op i v hw rfl hi' (fun a ha => by simp [execOp, ha.ev hx, ha.ev hh, hr, Result.andThen]) k
theorem sl34h (g n cap m : Nat) (hm : m ≤ cap) (W : World) : (Instr.sliceAt 34 (.slice (some ⟨g, 0, none⟩) n cap) none (some (.int .i64 (m : Int))) none).run Try.prog W = .ok (.slice (some ⟨g, 0, none⟩) m cap) W := by
  have ht : Try.prog.underlying 34 = some (.slice (Try.prog.elem 34)) := by rw [elem34]; exact Try.underlying34
  rw [run_sliceAt_slice W 34 _ _ _ _ ht, run_slice_h W 34 _ _ cap ht .i64 m (by omega) (by omega), elem34, size5]
  simp only [Result.andThen, sliced, Int.toNat_natCast, Nat.sub_zero, Nat.zero_mul]
  split
  · rfl
  · simp [Addr.add]
theorem st5k {ad : Addr} {u : Value} {W : World} (h : W.cell? ad = some u) (hf : W.frozen? ad = false) : (Instr.storeAt 5 (.pointer (some ad)) (.int .u8 238)).run Try.prog W = .ok () (W.setCell ad (.int .u8 238)) := by go_simp
def wsE (v vb : Value) (g n c t : Nat) : List (Nat × Value) := [(3, vb), (9, .slice (some ⟨g, 0, none⟩) n c), (12, v), (13, .int .i64 (t : Int))]
theorem mark2 : (Value.string { data := #[85, 170] }) = .string ⟨[85, 170].toArray⟩ := rfl
set_option maxRecDepth 100000 in
set_option maxHeartbeats 1000000 in
theorem writes_law {W : World} {L : Lay} {R : Rl} {D : Dv} (h : Two W L R D) (i : Int) (vb : Value) (b : List UInt8) (hv : Has W vb b) (hvn : ∀ k, b ≠ [] → vb.ownBlock = some k → ¬ (L.F k ∨ R.F k)) (hbl : b.length ≤ 1000000000) (few : D.pen.length < 1000000) (hcal : D.calls < 1000000000000) (hleft : D.left < 9223372036854775808) :
    Calls Try.prog 49 #[.pointer (some ⟨L.p, 0, none⟩), .pointer (some ⟨R.p, 0, none⟩), .int .i64 i, vb] W fun e w' => e = .returned (.bool true) ∧ ∃ L' R', Two w' L' R' (wrD D i b) ∧ St2 W w' L L' R R' := by
  have hvc := hv.convert
  have hlen := hv.len
  have hsz : (⟨b.toArray⟩ : ByteArray).size + (⟨[85, 170].toArray⟩ : ByteArray).size ≤ 9223372036854775807 := by show b.toArray.size + [85, 170].toArray.size ≤ _; simp; omega
  have hadd := fun V x y => str_add ⟨b.toArray⟩ ⟨[85, 170].toArray⟩ hsz V x y
  rw [str_app] at hadd
  obtain ⟨cap, w1, hcf, be1, sz1, hcap, hcell, hfz⟩ := conv_full W (b ++ [85, 170])
  obtain ⟨g, hg⟩ : ∃ g, W.heap.size = g := ⟨_, rfl⟩
  obtain ⟨N, hN⟩ : ∃ N, (b ++ [85, 170]).length = N := ⟨_, rfl⟩
  have hNl : N = b.length + 2 := by rw [← hN]; simp
  rw [hg, hN] at hcf
  rw [hg] at hcell hfz sz1
  rw [hN] at hcap hfz
  have h1 := h.below be1
  have hs1 := fun V => sl34h g N cap b.length (by omega) V
  have hhf : Has w1 (.slice (some ⟨g, 0, none⟩) b.length cap) b := .inr ⟨⟨g, 0, none⟩, cap, rfl, by omega, fun j u hu => by rw [add_plain]; exact hcell j u (by rw [List.getElem?_append_left (List.getElem?_eq_some_iff.1 hu).1]; exact hu)⟩
  have hgF : ¬ (L.F g ∨ R.F g) := fun hF => by have := h.lt g hF; omega
  have hdw := dev_write h1.dev i _ b hhf few hcal hleft
  refine calls_of_args [.pointer (some ⟨L.p, 0, none⟩), .pointer (some ⟨R.p, 0, none⟩), .int .i64 i, vb] Try.func49 rfl 50 Try.ntmps49 (by show 4 ≤ 50; decide) ?_
  refine EW.seq ?_
  refine EW.region ?_
  first | refine WL.assign rfl rfl rfl ?_
  refine WL.done ?_
  refine EW.on ?_
  refine EW.seq ?_
  refine EW.region ?_
  first | refine WL.move rfl rfl rfl ?_
  refine WL.conv rfl rfl rfl hvc ?_
  refine WL.bin rfl rfl rfl rfl (hadd _ _ _) ?_
  refine WL.conv rfl rfl rfl hcf ?_
  first | refine WL.assign rfl rfl rfl ?_
  refine WL.done ?_
  refine EW.on ?_
  refine EW.seq ?_
  refine EW.region ?_
  first | refine WL.move rfl rfl rfl ?_
  first | refine WL.move rfl rfl rfl ?_
  first | refine WL.move rfl rfl rfl ?_
  first | refine WL.move rfl rfl rfl ?_
  refine WL.len rfl rfl rfl (hlen _ _) ?_
  refine WL.sliceH rfl rfl rfl rfl (hs1 _) ?_
  refine WL.call [.pointer (some ⟨L.p, 0, none⟩), .int .i64 i, .slice (some ⟨g, 0, none⟩) b.length cap] enter12 rfl rfl rfl hdw ?_
  rintro x w2 ⟨rfl, L2, ht2, hd2⟩
  refine ⟨_, rfl, ?_⟩
  first | refine WL.assign rfl rfl rfl ?_
  refine WL.done ?_
  have hr2 := h1.mid ht2
  have hv2 : Has w2 vb b := (hv.below be1).fx' ht2.fx (fun k hn hk e => hvn k hn hk (.inl e))
  have hrw := ref_write hr2 i vb b hv2 few hcal hleft
  refine EW.on ?_
  refine EW.seq ?_
  refine EW.region ?_
  first | refine WL.move rfl rfl rfl ?_
  first | refine WL.move rfl rfl rfl ?_
  first | refine WL.move rfl rfl rfl ?_
  refine WL.call [.pointer (some ⟨R.p, 0, none⟩), .int .i64 i, vb] enter63 rfl rfl rfl hrw ?_
  rintro x w3 ⟨rfl, R3, ht3, hr3⟩
  refine ⟨_, rfl, ?_⟩
  first | refine WL.assign rfl rfl rfl ?_
  refine WL.done ?_
  obtain ⟨k3, st3⟩ := h1.step ht2 hd2 ht3 hr3
  have hf3 : Fx (fun k => L.F k ∨ R.F k) w1 w3 := st3.fx
  have hv3 : Has w3 vb b := (hv.below be1).fx' hf3 (fun k hn hk e => hvn k hn hk e)
  have hvc3 := hv3.convert
  have hc3 : ∀ i u, (b ++ [85, 170])[i]? = some u → w3.cell? ⟨g, i, none⟩ = some (byt u) := fun i u hu => hf3.cell (hcell i u hu) hgF
  have hff3 : Has w3 (.slice (some ⟨g, 0, none⟩) N cap) (b ++ [85, 170]) := .inr ⟨⟨g, 0, none⟩, cap, by rw [hN], by rw [hN]; exact hcap, fun j u hu => by rw [add_plain]; exact hc3 j u hu⟩
  have hfc3 := hff3.convert
  have hfr3 : ∀ i, i < N → w3.frozen? ⟨g, i, none⟩ = false := fun i hi => by
    rw [World.frozen?_of_block (hf3.block g (by omega) hgF)]; exact hfz i hi
  have hgF3 : ¬ (L2.F g ∨ R3.F g) := fun hF => by
    rcases hF with hF | hF
    · rcases st3.ol g hF with e | e
      · exact hgF (.inl e)
      · omega
    · rcases st3.or g hF with e | e
      · exact hgF (.inr e)
      · omega
  refine EW.on ?_
  refine EW.seq ?_
  refine EW.region ?_
  first | refine WL.move rfl rfl rfl ?_
  first | refine WL.move rfl rfl rfl ?_
  refine WL.bin rfl rfl rfl rfl (int_eq_t rfl _ _ _) ?_
  first | refine WL.move rfl rfl rfl ?_
  first | refine WL.move rfl rfl rfl ?_ | refine WL.skip _ rfl rfl rfl ?_
  refine WL.conv rfl rfl rfl hfc3 ?_
  first | refine WL.move rfl rfl rfl ?_ | refine WL.skip _ rfl rfl rfl ?_
  refine WL.conv rfl rfl rfl hvc3 ?_
  refine WL.bin rfl rfl rfl rfl (hadd _ _ _) ?_
  refine WL.bin rfl rfl rfl rfl (str_eq_t _ _ _ _) ?_
  first | refine WL.pick rfl rfl rfl rfl ?_
  first | refine WL.assign rfl rfl rfl ?_
  refine WL.done ?_
  refine EW.on ?_
  refine EW.seq ?_
  refine EW.seq ?_
  refine EW.region ?_
  first | refine WL.assign rfl rfl rfl ?_
  refine WL.done ?_
  refine EW.on ?_
  refine EW.block ?_
  refine EW.loop (wsE (.bool true) vb g N cap) (fun t w' => t ≤ b.length ∧ Fx (fun k => k = g) w3 w' ∧ ∀ i, i < N → w'.frozen? ⟨g, i, none⟩ = false ∧ ∃ u, w'.cell? ⟨g, i, none⟩ = some u) (fun t => b.length - t) 0 [3, 9, 12, 13] rfl ⟨Nat.zero_le _, Fx.refl _ _, fun i hi => ⟨hfr3 i hi, _, hc3 i _ (List.getElem?_eq_getElem (by rw [hN]; exact hi))⟩⟩ ?_
  rintro t wr ⟨ht, hfr, hcs⟩
  show EW _ _ _ _ [(3, vb), (9, .slice (some ⟨g, 0, none⟩) N cap), (12, .bool true), (13, .int .i64 (t : Int))] _
  by_cases hlt : t < b.length
  · have z1 : (t : Int) < (b.length : Int) := Int.ofNat_lt.2 hlt
    have tn := tnB t _ hlt (by omega)
    obtain ⟨fz, u, hu⟩ := hcs t (by omega)
    have s1 := st5k hu fz
    have f1 : Fx (fun k => k = g) wr (wr.setCell ⟨g, t, none⟩ (.int .u8 238)) := Fx.setCell wr g t _ rfl
    refine EW.seq ?_
    refine EW.seq ?_
    refine EW.region ?_
    first | refine WL.move rfl rfl rfl ?_
    first | refine WL.move rfl rfl rfl ?_
    refine WL.len rfl rfl rfl (hlen _ _) ?_
    first | refine WL.bin rfl rfl rfl rfl (int_lt_t ‹_› _ _ _) ?_ | refine WL.bin rfl rfl rfl rfl (int_lt_f ‹_› _ _ _) ?_
    refine WL.done ?_
    refine EW.on ?_
    refine EW.cond_t rfl ?_
    refine EW.skip ?_
    refine EW.on ?_
    refine EW.seq ?_
    refine EW.block ?_
    refine EW.region ?_
    first | refine WL.move rfl rfl rfl ?_
    first | refine WL.move rfl rfl rfl ?_
    refine WL.index rfl rfl rfl rfl (idx34c g _ _ t (by omega) _) ?_
    refine WL.store rfl rfl rfl s1 ?_
    refine WL.done ?_
    refine pn_block ?_
    refine EW.on ?_
    refine EW.region ?_
    first | refine WL.move rfl rfl rfl ?_
    first | refine WL.bin rfl rfl rfl rfl (int_add ‹_› _ _ _) ?_
    first | refine WL.assign rfl rfl rfl ?_
    refine WL.done ?_
    refine EW.again (t + 1) [3, 9, 12, 13] rfl ⟨hlt, hfr.and f1, fun i hi => ⟨?_, ?_⟩⟩ (by show b.length - (t + 1) < b.length - t; omega)
    · simp; exact (hcs i hi).1
    · obtain ⟨x, hx⟩ := (hcs i hi).2
      exact cell?_setCell_some hx
  · have z1 : ¬ (t : Int) < (b.length : Int) := fun hh => hlt (Int.ofNat_lt.1 hh)
    refine EW.seq ?_
    refine EW.seq ?_
    refine EW.region ?_
    first | refine WL.move rfl rfl rfl ?_
    first | refine WL.move rfl rfl rfl ?_
    refine WL.len rfl rfl rfl (hlen _ _) ?_
    first | refine WL.bin rfl rfl rfl rfl (int_lt_t ‹_› _ _ _) ?_ | refine WL.bin rfl rfl rfl rfl (int_lt_f ‹_› _ _ _) ?_
    refine WL.done ?_
    refine EW.on ?_
    refine EW.cond_f rfl ?_
    refine EW.exit ?_
    repeat refine px_then ?_
    refine px_block ?_
    refine EW.on ?_
    refine EW.seq ?_
    refine EW.region ?_
    first | refine WL.move rfl rfl rfl ?_
    first | refine WL.assign rfl rfl rfl ?_
    refine WL.done ?_
    have k4 := k3.fx hfr (fun k hk e => hgF3 (by rw [← e]; exact hk))
    have stW := (St2.below be1).trans st3
    have st4 : St2 W wr L L2 R R3 := ⟨stW.fx.trans hfr (fun k hk e => by omega), stW.ol, stW.or, stW.pl, stW.pr⟩
    refine EW.on ?_
    refine EW.ret ?_
    repeat (first | refine pr_then ?_ | refine pr_block ?_)
    exact EW.returns Try.results49 rfl ⟨rfl, L2, R3, k4, st4⟩
end Go.Proofs.Ythfcabhelldokaa

set_option linter.unusedVariables false
set_option linter.unusedSimpArgs false
namespace Go.Proofs.Ythfcabhelldokaa
open Go.RowKit

set_option maxRecDepth 100000 in
set_option maxHeartbeats 2000000 in
theorem twin_blk (v : Value) (ks : List (BitVec 64)) (torn off : Int) (hkl : ks.length + 2 ≤ 17592186044416) (w : World) (hv : Has64 w v ks) : Calls Try.prog 20 #[.agg (lossC v torn off).toArray] w fun e w' =>
    e = .returned (.agg (lossC (.slice (some ⟨w.heap.size + 2, 0, none⟩) ks.length (ks.length + 2)) torn off).toArray) ∧ Below w.heap.size w w' ∧ Blk w' (w.heap.size + 2) (tw ks ks.length) 39 := by
  have hlen := hv.len2
  obtain ⟨g0, hg0⟩ : ∃ g, w.heap.size = g := ⟨_, rfl⟩
  have be0 : Below w.heap.size w (w.alloc (.cells (lossC v torn off).toArray 38)) := below_new w _
  have b0 : Blk (w.alloc (.cells (lossC v torn off).toArray 38)) g0 (lossC v torn off) 38 := Blk.newAt hg0
  have sz0 : (w.alloc (.cells (lossC v torn off).toArray 38)).heap.size = g0 + 1 := by simp [hg0]
  obtain ⟨w0, hw0⟩ : ∃ w0, w.alloc (.cells (lossC v torn off).toArray 38) = w0 := ⟨_, rfl⟩
  rw [hw0] at be0 b0 sz0
  have be1 : Below w0.heap.size w0 (w0.alloc (.cells (lossC (.slice none 0 0) 0 0).toArray 38)) := below_new w0 _
  have b1 : Blk (w0.alloc (.cells (lossC (.slice none 0 0) 0 0).toArray 38)) (g0 + 1) (lossC (.slice none 0 0) 0 0) 38 := Blk.newAt sz0
  have sz1 : (w0.alloc (.cells (lossC (.slice none 0 0) 0 0).toArray 38)).heap.size = g0 + 2 := by simp [sz0]
  obtain ⟨w1, hw1⟩ : ∃ w1, w0.alloc (.cells (lossC (.slice none 0 0) 0 0).toArray 38) = w1 := ⟨_, rfl⟩
  rw [hw1] at be1 b1 sz1
  have b01 := b0.on be1
  have be01 : Below w.heap.size w w1 := be0.trans (be1.mono be0.size)
  have hv1 := hv.fx (Fx.of_below (S := fun _ => False) be01) (fun _ _ h => h)
  have hmk := run_mk36 w1 (ks.length + 2) hkl
  rw [sz1, ← tw_zero] at hmk
  have B2 : ∀ t, Blk (w1.alloc (.cells (tw ks t).toArray 39)) (g0 + 2) (tw ks t) 39 := fun t => Blk.newAt sz1
  have L2 : ∀ t, Blk (w1.alloc (.cells (tw ks t).toArray 39)) g0 (lossC v torn off) 38 := fun t => b01.on (below_new w1 _)
  have N2 : ∀ t, Blk (w1.alloc (.cells (tw ks t).toArray 39)) (g0 + 1) (lossC (.slice none 0 0) 0 0) 38 := fun t => b1.on (below_new w1 _)
  have hsl := fun W => sl36 (g0 + 2) ks.length (ks.length + 2) (by omega) (by omega) (by omega) W
  obtain ⟨n, hn⟩ : ∃ n, ks.length = n := ⟨_, rfl⟩
  have HB2 := hide B2
  have HL2 := hide L2
  have HN2 := hide N2
  have HV1 := hide hv1
  have BE := hide be01
  have HKL := hide hkl
  have HN := hide hn
  have e1 : wrap64 ((ks.length : Int) + 2) = ((ks.length + 2 : Nat) : Int) := by rw [IntWalk.wrap64_in _ (by omega)]; simp
  have e2 : (ks.length : Int) + 2 = ((ks.length + 2 : Nat) : Int) := by simp
  have e3 : wrap64 ((ks.length + 2 : Nat) : Int) = ((ks.length + 2 : Nat) : Int) := IntWalk.wrap64_in _ (by omega)
  rw [hn] at hlen hmk hsl e1 e2 e3
  obtain ⟨n2, hn2⟩ : ∃ n2, n + 2 = n2 := ⟨_, rfl⟩
  have HN22 := hide hn2
  rw [hn2] at hmk hsl e1 e2 e3
  clear hn2 hn hkl be01 hv1 N2 L2 B2 b01 b1 b0 be0 be1 hv
  obtain ⟨w3, hw3⟩ : ∃ w3, w1.alloc (.cells (tw ks 0).toArray 39) = w3 := ⟨_, rfl⟩
  have HW3 := hide hw3
  rw [hw3] at hmk
  have r0 : w3.cell? ⟨g0, 0, none⟩ = some v := by rw [← hw3]; exact ((HL2.out 0).cell 0).trans rfl
  have r1 : w1.cell? ⟨g0, 0, none⟩ = some v := by
    have h1 := (HL2.out 0).cell 0
    rw [Below.cell (below_new w1 _) (show g0 < w1.heap.size by omega)] at h1
    exact h1.trans rfl
  clear hw3
  go_enter Try.func20, Try.ntmps20
  go_wp2_with (first
    | (refine wpList_boxAt rfl 38 (.tmp 0) rfl (lossC v torn off) rfl g0 hg0 ?_; rw [hw0])
    | (refine wpList_newAt rfl 38 rfl _ zero38 (g0 + 1) sz0 ?_; rw [hw1])
    | fail)
  go_loopw [4] (fun i wr => ∃ t : Nat, t ≤ n ∧ i = .int .i64 t ∧ Hid (wr = w1.alloc (.cells (tw ks t).toArray 39))) (fun i _ => n - (intOf i).toNat)
  case atStart => exact ⟨0, by omega, rfl, hide HW3.out.symm⟩
  case round =>
    obtain ⟨t, ht, rfl, hs⟩ := hrel
    have q0 : wr.cell? ⟨g0, 0, none⟩ = some v := by rw [hs.out]; exact ((HL2.out t).cell 0).trans rfl
    by_cases hlt : t < n
    · have hlz : (t : Int) < (n : Int) := by omega
      have hnb : n < 17592186044416 := by have := HKL.out; have := HN.out; omega
      obtain ⟨ad, cap, rfl, hcells⟩ : ∃ ad cap, v = .slice (some ad) n cap ∧ ∀ i u, ks[i]? = some u → w1.cell? (ad.add i) = some (wv u) := by
        rcases HV1.out with ⟨_, h⟩ | ⟨ad, cap, h1, _, h3⟩
        · have := HN.out; rw [h] at this; simp at this; omega
        · exact ⟨ad, cap, by rw [h1, HN.out], h3⟩
      obtain ⟨u, hu⟩ : ∃ u, ks[t]? = some u := ⟨ks[t]'(by have := HN.out; omega), by rw [List.getElem?_eq_getElem]⟩
      have hsrc : wr.cell? (ad.add t) = some (.int .u64 (wn u)) := by
        rw [hs.out]
        exact ((below_new w1 _).cell (cell_lt (hcells t u hu))).trans (hcells t u hu)
      have hix := fun W => idx36 ad n cap t hlt W
      have hix2 : ∀ W, (Instr.indexAt 36 (.slice (some ⟨g0 + 2, 0, none⟩) n2 n2) (.int .i64 (t : Int))).run Try.prog W = .ok (.pointer (some ⟨g0 + 2, t, none⟩)) W := fun W => by rw [idx36 ⟨g0 + 2, 0, none⟩ n2 n2 t (by have := HN22.out; omega) W, add_plain]
      have B0 : Blk wr (g0 + 2) (tw ks t) 39 := by rw [hs.out]; exact HB2.out t
      obtain ⟨z, hz⟩ : ∃ z, (tw ks t)[t]? = some z := ⟨(tw ks t)[t]'(by rw [tw_length ks t (by have := HN.out; omega)]; have := HN.out; omega), by rw [List.getElem?_eq_getElem]⟩
      have hold := (B0.cell t).trans hz
      have hfz := B0.frozen t
      have E1 : Hid (wr.setCell ⟨g0 + 2, t, none⟩ (.int .u64 (wn u)) = w1.alloc (.cells (tw ks (t + 1)).toArray 39)) := hide (by rw [hs.out, ← tw_set ks t u hu, ← sz1, alloc_setCell]; rfl)
      clear hcells hs B0 hz
      go_wp2
      go_roundw
      case rel => exact ⟨t + 1, by omega, by go_num, hide E1.out⟩
      case measure => simp [intOf]; omega
    · obtain rfl : t = n := by omega
      have LL : Blk wr g0 (lossC v torn off) 38 := by rw [hs.out]; exact HL2.out t
      have KK : Blk wr (g0 + 2) (tw ks t) 39 := by rw [hs.out]; exact HB2.out t
      have NN : Blk wr (g0 + 1) (lossC (.slice none 0 0) 0 0) 38 := by rw [hs.out]; exact HN2.out t
      have BB : Below w.heap.size w wr := by rw [hs.out]; exact BE.out.trans ((below_new w1 _).mono BE.out.size)
      have hlz : ¬ (t : Int) < (t : Int) := by omega
      have hfz := LL.frozen 0
      have LL2 : Blk (wr.setCell ⟨g0, 0, none⟩ (.slice (some ⟨g0 + 2, 0, none⟩) t n2)) g0 (lossC (.slice (some ⟨g0 + 2, 0, none⟩) t n2) torn off) 38 := LL.set 0 _
      have F2 : Fx (One g0) wr (wr.setCell ⟨g0, 0, none⟩ (.slice (some ⟨g0 + 2, 0, none⟩) t n2)) := Fx.setCell _ _ _ _ rfl
      have BB2 : Below w.heap.size w (wr.setCell ⟨g0, 0, none⟩ (.slice (some ⟨g0 + 2, 0, none⟩) t n2)) := BB.trans (F2.below (fun k hk e => by have : k = g0 := e; omega) (by have := BB.size; omega))
      have KK2 := KK.fx F2 (fun e => by have : g0 + 2 = g0 := e; omega)
      have NN2 := NN.fx F2 (fun e => by have : g0 + 1 = g0 := e; omega)
      obtain ⟨w5, hw5⟩ : ∃ w5, wr.setCell ⟨g0, 0, none⟩ (.slice (some ⟨g0 + 2, 0, none⟩) t n2) = w5 := ⟨_, rfl⟩
      rw [hw5] at LL2 F2 BB2 KK2 NN2
      have HLL := hide LL2
      have HKK := hide KK2
      have HNN := hide NN2
      have HBB := hide BB2
      have HI := hide (info38A (.slice (some ⟨g0 + 2, 0, none⟩) t n2) torn off)
      have H1 := hide (lossC_oneA (some ⟨g0 + 2, 0, none⟩) t n2 torn off)
      clear LL KK NN BB LL2 KK2 NN2 BB2 F2 hs
      go_wp2_with (first
        | (refine wpList_load_row rfl 38 (.tmp 1) rfl g0 rfl 38 (lossC (.slice (some ⟨g0 + 2, 0, none⟩) t n2) torn off).toArray (0, 0) _ HLL.out Try.underlying38 rfl HI.out ?_)
        | (refine wpList_store_row rfl 38 (.tmp 2) (.tmp 31) rfl (g0 + 1) (lossC (.slice (some ⟨g0 + 2, 0, none⟩) t n2) torn off).toArray rfl rfl 38 _ HNN.out HI.out rfl H1.out ?_)
        | fail)
      refine bodyPost_ret (results_cell_row Try.results20 _ _ (g0 + 1) 38 (lossC (.slice (some ⟨g0 + 2, 0, none⟩) t n2) torn off).toArray (0, 0) _ rfl (HNN.out.setRow _) Try.underlying38 rfl HI.out) rfl ?_
      have hn0 := HN.out
      have hn2 := HN22.out
      have hsz := HKK.out.lt
      have HBC := HBB.out
      rw [hg0] at HBC
      refine ⟨?_, below_setRow HBC _ _ (by omega), ?_⟩
      · rw [hn0, hn2]
      · have hk := HKK.out.setRowOther (g0 + 1) (lossC (.slice (some ⟨g0 + 2, 0, none⟩) t n2) torn off).toArray (by omega)
        rw [← hn0] at hk ⊢
        exact hk
end Go.Proofs.Ythfcabhelldokaa
