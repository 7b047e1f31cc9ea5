import Derived.Test.YthfcabhelldokaaLpG
import Derived.Test.YthfcabhelldokaaCa
set_option linter.unusedVariables false
set_option linter.unusedSimpArgs false
namespace Go.Proofs.Ythfcabhelldokaa
open Go.RowKit

/-- A life beside its device. -/
structure Life (w W : World) (pv : Nat) (L : Lay) (vi : Value) (ims : List ByteArray) (vl : Value) : Prop where
  bl : Blk W pv (lifeC L.p vi vl) 32
  im : W.ownsRow 0 9 1 vi ims.length (ims.map Value.string)
  lo : w.heap.size ≤ pv
  no : ¬ L.F pv
  vin : ∀ k, vi.ownBlock = some k → w.heap.size ≤ k ∧ k ≠ pv ∧ ¬ L.F k
theorem Life.turn {w W W' : World} {pv : Nat} {L L' : Lay} {vi vl : Value} {ims : List ByteArray} (h : Life w W pv L vi ims vl) (ht : Turn W W' L L') : Life w W' pv L' vi ims vl :=
  ⟨by rw [ht.p]; exact h.bl.fx ht.fx h.no, ownsRow_fx h.im ht.fx (fun k hk => (h.vin k hk).2.2), h.lo, fun hF => by
    rcases ht.own pv hF with h1 | h1
    · exact h.no h1
    · have := h.bl.lt; omega, fun k hk => ⟨(h.vin k hk).1, (h.vin k hk).2.1, fun hF => by
      rcases ht.own k hF with h1 | h1
      · exact (h.vin k hk).2.2 h1
      · have := ownsRow_lt h.im k hk; omega⟩⟩
theorem Life.below {w W W' : World} {pv : Nat} {L : Lay} {vi vl : Value} {ims : List ByteArray} (h : Life w W pv L vi ims vl) (hb : Below W.heap.size W W') : Life w W' pv L vi ims vl :=
  ⟨h.bl.on hb, ownsRow_fx h.im (Fx.of_below (S := fun _ => False) hb) (fun _ _ s => s), h.lo, h.no, h.vin⟩
theorem zS_conv (W : World) (g : Nat) (h : Blk W g ((List.replicate 512 (0 : UInt8)).map byt) 5) : (Go.convert 34 9 (.slice (some ⟨g, 0, none⟩) 512 512)).run Try.prog W = .ok (.string zS) W :=
  (Blk.hasB h (List.length_replicate ..)).convert
theorem mk512 (w : World) : (Instr.makeSlice 34 (.int .i64 512) (.int .i64 512)).run Try.prog w = .ok (.slice (some ⟨w.heap.size, 0, none⟩) 512 512) (w.alloc (.cells ((List.replicate 512 (0 : UInt8)).map byt).toArray 5)) := run_mk34 w 512 (by decide)
theorem OpTo.run {P : Program} {o : Oper} {a : Act} {w w1 : World} {v : Value} (h : (execOp a.eval o).run P w = .ok (.value v) w1) : OpTo P o a w v (fun W => W = w1) := .inl ⟨w1, h, rfl⟩
theorem OpTo.mk {P : Program} {o : Oper} {a : Act} {w w1 : World} (t : TypeId) (x y : Operand) (ho : o.op = .makeSlice t x y) (u u' v : Value) (hx : a.eval x = u) (hy : a.eval y = u') (h : (Instr.makeSlice t u u').run P w = .ok v w1) : OpTo P o a w v (fun W => W = w1) := by
  refine .inl ⟨w1, ?_, rfl⟩
  simp only [execOp, ho, hx, hy, Sem.run_bind, h, Result.andThen_ok, Sem.run_pure]
theorem OpTo.conv {P : Program} {o : Oper} {a : Act} {w w1 : World} (s t : TypeId) (x : Operand) (ho : o.op = .convert s t x) (u v : Value) (hx : a.eval x = u) (h : (Go.convert s t u).run P w = .ok v w1) : OpTo P o a w v (fun W => W = w1) := by
  refine .inl ⟨w1, ?_, rfl⟩
  simp only [execOp, ho, hx, Sem.run_bind, h, Result.andThen_ok, Sem.run_pure]

set_option maxRecDepth 100000 in
set_option maxHeartbeats 4000000 in
theorem born_any (w : World) : Calls Try.prog 11 #[] w fun e w' => ∃ pv L vi, e = .returned (.tuple #[.pointer (some ⟨pv, 0, none⟩), .bool true]) ∧ Mine w w' L (freshD 4 (zer 4)) ∧ Life w w' pv L vi (List.replicate 4 zS) (.slice none 0 0) := by
  have c18 : Hid (Calls Try.prog 18 #[.int .i64 4] w fun e w' => e = .returned (.tuple #[.pointer (some ⟨w.heap.size + 2, 0, none⟩), .int .i64 0]) ∧ w' = newW w 4 (zer 4)) := hide (new_any 4 (by decide) (by decide) w)
  have M0 := Mine.new w 4 (zer 4) (by decide) (by decide) (zer_length 4)
  obtain ⟨L, hL⟩ : ∃ L, freshL (w.heap.size + 2) w.heap.size (w.heap.size + 1) = L := ⟨_, rfl⟩
  have hp0 : L.p = w.heap.size + 2 := by rw [← hL]; rfl
  rw [hL] at M0
  obtain ⟨p, hp⟩ : ∃ p, w.heap.size + 2 = p := ⟨_, rfl⟩
  rw [hp] at c18 hp0
  clear hL hp
  obtain ⟨w1, hw1⟩ : ∃ w1, newW w 4 (zer 4) = w1 := ⟨_, rfl⟩
  rw [hw1] at M0 c18
  clear hw1
  obtain ⟨pv, hpv⟩ : ∃ pv, w1.heap.size = pv := ⟨_, rfl⟩
  have hbd := fun W => build32 p W
  have B1 : Blk (w1.alloc (.cells (lifeC p (.slice none 0 0) (.slice none 0 0)).toArray 32)) pv (lifeC p (.slice none 0 0) (.slice none 0 0)) 32 := Blk.newAt hpv
  have M1 : Mine w (w1.alloc (.cells (lifeC p (.slice none 0 0) (.slice none 0 0)).toArray 32)) L (freshD 4 (zer 4)) := M0.below (below_new w1 _)
  have F0 : Hid (Mine w (w1.alloc (.cells (lifeC p (.slice none 0 0) (.slice none 0 0)).toArray 32)) L (freshD 4 (zer 4)) ∧ Life w (w1.alloc (.cells (lifeC p (.slice none 0 0) (.slice none 0 0)).toArray 32)) pv L (.slice none 0 0) [] (.slice none 0 0)) := hide ⟨M1, ⟨by rw [hp0]; exact B1, ⟨rfl, .inl ⟨rfl, rfl⟩⟩, by rw [← hpv]; exact M0.be.size, fun hF => by have := M0.dev.lt pv hF; omega, fun k hk => by simp [Value.ownBlock] at hk⟩⟩
  clear B1 M1 M0
  unfold lifeC at F0 hbd
  go_enter Try.func11, Try.ntmps11
  go_wp2_with (first
    | (go_at_call 18; refine c18.out.mono ?_; rintro e wz ⟨rfl, hz⟩; rw [hz]; clear hz wz)
    | (refine wpList_boxAt rfl 32 (.tmp 11) rfl _ rfl pv hpv ?_)
    | fail)
  clear c18 hbd
  go_loopw [5] (fun i wr => ∃ t : Nat, t ≤ 4 ∧ i = .int .i64 t ∧ Hid (∃ vi, Mine w wr L (freshD 4 (zer 4)) ∧ Life w wr pv L vi (List.replicate t zS) (.slice none 0 0))) (fun i _ => 4 - (intOf i).toNat)
  case atStart => exact ⟨0, by omega, rfl, hide ⟨_, F0.out⟩⟩
  case round =>
    obtain ⟨t, ht, rfl, hs⟩ := hrel
    obtain ⟨vi, hM, hL⟩ := hs.out
    clear hs F0
    by_cases hlt : t < 4
    · have hlz : (t : Int) < 4 := by omega
      go_upto_region 6 with fail
      obtain ⟨w0, hw0⟩ : ∃ w0, { wr with drawn := wr.drawn + 1 } = w0 := ⟨_, rfl⟩
      have be0 : Below wr.heap.size wr w0 := by rw [← hw0]; exact below_drawn wr
      replace hM := hM.below be0
      replace hL := hL.below be0
      clear be0
      have hc1 : w0.cell? ⟨pv, 1, none⟩ = some vi := (hL.bl.cell 1).trans rfl
      obtain ⟨g, hg⟩ : ∃ g, w0.heap.size = g := ⟨_, rfl⟩
      have hmk := mk512 w0
      have be1 : Below w0.heap.size w0 (w0.alloc (.cells ((List.replicate 512 (0 : UInt8)).map byt).toArray 5)) := below_new w0 _
      have bB : Blk (w0.alloc (.cells ((List.replicate 512 (0 : UInt8)).map byt).toArray 5)) g ((List.replicate 512 (0 : UInt8)).map byt) 5 := Blk.newAt hg
      obtain ⟨w1, hw1⟩ : ∃ w1, w0.alloc (.cells ((List.replicate 512 (0 : UInt8)).map byt).toArray 5) = w1 := ⟨_, rfl⟩
      have sz1 : w1.heap.size = g + 1 := by rw [← hw1]; simp [hg]
      rw [hw1] at hmk be1 bB
      rw [hg] at hmk
      have hcv := zS_conv w1 g bB
      have hbs := bs29 zS w1
      have be2 : Below w1.heap.size w1 (w1.alloc (.cells [Value.string zS].toArray 9)) := below_new w1 _
      have bS : Blk (w1.alloc (.cells [Value.string zS].toArray 9)) (g + 1) [Value.string zS] 9 := Blk.newAt sz1
      obtain ⟨w2, hw2⟩ : ∃ w2, w1.alloc (.cells [Value.string zS].toArray 9) = w2 := ⟨_, rfl⟩
      have sz2 : w2.heap.size = g + 2 := by rw [← hw2]; simp [sz1]
      rw [hw2] at hbs be2 bS
      rw [sz1] at hbs
      have hM2 := (hM.below be1).below be2
      have hL2 := (hL.below be1).below be2
      obtain ⟨v3, w3, hap, own3, gr3, nw3⟩ := run_app29 w2 vi _ _ hL2.im (g + 1) zS bS (by rw [List.length_replicate]; omega) 29
      obtain ⟨ao, ln, cp, rfl⟩ : ∃ ao ln cp, v3 = Value.slice ao ln cp := own_shape own3
      have f3 := grown_fx gr3
      have hM3 : Mine w w3 L (freshD 4 (zer 4)) := ⟨hM2.dev.fx f3 (fun k hF hk => (hL2.vin k hk).2.2 hF), hM2.be.trans (f3.below (fun k hk hF => by have := (hL2.vin k hF).1; omega) hM2.be.size), hM2.own⟩
      have hP3 : Blk w3 pv (lifeC L.p vi (.slice none 0 0)) 32 := hL2.bl.fx f3 (fun e => (hL2.vin pv e).2.1 rfl)
      have nv : ∀ k, (Value.slice ao ln cp).ownBlock = some k → vi.ownBlock = some k ∨ g + 2 ≤ k := fun k hk => by rw [← sz2]; exact nw3 k hk
      refine reg_chain (fun W => W.cell? ⟨pv, 1, none⟩ = some vi) 5 4 3 (by kernel_rfl) rfl (by kernel_rfl) (by rw [hw0]; exact hc1) ?_
      rw [hw0]
      simp only [List.take_succ_cons, List.take_zero]
      refine wpLexV_cons (.pointer (some ⟨pv, 0, none⟩)) (uvV (by rfl) (Op.move (Operand.tmp 4)) rfl (.pointer (some ⟨pv, 0, none⟩)) (fun o' ho W hW => by go_simp)) (by simp only [Act.put, List.setIfInBounds_toArray, List.set_cons_zero, List.set_cons_succ]; rfl) ?_
      refine wpLexV_cons (.pointer (some ⟨pv, 0, none⟩)) (uvV (by rfl) (Op.move (Operand.tmp 4)) rfl (.pointer (some ⟨pv, 0, none⟩)) (fun o' ho W hW => by go_simp)) (by simp only [Act.put, List.setIfInBounds_toArray, List.set_cons_zero, List.set_cons_succ]; rfl) ?_
      refine wpLexV_cons (.pointer (some ⟨pv, 0, none⟩)) (uvV (by rfl) (Op.nilCheck (Operand.tmp 18)) rfl (.pointer (some ⟨pv, 0, none⟩)) (fun o' ho W hW => by go_simp)) (by simp only [Act.put, List.setIfInBounds_toArray, List.set_cons_zero, List.set_cons_succ]; rfl) ?_
      refine wpLexV_cons (.pointer (some ⟨pv, 1, none⟩)) (uvV (by rfl) (Op.fieldAddr 32 (Operand.tmp 19) 1) rfl (.pointer (some ⟨pv, 1, none⟩)) (fun o' ho W hW => by go_simp)) (by simp only [Act.put, List.setIfInBounds_toArray, List.set_cons_zero, List.set_cons_succ]; rfl) ?_
      refine wpLexV_cons (vi) (uvV (by rfl) (Op.load 29 (Operand.tmp 20)) rfl (vi) (fun o' ho W hW => by have hc : W.cell? ⟨pv, 1, none⟩ = some vi := hW; go_simp)) (by simp only [Act.put, List.setIfInBounds_toArray, List.set_cons_zero, List.set_cons_succ]; rfl) ?_
      simp only [List.drop_succ_cons, List.drop_zero, List.take_succ_cons, List.take_zero]
      refine wpSteps_cons rfl (.slice (some ⟨g, 0, none⟩) 512 512) w1 ((be1.cell (cell_lt hc1)).trans hc1) (OpTo.mk 34 _ _ rfl (.int .i64 512) (.int .i64 512) _ rfl rfl hmk) (by simp only [Act.put, List.setIfInBounds_toArray, List.set_cons_zero, List.set_cons_succ]; rfl) ?_
      refine wpSteps_cons rfl (.string zS) w1 ((be1.cell (cell_lt hc1)).trans hc1) (OpTo.conv 34 9 (.tmp 22) rfl _ _ rfl hcv) (by simp only [Act.put, List.setIfInBounds_toArray, List.set_cons_zero, List.set_cons_succ]; rfl) ?_
      refine wpSteps_cons rfl (.slice (some ⟨g + 1, 0, none⟩) 1 1) w2 ((hL2.bl.cell 1).trans rfl) (OpTo.bslice 29 1 (.tmp 23) rfl _ _ rfl hbs) (by simp only [Act.put, List.setIfInBounds_toArray, List.set_cons_zero, List.set_cons_succ]; rfl) ?_
      refine wpSteps_cons rfl (Value.slice ao ln cp) w3 ((hP3.cell 1).trans rfl) (OpTo.app 29 (.tmp 21) (.tmp 24) rfl vi _ _ rfl rfl hap) (by simp only [Act.put, List.setIfInBounds_toArray, List.set_cons_zero, List.set_cons_succ]; rfl) ?_
      intro W hW
      rw [hW]
      clear hW W
      try simp only [Nat.reduceAdd, List.drop_succ_cons, List.drop_zero]
      have hold := (hP3.cell 1).trans (show _ = some vi from rfl)
      have hfz := hP3.frozen 1
      have f4 : Fx (One pv) w3 (w3.setCell ⟨pv, 1, none⟩ (Value.slice ao ln cp)) := Fx.setCell _ _ _ _ rfl
      have hP4 := hP3.set 1 (Value.slice ao ln cp)
      have hM4 : Hid (Mine w (w3.setCell ⟨pv, 1, none⟩ (Value.slice ao ln cp)) L (freshD 4 (zer 4)) ∧ Life w (w3.setCell ⟨pv, 1, none⟩ (Value.slice ao ln cp)) pv L (Value.slice ao ln cp) (List.replicate (t + 1) zS) (.slice none 0 0)) := hide ⟨⟨hM3.dev.fx f4 (fun k hF e => by
          have : k = pv := e
          subst this; exact hL.no hF), hM3.be.trans (f4.below (fun k hk e => by have : k = pv := e; have := hL.lo; omega) hM3.be.size), hM3.own⟩,
        ⟨hP4, by
          have e := ownsRow_fx own3 f4 (fun k hk e => by
            have e1 : k = pv := e
            rcases nv k hk with h1 | h1
            · exact (hL.vin k h1).2.1 e1
            · have := hL.bl.lt; omega)
          rw [List.replicate_succ', List.length_append, List.map_append]
          simpa using e, hL.lo, hL.no, fun k hk => by
          rcases nv k hk with h1 | h1
          · exact hL.vin k h1
          · have s1 := hL.bl.lt; have s2 := hM.be.size
            exact ⟨by omega, by omega, fun hF => by have := hM.dev.lt k hF; omega⟩⟩⟩
      clear hP4 f4 nv hP3 hM3 f3 gr3 nw3 own3 hap hM2 hL2 hbs be2 bS hcv hmk be1 bB hc1 hw0 hw1 hw2 hM hL
      go_wp2
      go_roundw
      case rel => exact ⟨t + 1, by omega, by go_num, hide ⟨_, hM4.out⟩⟩
      case measure => simp [intOf]; omega
    · obtain rfl : t = 4 := by omega
      have cf := hide (fixed_any wr)
      have HM := hide hM
      have HL := hide hL
      clear hM hL
      go_wp2_with (first
        | (go_at_call 10; refine cf.out.mono ?_; rintro e w5 ⟨rfl, hb⟩; have HB := hide hb; clear hb)
        | fail)
      go_ret2
      exact ⟨pv, L, vi, rfl, HM.out.below HB.out, HL.out.below HB.out⟩
end Go.Proofs.Ythfcabhelldokaa

set_option linter.unusedVariables false
set_option linter.unusedSimpArgs false
namespace Go.Proofs.Ythfcabhelldokaa
open Go.RowKit

theorem Pen.c0 {w : World} {g : Nat} {gs : List Nat} {pen : List (Nat × List UInt8)} (h : Pen w g gs pen) (t gb : Nat) (x : Nat × List UInt8) (h1 : gs[t]? = some gb) (h2 : pen[t]? = some x) : w.cell? ⟨g, t * 2, none⟩ = some (.int .i64 (x.1 : Int)) := by
  rw [h.row.cell]; exact (penC_at gs pen t gb x h1 h2).1
theorem Pen.c1 {w : World} {g : Nat} {gs : List Nat} {pen : List (Nat × List UInt8)} (h : Pen w g gs pen) (t gb : Nat) (x : Nat × List UInt8) (h1 : gs[t]? = some gb) (h2 : pen[t]? = some x) : w.cell? ⟨g, t * 2 + 1, none⟩ = some (.slice (some ⟨gb, 0, none⟩) 512 512) := by
  rw [h.row.cell]; exact (penC_at gs pen t gb x h1 h2).2
theorem len30 (ad : Option Addr) (n cap : Nat) (W : World) (ty : TypeId) : (Builtin.len_ #[30] ty #[.slice ad n cap]).run Try.prog W = .ok (.int .i64 (n : Int)) W := by go_simp
set_option maxRecDepth 100000 in
set_option maxHeartbeats 2000000 in
theorem same_yes (ga gb : Nat) (asl bsl : List Nat) (pen : List (Nat × List UInt8)) (hfew : pen.length ≤ 1000000) (hs : ∀ x ∈ pen, x.2.length = 512) (w : World) (ha : Pen w ga asl pen) (hb : Pen w gb bsl pen) :
    Calls Try.prog 23 #[.slice (some ⟨ga, 0, none⟩) pen.length pen.length, .slice (some ⟨gb, 0, none⟩) pen.length pen.length] w fun e w' => e = .returned (.bool true) ∧ Below w.heap.size w w' := by
  have HA := hide ha
  have HB := hide hb
  obtain ⟨m, hm⟩ : ∃ m, pen.length = m := ⟨_, rfl⟩
  rw [hm] at hfew ⊢
  have HM := hide hm
  clear hm ha hb
  go_enter Try.func23, Try.ntmps23
  go_wp2
  go_loopw [5] (fun i wr => ∃ t : Nat, t ≤ m ∧ i = .int .i64 t ∧ Hid (Below w.heap.size w wr)) (fun i _ => m - (intOf i).toNat)
  case atStart => exact ⟨0, by omega, rfl, hide (Below.refl _ _)⟩
  case round =>
    obtain ⟨t, ht, rfl, hr⟩ := hrel
    by_cases hlt : t < m
    · have hlz : (t : Int) < (m : Int) := by omega
      obtain ⟨x, hx⟩ : ∃ x, pen[t]? = some x := ⟨pen[t]'(by have := HM.out; omega), List.getElem?_eq_getElem _⟩
      obtain ⟨p, hp⟩ : ∃ g, asl[t]? = some g := ⟨asl[t]'(by rw [HA.out.len]; have := HM.out; omega), List.getElem?_eq_getElem _⟩
      obtain ⟨q, hq⟩ : ∃ g, bsl[t]? = some g := ⟨bsl[t]'(by rw [HB.out.len]; have := HM.out; omega), List.getElem?_eq_getElem _⟩
      have hxl := hs x (List.mem_of_getElem? hx)
      have ixa := fun W => idx30 ga m m t hlt W
      have ixb := fun W => idx30 gb m m t hlt W
      go_upto_region 6 with fail
      have bd : Below w.heap.size w { wr with drawn := wr.drawn + 1 } := hr.out.trans ((below_drawn wr).mono hr.out.size)
      have FA : ∀ W, Below w.heap.size w W → Pen W ga asl pen ∧ Pen W gb bsl pen := fun W hW => ⟨HA.out.below hW, HB.out.below hW⟩
      have c1 : ∀ W, Below w.heap.size w W → W.cell? ⟨ga, t * 2, none⟩ = some (.int .i64 (x.1 : Int)) := fun W hW => (FA W hW).1.c0 t p x hp hx
      have c2 : ∀ W, Below w.heap.size w W → W.cell? ⟨gb, t * 2, none⟩ = some (.int .i64 (x.1 : Int)) := fun W hW => (FA W hW).2.c0 t q x hq hx
      have c3 : ∀ W, Below w.heap.size w W → W.cell? ⟨ga, t * 2 + 1, none⟩ = some (.slice (some ⟨p, 0, none⟩) 512 512) := fun W hW => (FA W hW).1.c1 t p x hp hx
      have c4 : ∀ W, Below w.heap.size w W → W.cell? ⟨gb, t * 2 + 1, none⟩ = some (.slice (some ⟨q, 0, none⟩) 512 512) := fun W hW => (FA W hW).2.c1 t q x hq hx
      have v1 : ∀ W, Below w.heap.size w W → (Go.convert 34 9 (.slice (some ⟨p, 0, none⟩) 512 512)).run Try.prog W = .ok (.string ⟨x.2.toArray⟩) W := fun W hW => (Blk.hasB ((FA W hW).1.bys t p x hp hx) hxl).convert
      have v2 : ∀ W, Below w.heap.size w W → (Go.convert 34 9 (.slice (some ⟨q, 0, none⟩) 512 512)).run Try.prog W = .ok (.string ⟨x.2.toArray⟩) W := fun W hW => (Blk.hasB ((FA W hW).2.bys t q x hq hx) hxl).convert
      obtain ⟨s, hsx⟩ : ∃ s, (⟨x.2.toArray⟩ : ByteArray) = s := ⟨_, rfl⟩
      rw [hsx] at v1 v2
      clear hsx FA hr
      refine reg_ord [(0, false), (1, false), (2, false), (3, false), (4, false), (5, false), (6, false), (7, false), (8, false), (9, false), (10, false), (11, false), (12, false), (13, false), (14, false), (15, false), (16, false), (17, false), (18, false), (19, false), (20, false), (21, false), (22, false), (23, false), (24, false), (25, false)] (fun W => Below w.heap.size w W) (by kernel_rfl) rfl (by kernel_rfl) (bd) ?_
      simp only [ordOps, List.getD_cons_zero, List.getD_cons_succ]
      refine wpOrd_val (.slice (some ⟨ga, 0, none⟩) m m) (uvV (by rfl) (Op.move (Operand.tmp 0)) rfl (.slice (some ⟨ga, 0, none⟩) m m) (fun o' ho W hW => by go_simp)) (by simp only [Act.put, List.setIfInBounds_toArray, List.set_cons_zero, List.set_cons_succ]; rfl) ?_
      refine wpOrd_val (.int .i64 (t : Int)) (uvV (by rfl) (Op.move (Operand.tmp 5)) rfl (.int .i64 (t : Int)) (fun o' ho W hW => by go_simp)) (by simp only [Act.put, List.setIfInBounds_toArray, List.set_cons_zero, List.set_cons_succ]; rfl) ?_
      refine wpOrd_val (.pointer (some ⟨ga, t * 2, none⟩)) (uvV (by rfl) (Op.indexAddr 30 (Operand.tmp 17) (Operand.tmp 18)) rfl (.pointer (some ⟨ga, t * 2, none⟩)) (fun o' ho W hW => by go_simp)) (by simp only [Act.put, List.setIfInBounds_toArray, List.set_cons_zero, List.set_cons_succ]; rfl) ?_
      refine wpOrd_val (.pointer (some ⟨ga, t * 2, none⟩)) (uvV (by rfl) (Op.fieldAddr 78 (Operand.tmp 19) 0) rfl (.pointer (some ⟨ga, t * 2, none⟩)) (fun o' ho W hW => by go_simp)) (by simp only [Act.put, List.setIfInBounds_toArray, List.set_cons_zero, List.set_cons_succ]; rfl) ?_
      refine wpOrd_val (.int .i64 (x.1 : Int)) (uvV (by rfl) (Op.load 3 (Operand.tmp 20)) rfl (.int .i64 (x.1 : Int)) (fun o' ho W hW => by have hc := c1 W hW; go_simp)) (by simp only [Act.put, List.setIfInBounds_toArray, List.set_cons_zero, List.set_cons_succ]; rfl) ?_
      refine wpOrd_val (.slice (some ⟨gb, 0, none⟩) m m) (uvV (by rfl) (Op.move (Operand.tmp 1)) rfl (.slice (some ⟨gb, 0, none⟩) m m) (fun o' ho W hW => by go_simp)) (by simp only [Act.put, List.setIfInBounds_toArray, List.set_cons_zero, List.set_cons_succ]; rfl) ?_
      refine wpOrd_val (.int .i64 (t : Int)) (uvV (by rfl) (Op.move (Operand.tmp 5)) rfl (.int .i64 (t : Int)) (fun o' ho W hW => by go_simp)) (by simp only [Act.put, List.setIfInBounds_toArray, List.set_cons_zero, List.set_cons_succ]; rfl) ?_
      refine wpOrd_val (.pointer (some ⟨gb, t * 2, none⟩)) (uvV (by rfl) (Op.indexAddr 30 (Operand.tmp 22) (Operand.tmp 23)) rfl (.pointer (some ⟨gb, t * 2, none⟩)) (fun o' ho W hW => by go_simp)) (by simp only [Act.put, List.setIfInBounds_toArray, List.set_cons_zero, List.set_cons_succ]; rfl) ?_
      refine wpOrd_val (.pointer (some ⟨gb, t * 2, none⟩)) (uvV (by rfl) (Op.fieldAddr 78 (Operand.tmp 24) 0) rfl (.pointer (some ⟨gb, t * 2, none⟩)) (fun o' ho W hW => by go_simp)) (by simp only [Act.put, List.setIfInBounds_toArray, List.set_cons_zero, List.set_cons_succ]; rfl) ?_
      refine wpOrd_val (.int .i64 (x.1 : Int)) (uvV (by rfl) (Op.load 3 (Operand.tmp 25)) rfl (.int .i64 (x.1 : Int)) (fun o' ho W hW => by have hc := c2 W hW; go_simp)) (by simp only [Act.put, List.setIfInBounds_toArray, List.set_cons_zero, List.set_cons_succ]; rfl) ?_
      refine wpOrd_val (.bool false) (uvV (by rfl) (Op.binOp BinOp.neq 3 (Operand.tmp 21) (Operand.tmp 26) 3) rfl (.bool false) (fun o' ho W hW => by go_simp)) (by simp only [Act.put, List.setIfInBounds_toArray, List.set_cons_zero, List.set_cons_succ]; rfl) ?_
      refine wpOrd_val (.bool false) (uvV (by rfl) (Op.move (Operand.tmp 27)) rfl (.bool false) (fun o' ho W hW => by go_simp)) (by simp only [Act.put, List.setIfInBounds_toArray, List.set_cons_zero, List.set_cons_succ]; rfl) ?_
      refine wpOrd_val (.slice (some ⟨ga, 0, none⟩) m m) (uvV (by rfl) (Op.move (Operand.tmp 0)) rfl (.slice (some ⟨ga, 0, none⟩) m m) (fun o' ho W hW => by go_simp)) (by simp only [Act.put, List.setIfInBounds_toArray, List.set_cons_zero, List.set_cons_succ]; rfl) ?_
      refine wpOrd_val (.int .i64 (t : Int)) (uvV (by rfl) (Op.move (Operand.tmp 5)) rfl (.int .i64 (t : Int)) (fun o' ho W hW => by go_simp)) (by simp only [Act.put, List.setIfInBounds_toArray, List.set_cons_zero, List.set_cons_succ]; rfl) ?_
      refine wpOrd_val (.pointer (some ⟨ga, t * 2, none⟩)) (uvV (by rfl) (Op.indexAddr 30 (Operand.tmp 29) (Operand.tmp 30)) rfl (.pointer (some ⟨ga, t * 2, none⟩)) (fun o' ho W hW => by go_simp)) (by simp only [Act.put, List.setIfInBounds_toArray, List.set_cons_zero, List.set_cons_succ]; rfl) ?_
      refine wpOrd_val (.pointer (some ⟨ga, t * 2 + 1, none⟩)) (uvV (by rfl) (Op.fieldAddr 78 (Operand.tmp 31) 1) rfl (.pointer (some ⟨ga, t * 2 + 1, none⟩)) (fun o' ho W hW => by go_simp)) (by simp only [Act.put, List.setIfInBounds_toArray, List.set_cons_zero, List.set_cons_succ]; rfl) ?_
      refine wpOrd_val (.slice (some ⟨p, 0, none⟩) 512 512) (uvV (by rfl) (Op.load 34 (Operand.tmp 32)) rfl (.slice (some ⟨p, 0, none⟩) 512 512) (fun o' ho W hW => by have hc := c3 W hW; go_simp)) (by simp only [Act.put, List.setIfInBounds_toArray, List.set_cons_zero, List.set_cons_succ]; rfl) ?_
      refine wpOrd_val (.string s) (uvV (by rfl) (Op.convert 34 9 (Operand.tmp 33)) rfl (.string s) (fun o' ho W hW => by have hc := v1 W hW; go_simp)) (by simp only [Act.put, List.setIfInBounds_toArray, List.set_cons_zero, List.set_cons_succ]; rfl) ?_
      refine wpOrd_val (.slice (some ⟨gb, 0, none⟩) m m) (uvV (by rfl) (Op.move (Operand.tmp 1)) rfl (.slice (some ⟨gb, 0, none⟩) m m) (fun o' ho W hW => by go_simp)) (by simp only [Act.put, List.setIfInBounds_toArray, List.set_cons_zero, List.set_cons_succ]; rfl) ?_
      refine wpOrd_val (.int .i64 (t : Int)) (uvV (by rfl) (Op.move (Operand.tmp 5)) rfl (.int .i64 (t : Int)) (fun o' ho W hW => by go_simp)) (by simp only [Act.put, List.setIfInBounds_toArray, List.set_cons_zero, List.set_cons_succ]; rfl) ?_
      refine wpOrd_val (.pointer (some ⟨gb, t * 2, none⟩)) (uvV (by rfl) (Op.indexAddr 30 (Operand.tmp 35) (Operand.tmp 36)) rfl (.pointer (some ⟨gb, t * 2, none⟩)) (fun o' ho W hW => by go_simp)) (by simp only [Act.put, List.setIfInBounds_toArray, List.set_cons_zero, List.set_cons_succ]; rfl) ?_
      refine wpOrd_val (.pointer (some ⟨gb, t * 2 + 1, none⟩)) (uvV (by rfl) (Op.fieldAddr 78 (Operand.tmp 37) 1) rfl (.pointer (some ⟨gb, t * 2 + 1, none⟩)) (fun o' ho W hW => by go_simp)) (by simp only [Act.put, List.setIfInBounds_toArray, List.set_cons_zero, List.set_cons_succ]; rfl) ?_
      refine wpOrd_val (.slice (some ⟨q, 0, none⟩) 512 512) (uvV (by rfl) (Op.load 34 (Operand.tmp 38)) rfl (.slice (some ⟨q, 0, none⟩) 512 512) (fun o' ho W hW => by have hc := c4 W hW; go_simp)) (by simp only [Act.put, List.setIfInBounds_toArray, List.set_cons_zero, List.set_cons_succ]; rfl) ?_
      refine wpOrd_val (.string s) (uvV (by rfl) (Op.convert 34 9 (Operand.tmp 39)) rfl (.string s) (fun o' ho W hW => by have hc := v2 W hW; go_simp)) (by simp only [Act.put, List.setIfInBounds_toArray, List.set_cons_zero, List.set_cons_succ]; rfl) ?_
      refine wpOrd_val (.bool false) (uvV (by rfl) (Op.binOp BinOp.neq 9 (Operand.tmp 34) (Operand.tmp 40) 9) rfl (.bool false) (fun o' ho W hW => by go_simp)) (by simp only [Act.put, List.setIfInBounds_toArray, List.set_cons_zero, List.set_cons_succ]; rfl) ?_
      refine wpOrd_val (.bool false) (uvV (by rfl) (Op.pick (Operand.tmp 28) (Operand.const (Value.bool true)) (Operand.tmp 41)) rfl (.bool false) (fun o' ho W hW => by go_simp)) (by simp only [Act.put, List.setIfInBounds_toArray, List.set_cons_zero, List.set_cons_succ]; rfl) ?_
      intro W hW
      rw [hW]
      clear hW W
      have BD := hide bd
      clear bd v1 v2 c1 c2 c3 c4
      go_wp2
      go_roundw
      case rel => exact ⟨t + 1, by omega, by go_num, BD⟩
      case measure => simp [intOf]; omega
    · obtain rfl : t = m := by omega
      have hlz : ¬ (t : Int) < (t : Int) := by omega
      go_wp2
      go_ret
      exact ⟨rfl, hr.out⟩
end Go.Proofs.Ythfcabhelldokaa
