import Derived.Test.YthfcabhelldokaaCa
import Derived.Test.YthfcabhelldokaaBo
set_option linter.unusedVariables false
set_option linter.unusedSimpArgs false
namespace Go.Proofs.Ythfcabhelldokaa
open Go.RowKit

theorem Pen.c0 {w : World} {g : Nat} {gs : List Nat} {pen : List (Nat × List UInt8)} (h : Pen w g gs pen) (t gb : Nat) (x : Nat × List UInt8) (h1 : gs[t]? = some gb) (h2 : pen[t]? = some x) : w.cell? ⟨g, t * 2, none⟩ = some (.int .i64 (x.1 : Int)) := by
  rw [h.row.cell]; exact (penC_at gs pen t gb x h1 h2).1
theorem Pen.c1 {w : World} {g : Nat} {gs : List Nat} {pen : List (Nat × List UInt8)} (h : Pen w g gs pen) (t gb : Nat) (x : Nat × List UInt8) (h1 : gs[t]? = some gb) (h2 : pen[t]? = some x) : w.cell? ⟨g, t * 2 + 1, none⟩ = some (.slice (some ⟨gb, 0, none⟩) 512 512) := by
  rw [h.row.cell]; exact (penC_at gs pen t gb x h1 h2).2
theorem len30 (ad : Option Addr) (n cap : Nat) (W : World) (ty : TypeId) : (Builtin.len_ #[30] ty #[.slice ad n cap]).run Try.prog W = .ok (.int .i64 (n : Int)) W := by go_simp
set_option maxRecDepth 100000 in
set_option maxHeartbeats 2000000 in
theorem same_yes (ga gb : Nat) (asl bsl : List Nat) (pen : List (Nat × List UInt8)) (hfew : pen.length ≤ 1000000) (hs : ∀ x ∈ pen, x.2.length = 512) (w : World) (ha : Pen w ga asl pen) (hb : Pen w gb bsl pen) :
    Calls Try.prog 23 #[.slice (some ⟨ga, 0, none⟩) pen.length pen.length, .slice (some ⟨gb, 0, none⟩) pen.length pen.length] w fun e w' => e = .returned (.bool true) ∧ Below w.heap.size w w' := by
  have HA := hide ha
  have HB := hide hb
  obtain ⟨m, hm⟩ : ∃ m, pen.length = m := ⟨_, rfl⟩
  rw [hm] at hfew ⊢
  have HM := hide hm
  clear hm ha hb
  go_enter Try.func23, Try.ntmps23
  go_wp2
  go_loopw [5] (fun i wr => ∃ t : Nat, t ≤ m ∧ i = .int .i64 t ∧ Hid (Below w.heap.size w wr)) (fun i _ => m - (intOf i).toNat)
  case atStart => exact ⟨0, by omega, rfl, hide (Below.refl _ _)⟩
  case round =>
    obtain ⟨t, ht, rfl, hr⟩ := hrel
    by_cases hlt : t < m
    · have hlz : (t : Int) < (m : Int) := by omega
      obtain ⟨x, hx⟩ : ∃ x, pen[t]? = some x := ⟨pen[t]'(by have := HM.out; omega), List.getElem?_eq_getElem _⟩
      obtain ⟨p, hp⟩ : ∃ g, asl[t]? = some g := ⟨asl[t]'(by rw [HA.out.len]; have := HM.out; omega), List.getElem?_eq_getElem _⟩
      obtain ⟨q, hq⟩ : ∃ g, bsl[t]? = some g := ⟨bsl[t]'(by rw [HB.out.len]; have := HM.out; omega), List.getElem?_eq_getElem _⟩
      have hxl := hs x (List.mem_of_getElem? hx)
      have ixa := fun W => idx30 ga m m t hlt W
      have ixb := fun W => idx30 gb m m t hlt W
      go_upto_region 6 with fail
      have bd : Below w.heap.size w { wr with drawn := wr.drawn + 1 } := hr.out.trans ((below_drawn wr).mono hr.out.size)
      have FA : ∀ W, Below w.heap.size w W → Pen W ga asl pen ∧ Pen W gb bsl pen := fun W hW => ⟨HA.out.below hW, HB.out.below hW⟩
      have c1 : ∀ W, Below w.heap.size w W → W.cell? ⟨ga, t * 2, none⟩ = some (.int .i64 (x.1 : Int)) := fun W hW => (FA W hW).1.c0 t p x hp hx
      have c2 : ∀ W, Below w.heap.size w W → W.cell? ⟨gb, t * 2, none⟩ = some (.int .i64 (x.1 : Int)) := fun W hW => (FA W hW).2.c0 t q x hq hx
      have c3 : ∀ W, Below w.heap.size w W → W.cell? ⟨ga, t * 2 + 1, none⟩ = some (.slice (some ⟨p, 0, none⟩) 512 512) := fun W hW => (FA W hW).1.c1 t p x hp hx
      have c4 : ∀ W, Below w.heap.size w W → W.cell? ⟨gb, t * 2 + 1, none⟩ = some (.slice (some ⟨q, 0, none⟩) 512 512) := fun W hW => (FA W hW).2.c1 t q x hq hx
      have v1 : ∀ W, Below w.heap.size w W → (Go.convert 34 9 (.slice (some ⟨p, 0, none⟩) 512 512)).run Try.prog W = .ok (.string ⟨x.2.toArray⟩) W := fun W hW => (Blk.hasB ((FA W hW).1.bys t p x hp hx) hxl).convert
      have v2 : ∀ W, Below w.heap.size w W → (Go.convert 34 9 (.slice (some ⟨q, 0, none⟩) 512 512)).run Try.prog W = .ok (.string ⟨x.2.toArray⟩) W := fun W hW => (Blk.hasB ((FA W hW).2.bys t q x hq hx) hxl).convert
      obtain ⟨s, hsx⟩ : ∃ s, (⟨x.2.toArray⟩ : ByteArray) = s := ⟨_, rfl⟩
      rw [hsx] at v1 v2
      clear hsx FA hr
      refine reg_ord [(0, false), (1, false), (2, false), (3, false), (4, false), (5, false), (6, false), (7, false), (8, false), (9, false), (10, false), (11, false), (12, false), (13, false), (14, false), (15, false), (16, false), (17, false), (18, false), (19, false), (20, false), (21, false), (22, false), (23, false), (24, false), (25, false)] (fun W => Below w.heap.size w W) (by kernel_rfl) rfl (by kernel_rfl) (bd) ?_
      simp only [ordOps, List.getD_cons_zero, List.getD_cons_succ]
      refine wpOrd_val (.slice (some ⟨ga, 0, none⟩) m m) (uvV (by rfl) (Op.move (Operand.tmp 0)) rfl (.slice (some ⟨ga, 0, none⟩) m m) (fun o' ho W hW => by go_simp)) (by simp only [Act.put, List.setIfInBounds_toArray, List.set_cons_zero, List.set_cons_succ]; rfl) ?_
      refine wpOrd_val (.int .i64 (t : Int)) (uvV (by rfl) (Op.move (Operand.tmp 5)) rfl (.int .i64 (t : Int)) (fun o' ho W hW => by go_simp)) (by simp only [Act.put, List.setIfInBounds_toArray, List.set_cons_zero, List.set_cons_succ]; rfl) ?_
      refine wpOrd_val (.pointer (some ⟨ga, t * 2, none⟩)) (uvV (by rfl) (Op.indexAddr 30 (Operand.tmp 17) (Operand.tmp 18)) rfl (.pointer (some ⟨ga, t * 2, none⟩)) (fun o' ho W hW => by go_simp)) (by simp only [Act.put, List.setIfInBounds_toArray, List.set_cons_zero, List.set_cons_succ]; rfl) ?_
      refine wpOrd_val (.pointer (some ⟨ga, t * 2, none⟩)) (uvV (by rfl) (Op.fieldAddr 78 (Operand.tmp 19) 0) rfl (.pointer (some ⟨ga, t * 2, none⟩)) (fun o' ho W hW => by go_simp)) (by simp only [Act.put, List.setIfInBounds_toArray, List.set_cons_zero, List.set_cons_succ]; rfl) ?_
      refine wpOrd_val (.int .i64 (x.1 : Int)) (uvV (by rfl) (Op.load 3 (Operand.tmp 20)) rfl (.int .i64 (x.1 : Int)) (fun o' ho W hW => by have hc := c1 W hW; go_simp)) (by simp only [Act.put, List.setIfInBounds_toArray, List.set_cons_zero, List.set_cons_succ]; rfl) ?_
      refine wpOrd_val (.slice (some ⟨gb, 0, none⟩) m m) (uvV (by rfl) (Op.move (Operand.tmp 1)) rfl (.slice (some ⟨gb, 0, none⟩) m m) (fun o' ho W hW => by go_simp)) (by simp only [Act.put, List.setIfInBounds_toArray, List.set_cons_zero, List.set_cons_succ]; rfl) ?_
      refine wpOrd_val (.int .i64 (t : Int)) (uvV (by rfl) (Op.move (Operand.tmp 5)) rfl (.int .i64 (t : Int)) (fun o' ho W hW => by go_simp)) (by simp only [Act.put, List.setIfInBounds_toArray, List.set_cons_zero, List.set_cons_succ]; rfl) ?_
      refine wpOrd_val (.pointer (some ⟨gb, t * 2, none⟩)) (uvV (by rfl) (Op.indexAddr 30 (Operand.tmp 22) (Operand.tmp 23)) rfl (.pointer (some ⟨gb, t * 2, none⟩)) (fun o' ho W hW => by go_simp)) (by simp only [Act.put, List.setIfInBounds_toArray, List.set_cons_zero, List.set_cons_succ]; rfl) ?_
      refine wpOrd_val (.pointer (some ⟨gb, t * 2, none⟩)) (uvV (by rfl) (Op.fieldAddr 78 (Operand.tmp 24) 0) rfl (.pointer (some ⟨gb, t * 2, none⟩)) (fun o' ho W hW => by go_simp)) (by simp only [Act.put, List.setIfInBounds_toArray, List.set_cons_zero, List.set_cons_succ]; rfl) ?_
      refine wpOrd_val (.int .i64 (x.1 : Int)) (uvV (by rfl) (Op.load 3 (Operand.tmp 25)) rfl (.int .i64 (x.1 : Int)) (fun o' ho W hW => by have hc := c2 W hW; go_simp)) (by simp only [Act.put, List.setIfInBounds_toArray, List.set_cons_zero, List.set_cons_succ]; rfl) ?_
      refine wpOrd_val (.bool false) (uvV (by rfl) (Op.binOp BinOp.neq 3 (Operand.tmp 21) (Operand.tmp 26) 3) rfl (.bool false) (fun o' ho W hW => by go_simp)) (by simp only [Act.put, List.setIfInBounds_toArray, List.set_cons_zero, List.set_cons_succ]; rfl) ?_
      refine wpOrd_val (.bool false) (uvV (by rfl) (Op.move (Operand.tmp 27)) rfl (.bool false) (fun o' ho W hW => by go_simp)) (by simp only [Act.put, List.setIfInBounds_toArray, List.set_cons_zero, List.set_cons_succ]; rfl) ?_
      refine wpOrd_val (.slice (some ⟨ga, 0, none⟩) m m) (uvV (by rfl) (Op.move (Operand.tmp 0)) rfl (.slice (some ⟨ga, 0, none⟩) m m) (fun o' ho W hW => by go_simp)) (by simp only [Act.put, List.setIfInBounds_toArray, List.set_cons_zero, List.set_cons_succ]; rfl) ?_
      refine wpOrd_val (.int .i64 (t : Int)) (uvV (by rfl) (Op.move (Operand.tmp 5)) rfl (.int .i64 (t : Int)) (fun o' ho W hW => by go_simp)) (by simp only [Act.put, List.setIfInBounds_toArray, List.set_cons_zero, List.set_cons_succ]; rfl) ?_
      refine wpOrd_val (.pointer (some ⟨ga, t * 2, none⟩)) (uvV (by rfl) (Op.indexAddr 30 (Operand.tmp 29) (Operand.tmp 30)) rfl (.pointer (some ⟨ga, t * 2, none⟩)) (fun o' ho W hW => by go_simp)) (by simp only [Act.put, List.setIfInBounds_toArray, List.set_cons_zero, List.set_cons_succ]; rfl) ?_
      refine wpOrd_val (.pointer (some ⟨ga, t * 2 + 1, none⟩)) (uvV (by rfl) (Op.fieldAddr 78 (Operand.tmp 31) 1) rfl (.pointer (some ⟨ga, t * 2 + 1, none⟩)) (fun o' ho W hW => by go_simp)) (by simp only [Act.put, List.setIfInBounds_toArray, List.set_cons_zero, List.set_cons_succ]; rfl) ?_
      refine wpOrd_val (.slice (some ⟨p, 0, none⟩) 512 512) (uvV (by rfl) (Op.load 34 (Operand.tmp 32)) rfl (.slice (some ⟨p, 0, none⟩) 512 512) (fun o' ho W hW => by have hc := c3 W hW; go_simp)) (by simp only [Act.put, List.setIfInBounds_toArray, List.set_cons_zero, List.set_cons_succ]; rfl) ?_
      refine wpOrd_val (.string s) (uvV (by rfl) (Op.convert 34 9 (Operand.tmp 33)) rfl (.string s) (fun o' ho W hW => by have hc := v1 W hW; go_simp)) (by simp only [Act.put, List.setIfInBounds_toArray, List.set_cons_zero, List.set_cons_succ]; rfl) ?_
      refine wpOrd_val (.slice (some ⟨gb, 0, none⟩) m m) (uvV (by rfl) (Op.move (Operand.tmp 1)) rfl (.slice (some ⟨gb, 0, none⟩) m m) (fun o' ho W hW => by go_simp)) (by simp only [Act.put, List.setIfInBounds_toArray, List.set_cons_zero, List.set_cons_succ]; rfl) ?_
      refine wpOrd_val (.int .i64 (t : Int)) (uvV (by rfl) (Op.move (Operand.tmp 5)) rfl (.int .i64 (t : Int)) (fun o' ho W hW => by go_simp)) (by simp only [Act.put, List.setIfInBounds_toArray, List.set_cons_zero, List.set_cons_succ]; rfl) ?_
      refine wpOrd_val (.pointer (some ⟨gb, t * 2, none⟩)) (uvV (by rfl) (Op.indexAddr 30 (Operand.tmp 35) (Operand.tmp 36)) rfl (.pointer (some ⟨gb, t * 2, none⟩)) (fun o' ho W hW => by go_simp)) (by simp only [Act.put, List.setIfInBounds_toArray, List.set_cons_zero, List.set_cons_succ]; rfl) ?_
      refine wpOrd_val (.pointer (some ⟨gb, t * 2 + 1, none⟩)) (uvV (by rfl) (Op.fieldAddr 78 (Operand.tmp 37) 1) rfl (.pointer (some ⟨gb, t * 2 + 1, none⟩)) (fun o' ho W hW => by go_simp)) (by simp only [Act.put, List.setIfInBounds_toArray, List.set_cons_zero, List.set_cons_succ]; rfl) ?_
      refine wpOrd_val (.slice (some ⟨q, 0, none⟩) 512 512) (uvV (by rfl) (Op.load 34 (Operand.tmp 38)) rfl (.slice (some ⟨q, 0, none⟩) 512 512) (fun o' ho W hW => by have hc := c4 W hW; go_simp)) (by simp only [Act.put, List.setIfInBounds_toArray, List.set_cons_zero, List.set_cons_succ]; rfl) ?_
      refine wpOrd_val (.string s) (uvV (by rfl) (Op.convert 34 9 (Operand.tmp 39)) rfl (.string s) (fun o' ho W hW => by have hc := v2 W hW; go_simp)) (by simp only [Act.put, List.setIfInBounds_toArray, List.set_cons_zero, List.set_cons_succ]; rfl) ?_
      refine wpOrd_val (.bool false) (uvV (by rfl) (Op.binOp BinOp.neq 9 (Operand.tmp 34) (Operand.tmp 40) 9) rfl (.bool false) (fun o' ho W hW => by go_simp)) (by simp only [Act.put, List.setIfInBounds_toArray, List.set_cons_zero, List.set_cons_succ]; rfl) ?_
      refine wpOrd_val (.bool false) (uvV (by rfl) (Op.pick (Operand.tmp 28) (Operand.const (Value.bool true)) (Operand.tmp 41)) rfl (.bool false) (fun o' ho W hW => by go_simp)) (by simp only [Act.put, List.setIfInBounds_toArray, List.set_cons_zero, List.set_cons_succ]; rfl) ?_
      intro W hW
      rw [hW]
      clear hW W
      have BD := hide bd
      clear bd v1 v2 c1 c2 c3 c4
      go_wp2
      go_roundw
      case rel => exact ⟨t + 1, by omega, by go_num, BD⟩
      case measure => simp [intOf]; omega
    · obtain rfl : t = m := by omega
      have hlz : ¬ (t : Int) < (t : Int) := by omega
      go_wp2
      go_ret
      exact ⟨rfl, hr.out⟩
end Go.Proofs.Ythfcabhelldokaa
