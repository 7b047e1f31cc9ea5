import Derived.Test.YtablmkijlpoaaaaDoorHsh
import Derived.Test.YtablmkijlpoaaaaDoorPlc
namespace Go.Proofs.YtablmkijlpoaaaaDoor
open Go.RowKit

theorem opC_length (kind which tw : Int) (vB vC : Value) (st : List (BitVec 32)) (bl : List UInt8) (hst : st.length = 8) (hbl : bl.length = 64) : (opC kind which tw vB vC st bl).length = 77 := by
  simp [opC, wvs_length, hst, hbl]

set_option maxHeartbeats 1000000 in
set_option maxRecDepth 100000 in
/-- 'plays' of the hashes' kinds. -/
theorem plays_else (p : Nat) (hs : List Nat) (vs : List Value) (ms : List (List UInt8)) (kind which tw : Int) (k1 : kind ≠ 1) (k2 : kind ≠ 2) (vB vC : Value) (bB : List UInt8) (st : List (BitVec 32)) (bl : List UInt8) (L : Nat) (w x : World)
    (hT : Tb w x p hs vs ms ms) (hms : ms.length = 3) (hst : st.length = 8) (hbl : bl.length = 64) (hB : Has w vB bB) (hK : Kst w) (hR : Rst w) (hS : Bst w) (hlen : ∀ i, i < 3 → (ms.getD i []).length ≤ L) (hL : L + bB.length ≤ 100000000000000) :
    Calls Tryd.prog 11 #[.pointer (some ⟨p, 0, none⟩), .agg (opC kind which tw vB vC st bl).toArray] x fun e y => e = .returned (.bool true) ∧ ∃ hs' vs' ms', Tb w y p hs' vs' ms' ms' ∧ ms'.length = 3 ∧ ∀ i, i < 3 → (ms'.getD i []).length ≤ L + bB.length := by
  have HT := hide hT
  obtain ⟨oc, hoc⟩ : ∃ oc, opC kind which tw vB vC st bl = oc := ⟨_, rfl⟩
  have o0 : oc[0]? = some (.int .i64 kind) := by rw [← hoc]; rfl
  have h37 : (Tryd.prog.info? 37).map (·.size) = some oc.toArray.size := by rw [List.size_toArray, ← hoc, opC_length kind which tw vB vC st bl hst hbl]; kernel_rfl
  have O0 : Lk oc[0]? (some (.int .i64 kind)) := ⟨o0⟩
  have hcall : Hid (∀ y, Tb w y p hs vs ms ms → Calls Tryd.prog 12 #[.pointer (some ⟨p, 0, none⟩), .agg oc.toArray] y fun e y' => e = .returned (.bool true) ∧ ∃ hs' vs' ms', Tb w y' p hs' vs' ms' ms' ∧ ms'.length = 3 ∧ ∀ i, i < 3 → (ms'.getD i []).length ≤ L + bB.length) := hide (fun y hy => by
    rw [← hoc]
    exact hashes_any p hs vs ms kind which tw vB vC bB st bl L w y hy hms hB hK hR hS hlen hL)
  rw [hoc]
  clear hoc o0 hT hms hst hbl hB hK hR hS hlen hL
  go_enter Tryd.func11, Tryd.ntmps11
  go_upto_region 1 with (first
    | (refine wpList_boxAt rfl 37 _ rfl oc rfl x.heap.size rfl ?_)
    | fail)
  have X2 : Hid (Tb w (x.alloc (.cells oc.toArray 37)) p hs vs ms ms) := HT.out.below (below_new x _)
  have OB : Hid (Blk (x.alloc (.cells oc.toArray 37)) x.heap.size oc 37) := Blk.new x _ _
  have c0 := (OB.out.cell 0).trans O0.h
  generalize x.alloc (.cells oc.toArray 37) = x2 at X2 OB c0 ⊢
  generalize x.heap.size = bx at OB c0 ⊢
  clear HT
  go_wp2_with (first
    | (refine wpList_load_row rfl 37 (.tmp 3) rfl bx rfl 37 oc.toArray (0, 0) _ OB.out Tryd.underlying37 rfl h37 ?_)
    | (go_at_call 12; refine (hcall.out _ X2.out).mono ?_; rintro e y ⟨rfl, hpost⟩; have HPOST := hide hpost; clear hpost)
    | fail)
  go_ret
  exact ⟨rfl, HPOST.out⟩
end Go.Proofs.YtablmkijlpoaaaaDoor
