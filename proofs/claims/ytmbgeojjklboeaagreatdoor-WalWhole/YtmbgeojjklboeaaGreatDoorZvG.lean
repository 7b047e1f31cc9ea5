import Derived.Test.YtmbgeojjklboeaaGreatDoorZqG
import Derived.Stop.Asserts
import Derived.RowKitTokens
import Derived.LaidEql
set_option linter.unusedVariables false
set_option linter.unusedSimpArgs false
namespace Go.Proofs.YtmbgeojjklboeaaGreatDoor
open Go.RowKit

theorem aopen_st {w : World} {L : Lay} {p more : Nat} {d : Nat → List UInt8} {ps : List (List UInt8)} {left c : Nat} (h : Da w L (4 * p + 1 + more) d d [] left c) (hp1 : 1 ≤ p) (hp2 : p ≤ 20) (hmore : more ≤ 3) (hcal : c ≤ 900000) (hs : St p more d ps) : Calls Tryz.prog 11 #[.pointer (some ⟨L.p, 0, none⟩)] w fun e w' => (∃ vg ag L' left' c' D, e = .returned (.tuple #[vg, .bool ag, .nilIface]) ∧ Lg w' w.heap.size L.p p vg .nilIface ∧ (∀ q, vg = .pointer (some ⟨q, 0, none⟩) → ¬ L'.F q) ∧ Turn w w' L L' ∧ Da w' L' (4 * p + 1 + more) D D [] left' c' ∧ Dst p more D ps ∧ c' ≤ c + 2000 ∧ (left = 0 → left' = 0)) ∨ (left ≠ 0 ∧ OpF w' e ∧ Gone w L (4 * p + 1 + more) (c + 2000) (fun d' => St p more d' ps) w') := by
  have hroom : roomD ((4 * p + 1 + more : Nat) : Int) = (p : Int) := by
    unfold roomD
    rw [if_neg (by omega), Int.tdiv_eq_ediv_of_nonneg (by omega), Int.min_eq_left (by omega)]
    omega
  have lgq : ∀ {w' : World} {vg : Value} {L' : Lay}, Lg w' w.heap.size L.p p vg .nilIface → (∀ k, w.heap.size ≤ k → (∃ q, vg = .pointer (some ⟨q, 0, none⟩) ∧ k = q) → ¬ L'.F k) → ∀ q, vg = .pointer (some ⟨q, 0, none⟩) → ¬ L'.F q := fun hg hn q hq => by
    obtain ⟨q', h1, h2, _⟩ := hg
    rw [hq] at h1
    injection h1 with h1
    injection h1 with h1
    injection h1 with h1 _ _
    exact hn q (by omega) ⟨q, hq, rfl⟩
  cases hs with
  | n cm h0 hom =>
    refine (aopen_zero h p (by omega) hroom hp1 (by omega) hcal h0).mono fun e w' hh => ?_
    rcases hh with ⟨vg, L', l', c', g1, g2, g3, g4, g5, g6, g7⟩ | ⟨g0, g1, g2⟩
    · exact .inl ⟨vg, _, L', l', c', _, g1, g2, lgq g2 g3, g4, g5, dst_wip cm.rst hom cm.pl, g6, g7⟩
    · exact .inr ⟨g0, g1, g2.mono (Nat.le_refl _) fun d' hl hx => St.wix cm.rst cm.pl h0 (cm.len 0 (by omega)) hom hx hl⟩
  | y cm l h0 hne hl sl hom =>
    have hm : ∀ n, n ∈ numsT (d 0) 256 ↔ ∃ x ∈ l, x.n = n := fun n => by rw [h0]; exact mem_mk (fun x hx => by have := hl x hx; omega) n
    have hnp : ∀ y ∈ numsT (d 0) 256, y < p := fun y hy => by obtain ⟨z, hz, rfl⟩ := (hm y).1 hy; exact hl z hz
    have hnn : numsT (d 0) 256 ≠ [] := fun e => by
      obtain ⟨z, hz⟩ := List.exists_mem_of_ne_nil l hne
      have := (hm z.n).2 ⟨z, hz, rfl⟩
      rw [e] at this
      cases this
    obtain ⟨x, hx1, hx2⟩ := last_some hnn
    have h0l := cm.len 0 (by omega)
    have hom2 : ∀ (i : Nat) (x : List UInt8), ps[i]? = some x → x = setS (homT p d (numsT (d 0) 256)) 0 ((d 0).set 511 0) (1 + 2 * (p + i)) ++ setS (homT p d (numsT (d 0) 256)) 0 ((d 0).set 511 0) (1 + 2 * (p + i) + 1) := fun i x hx => by
      rw [setS_ne _ _ (by omega), setS_ne _ _ (by omega)]
      exact rep_hom hp2 l h0 hl sl hom i x hx
    have rst2 : ∀ j, 4 * p + 1 ≤ j → j < 4 * p + 1 + more → setS (homT p d (numsT (d 0) 256)) 0 ((d 0).set 511 0) j = zS := fun j h1 h2 => by
      rw [setS_ne _ _ (by omega), homT_far p _ d hnp j h1]
      exact cm.rst j h1 h2
    refine (aopen_stands h p (by omega) hroom hp1 (by omega) hcal x (by rw [h0]; exact mkB_last l) (by rw [h0]; exact mk_mid (fun x hx => by have := hl x hx; omega)) hx1 (hnp x hx2) hnp).mono fun e w' hh => ?_
    rcases hh with ⟨vg, L', l', c', g1, g2, g3, g4, g5, g6, g7⟩ | ⟨g0, g1, g2⟩
    · exact .inl ⟨vg, _, L', l', c', _, g1, g2, lgq g2 g3, g4, g5, dst_wip rst2 hom2 cm.pl, g6, g7⟩
    · refine .inr ⟨g0, g1, g2.mono (Nat.le_refl _) fun d' hl' hx => ?_⟩
      rcases hx with hx | hx
      · exact St.rpx hp2 cm l h0 hne hl sl hom hx hl'
      · exact St.wix rst2 cm.pl (by rw [setS_eq]; exact off_last _ h0l) (by rw [setS_eq, List.length_set]; exact h0l) hom2 hx hl'
/-- The device runs again. -/
theorem up_dz {w : World} {L : Lay} {N : Nat} {d : Nat → List UInt8} {c : Nat} (h : Dz w L N d c) : Calls Tryz.prog 54 #[.pointer (some ⟨L.p, 0, none⟩)] w fun e w' => e = .returned (.int .i64 0) ∧ ∃ L', Turn w w' L L' ∧ Da w' L' N d d [] 0 c := by
  obtain ⟨D, h1, h2, h3, h4, h5, h6⟩ := h.ex
  refine (up_any h1).mono fun e w' ⟨g1, g2, g3⟩ => ⟨g1, _, g2, ⟨_, g3, rfl, rfl, h3, h4, fun i hi => ?_, by show D.pen.map Prod.fst = []; rw [h5]; rfl, h6⟩, by simp, by omega⟩
  rw [readB_sec, ← h4 i hi]
  show (if nw D.pen i = 0 then _ else _) = _
  rw [h5, nw_nil, if_pos rfl]
  rfl
/-- It is armed. -/
theorem arm_da {w : World} {L : Lay} {N : Nat} {d : Nat → List UInt8} {left c : Nat} (h : Da w L N d d [] left c) (step : Nat) (hs1 : 1 ≤ step) (hs2 : step ≤ 1000) (v : Value) (ks : List (BitVec 64)) (torn off : Int) (hv : Has64 w v ks) (hvn : ks ≠ [] → ∀ k, v.ownBlock = some k → k ≠ L.p) (hkl : ks.length ≤ 17592186044416) : Calls Tryz.prog 20 #[.pointer (some ⟨L.p, 0, none⟩), .int .i64 (step : Int), .agg (lossC v torn off).toArray] w fun e w' => e = .returned (.int .i64 0) ∧ ∃ L', Turn w w' L L' ∧ Da w' L' N d d [] step c := by
  obtain ⟨D, h1, h2, h3, h4, h5, h6, h7, h8⟩ := h.ex
  refine (arm_ok h1 h2 step hs1 v ks torn off hv hvn hkl).mono fun e w' hh => ?_
  obtain ⟨g1, L', g2, g3⟩ := hh
  exact ⟨g1, L', g2, ⟨_, g3, h2, rfl, h4, h5, h6, h7, h8⟩, by simp, by omega⟩
theorem arm0_da {w : World} {L : Lay} {N : Nat} {d : Nat → List UInt8} {left c : Nat} (h : Da w L N d d [] left c) (v : Value) (torn off : Int) : Calls Tryz.prog 20 #[.pointer (some ⟨L.p, 0, none⟩), .int .i64 0, .agg (lossC v torn off).toArray] w fun e w' => e = .returned (.int .i64 0) ∧ ∃ L', Turn w w' L L' ∧ Dk w' L' N d 0 c := by
  obtain ⟨D, h1, h2, h3, h4, h5, h6, h7, h8⟩ := h.ex
  refine (arm_zero h1 h2 v torn off).mono fun e w' hh => ?_
  obtain ⟨g1, L', g2, g3⟩ := hh
  have hpe : D.pen = [] := by simpa using h7
  exact ⟨g1, L', g2, ⟨_, g3, h2, rfl, h4, h6, by show D.pen.length = 0; rw [hpe]; rfl, h8⟩⟩
/-- A device that is not armed, as one that may be. -/
theorem Dk.da {w : World} {L : Lay} {N : Nat} {s : Nat → List UInt8} {c : Nat} (h : Dk w L N s 0 c) : Da w L N s s [] 0 c := by
  obtain ⟨D, h1, h2, h3, h4, h5, h6, h7⟩ := h.ex
  have hpe : D.pen = [] := List.eq_nil_of_length_eq_zero h6
  refine ⟨⟨D, h1, h2, h3, h4, fun i hi => ?_, h5, by rw [hpe]; rfl, h7⟩, by simp, by omega⟩
  rw [← h5 i hi, readB_sec, hpe, nw_nil, if_pos rfl]
end Go.Proofs.YtmbgeojjklboeaaGreatDoor

set_option linter.unusedVariables false
set_option linter.unusedSimpArgs false
namespace Go.Proofs.YtmbgeojjklboeaaGreatDoor
open Go.RowKit

/-- The law's room, with its disk. -/
structure Rm (w : World) (L : Lay) (c : Nat) (s : Nat → List UInt8) (q ql p more : Nat) (v : Value) (ps : List (List UInt8)) : Prop where
  dk : Dk w L (4 * p + 1 + more) s 0 c
  rm : Blk w q (rmC (some ⟨L.p, 0, none⟩) (some ⟨ql, 0, none⟩) p more v) 40
  lg : Blk w ql (lgC L.p p .nilIface) 88
  os : Os w 0 v ps
  ds : Dst p more s ps
  fq : ¬ L.F q
  fl : ¬ L.F ql
  fv : ∀ k, v.ownBlock = some k → ¬ L.F k
  pl : ∀ x ∈ ps, x.length = 1024
theorem Rm.on {w w' : World} {L : Lay} {c : Nat} {s : Nat → List UInt8} {q ql p more : Nat} {v : Value} {ps : List (List UInt8)} (h : Rm w L c s q ql p more v ps) (hb : Below w.heap.size w w') : Rm w' L c s q ql p more v ps :=
  ⟨h.dk.below hb, h.rm.on hb, h.lg.on hb, h.os.below hb, h.ds, h.fq, h.fl, h.fv, h.pl⟩
theorem Dk.fxS {S : Nat → Prop} {w w' : World} {L : Lay} {N : Nat} {s : Nat → List UInt8} {m c : Nat} (h : Dk w L N s m c) (f : Fx S w w') (hS : ∀ k, L.F k → ¬ S k) : Dk w' L N s m c := by
  obtain ⟨D, y1, y2⟩ := h.ex
  exact ⟨D, y1.fx f hS, y2⟩
theorem ldB {W : World} {q j : Nat} {cs : List Value} {t : TypeId} {b : Bool} (hb : Blk W q cs t) (h : cs[j]? = some (.bool b)) : (Instr.loadAt 4 (.pointer (some ⟨q, j, none⟩))).run Tryz.prog W = .ok (.bool b) W := by
  have hc : W.cell? ⟨q, j, none⟩ = some (.bool b) := (hb.cell j).trans h
  have hf := hb.frozen j
  go_simp
theorem ldF {W : World} {q j : Nat} {cs : List Value} {t : TypeId} {v : Value} (hb : Blk W q cs t) (h : cs[j]? = some v) : (Instr.loadAt 31 (.pointer (some ⟨q, j, none⟩))).run Tryz.prog W = .ok v W := by
  have hc : W.cell? ⟨q, j, none⟩ = some v := (hb.cell j).trans h
  have hf := hb.frozen j
  go_simp
theorem ldD {W : World} {q j : Nat} {cs : List Value} {t : TypeId} {o : Option Addr} (hb : Blk W q cs t) (h : cs[j]? = some (.pointer o)) : (Instr.loadAt 36 (.pointer (some ⟨q, j, none⟩))).run Tryz.prog W = .ok (.pointer o) W := by
  have hc : W.cell? ⟨q, j, none⟩ = some (.pointer o) := (hb.cell j).trans h
  have hf := hb.frozen j
  go_simp
theorem ld34 {W : World} {q : Nat} {vp vf : Value} {cr an : Bool} {t : TypeId} (hb : Blk W q (tnC vp vf cr an) t) : (Instr.loadAt 33 (.pointer (some ⟨q, 0, none⟩))).run Tryz.prog W = .ok (.agg (tnC vp vf cr an).toArray) W :=
  run_loadR hb Tryz.underlying33 rfl (by show _ = some 4; kernel_rfl)
theorem enter6 (args : Array Value) (W : World) : (callFunc 6 args).run Tryz.prog W = .ok (.enter 6 args) W := run_enter Tryz.func6 (by kernel_rfl) (by kernel_rfl) args W
theorem enter19 (args : Array Value) (W : World) : (callFunc 19 args).run Tryz.prog W = .ok (.enter 19 args) W := run_enter Tryz.func19 (by kernel_rfl) (by kernel_rfl) args W
theorem enter22 (args : Array Value) (W : World) : (callFunc 22 args).run Tryz.prog W = .ok (.enter 22 args) W := run_enter Tryz.func22 (by kernel_rfl) (by kernel_rfl) args W
theorem enter21 (args : Array Value) (W : World) : (callFunc 21 args).run Tryz.prog W = .ok (.enter 21 args) W := run_enter Tryz.func21 (by kernel_rfl) (by kernel_rfl) args W
theorem enter20 (args : Array Value) (W : World) : (callFunc 20 args).run Tryz.prog W = .ok (.enter 20 args) W := run_enter Tryz.func20 (by kernel_rfl) (by kernel_rfl) args W
theorem enter24 (args : Array Value) (W : World) : (callFunc 24 args).run Tryz.prog W = .ok (.enter 24 args) W := run_enter Tryz.func24 (by kernel_rfl) (by kernel_rfl) args W
theorem enter25 (args : Array Value) (W : World) : (callFunc 25 args).run Tryz.prog W = .ok (.enter 25 args) W := run_enter Tryz.func25 (by kernel_rfl) (by kernel_rfl) args W
theorem enter53 (args : Array Value) (W : World) : (callFunc 53 args).run Tryz.prog W = .ok (.enter 53 args) W := run_enter Tryz.func53 (by kernel_rfl) (by kernel_rfl) args W
theorem enter54 (args : Array Value) (W : World) : (callFunc 54 args).run Tryz.prog W = .ok (.enter 54 args) W := run_enter Tryz.func54 (by kernel_rfl) (by kernel_rfl) args W
theorem enter75 (args : Array Value) (W : World) : (callFunc 75 args).run Tryz.prog W = .ok (.enter 75 args) W := run_enter Tryz.func75 (by kernel_rfl) (by kernel_rfl) args W
theorem build70 (W : World) : (Instr.build 63 ([] : List (Nat × Value)).toArray).run Tryz.prog W = .ok (.agg (lossC (.slice none 0 0) 0 0).toArray) W := build38z W
theorem aftL_pl {ps : List (List UInt8)} (h : ∀ x ∈ ps, x.length = 1024) : ∀ (acc : List (Nat × UInt8)), ∀ x ∈ aftL ps acc, x.length = 1024 := fun acc => by
  unfold aftL
  induction acc generalizing ps with
  | nil => exact h
  | cons a r ih =>
    rw [List.foldl_cons]
    exact ih (fun x hx => (List.mem_or_eq_of_mem_set hx).elim (h x) (fun e => by rw [e]; exact pgB_len _ _))
theorem Os.lt {w : World} {b : Nat} {v : Value} {xs : List (List UInt8)} (h : Os w b v xs) {k : Nat} (hk : v.ownBlock = some k) : k < w.heap.size := by
  obtain ⟨cur, hc⟩ := own_type h.row hk
  rcases Nat.lt_or_ge k w.heap.size with hl | hl
  · exact hl
  · rw [Array.getElem?_eq_none hl] at hc; cases hc
end Go.Proofs.YtmbgeojjklboeaaGreatDoor

set_option linter.unusedVariables false
set_option linter.unusedSimpArgs false
namespace Go.Proofs.YtmbgeojjklboeaaGreatDoor
open Go.RowKit

/-- A list of pages, whatever they are. -/
structure Qr (w : World) (v : Value) (m : Nat) (nI : Nat → Int) (vI : Nat → Value) (lI : Nat → Nat) : Prop where
  len : ∀ (ty : TypeId) (W : World), (Builtin.len_ #[52] ty #[v]).run Tryz.prog W = .ok (.int .i64 (m : Int)) W
  at_ : ∀ i, i < m → ∃ ad, (∀ W, (Instr.indexAt 52 v (.int .i64 (i : Int))).run Tryz.prog W = .ok (.pointer (some ad)) W) ∧ ∀ W, Below w.heap.size w W → (Instr.loadAt 98 (.pointer (some ad))).run Tryz.prog W = .ok (.agg [.int .i64 (nI i), vI i].toArray) W
  sl : ∀ i, i < m → ∃ ao c, vI i = .slice ao (lI i) c
def snI (n : Nat) (nI : Nat → Int) (t : Nat) : List Value := (List.range n).map fun (j : Nat) => Value.bool (decide (∃ i, i < t ∧ nI i = (j : Int)))
structure RnR (w : World) (nI : Nat → Int) (qs n k : Nat) (t : Nat) (W : World) : Prop where
  b : Below w.heap.size w W
  s : Blk W qs (snI n nI t) 4
  le : t ≤ k
end Go.Proofs.YtmbgeojjklboeaaGreatDoor

set_option linter.unusedVariables false
set_option linter.unusedSimpArgs false
namespace Go.Proofs.YtmbgeojjklboeaaGreatDoor
open Go.RowKit

end Go.Proofs.YtmbgeojjklboeaaGreatDoor

set_option linter.unusedVariables false
set_option linter.unusedSimpArgs false
namespace Go.Proofs.YtmbgeojjklboeaaGreatDoor
open Go.RowKit

open Go.Extern
/-- A type's handle, and the type as a value. -/
def hdl (t : Nat) : Value := .pointer (some ⟨1, t, none⟩)
def rty (t : Nat) : Value := .iface 144 (.agg #[hdl t])
def rvl (t : Nat) (a : Addr) (f : Int) : Value := .agg #[hdl t, .pointer (some a), .int .u64 f]
theorem vo94 (t : Addr) (w : World) : (callFunc 72 #[.iface 105 (.pointer (some t))]).run Tryz.prog w = .ok (.value (rvl 105 ⟨w.heap.size, 0, none⟩ 150)) (w.alloc (.cells #[.pointer (some t)] 105)) := by kernel_rfl
theorem ty94 (a : Addr) (w : World) : (callFunc 73 #[rvl 105 a 150]).run Tryz.prog w = .ok (.value (rty 105)) w := by kernel_rfl
theorem kd94 (w : World) : (callMethod (rty 105) "Kind" #[]).run Tryz.prog w = .ok (.value (.int .u8 22)) w := by kernel_rfl
theorem kd49 (w : World) : (callMethod (rty 41) "Kind" #[]).run Tryz.prog w = .ok (.value (.int .u8 2)) w := by kernel_rfl
theorem el94 (w : World) : (callMethod (rty 105) "Elem" #[]).run Tryz.prog w = .ok (.value (rty 41)) w := by kernel_rfl
theorem im49 (w : World) : (callMethod (rty 41) "Implements" #[rty 46]).run Tryz.prog w = .ok (.value (.bool true)) w := by kernel_rfl
theorem to53 (p : Value) (w : World) : (callFunc 84 #[.iface 109 p]).run Tryz.prog w = .ok (.value (rty 109)) w := by kernel_rfl
theorem to49 (p : Value) (w : World) : (callFunc 84 #[.iface 41 p]).run Tryz.prog w = .ok (.value (rty 41)) w := by kernel_rfl
theorem at53 (w : World) : (callMethod (rty 109) "AssignableTo" #[rty 41]).run Tryz.prog w = .ok (.value (.bool false)) w := by kernel_rfl
theorem at49 (w : World) : (callMethod (rty 41) "AssignableTo" #[rty 41]).run Tryz.prog w = .ok (.value (.bool true)) w := by kernel_rfl
theorem vo49 (c : Int) (w : World) : (callFunc 72 #[.iface 41 (.int .i64 c)]).run Tryz.prog w = .ok (.value (rvl 41 ⟨w.heap.size, 0, none⟩ 130)) (w.alloc (.cells #[.int .i64 c] 41)) := by kernel_rfl
theorem un53 (p : Value) (w : World) : (callMethod (.iface 109 p) "Unwrap" #[]).run Tryz.prog w = .ok (.enter 128 #[p]) w := by kernel_rfl
end Go.Proofs.YtmbgeojjklboeaaGreatDoor

set_option linter.unusedVariables false
set_option linter.unusedSimpArgs false
namespace Go.Proofs.YtmbgeojjklboeaaGreatDoor
open Go.RowKit

open Go.Extern Go.Stop
theorem rlm (z : Sem Value) (f : TypeId → Addr → Nat → Nat → Sem Value) (v : Value) : ∃ k, ReflectliteValue.method z f #[v] = (ReflectliteValue.parts v >>= k) ∧ ∀ t a fl, k (some (t, a, fl)) = f t a fl (fl % 32) := ⟨_, rfl, fun _ _ _ => rfl⟩
theorem parts94 (a : Addr) (w : World) : (ReflectliteValue.parts (.agg #[.pointer (some ⟨1, 105, none⟩), .pointer (some a), .int .u64 150])).run Tryz.prog w = .ok (some (105, a, 150)) w := by kernel_rfl
theorem parts49a (a : Addr) (w : World) : (ReflectliteValue.parts (.agg #[.pointer (some ⟨1, 41, none⟩), .pointer (some a), .int .u64 386])).run Tryz.prog w = .ok (some (41, a, 386)) w := by kernel_rfl
theorem parts49 (a : Addr) (w : World) : (ReflectliteValue.parts (.agg #[.pointer (some ⟨1, 41, none⟩), .pointer (some a), .int .u64 130])).run Tryz.prog w = .ok (some (41, a, 130)) w := by kernel_rfl
theorem direct49 (w : World) : (Rtype.directlyAssignable 41 41).run Tryz.prog w = .ok true w := by kernel_rfl
theorem elemOf94 (w : World) : (Rtype.elem? 105).run Tryz.prog w = .ok (some 41) w := by kernel_rfl
theorem mk49 (p : Addr) (w : World) : (ReflectliteValue.mk 41 p ReflectliteValue.flagAddr).run Tryz.prog w = .ok (.agg #[.pointer (some ⟨1, 41, none⟩), .pointer (some p), .int .u64 386]) w := by kernel_rfl
theorem ul94 : Tryz.prog.underlying 105 = some (.pointer 41) := by kernel_rfl
theorem isNil94 (a p : Addr) (W : World) (ha : W.cell? a = some (.pointer (some p))) : (callFunc 74 #[.agg #[.pointer (some ⟨1, 105, none⟩), .pointer (some a), .int .u64 150]]).run Tryz.prog W = .ok (.value (.bool false)) W := by
  rw [@run_callFunc_extern Tryz.prog 74 _ (ReflectliteValue.method (ReflectliteValue.valueError "reflectlite.Value.IsNil" 0) ReflectliteValue.isNil) Tryz.func74 (by kernel_rfl) (by kernel_rfl) (by kernel_rfl) (by kernel_rfl)]
  obtain ⟨k, hk, hk2⟩ := rlm (ReflectliteValue.valueError "reflectlite.Value.IsNil" 0) ReflectliteValue.isNil (.agg #[.pointer (some ⟨1, 105, none⟩), .pointer (some a), .int .u64 150])
  rw [hk]
  simp only [Sem.run_bind, parts94, Result.andThen, hk2]
  simp [ReflectliteValue.isNil, loadVar, isAgg, underlying, ul94, ha, Result.andThen]
theorem elemV94 (a p : Addr) (W : World) (ha : W.cell? a = some (.pointer (some p))) : (callFunc 85 #[.agg #[.pointer (some ⟨1, 105, none⟩), .pointer (some a), .int .u64 150]]).run Tryz.prog W = .ok (.value (.agg #[.pointer (some ⟨1, 41, none⟩), .pointer (some p), .int .u64 386])) W := by
  rw [@run_callFunc_extern Tryz.prog 85 _ (ReflectliteValue.method (ReflectliteValue.valueError "reflectlite.Value.Elem" 0) ReflectliteValue.elem) Tryz.func85 (by kernel_rfl) (by kernel_rfl) (by kernel_rfl) (by kernel_rfl)]
  obtain ⟨k, hk, hk2⟩ := rlm (ReflectliteValue.valueError "reflectlite.Value.Elem" 0) ReflectliteValue.elem (.agg #[.pointer (some ⟨1, 105, none⟩), .pointer (some a), .int .u64 150])
  rw [hk]
  simp only [Sem.run_bind, parts94, Result.andThen, hk2]
  simp [ReflectliteValue.elem, loadVar, isAgg, underlying, ul94, ha, Result.andThen, elemOf94, mk49]
theorem set49 (ta b : Addr) (c : Int) (old : Value) (W : World) (hb : W.cell? b = some (.int .i64 c)) (ht : W.cell? ta = some old) (hf : W.frozen? ta = false) : (callFunc 86 #[.agg #[.pointer (some ⟨1, 41, none⟩), .pointer (some ta), .int .u64 386], .agg #[.pointer (some ⟨1, 41, none⟩), .pointer (some b), .int .u64 130]]).run Tryz.prog W = .ok (.value (.tuple #[])) (W.setCell ta (.int .i64 c)) := by
  rw [@run_callFunc_extern Tryz.prog 86 _ ReflectliteValue.set Tryz.func86 (by kernel_rfl) (by kernel_rfl) (by kernel_rfl) (by kernel_rfl)]
  obtain ⟨k, hk, hk2⟩ : ∃ k : Option (TypeId × Addr × Nat) → Option (TypeId × Addr × Nat) → Sem Value, ReflectliteValue.set #[.agg #[.pointer (some ⟨1, 41, none⟩), .pointer (some ta), .int .u64 386], .agg #[.pointer (some ⟨1, 41, none⟩), .pointer (some b), .int .u64 130]] = (ReflectliteValue.parts (.agg #[.pointer (some ⟨1, 41, none⟩), .pointer (some ta), .int .u64 386]) >>= fun x => ReflectliteValue.parts (.agg #[.pointer (some ⟨1, 41, none⟩), .pointer (some b), .int .u64 130]) >>= fun y => k x y) ∧ (k (some (41, ta, 386)) (some (41, b, 130))).run Tryz.prog W = .ok (.tuple #[]) (W.setCell ta (.int .i64 c)) := ⟨_, rfl, by
    simp [ReflectliteValue.flagAddr, loadVar, isAgg, underlying, Tryz.underlying41, hb, Result.andThen, direct49, storeVar, Value.cells, storeCells, Addr.add]
    rw [run_store Tryz.prog W ta _ _ (by rfl)]
    simp [ht, hf]⟩
  rw [hk]
  simp only [Sem.run_bind, parts49a, parts49, Result.andThen, hk2]
end Go.Proofs.YtmbgeojjklboeaaGreatDoor
