import Derived.Test.YtplfelfmkgjijaaNm
set_option linter.unusedVariables false
set_option linter.unusedSimpArgs false
namespace Go.Proofs.Ytplfelfmkgjijaa
open Go.RowKit

theorem cutSx (ad : Addr) (n cap k : Nat) (hk : k ≤ n) (hc : n ≤ cap) (W : World) : (Instr.sliceAt 31 (.slice (some ad) n cap) none (some (.int .i64 (k : Int))) none).run Try.prog W = .ok (.slice (some ad) k cap) W := by
  have h1 : (k : Int) ≤ (cap : Int) := by omega
  have h2 : (0 : Int) ≤ (k : Int) := by omega
  go_simp
theorem cutSL (ad : Addr) (n cap k : Nat) (hk : k ≤ n) (hc : n ≤ cap) (W : World) : (Instr.sliceAt 31 (.slice (some ad) n cap) (some (.int .i64 (k : Int))) none none).run Try.prog W = .ok (.slice (some (if cap = k then ad else ad.add (k * 4))) (n - k) (cap - k)) W := by
  have h1 : (k : Int) ≤ (n : Int) := by omega
  have h2 : (n : Int) ≤ (cap : Int) := by omega
  have h3 : (0 : Int) ≤ (k : Int) := by omega
  go_simp
  split <;> rfl
theorem Li.cut {k : Nat} {w : World} {ad : Addr} {cap : Nat} {l : List (List Value)} (h : Li k w (.slice (some ad) l.length cap) l) (m : Nat) (hm : m ≤ l.length) : Li k w (.slice (some ad) m cap) (l.take m) := by
  have hlen : (l.take m).length = m := by rw [List.length_take]; omega
  have hc : l.length ≤ cap := by
    rcases h.sl with ⟨e, _⟩ | ⟨ad', cap', e, hc⟩
    · cases e
    · cases e; exact hc
  refine ⟨.inr ⟨ad, cap, by rw [hlen], by omega⟩, fun x hx => h.sz x (List.mem_of_mem_take hx), fun i x hx => ?_⟩
  have hi : l[i]? = some x := by
    rw [List.getElem?_take] at hx
    split at hx
    · exact hx
    · cases hx
  obtain ⟨ad', cap', e, ha⟩ := h.at_ i x hi
  cases e
  exact ⟨ad, cap, by rw [hlen], ha⟩
theorem Li.tail {k : Nat} {w : World} {ad : Addr} {cap : Nat} {l : List (List Value)} (h : Li k w (.slice (some ad) l.length cap) l) (m : Nat) (hm : m ≤ l.length) : Li k w (.slice (some (if cap = m then ad else ad.add (m * k))) (l.length - m) (cap - m)) (l.drop m) := by
  have hlen : (l.drop m).length = l.length - m := List.length_drop
  have hc : l.length ≤ cap := by
    rcases h.sl with ⟨e, _⟩ | ⟨ad', cap', e, hc⟩
    · cases e
    · cases e; exact hc
  refine ⟨.inr ⟨_, _, by rw [hlen], by omega⟩, fun x hx => h.sz x (List.mem_of_mem_drop hx), fun i x hx => ?_⟩
  have hi : l[m + i]? = some x := by rw [← List.getElem?_drop]; exact hx
  have hil := (List.getElem?_eq_some_iff.1 hi).1
  obtain ⟨ad', cap', e, ha⟩ := h.at_ (m + i) x hi
  cases e
  refine ⟨_, _, by rw [hlen], ?_⟩
  rw [if_neg (by omega), Addr.add_add, ← Nat.add_mul]
  exact ha
theorem fcs_take (l : List Fl) (m : Nat) : fcs (l.take m) = (fcs l).take m := List.map_take ..
theorem fcs_drop (l : List Fl) (m : Nat) : fcs (l.drop m) = (fcs l).drop m := List.map_drop ..
theorem Fs.parts {w : World} {v : Value} {l : List Fl} (h : Fs w v l) (i : Nat) (hi : i < l.length) : ∃ v1 v2, (∀ W, (Instr.sliceAt 31 v none (some (.int .i64 (i : Int))) none).run Try.prog W = .ok v1 W) ∧ (∀ W, (Instr.sliceAt 31 v (some (.int .i64 ((i + 1 : Nat) : Int))) none none).run Try.prog W = .ok v2 W) ∧ (∀ W, Fs W v l → Fs W v1 (l.take i) ∧ Fs W v2 (l.drop (i + 1))) := by
  rcases h.li.sl with ⟨rfl, e⟩ | ⟨ad, cap, rfl, hc⟩
  · have : l.length = 0 := by rw [← fcs_len, e]; rfl
    omega
  · rw [fcs_len] at hc
    refine ⟨.slice (some ad) i cap, .slice (some (if cap = i + 1 then ad else ad.add ((i + 1) * 4))) (l.length - (i + 1)) (cap - (i + 1)), fun W => by rw [fcs_len]; exact cutSx ad l.length cap i (by omega) hc W, fun W => by rw [fcs_len]; exact cutSL ad l.length cap (i + 1) (by omega) hc W, fun W hW => ⟨⟨?_, fun s hs => hW.sh s (List.mem_of_mem_take hs)⟩, ⟨?_, fun s hs => hW.sh s (List.mem_of_mem_drop hs)⟩⟩⟩
    · rw [fcs_take]
      exact hW.li.cut i (by rw [fcs_len]; omega)
    · rw [fcs_drop]
      have := hW.li.tail (i + 1) (by rw [fcs_len]; omega)
      rwa [fcs_len] at this
/-- The document's net lies there. -/
structure Rn (w : World) (q : Nat) (nodes most num : Int) (v : Value) (R : List Fl) : Prop where
  bl : Blk w q [.int .i64 nodes, .int .i64 most, v, .int .i64 num] 67
  fo : Fo w v R
  hs : ∀ x ∈ R, Has w x.v x.b
  lb : ∀ x ∈ R, x.b.length ≤ 140737488355328
  af : ∀ x ∈ R, ∀ k, v.ownBlock = some k → Off x.v x.b k
theorem nob_ref (a b c : Int) (ao : Option Addr) (l m : Nat) : NoB [.int .i64 a, .int .i64 b, .slice ao l m, .int .i64 c] := by
  intro x hx y e
  simp only [List.mem_cons, List.not_mem_nil, or_false] at hx
  rcases hx with rfl | rfl | rfl | rfl <;> cases e
section
variable {w w' : World} {q : Nat} {nodes most num : Int} {v : Value} {R : List Fl}
theorem Rn.nob (h : Rn w q nodes most num v R) : NoB [.int .i64 nodes, .int .i64 most, v, .int .i64 num] := by
  obtain ⟨ao, c, rfl⟩ := h.fo.fs.sl
  exact nob_ref _ _ _ _ _ _
theorem Rn.fx {S : Nat → Prop} (h : Rn w q nodes most num v R) (hf : Fx S w w') (h1 : ¬ S q) (h2 : ∀ k, v.ownBlock = some k → ¬ S k) (h3 : ∀ x ∈ R, ∀ k, S k → Off x.v x.b k) : Rn w' q nodes most num v R := ⟨h.bl.fx hf h1, h.fo.fx hf h2, fun x hx => (h.hs x hx).fxo hf (h3 x hx), h.lb, h.af⟩
theorem Rn.on (h : Rn w q nodes most num v R) (hb : Below w.heap.size w w') : Rn w' q nodes most num v R := ⟨h.bl.on hb, h.fo.on hb, fun x hx => (h.hs x hx).below hb, h.lb, h.af⟩
theorem ldR {w : World} {q j : Nat} {cs : List Value} {t : TypeId} {v : Value} (hb : Blk w q cs t) (hv : cs[j]? = some v) : (Instr.loadAt 31 (.pointer (some ⟨q, j, none⟩))).run Try.prog w = .ok v w := by
  have hc : w.cell? ⟨q, j, none⟩ = some v := (hb.cell j).trans hv
  go_simp
theorem stR {w : World} {q j : Nat} {cs : List Value} {t : TypeId} (hb : Blk w q cs t) (hj : j < cs.length) (ao : Option Addr) (n c : Nat) : ∃ w', (Instr.storeAt 31 (.pointer (some ⟨q, j, none⟩)) (.slice ao n c)).run Try.prog w = .ok () w' ∧ Blk w' q (cs.set j (.slice ao n c)) t ∧ Fx (fun k => k = q) w w' := by
  have hc : w.cell? ⟨q, j, none⟩ = some cs[j] := (hb.cell j).trans (List.getElem?_eq_getElem hj)
  have hf := hb.frozen j
  refine ⟨w.setCell ⟨q, j, none⟩ (.slice ao n c), by go_simp, hb.set j _, Fx.setCell (S := fun k => k = q) _ _ _ _ rfl⟩
end
theorem g67_0 (p : Nat) (W : World) : (Instr.fieldAt 67 (.pointer (some ⟨p, 0, none⟩)) 0).run Try.prog W = .ok (.pointer (some ⟨p, 0, none⟩)) W := by go_simp
theorem g67_1 (p : Nat) (W : World) : (Instr.fieldAt 67 (.pointer (some ⟨p, 0, none⟩)) 1).run Try.prog W = .ok (.pointer (some ⟨p, 1, none⟩)) W := by go_simp
theorem g67_2 (p : Nat) (W : World) : (Instr.fieldAt 67 (.pointer (some ⟨p, 0, none⟩)) 2).run Try.prog W = .ok (.pointer (some ⟨p, 2, none⟩)) W := by go_simp
theorem g67_3 (p : Nat) (W : World) : (Instr.fieldAt 67 (.pointer (some ⟨p, 0, none⟩)) 3).run Try.prog W = .ok (.pointer (some ⟨p, 3, none⟩)) W := by go_simp
theorem b67 (a b : Int) (w : World) : (Instr.build 67 [(0, .int .i64 a), (1, .int .i64 b)].toArray).run Try.prog w = .ok (.agg [.int .i64 a, .int .i64 b, .slice none 0 0, .int .i64 0].toArray) w := by go_simp
theorem box67 (a b : Int) (w : World) : ∃ w1 q, (Instr.box 67 (.agg [.int .i64 a, .int .i64 b, .slice none 0 0, .int .i64 0].toArray)).run Try.prog w = .ok (.pointer (some ⟨q, 0, none⟩)) w1 ∧ Blk w1 q [.int .i64 a, .int .i64 b, .slice none 0 0, .int .i64 0] 67 ∧ Below w.heap.size w w1 ∧ q = w.heap.size := ⟨_, _, run_boxR 67 _ w _ rfl, Blk.new _ _ _, below_new _ _, rfl⟩
set_option maxRecDepth 100000 in
set_option maxHeartbeats 1000000 in
theorem rnew_ok (a b : Int) (hm : newOk a b) (w : World) : Calls Try.prog 16 #[.int .i64 a, .int .i64 b] w fun e w' => ∃ q, e = .returned (.tuple #[.pointer (some ⟨q, 0, none⟩), .int .i64 0]) ∧ Rn w' q a b 0 (.slice none 0 0) [] ∧ w.heap.size ≤ q ∧ Below w.heap.size w w' := by
  obtain ⟨w2, q, r2, b2, l2, hq⟩ := box67 a b w
  obtain ⟨g1, g2, g3, g4⟩ := hm
  have h1 : ¬ a < 1 := by omega
  have h2 : ¬ (4 : Int) < a := by omega
  have h3 : ¬ b < 0 := by omega
  have h4 : ¬ (4096 : Int) < b := by omega
  refine calls_of_args [.int .i64 a, .int .i64 b] Try.func16 rfl 24 Try.ntmps16 (by show 2 ≤ 24; decide) ?_
  refine EW.seq ?_
  refine EW.region ?_
  first | refine WL.assign rfl rfl rfl ?_
  first | refine WL.assign rfl rfl rfl ?_
  refine WL.done ?_
  refine EW.on ?_
  refine EW.seq ?_
  refine EW.seq ?_
  refine EW.region ?_
  first | refine WL.move rfl rfl rfl ?_
  first | refine WL.bin rfl rfl rfl rfl (int_lt_t ‹_› _ _ _) ?_ | refine WL.bin rfl rfl rfl rfl (int_lt_f ‹_› _ _ _) ?_ | refine WL.bin rfl rfl rfl rfl (int_lt_d _ _ _ _ _) ?_
  first | refine WL.move rfl rfl rfl ?_
  first | refine WL.move rfl rfl rfl ?_ | refine WL.skip _ rfl rfl rfl ?_
  first | refine WL.bin rfl rfl rfl rfl (int_gt_t ‹_› _ _ _) ?_ | refine WL.bin rfl rfl rfl rfl (int_gt_f ‹_› _ _ _) ?_ | refine WL.bin rfl rfl rfl rfl (int_gt_d _ _ _ _ _) ?_ | refine WL.skip _ rfl rfl rfl ?_
  first | refine WL.pick rfl rfl rfl rfl ?_
  first | refine WL.move rfl rfl rfl ?_
  first | refine WL.move rfl rfl rfl ?_ | refine WL.skip _ rfl rfl rfl ?_
  first | refine WL.bin rfl rfl rfl rfl (int_lt_t ‹_› _ _ _) ?_ | refine WL.bin rfl rfl rfl rfl (int_lt_f ‹_› _ _ _) ?_ | refine WL.bin rfl rfl rfl rfl (int_lt_d _ _ _ _ _) ?_ | refine WL.skip _ rfl rfl rfl ?_
  first | refine WL.pick rfl rfl rfl rfl ?_
  first | refine WL.move rfl rfl rfl ?_
  first | refine WL.move rfl rfl rfl ?_ | refine WL.skip _ rfl rfl rfl ?_
  first | refine WL.bin rfl rfl rfl rfl (int_gt_t ‹_› _ _ _) ?_ | refine WL.bin rfl rfl rfl rfl (int_gt_f ‹_› _ _ _) ?_ | refine WL.bin rfl rfl rfl rfl (int_gt_d _ _ _ _ _) ?_ | refine WL.skip _ rfl rfl rfl ?_
  first | refine WL.pick rfl rfl rfl rfl ?_
  refine WL.done ?_
  refine EW.on ?_
  refine EW.cond_f rfl ?_
  refine EW.skip ?_
  refine EW.on ?_
  refine EW.seq ?_
  refine EW.region ?_
  first | refine WL.move rfl rfl rfl ?_
  first | refine WL.move rfl rfl rfl ?_
  refine WL.buildN [(0, .int .i64 a), (1, .int .i64 b)] rfl rfl rfl (b67 _ _ _) ?_
  refine WL.box rfl rfl rfl r2 ?_
  first | refine WL.assign rfl rfl rfl ?_
  first | refine WL.assign rfl rfl rfl ?_
  refine WL.done ?_
  refine EW.on ?_
  refine EW.ret ?_
  exact EW.returns2 Try.results16 rfl rfl ⟨q, rfl, ⟨b2, Fo.nil _, fun x hx => (by cases hx), fun x hx => (by cases hx), fun x hx => (by cases hx)⟩, by omega, l2⟩
set_option maxRecDepth 100000 in
set_option maxHeartbeats 1000000 in
theorem rnew_no (a b : Int) (hm : ¬ newOk a b) (w : World) : Calls Try.prog 16 #[.int .i64 a, .int .i64 b] w fun e w' => e = .returned (.tuple #[.pointer none, .int .i64 2]) ∧ w' = w := by
  rcases (show a < 1 ∨ (¬ a < 1 ∧ (4 : Int) < a) ∨ (¬ a < 1 ∧ ¬ (4 : Int) < a ∧ b < 0) ∨ (¬ a < 1 ∧ ¬ (4 : Int) < a ∧ ¬ b < 0 ∧ (4096 : Int) < b) by unfold newOk at hm; omega) with h1 | ⟨h1, h2⟩ | ⟨h1, h2, h3⟩ | ⟨h1, h2, h3, h4⟩
  · refine calls_of_args [.int .i64 a, .int .i64 b] Try.func16 rfl 24 Try.ntmps16 (by show 2 ≤ 24; decide) ?_
    refine EW.seq ?_
    refine EW.region ?_
    first | refine WL.assign rfl rfl rfl ?_
    first | refine WL.assign rfl rfl rfl ?_
    refine WL.done ?_
    refine EW.on ?_
    refine EW.seq ?_
    refine EW.seq ?_
    refine EW.region ?_
    first | refine WL.move rfl rfl rfl ?_
    first | refine WL.bin rfl rfl rfl rfl (int_lt_t ‹_› _ _ _) ?_ | refine WL.bin rfl rfl rfl rfl (int_lt_f ‹_› _ _ _) ?_ | refine WL.bin rfl rfl rfl rfl (int_lt_d _ _ _ _ _) ?_
    first | refine WL.move rfl rfl rfl ?_
    first | refine WL.move rfl rfl rfl ?_ | refine WL.skip _ rfl rfl rfl ?_
    first | refine WL.bin rfl rfl rfl rfl (int_gt_t ‹_› _ _ _) ?_ | refine WL.bin rfl rfl rfl rfl (int_gt_f ‹_› _ _ _) ?_ | refine WL.bin rfl rfl rfl rfl (int_gt_d _ _ _ _ _) ?_ | refine WL.skip _ rfl rfl rfl ?_
    first | refine WL.pick rfl rfl rfl rfl ?_
    first | refine WL.move rfl rfl rfl ?_
    first | refine WL.move rfl rfl rfl ?_ | refine WL.skip _ rfl rfl rfl ?_
    first | refine WL.bin rfl rfl rfl rfl (int_lt_t ‹_› _ _ _) ?_ | refine WL.bin rfl rfl rfl rfl (int_lt_f ‹_› _ _ _) ?_ | refine WL.bin rfl rfl rfl rfl (int_lt_d _ _ _ _ _) ?_ | refine WL.skip _ rfl rfl rfl ?_
    first | refine WL.pick rfl rfl rfl rfl ?_
    first | refine WL.move rfl rfl rfl ?_
    first | refine WL.move rfl rfl rfl ?_ | refine WL.skip _ rfl rfl rfl ?_
    first | refine WL.bin rfl rfl rfl rfl (int_gt_t ‹_› _ _ _) ?_ | refine WL.bin rfl rfl rfl rfl (int_gt_f ‹_› _ _ _) ?_ | refine WL.bin rfl rfl rfl rfl (int_gt_d _ _ _ _ _) ?_ | refine WL.skip _ rfl rfl rfl ?_
    first | refine WL.pick rfl rfl rfl rfl ?_
    refine WL.done ?_
    refine EW.on ?_
    refine EW.cond_t rfl ?_
    refine EW.seq ?_
    refine EW.region ?_
    first | refine WL.assign rfl rfl rfl ?_
    first | refine WL.assign rfl rfl rfl ?_
    refine WL.done ?_
    refine EW.on ?_
    refine EW.ret ?_
    refine pr_then ?_
    exact EW.returns2 Try.results16 rfl rfl ⟨rfl, rfl⟩
  · refine calls_of_args [.int .i64 a, .int .i64 b] Try.func16 rfl 24 Try.ntmps16 (by show 2 ≤ 24; decide) ?_
    refine EW.seq ?_
    refine EW.region ?_
    first | refine WL.assign rfl rfl rfl ?_
    first | refine WL.assign rfl rfl rfl ?_
    refine WL.done ?_
    refine EW.on ?_
    refine EW.seq ?_
    refine EW.seq ?_
    refine EW.region ?_
    first | refine WL.move rfl rfl rfl ?_
    first | refine WL.bin rfl rfl rfl rfl (int_lt_t ‹_› _ _ _) ?_ | refine WL.bin rfl rfl rfl rfl (int_lt_f ‹_› _ _ _) ?_ | refine WL.bin rfl rfl rfl rfl (int_lt_d _ _ _ _ _) ?_
    first | refine WL.move rfl rfl rfl ?_
    first | refine WL.move rfl rfl rfl ?_ | refine WL.skip _ rfl rfl rfl ?_
    first | refine WL.bin rfl rfl rfl rfl (int_gt_t ‹_› _ _ _) ?_ | refine WL.bin rfl rfl rfl rfl (int_gt_f ‹_› _ _ _) ?_ | refine WL.bin rfl rfl rfl rfl (int_gt_d _ _ _ _ _) ?_ | refine WL.skip _ rfl rfl rfl ?_
    first | refine WL.pick rfl rfl rfl rfl ?_
    first | refine WL.move rfl rfl rfl ?_
    first | refine WL.move rfl rfl rfl ?_ | refine WL.skip _ rfl rfl rfl ?_
    first | refine WL.bin rfl rfl rfl rfl (int_lt_t ‹_› _ _ _) ?_ | refine WL.bin rfl rfl rfl rfl (int_lt_f ‹_› _ _ _) ?_ | refine WL.bin rfl rfl rfl rfl (int_lt_d _ _ _ _ _) ?_ | refine WL.skip _ rfl rfl rfl ?_
    first | refine WL.pick rfl rfl rfl rfl ?_
    first | refine WL.move rfl rfl rfl ?_
    first | refine WL.move rfl rfl rfl ?_ | refine WL.skip _ rfl rfl rfl ?_
    first | refine WL.bin rfl rfl rfl rfl (int_gt_t ‹_› _ _ _) ?_ | refine WL.bin rfl rfl rfl rfl (int_gt_f ‹_› _ _ _) ?_ | refine WL.bin rfl rfl rfl rfl (int_gt_d _ _ _ _ _) ?_ | refine WL.skip _ rfl rfl rfl ?_
    first | refine WL.pick rfl rfl rfl rfl ?_
    refine WL.done ?_
    refine EW.on ?_
    refine EW.cond_t rfl ?_
    refine EW.seq ?_
    refine EW.region ?_
    first | refine WL.assign rfl rfl rfl ?_
    first | refine WL.assign rfl rfl rfl ?_
    refine WL.done ?_
    refine EW.on ?_
    refine EW.ret ?_
    refine pr_then ?_
    exact EW.returns2 Try.results16 rfl rfl ⟨rfl, rfl⟩
  · refine calls_of_args [.int .i64 a, .int .i64 b] Try.func16 rfl 24 Try.ntmps16 (by show 2 ≤ 24; decide) ?_
    refine EW.seq ?_
    refine EW.region ?_
    first | refine WL.assign rfl rfl rfl ?_
    first | refine WL.assign rfl rfl rfl ?_
    refine WL.done ?_
    refine EW.on ?_
    refine EW.seq ?_
    refine EW.seq ?_
    refine EW.region ?_
    first | refine WL.move rfl rfl rfl ?_
    first | refine WL.bin rfl rfl rfl rfl (int_lt_t ‹_› _ _ _) ?_ | refine WL.bin rfl rfl rfl rfl (int_lt_f ‹_› _ _ _) ?_ | refine WL.bin rfl rfl rfl rfl (int_lt_d _ _ _ _ _) ?_
    first | refine WL.move rfl rfl rfl ?_
    first | refine WL.move rfl rfl rfl ?_ | refine WL.skip _ rfl rfl rfl ?_
    first | refine WL.bin rfl rfl rfl rfl (int_gt_t ‹_› _ _ _) ?_ | refine WL.bin rfl rfl rfl rfl (int_gt_f ‹_› _ _ _) ?_ | refine WL.bin rfl rfl rfl rfl (int_gt_d _ _ _ _ _) ?_ | refine WL.skip _ rfl rfl rfl ?_
    first | refine WL.pick rfl rfl rfl rfl ?_
    first | refine WL.move rfl rfl rfl ?_
    first | refine WL.move rfl rfl rfl ?_ | refine WL.skip _ rfl rfl rfl ?_
    first | refine WL.bin rfl rfl rfl rfl (int_lt_t ‹_› _ _ _) ?_ | refine WL.bin rfl rfl rfl rfl (int_lt_f ‹_› _ _ _) ?_ | refine WL.bin rfl rfl rfl rfl (int_lt_d _ _ _ _ _) ?_ | refine WL.skip _ rfl rfl rfl ?_
    first | refine WL.pick rfl rfl rfl rfl ?_
    first | refine WL.move rfl rfl rfl ?_
    first | refine WL.move rfl rfl rfl ?_ | refine WL.skip _ rfl rfl rfl ?_
    first | refine WL.bin rfl rfl rfl rfl (int_gt_t ‹_› _ _ _) ?_ | refine WL.bin rfl rfl rfl rfl (int_gt_f ‹_› _ _ _) ?_ | refine WL.bin rfl rfl rfl rfl (int_gt_d _ _ _ _ _) ?_ | refine WL.skip _ rfl rfl rfl ?_
    first | refine WL.pick rfl rfl rfl rfl ?_
    refine WL.done ?_
    refine EW.on ?_
    refine EW.cond_t rfl ?_
    refine EW.seq ?_
    refine EW.region ?_
    first | refine WL.assign rfl rfl rfl ?_
    first | refine WL.assign rfl rfl rfl ?_
    refine WL.done ?_
    refine EW.on ?_
    refine EW.ret ?_
    refine pr_then ?_
    exact EW.returns2 Try.results16 rfl rfl ⟨rfl, rfl⟩
  · refine calls_of_args [.int .i64 a, .int .i64 b] Try.func16 rfl 24 Try.ntmps16 (by show 2 ≤ 24; decide) ?_
    refine EW.seq ?_
    refine EW.region ?_
    first | refine WL.assign rfl rfl rfl ?_
    first | refine WL.assign rfl rfl rfl ?_
    refine WL.done ?_
    refine EW.on ?_
    refine EW.seq ?_
    refine EW.seq ?_
    refine EW.region ?_
    first | refine WL.move rfl rfl rfl ?_
    first | refine WL.bin rfl rfl rfl rfl (int_lt_t ‹_› _ _ _) ?_ | refine WL.bin rfl rfl rfl rfl (int_lt_f ‹_› _ _ _) ?_ | refine WL.bin rfl rfl rfl rfl (int_lt_d _ _ _ _ _) ?_
    first | refine WL.move rfl rfl rfl ?_
    first | refine WL.move rfl rfl rfl ?_ | refine WL.skip _ rfl rfl rfl ?_
    first | refine WL.bin rfl rfl rfl rfl (int_gt_t ‹_› _ _ _) ?_ | refine WL.bin rfl rfl rfl rfl (int_gt_f ‹_› _ _ _) ?_ | refine WL.bin rfl rfl rfl rfl (int_gt_d _ _ _ _ _) ?_ | refine WL.skip _ rfl rfl rfl ?_
    first | refine WL.pick rfl rfl rfl rfl ?_
    first | refine WL.move rfl rfl rfl ?_
    first | refine WL.move rfl rfl rfl ?_ | refine WL.skip _ rfl rfl rfl ?_
    first | refine WL.bin rfl rfl rfl rfl (int_lt_t ‹_› _ _ _) ?_ | refine WL.bin rfl rfl rfl rfl (int_lt_f ‹_› _ _ _) ?_ | refine WL.bin rfl rfl rfl rfl (int_lt_d _ _ _ _ _) ?_ | refine WL.skip _ rfl rfl rfl ?_
    first | refine WL.pick rfl rfl rfl rfl ?_
    first | refine WL.move rfl rfl rfl ?_
    first | refine WL.move rfl rfl rfl ?_ | refine WL.skip _ rfl rfl rfl ?_
    first | refine WL.bin rfl rfl rfl rfl (int_gt_t ‹_› _ _ _) ?_ | refine WL.bin rfl rfl rfl rfl (int_gt_f ‹_› _ _ _) ?_ | refine WL.bin rfl rfl rfl rfl (int_gt_d _ _ _ _ _) ?_ | refine WL.skip _ rfl rfl rfl ?_
    first | refine WL.pick rfl rfl rfl rfl ?_
    refine WL.done ?_
    refine EW.on ?_
    refine EW.cond_t rfl ?_
    refine EW.seq ?_
    refine EW.region ?_
    first | refine WL.assign rfl rfl rfl ?_
    first | refine WL.assign rfl rfl rfl ?_
    refine WL.done ?_
    refine EW.on ?_
    refine EW.ret ?_
    refine pr_then ?_
    exact EW.returns2 Try.results16 rfl rfl ⟨rfl, rfl⟩
set_option maxRecDepth 100000 in
set_option maxHeartbeats 1000000 in
theorem rnext_any {w : World} {q : Nat} {nodes most num : Int} {v : Value} {R : List Fl} (h : Rn w q nodes most num v R) : Calls Try.prog 20 #[.pointer (some ⟨q, 0, none⟩)] w fun e w' => e = .returned (.int .i64 num) ∧ w' = w := by
  refine calls_of_args [.pointer (some ⟨q, 0, none⟩)] Try.func20 rfl 7 Try.ntmps20 (by show 1 ≤ 7; decide) ?_
  refine EW.seq ?_
  refine EW.region ?_
  first | refine WL.assign rfl rfl rfl ?_
  refine WL.done ?_
  refine EW.on ?_
  refine EW.seq ?_
  refine EW.region ?_
  first | refine WL.move rfl rfl rfl ?_
  first | refine WL.nilc rfl rfl rfl ?_
  refine WL.field rfl rfl rfl (g67_3 q _) ?_
  refine WL.load rfl rfl rfl (ldI h.bl rfl) ?_
  first | refine WL.assign rfl rfl rfl ?_
  refine WL.done ?_
  refine EW.on ?_
  refine EW.ret ?_
  exact EW.returns Try.results20 rfl ⟨rfl, rfl⟩
set_option maxRecDepth 100000 in
set_option maxHeartbeats 4000000 in
theorem twin_any (x : Fl) (w : World) (h : Has w x.v x.b) (hl : x.b.length ≤ 140737488355328) : Calls Try.prog 31 #[x.g] w fun e w' => ∃ v', e = .returned (Fl.g ⟨x.n, x.f, x.t, v', x.b⟩) ∧ Own w' w.heap.size v' x.b ∧ Below w.heap.size w w' := by
  obtain ⟨w1, q1, r1, b1, l1, hq1, s1⟩ := box36 x w
  obtain ⟨w2, q2, r2, b2, l2, hq2, s2⟩ := new36 w1
  obtain ⟨v3, w3, r3, o3, l3⟩ := bsl0 w2
  have s3 := l3.size
  replace b1 := b1.on l2
  obtain ⟨v4, w4, r4, o4, l4, f4⟩ := o3.app (h.below (bt l1 (bt l2 l3))) (by simp; omega) l3.size 29
  rw [List.nil_append] at o4
  have s4 := l4.size
  have b14 : Blk w4 q1 x.cs 36 := (b1.on l3).fx f4 (fun e => o3.neT (b1.on l3) (by decide) e)
  have b24 : Blk w4 q2 Fl.z.cs 36 := (b2.on l3).fx f4 (fun e => o3.neT (b2.on l3) (by decide) e)
  obtain ⟨ao, c, hv4⟩ := o4.slice
  obtain ⟨w5, r5, b5, f5⟩ := stS b14 (j := 3) (by show 3 < 4; decide) ao x.b.length c
  rw [← hv4] at r5 b5
  replace b5 : Blk w5 q1 (Fl.cs ⟨x.n, x.f, x.t, v4, x.b⟩) 36 := b5
  have b25 : Blk w5 q2 Fl.z.cs 36 := b24.fx f5 (by omega)
  have o5 := o4.fx f5 (fun k hk e => o4.neT b14 (by decide) (by rw [hk, e]))
  obtain ⟨w6, r6, b6, f6⟩ := st36 (y := ⟨x.n, x.f, x.t, v4, x.b⟩) b25 (sh_of o4.has)
  have o6 := o5.fx f6 (fun k hk e => o5.neT b25 (by decide) (by rw [hk, e]))
  have hB : Below w.heap.size w w6 := by
    refine (bt l1 (bt l2 l3)).trans ((l4.mono (by omega)).trans ((f5.below (fun k hk e => by omega) (by have := f5.size; omega)).trans (f6.below (fun k hk e => by omega) (by have := f5.size; omega))))
  refine calls_of_args [x.g] Try.func31 rfl 9 Try.ntmps31 (by show 1 ≤ 9; decide) ?_
  refine EW.seq ?_
  refine EW.region ?_
  refine WL.box rfl rfl rfl r1 ?_
  refine WL.new rfl rfl r2 ?_
  refine WL.done ?_
  refine EW.on ?_
  refine EW.seq ?_
  refine EW.region ?_
  refine WL.bslN [] rfl rfl rfl r3 ?_
  refine WL.field rfl rfl rfl (g36_3 q1 _) ?_
  refine WL.load rfl rfl rfl (ldS (b1.on l3) rfl) ?_
  refine WL.app rfl rfl rfl rfl r4 ?_
  refine WL.field rfl rfl rfl (g36_3 q1 _) ?_
  refine WL.store rfl rfl rfl r5 ?_
  refine WL.done ?_
  refine EW.on ?_
  refine EW.seq ?_
  refine EW.region ?_
  refine WL.load rfl rfl rfl (ld36 b5) ?_
  refine WL.store rfl rfl rfl r6 ?_
  refine WL.done ?_
  refine EW.on ?_
  refine EW.ret ?_
  refine EW.retF Try.results31 rfl b6 ⟨v4, rfl, o6.weaken (by omega), hB⟩
def fiE (q : Nat) (k : Int) (i : Nat) : List (Nat × Value) := [(0, .pointer (some ⟨q, 0, none⟩)), (1, .int .i64 k), (5, .int .i64 (i : Int))]
def fiR (w : World) (R : List Fl) (k : Int) (i : Nat) (W : World) : Prop := W = w ∧ i ≤ R.length ∧ ∀ (j : Nat) y, j < i → R[j]? = some y → y.n ≠ k
set_option maxRecDepth 100000 in
set_option maxHeartbeats 4000000 in
theorem rfind_any {w : World} {q : Nat} {nodes most num : Int} {v : Value} {R : List Fl} (h : Rn w q nodes most num v R) (hRl : R.length ≤ 100000) (k : Int) : Calls Try.prog 36 #[.pointer (some ⟨q, 0, none⟩), .int .i64 k] w fun e w' => ((e = .returned (.int .i64 (-1)) ∧ ∀ y ∈ R, y.n ≠ k) ∨ ∃ (i : Nat) (y : Fl), e = .returned (.int .i64 (i : Int)) ∧ R[i]? = some y ∧ y.n = k) ∧ w' = w := by
  refine calls_of_args [.pointer (some ⟨q, 0, none⟩), .int .i64 k] Try.func36 rfl 26 Try.ntmps36 (by show 2 ≤ 26; decide) ?_
  refine EW.seq ?_
  refine EW.region ?_
  first | refine WL.assign rfl rfl rfl ?_
  refine WL.done ?_
  refine EW.on ?_
  refine EW.seq ?_
  refine EW.seq ?_
  refine EW.region ?_
  first | refine WL.assign rfl rfl rfl ?_
  refine WL.done ?_
  refine EW.on ?_
  refine EW.block ?_
  refine EW.loop (fiE q k) (fiR w R k) (fun i => R.length - i) 0 [0, 1, 5] rfl ⟨rfl, Nat.zero_le _, fun j y hj => absurd hj (Nat.not_lt_zero _)⟩ ?_
  rintro i wi ⟨hwi, hil, hno⟩
  rw [hwi]
  show EW _ _ _ _ [(0, .pointer (some ⟨q, 0, none⟩)), (1, .int .i64 k), (5, .int .i64 (i : Int))] _
  refine EW.seq ?_
  refine EW.seq ?_
  refine EW.region ?_
  first | refine WL.move rfl rfl rfl ?_
  first | refine WL.move rfl rfl rfl ?_
  first | refine WL.nilc rfl rfl rfl ?_
  refine WL.field rfl rfl rfl (g67_2 q _) ?_
  refine WL.load rfl rfl rfl (ldR h.bl rfl) ?_
  refine WL.len rfl rfl rfl (h.fo.fs.len _ _) ?_
  refine WL.bin rfl rfl rfl rfl (int_lt_d _ _ _ _ _) ?_
  refine WL.done ?_
  refine EW.on ?_
  refine EW.cond_d rfl (fun h12 => ?_) (fun h12 => ?_)
  · refine EW.skip ?_
    refine EW.on ?_
    refine EW.seq ?_
    refine EW.block ?_
    refine EW.seq ?_
    obtain ⟨y, hy⟩ : ∃ y, R[i]? = some y := ⟨_, List.getElem?_eq_getElem (by omega)⟩
    obtain ⟨ad, ix, lx⟩ := h.fo.fs.get hy
    refine EW.region ?_
    first | refine WL.move rfl rfl rfl ?_
    first | refine WL.nilc rfl rfl rfl ?_
    refine WL.field rfl rfl rfl (g67_2 q _) ?_
    refine WL.load rfl rfl rfl (ldR h.bl rfl) ?_
    first | refine WL.move rfl rfl rfl ?_
    refine WL.index rfl rfl rfl rfl (ix _) ?_
    refine WL.field rfl rfl rfl (f36_0 ad _) ?_
    refine WL.load rfl rfl rfl (lx _ h.fo.fs).2.1 ?_
    first | refine WL.move rfl rfl rfl ?_
    refine WL.bin rfl rfl rfl rfl (int_eq_d _ _ _ _ _) ?_
    refine WL.done ?_
    refine EW.on ?_
    refine EW.cond_d rfl (fun h24 => ?_) (fun h24 => ?_)
    · refine EW.seq ?_
      refine EW.region ?_
      first | refine WL.move rfl rfl rfl ?_
      first | refine WL.assign rfl rfl rfl ?_
      refine WL.done ?_
      refine EW.on ?_
      refine EW.ret ?_
      refine pr_block ?_
      refine pr_then ?_
      refine pr_then ?_
      refine pr_block ?_
      refine pr_then ?_
      exact EW.returns Try.results36 rfl ⟨.inr ⟨i, y, rfl, hy, h24⟩, rfl⟩
    · refine EW.skip ?_
      refine pn_block ?_
      refine EW.on ?_
      refine EW.region ?_
      first | refine WL.move rfl rfl rfl ?_
      refine WL.bin rfl rfl rfl rfl (int_add (c := ((i + 1 : Nat) : Int)) (by rw [IntKind.wrap_i64]; omega) _ _ _) ?_
      first | refine WL.assign rfl rfl rfl ?_
      refine WL.done ?_
      exact EW.again (E := fiE q k) (R := fiR w R k) (m := fun i => R.length - i) (x := i) (i + 1) [0, 1, 5] rfl ⟨rfl, by omega, fun j z hj hz => (by
        by_cases e : j = i
        · rw [e, hy] at hz; cases hz; exact h24
        · exact hno j z (by omega) hz)⟩ (by show R.length - (i + 1) < R.length - i; omega)
  · refine EW.exit ?_
    refine px_then ?_
    refine px_then ?_
    refine px_block ?_
    refine EW.on ?_
    refine EW.seq ?_
    refine EW.region ?_
    first | refine WL.assign rfl rfl rfl ?_
    refine WL.done ?_
    refine EW.on ?_
    refine EW.ret ?_
    exact EW.returns Try.results36 rfl ⟨.inl ⟨rfl, fun y hy => (by
  obtain ⟨j, hj⟩ := List.mem_iff_getElem?.1 hy
  exact hno j y (by have := (List.getElem?_eq_some_iff.1 hj).1; omega) hj)⟩, rfl⟩
end Go.Proofs.Ytplfelfmkgjijaa
