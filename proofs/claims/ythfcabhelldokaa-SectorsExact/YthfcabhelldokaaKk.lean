import Derived.Test.YthfcabhelldokaaEo
import Derived.Test.YthfcabhelldokaaSpG
set_option linter.unusedVariables false
set_option linter.unusedSimpArgs false
namespace Go.Proofs.Ythfcabhelldokaa
open Go.RowKit

theorem fld32_0 (g : Nat) (W : World) : (Instr.fieldAt 32 (.pointer (some ⟨g, 0, none⟩)) 0).run Try.prog W = .ok (.pointer (some ⟨g, 0, none⟩)) W := by go_simp
theorem fld32_1 (g : Nat) (W : World) : (Instr.fieldAt 32 (.pointer (some ⟨g, 0, none⟩)) 1).run Try.prog W = .ok (.pointer (some ⟨g, 1, none⟩)) W := by go_simp
theorem fld32_2 (g : Nat) (W : World) : (Instr.fieldAt 32 (.pointer (some ⟨g, 0, none⟩)) 2).run Try.prog W = .ok (.pointer (some ⟨g, 2, none⟩)) W := by go_simp
theorem fld78_0 (g k : Nat) (W : World) : (Instr.fieldAt 78 (.pointer (some ⟨g, k, none⟩)) 0).run Try.prog W = .ok (.pointer (some ⟨g, k, none⟩)) W := by go_simp
theorem fld78_1 (g k : Nat) (W : World) : (Instr.fieldAt 78 (.pointer (some ⟨g, k, none⟩)) 1).run Try.prog W = .ok (.pointer (some ⟨g, k + 1, none⟩)) W := by go_simp
theorem ld28 {ad : Addr} {v : Value} {W : World} (h : W.cell? ad = some v) : (Instr.loadAt 28 (.pointer (some ad))).run Try.prog W = .ok v W := by go_simp
theorem ld29 {ad : Addr} {v : Value} {W : World} (h : W.cell? ad = some v) : (Instr.loadAt 29 (.pointer (some ad))).run Try.prog W = .ok v W := by go_simp
theorem ld30 {ad : Addr} {v : Value} {W : World} (h : W.cell? ad = some v) : (Instr.loadAt 30 (.pointer (some ad))).run Try.prog W = .ok v W := by go_simp
theorem ld34 {ad : Addr} {v : Value} {W : World} (h : W.cell? ad = some v) : (Instr.loadAt 34 (.pointer (some ad))).run Try.prog W = .ok v W := by go_simp
theorem ld9 {ad : Addr} {v : Value} {W : World} (h : W.cell? ad = some v) : (Instr.loadAt 9 (.pointer (some ad))).run Try.prog W = .ok v W := by go_simp
/-- A life's book: the sectors that are durable, and the writes since. -/
structure Bk (W : World) (pv p : Nat) (vi vl : Value) (ims : List ByteArray) (gs : List Nat) (pen : List (Nat × List UInt8)) : Prop where
  bl : Blk W pv (lifeC p vi vl) 32
  im : W.ownsRow 0 9 1 vi ims.length (ims.map Value.string)
  four : ims.length = 4
  pl : W.ownsRow 0 78 2 vl pen.length (penC gs pen)
  bys : ∀ (k g : Nat) (x : Nat × List UInt8), gs[k]? = some g → pen[k]? = some x → Blk W g (x.2.map byt) 5
  gsl : gs.length = pen.length
  sec : ∀ x ∈ pen, x.2.length = 512
  few : pen.length ≤ 1000000
theorem Bk.below {W W' : World} {pv p : Nat} {vi vl : Value} {ims : List ByteArray} {gs : List Nat} {pen : List (Nat × List UInt8)} (h : Bk W pv p vi vl ims gs pen) (hb : Below W.heap.size W W') : Bk W' pv p vi vl ims gs pen :=
  ⟨h.bl.on hb, ownsRow_fx h.im (Fx.of_below (S := fun _ => False) hb) (fun _ _ s => s), h.four, ownsRow_fx h.pl (Fx.of_below (S := fun _ => False) hb) (fun _ _ s => s), fun k g x h1 h2 => (h.bys k g x h1 h2).on hb, h.gsl, h.sec, h.few⟩
theorem idx29 (g n cap m : Nat) (h : m < n) (W : World) : (Instr.indexAt 29 (.slice (some ⟨g, 0, none⟩) n cap) (.int .i64 (m : Int))).run Try.prog W = .ok (.pointer (some ⟨g, m, none⟩)) W := by
  have hm : (m : Int) < (n : Int) := by omega
  go_simp
  try simp
  try rw [add_plain]
/-- One durable sector in its place. -/
theorem im_item {w : World} {vi : Value} {ims : List ByteArray} (h : w.ownsRow 0 9 1 vi ims.length (ims.map Value.string)) (k : Nat) (s : ByteArray) (h2 : ims[k]? = some s) :
    ∃ g, vi.ownBlock = some g ∧ (∀ W, (Instr.indexAt 29 vi (.int .i64 (k : Int))).run Try.prog W = .ok (.pointer (some ⟨g, k, none⟩)) W) ∧ w.cell? ⟨g, k, none⟩ = some (.string s) := by
  have hk : k < ims.length := (List.getElem?_eq_some_iff.1 h2).1
  obtain ⟨h0, ⟨rfl, hn⟩ | ⟨g, cap, cur, rfl, hg, hh, hn, hc, hs, ht⟩⟩ := h
  · omega
  · refine ⟨g, rfl, fun W => idx29 g ims.length cap k hk W, ?_⟩
    have hv : (ims.map Value.string)[k]? = some (.string s) := by rw [List.getElem?_map, h2]; rfl
    rw [← ht, List.getElem?_take_of_lt (by omega)] at hv
    rw [Array.getElem?_toList] at hv
    simp [World.cell?, hh, hv]
/-- What is read last of a sector, by the book, behind t writes. -/
def lastT (s0 : ByteArray) (pen : List (Nat × List UInt8)) (i : Nat) : Nat → ByteArray
  | 0 => s0
  | t + 1 => if (pen.getD t (0, [])).1 = i then ⟨(pen.getD t (0, [])).2.toArray⟩ else lastT s0 pen i t
def lastS (s0 : ByteArray) (pen : List (Nat × List UInt8)) (i : Nat) : ByteArray := lastT s0 pen i pen.length
theorem tnM (t m : Nat) (h : t < m) (hm : m ≤ 1000000) : IntKind.i64.wrap ((t : Int) + 1) = ((t + 1 : Nat) : Int) := by rw [IntKind.wrap_i64]; omega
theorem msM (t m : Nat) (h : t < m) : m - (t + 1) < m - t := by omega
def laE (pv i : Nat) (s0 : ByteArray) (pen : List (Nat × List UInt8)) (t : Nat) : List (Nat × Value) := [(0, .pointer (some ⟨pv, 0, none⟩)), (1, .int .i64 (i : Int)), (5, .string (lastT s0 pen i t)), (6, .int .i64 (t : Int))]
set_option maxRecDepth 100000 in
theorem last_any {W : World} {pv p : Nat} {vi vl : Value} {ims : List ByteArray} {gs : List Nat} {pen : List (Nat × List UInt8)} (h : Bk W pv p vi vl ims gs pen) (i : Nat) (s0 : ByteArray) (hi : ims[i]? = some s0) :
    Calls Try.prog 45 #[.pointer (some ⟨pv, 0, none⟩), .int .i64 (i : Int)] W fun e w' => e = .returned (.string (lastS s0 pen i)) ∧ w' = W := by
  have r1 := (h.bl.cell 1).trans (show _ = some vi from rfl)
  have r2 := (h.bl.cell 2).trans (show _ = some vl from rfl)
  obtain ⟨gi, _, hix, hci⟩ := im_item h.im i s0 hi
  have hlen := pen_len h.pl
  unfold lastS
  refine calls_of_args [.pointer (some ⟨pv, 0, none⟩), .int .i64 (i : Int)] Try.func45 rfl 43 Try.ntmps45 (by show 2 ≤ 43; decide) ?_
  refine EW.seq ?_
  refine EW.region ?_
  first | refine WL.assign rfl rfl rfl ?_
  refine WL.done ?_
  refine EW.on ?_
  refine EW.seq ?_
  refine EW.region ?_
  first | refine WL.move rfl rfl rfl ?_
  first | refine WL.nilc rfl rfl rfl ?_
  first | refine WL.field rfl rfl rfl (fld32_1 _ _) ?_
  refine WL.load rfl rfl rfl (ld29 r1) ?_
  first | refine WL.move rfl rfl rfl ?_
  refine WL.index rfl rfl rfl rfl (hix _) ?_
  refine WL.load rfl rfl rfl (ld9 hci) ?_
  first | refine WL.assign rfl rfl rfl ?_
  refine WL.done ?_
  refine EW.on ?_
  refine EW.seq ?_
  refine EW.seq ?_
  refine EW.region ?_
  first | refine WL.assign rfl rfl rfl ?_
  refine WL.done ?_
  refine EW.on ?_
  refine EW.block ?_
  refine EW.loop (laE pv i s0 pen) (fun t w' => t ≤ pen.length ∧ w' = W) (fun t => pen.length - t) 0 [0, 1, 5, 6] rfl ⟨Nat.zero_le _, rfl⟩ ?_
  rintro t wr ⟨htn, hz⟩
  rw [hz]
  clear hz wr
  show EW _ _ _ _ [(0, .pointer (some ⟨pv, 0, none⟩)), (1, .int .i64 (i : Int)), (5, .string (lastT s0 pen i t)), (6, .int .i64 (t : Int))] _
  by_cases hl1 : t < pen.length
  · have z1 : (t : Int) < (pen.length : Int) := Int.ofNat_lt.2 hl1
    have tn := tnM t _ hl1 h.few
    obtain ⟨x, hx⟩ : ∃ x, pen[t]? = some x := ⟨pen[t]'hl1, List.getElem?_eq_getElem _⟩
    obtain ⟨gb, hgb⟩ : ∃ g, gs[t]? = some g := ⟨gs[t]'(by rw [h.gsl]; exact hl1), List.getElem?_eq_getElem _⟩
    obtain ⟨gp, _, hpx, hrg⟩ := pen_item h.pl t gb x hgb hx
    have q0 : W.cell? ⟨gp, t * 2, none⟩ = some (.int .i64 (x.1 : Int)) := hrg 0 _ rfl
    have q1 : W.cell? ⟨gp, t * 2 + 1, none⟩ = some (.slice (some ⟨gb, 0, none⟩) 512 512) := hrg 1 _ rfl
    have qc := (Blk.hasB (h.bys t gb x hgb hx) (h.sec x (List.mem_of_getElem? hx))).convert
    have hge : pen.getD t (0, []) = x := by rw [List.getD_eq_getElem?_getD, hx]; rfl
    by_cases hkk : x.1 = i
    · have hkz : (x.1 : Int) = (i : Int) := Int.ofNat_inj.2 hkk
      skip
      refine EW.seq ?_
      refine EW.seq ?_
      refine EW.region ?_
      first | refine WL.move rfl rfl rfl ?_
      first | refine WL.move rfl rfl rfl ?_
      first | refine WL.nilc rfl rfl rfl ?_
      first | refine WL.field rfl rfl rfl (fld32_2 _ _) ?_
      refine WL.load rfl rfl rfl (ld30 r2) ?_
      refine WL.len rfl rfl rfl (hlen _ _) ?_
      first | refine WL.bin rfl rfl rfl rfl (int_lt_t ‹_› _ _ _) ?_ | refine WL.bin rfl rfl rfl rfl (int_lt_f ‹_› _ _ _) ?_
      refine WL.done ?_
      refine EW.on ?_
      refine EW.cond_t rfl ?_
      refine EW.skip ?_
      refine EW.on ?_
      refine EW.seq ?_
      refine EW.block ?_
      refine EW.seq ?_
      refine EW.region ?_
      first | refine WL.move rfl rfl rfl ?_
      first | refine WL.nilc rfl rfl rfl ?_
      first | refine WL.field rfl rfl rfl (fld32_2 _ _) ?_
      refine WL.load rfl rfl rfl (ld30 r2) ?_
      first | refine WL.move rfl rfl rfl ?_
      refine WL.index rfl rfl rfl rfl (hpx _) ?_
      refine WL.field rfl rfl rfl (fld78_0 _ _ _) ?_
      refine WL.load rfl rfl rfl (ld3 q0) ?_
      first | refine WL.move rfl rfl rfl ?_
      first | refine WL.bin rfl rfl rfl rfl (int_eq_t ‹_› _ _ _) ?_ | refine WL.bin rfl rfl rfl rfl (int_eq_f ‹_› _ _ _) ?_
      refine WL.done ?_
      refine EW.on ?_
      refine EW.cond_t rfl ?_
      refine EW.region ?_
      first | refine WL.move rfl rfl rfl ?_
      first | refine WL.nilc rfl rfl rfl ?_
      first | refine WL.field rfl rfl rfl (fld32_2 _ _) ?_
      refine WL.load rfl rfl rfl (ld30 r2) ?_
      first | refine WL.move rfl rfl rfl ?_
      refine WL.index rfl rfl rfl rfl (hpx _) ?_
      refine WL.field rfl rfl rfl (fld78_1 _ _ _) ?_
      refine WL.load rfl rfl rfl (ld34 q1) ?_
      refine WL.conv rfl rfl rfl qc ?_
      first | refine WL.assign rfl rfl rfl ?_
      refine WL.done ?_
      refine pn_block ?_
      refine EW.on ?_
      refine EW.region ?_
      first | refine WL.move rfl rfl rfl ?_
      first | refine WL.bin rfl rfl rfl rfl (int_add ‹_› _ _ _) ?_
      first | refine WL.assign rfl rfl rfl ?_
      refine WL.done ?_
      refine EW.again (t + 1) [0, 1, 5, 6] ?_ ⟨hl1, rfl⟩ (msM t _ hl1)
      unfold laE
      rw [lastT, hge, if_pos hkk]
      rfl
    · have hkz : ¬ (x.1 : Int) = (i : Int) := fun e => hkk (Int.ofNat_inj.1 e)
      skip
      refine EW.seq ?_
      refine EW.seq ?_
      refine EW.region ?_
      first | refine WL.move rfl rfl rfl ?_
      first | refine WL.move rfl rfl rfl ?_
      first | refine WL.nilc rfl rfl rfl ?_
      first | refine WL.field rfl rfl rfl (fld32_2 _ _) ?_
      refine WL.load rfl rfl rfl (ld30 r2) ?_
      refine WL.len rfl rfl rfl (hlen _ _) ?_
      first | refine WL.bin rfl rfl rfl rfl (int_lt_t ‹_› _ _ _) ?_ | refine WL.bin rfl rfl rfl rfl (int_lt_f ‹_› _ _ _) ?_
      refine WL.done ?_
      refine EW.on ?_
      refine EW.cond_t rfl ?_
      refine EW.skip ?_
      refine EW.on ?_
      refine EW.seq ?_
      refine EW.block ?_
      refine EW.seq ?_
      refine EW.region ?_
      first | refine WL.move rfl rfl rfl ?_
      first | refine WL.nilc rfl rfl rfl ?_
      first | refine WL.field rfl rfl rfl (fld32_2 _ _) ?_
      refine WL.load rfl rfl rfl (ld30 r2) ?_
      first | refine WL.move rfl rfl rfl ?_
      refine WL.index rfl rfl rfl rfl (hpx _) ?_
      refine WL.field rfl rfl rfl (fld78_0 _ _ _) ?_
      refine WL.load rfl rfl rfl (ld3 q0) ?_
      first | refine WL.move rfl rfl rfl ?_
      first | refine WL.bin rfl rfl rfl rfl (int_eq_t ‹_› _ _ _) ?_ | refine WL.bin rfl rfl rfl rfl (int_eq_f ‹_› _ _ _) ?_
      refine WL.done ?_
      refine EW.on ?_
      refine EW.cond_f rfl ?_
      refine EW.skip ?_
      refine pn_block ?_
      refine EW.on ?_
      refine EW.region ?_
      first | refine WL.move rfl rfl rfl ?_
      first | refine WL.bin rfl rfl rfl rfl (int_add ‹_› _ _ _) ?_
      first | refine WL.assign rfl rfl rfl ?_
      refine WL.done ?_
      refine EW.again (t + 1) [0, 1, 5, 6] ?_ ⟨hl1, rfl⟩ (msM t _ hl1)
      unfold laE
      rw [lastT, hge, if_neg hkk]
      rfl
  · have z1 : ¬ (t : Int) < (pen.length : Int) := fun hh => hl1 (Int.ofNat_lt.1 hh)
    have ht : t = pen.length := Nat.le_antisymm htn (Nat.le_of_not_lt hl1)
    refine EW.seq ?_
    refine EW.seq ?_
    refine EW.region ?_
    first | refine WL.move rfl rfl rfl ?_
    first | refine WL.move rfl rfl rfl ?_
    first | refine WL.nilc rfl rfl rfl ?_
    first | refine WL.field rfl rfl rfl (fld32_2 _ _) ?_
    refine WL.load rfl rfl rfl (ld30 r2) ?_
    refine WL.len rfl rfl rfl (hlen _ _) ?_
    first | refine WL.bin rfl rfl rfl rfl (int_lt_t ‹_› _ _ _) ?_ | refine WL.bin rfl rfl rfl rfl (int_lt_f ‹_› _ _ _) ?_
    refine WL.done ?_
    refine EW.on ?_
    refine EW.cond_f rfl ?_
    refine EW.exit ?_
    repeat refine px_then ?_
    refine px_block ?_
    refine EW.on ?_
    refine EW.seq ?_
    refine EW.region ?_
    first | refine WL.move rfl rfl rfl ?_
    first | refine WL.assign rfl rfl rfl ?_
    refine WL.done ?_
    refine EW.on ?_
    refine EW.ret ?_
    exact EW.returns Try.results45 rfl ⟨by rw [ht], rfl⟩
end Go.Proofs.Ythfcabhelldokaa
