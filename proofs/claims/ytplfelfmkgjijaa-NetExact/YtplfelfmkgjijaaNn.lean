import Derived.Test.YtplfelfmkgjijaaNm
set_option linter.unusedVariables false
set_option linter.unusedSimpArgs false
namespace Go.Proofs.Ytplfelfmkgjijaa
open Go.RowKit

def clr (S : List Sn) (k : Nat) : List Sn := match S[k]? with
  | some s => S.set k { s with h := false }
  | none => S
theorem clr_some {S : List Sn} {k : Nat} {s : Sn} (h : S[k]? = some s) : clr S k = S.set k { s with h := false } := by unfold clr; rw [h]
theorem clr_none {S : List Sn} {k : Nat} (h : S[k]? = none) : clr S k = S := by unfold clr; rw [h]
theorem clr_len (S : List Sn) (k : Nat) : (clr S k).length = S.length := by
  unfold clr
  split
  · rw [List.length_set]
  · rfl
theorem set_id {S : List Sn} {k : Nat} {s : Sn} (h : S[k]? = some s) : S.set k s = S := by
  apply List.ext_getElem?
  intro j
  rw [List.getElem?_set]
  split
  · rename_i e
    subst e
    have hi := (List.getElem?_eq_some_iff.1 h).1
    rw [h]
    simp [hi]
  · rfl
theorem clr_off {S : List Sn} {k : Nat} {s : Sn} (h : S[k]? = some s) (hh : s.h = false) : clr S k = S := by
  rw [clr_some h]
  have e : ({ s with h := false } : Sn) = s := by cases s; simp at hh; rw [hh]
  rw [e, set_id h]
theorem here_clr (S : List Sn) (k : Nat) : hereD (clr S k) = fun j => if j = k then none else hereD S j := by
  funext j
  unfold hereD
  cases hk : S[k]? with
  | none =>
    rw [clr_none hk]
    by_cases e : j = k
    · rw [if_pos e, e, hk]; rfl
    · rw [if_neg e]
  | some s =>
    rw [clr_some hk, List.getElem?_set]
    have hi := (List.getElem?_eq_some_iff.1 hk).1
    by_cases e : j = k
    · subst e
      rw [if_pos rfl, if_pos rfl]
      simp [hi]
    · rw [if_neg (fun e' => e e'.symm), if_neg e]
theorem Bg.eqH {w0 w : World} {p r N : Nat} {vl : Value} {S : List Sn} {E : List Me} {c : Nat} {H H' : Nat → Option Dt} (h : Bg w0 w p r N vl S E c H) (e : H = H') : Bg w0 w p r N vl S E c H' := by rw [← e]; exact h
theorem lk_map {E : List Me} {k : Int} {o : Option Dt} (h : (lkE E k).map Fl.d = o) : (o = none → lkE E k = none) ∧ ∀ d, o = some d → ∃ y, lkE E k = some y ∧ y.d = d := by
  cases hl : lkE E k with
  | none =>
    rw [hl] at h
    exact ⟨fun _ => rfl, fun d hd => (by rw [← h] at hd; cases hd)⟩
  | some y =>
    rw [hl] at h
    exact ⟨fun e => (by rw [e] at h; cases h), fun d hd => ⟨y, rfl, by rw [hd] at h; simpa using h⟩⟩
set_option maxRecDepth 100000 in
set_option maxHeartbeats 4000000 in
theorem brought_any {w0 w : World} {p r N : Nat} {vl : Value} {S : List Sn} {E : List Me} {c : Nat} (h : Bg w0 w p r N vl S E c (hereD S)) (k : Nat) : Calls Try.prog 15 #[.pointer (some ⟨p, 0, none⟩), vl, .int .i64 (k : Int)] w fun e w' => e = .returned (.bool true) ∧ ∃ E', Bg w0 w' p r N vl (clr S k) E' c (hereD (clr S k)) := by
  have hrl := lk_map (h.rl k)
  cases hk : S[k]? with
  | none =>
    have hlk : lkE E (k : Int) = none := hrl.1 (by unfold hereD; rw [hk]; rfl)
    have hge : S.length ≤ k := by
      rcases Nat.lt_or_ge k S.length with e | e
      · rw [List.getElem?_eq_getElem e] at hk; cases hk
      · exact e
    refine calls_of_args [.pointer (some ⟨p, 0, none⟩), vl, .int .i64 (k : Int)] Try.func15 rfl 61 Try.ntmps15 (by show 3 ≤ 61; decide) ?_
    refine EW.seq ?_
    refine EW.region ?_
    first | refine WL.assign rfl rfl rfl ?_
    refine WL.done ?_
    refine EW.on ?_
    refine EW.seq ?_
    refine EW.region ?_
    first | refine WL.move rfl rfl rfl ?_
    first | refine WL.move rfl rfl rfl ?_
    refine WL.call [.pointer (some ⟨p, 0, none⟩), .int .i64 (k : Int)] enter14 rfl rfl rfl (deliver_any h.nt (k : Int)) ?_
    rintro x1 w1 (⟨_, rfl, l1⟩ | ⟨y', v', hy', _⟩)
    rotate_left
    · rw [hlk] at hy'; cases hy'
    refine ⟨_, rfl, ?_⟩
    obtain ⟨q7, w1a, w2, ra, rs, b7, l2, hq7⟩ := newF w1 Fl.z Fl.z_sh
    have h2 := (h.on l1).on l2
    first | refine WL.move rfl rfl rfl ?_
    first | refine WL.extract rfl rfl rfl (ext_2 _ _ _).1 ?_
    first | refine WL.extract rfl rfl rfl (ext_2 _ _ _).2 ?_
    refine WL.new rfl rfl ra ?_
    refine WL.store rfl rfl rfl rs ?_
    first | refine WL.assign rfl rfl rfl ?_
    refine WL.done ?_
    refine EW.on ?_
    refine EW.seq ?_
    refine EW.seq ?_
    refine EW.region ?_
    first | refine WL.move rfl rfl rfl ?_
    first | refine WL.move rfl rfl rfl ?_
    refine WL.len rfl rfl rfl (h.len _ _) ?_
    refine WL.bin rfl rfl rfl rfl (int_ge_t (by omega) _ _ _) ?_
    first | refine WL.move rfl rfl rfl ?_
    refine WL.skip _ rfl rfl rfl ?_
    refine WL.skip _ rfl rfl rfl ?_
    refine WL.skip _ rfl rfl rfl ?_
    refine WL.skip _ rfl rfl rfl ?_
    refine WL.skip _ rfl rfl rfl ?_
    refine WL.skip _ rfl rfl rfl ?_
    first | refine WL.pick rfl rfl rfl rfl ?_
    refine WL.done ?_
    refine EW.on ?_
    refine EW.cond_t rfl ?_
    refine EW.seq ?_
    refine EW.region ?_
    first | refine WL.move rfl rfl rfl ?_
    refine WL.bin rfl rfl rfl rfl (int_eq_t rfl _ _ _) ?_
    first | refine WL.move rfl rfl rfl ?_
    refine WL.load rfl rfl rfl (ld36 b7) ?_
    refine WL.buildN [] rfl rfl rfl (b36_0 _) ?_
    refine WL.call [Fl.z.g, Fl.z.g] enter26 rfl rfl rfl (same_yes Fl.z Fl.z _ (Has.nil _) (Has.nil _) rfl) ?_
    rintro x3 w3 ⟨rfl, l3⟩
    refine ⟨_, rfl, ?_⟩
    first | refine WL.pick rfl rfl rfl rfl ?_
    first | refine WL.assign rfl rfl rfl ?_
    refine WL.done ?_
    refine EW.on ?_
    refine EW.ret ?_
    refine pr_then ?_
    exact EW.returns Try.results15 rfl ⟨rfl, E, by rw [clr_none hk]; exact h2.on l3⟩
  | some s =>
    have hlt : k < S.length := (List.getElem?_eq_some_iff.1 hk).1
    cases hh : s.h with
    | false =>
      have hlk : lkE E (k : Int) = none := hrl.1 (by unfold hereD; rw [hk]; simp [hh])
      refine calls_of_args [.pointer (some ⟨p, 0, none⟩), vl, .int .i64 (k : Int)] Try.func15 rfl 61 Try.ntmps15 (by show 3 ≤ 61; decide) ?_
      refine EW.seq ?_
      refine EW.region ?_
      first | refine WL.assign rfl rfl rfl ?_
      refine WL.done ?_
      refine EW.on ?_
      refine EW.seq ?_
      refine EW.region ?_
      first | refine WL.move rfl rfl rfl ?_
      first | refine WL.move rfl rfl rfl ?_
      refine WL.call [.pointer (some ⟨p, 0, none⟩), .int .i64 (k : Int)] enter14 rfl rfl rfl (deliver_any h.nt (k : Int)) ?_
      rintro x1 w1 (⟨_, rfl, l1⟩ | ⟨y', v', hy', _⟩)
      rotate_left
      · rw [hlk] at hy'; cases hy'
      refine ⟨_, rfl, ?_⟩
      obtain ⟨q7, w1a, w2, ra, rs, b7, l2, hq7⟩ := newF w1 Fl.z Fl.z_sh
      have h2 := (h.on l1).on l2
      first | refine WL.move rfl rfl rfl ?_
      first | refine WL.extract rfl rfl rfl (ext_2 _ _ _).1 ?_
      first | refine WL.extract rfl rfl rfl (ext_2 _ _ _).2 ?_
      refine WL.new rfl rfl ra ?_
      refine WL.store rfl rfl rfl rs ?_
      first | refine WL.assign rfl rfl rfl ?_
      refine WL.done ?_
      refine EW.on ?_
      refine EW.seq ?_
      refine EW.seq ?_
      refine EW.region ?_
      first | refine WL.move rfl rfl rfl ?_
      first | refine WL.move rfl rfl rfl ?_
      refine WL.len rfl rfl rfl (h.len _ _) ?_
      refine WL.bin rfl rfl rfl rfl (int_ge_f (by omega) _ _ _) ?_
      first | refine WL.move rfl rfl rfl ?_
      first | refine WL.move rfl rfl rfl ?_ | refine WL.skip _ rfl rfl rfl ?_
      first | refine WL.move rfl rfl rfl ?_ | refine WL.skip _ rfl rfl rfl ?_
      obtain ⟨ad0, ix0, lx0⟩ := h2.get hk
      refine WL.index rfl rfl rfl rfl (ix0 _) ?_
      refine WL.field rfl rfl rfl (f44_1 ad0 _) ?_
      refine WL.load rfl rfl rfl (lx0 _ h2.sl).1 ?_
      rw [hh]
      refine WL.un rfl rfl rfl (not_b _ _) ?_
      first | refine WL.pick rfl rfl rfl rfl ?_
      refine WL.done ?_
      refine EW.on ?_
      refine EW.cond_t rfl ?_
      refine EW.seq ?_
      refine EW.region ?_
      first | refine WL.move rfl rfl rfl ?_
      refine WL.bin rfl rfl rfl rfl (int_eq_t rfl _ _ _) ?_
      first | refine WL.move rfl rfl rfl ?_
      refine WL.load rfl rfl rfl (ld36 b7) ?_
      refine WL.buildN [] rfl rfl rfl (b36_0 _) ?_
      refine WL.call [Fl.z.g, Fl.z.g] enter26 rfl rfl rfl (same_yes Fl.z Fl.z _ (Has.nil _) (Has.nil _) rfl) ?_
      rintro x3 w3 ⟨rfl, l3⟩
      refine ⟨_, rfl, ?_⟩
      first | refine WL.pick rfl rfl rfl rfl ?_
      first | refine WL.assign rfl rfl rfl ?_
      refine WL.done ?_
      refine EW.on ?_
      refine EW.ret ?_
      refine pr_then ?_
      exact EW.returns Try.results15 rfl ⟨rfl, E, by rw [clr_off hk hh]; exact h2.on l3⟩
    | true =>
      obtain ⟨y, hlk, hyd⟩ := hrl.2 s.x.d (by unfold hereD; rw [hk]; simp [hh])
      refine calls_of_args [.pointer (some ⟨p, 0, none⟩), vl, .int .i64 (k : Int)] Try.func15 rfl 61 Try.ntmps15 (by show 3 ≤ 61; decide) ?_
      refine EW.seq ?_
      refine EW.region ?_
      first | refine WL.assign rfl rfl rfl ?_
      refine WL.done ?_
      refine EW.on ?_
      refine EW.seq ?_
      refine EW.region ?_
      first | refine WL.move rfl rfl rfl ?_
      first | refine WL.move rfl rfl rfl ?_
      refine WL.call [.pointer (some ⟨p, 0, none⟩), .int .i64 (k : Int)] enter14 rfl rfl rfl (deliver_any h.nt (k : Int)) ?_
      rintro x1 w1 (⟨g, _⟩ | ⟨y', v', hy', rfl, bx1, nt1, f1⟩)
      · rw [hlk] at g; cases g
      rw [hlk] at hy'
      cases hy'
      refine ⟨_, rfl, ?_⟩
      obtain ⟨q7, w1a, w2, ra, rs, b7, l2, hq7⟩ := newF w1 ⟨y.n, y.f, y.t, v', y.b⟩ (sh_of bx1.has)
      have h2 := (h.del k nt1 f1).on l2
      obtain ⟨ad, w4, ix, st, h4, f4⟩ := h2.clr hk
      have b74 := b7.fx f4 (fun e => h2.sl.neT b7 (by decide) e)
      have hv4 : Has w4 v' y.b := (bx1.has.below l2).fxo f4 (fun j hj => .inr fun e => by have := bx1.ownBlock j e; have := h.sl.lt hj; omega)
      have hk' : (S.set k { s with h := false })[k]? = some { s with h := false } := List.getElem?_set_self (List.getElem?_eq_some_iff.1 hk).1
      first | refine WL.move rfl rfl rfl ?_
      first | refine WL.extract rfl rfl rfl (ext_2 _ _ _).1 ?_
      first | refine WL.extract rfl rfl rfl (ext_2 _ _ _).2 ?_
      refine WL.new rfl rfl ra ?_
      refine WL.store rfl rfl rfl rs ?_
      first | refine WL.assign rfl rfl rfl ?_
      refine WL.done ?_
      refine EW.on ?_
      refine EW.seq ?_
      refine EW.seq ?_
      refine EW.region ?_
      first | refine WL.move rfl rfl rfl ?_
      first | refine WL.move rfl rfl rfl ?_
      refine WL.len rfl rfl rfl (h.len _ _) ?_
      refine WL.bin rfl rfl rfl rfl (int_ge_f (by omega) _ _ _) ?_
      first | refine WL.move rfl rfl rfl ?_
      first | refine WL.move rfl rfl rfl ?_ | refine WL.skip _ rfl rfl rfl ?_
      first | refine WL.move rfl rfl rfl ?_ | refine WL.skip _ rfl rfl rfl ?_
      obtain ⟨ad0, ix0, lx0⟩ := h2.get hk
      refine WL.index rfl rfl rfl rfl (ix0 _) ?_
      refine WL.field rfl rfl rfl (f44_1 ad0 _) ?_
      refine WL.load rfl rfl rfl (lx0 _ h2.sl).1 ?_
      rw [hh]
      refine WL.un rfl rfl rfl (not_b _ _) ?_
      first | refine WL.pick rfl rfl rfl rfl ?_
      refine WL.done ?_
      refine EW.on ?_
      refine EW.cond_f rfl ?_
      refine EW.skip ?_
      refine EW.on ?_
      refine EW.seq ?_
      refine EW.region ?_
      first | refine WL.move rfl rfl rfl ?_
      first | refine WL.move rfl rfl rfl ?_
      refine WL.index rfl rfl rfl rfl (ix _) ?_
      refine WL.field rfl rfl rfl (f44_1 ad _) ?_
      refine WL.store rfl rfl rfl st ?_
      refine WL.done ?_
      refine EW.on ?_
      refine EW.seq ?_
      refine EW.region ?_
      first | refine WL.move rfl rfl rfl ?_
      first | refine WL.move rfl rfl rfl ?_
      refine WL.call [.pointer (some ⟨p, 0, none⟩), .int .i64 (k : Int)] enter14 rfl rfl rfl (deliver_any h4.nt (k : Int)) ?_
      rintro x5 w5 (⟨_, rfl, l5⟩ | ⟨y', v'', hy', _⟩)
      rotate_left
      · rw [lk_del_self] at hy'; cases hy'
      refine ⟨_, rfl, ?_⟩
      obtain ⟨q9, w5a, w6, ra', rs', b9, l6, hq9⟩ := newF w5 Fl.z Fl.z_sh
      have l46 := bt l5 l6
      have h6 := h4.on l46
      have b76 := b74.on l46
      obtain ⟨ad6, ix6, lx6⟩ := h6.get hk'
      first | refine WL.move rfl rfl rfl ?_
      first | refine WL.extract rfl rfl rfl (ext_2 _ _ _).1 ?_
      first | refine WL.extract rfl rfl rfl (ext_2 _ _ _).2 ?_
      refine WL.new rfl rfl ra' ?_
      refine WL.store rfl rfl rfl rs' ?_
      first | refine WL.assign rfl rfl rfl ?_
      refine WL.done ?_
      refine EW.on ?_
      refine EW.seq ?_
      refine EW.ordB [(0, 0, 0), (1, 0, 0), (2, 0, 0), (3, 0, 1), (4, 0, 0), (5, 0, 0), (6, 0, 0), (7, 0, 0), (8, 0, 1), (9, 1, 1), (10, 0, 0), (11, 0, 0), (12, 0, 0), (13, 0, 0), (14, 0, 0), (15, 0, 0)] (by kernel_rfl) rfl (by kernel_rfl) ?_
      simp only [opsZ, List.getD_cons_zero, List.getD_cons_succ]
      first | refine ZE.move rfl rfl rfl rfl sz0 ?_
      refine ZE.bin rfl rfl rfl rfl rfl sz0 (fun W => int_eq_t rfl W _ _) ?_
      first | refine ZE.move rfl rfl rfl rfl sz0 ?_
      refine ZE.load rfl rfl rfl rfl sz1 (fun W hW => ld36 (b76.on (sb_of hW))) ?_
      first | refine ZE.move rfl rfl rfl rfl sz0 ?_ | refine ZE.skip rfl rfl rfl sz0 ?_
      first | refine ZE.move rfl rfl rfl rfl sz0 ?_ | refine ZE.skip rfl rfl rfl sz0 ?_
      refine ZE.index rfl rfl rfl rfl rfl sz0 (fun W => ix6 W) ?_
      refine ZE.field rfl rfl rfl rfl sz0 (fun W => f44_0 ad6 W) ?_
      refine ZE.load rfl rfl rfl rfl sz1 (fun W hW => (lx6 W (h6.on (sb_of hW)).sl).2.1) ?_
      refine ZE.callV [Fl.g ⟨y.n, y.f, y.t, v', y.b⟩, s.x.g] (.bool true) (fun W => Below w6.heap.size w6 W) enter26 rfl rfl rfl (fun _ h => .inr h) (fun W hW => (same_yes ⟨y.n, y.f, y.t, v', y.b⟩ s.x W ((hv4.below l46).below hW) (((h6.hs _ (List.mem_of_getElem? hk')).1).below hW) hyd).mono fun e w' ⟨h1, h2⟩ => ⟨h1, bt hW h2⟩) ?_
      first | refine ZE.pick rfl rfl rfl rfl rfl sz0 ?_
      first | refine ZE.move rfl rfl rfl rfl sz0 ?_
      first | refine ZE.move rfl rfl rfl rfl sz0 ?_ | refine ZE.skip rfl rfl rfl sz0 ?_
      refine ZE.bin rfl rfl rfl rfl rfl sz0 (fun W => int_eq_t rfl W _ _) ?_
      first | refine ZE.pick rfl rfl rfl rfl rfl sz0 ?_
      first | refine ZE.assign rfl rfl rfl rfl sz0 ?_
      rintro W6 hW6
      refine EW.on ?_
      refine EW.ret ?_
      exact EW.returns Try.results15 rfl ⟨rfl, delE E (k : Int), by rw [here_clr, clr_some hk]; exact h6.on hW6⟩
end Go.Proofs.Ytplfelfmkgjijaa
