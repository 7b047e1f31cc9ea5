import Derived.Test.YtplfelfmkgjijaaNs
import Derived.Test.YtplfelfmkgjijaaNo
set_option linter.unusedVariables false
set_option linter.unusedSimpArgs false
namespace Go.Proofs.Ytplfelfmkgjijaa
open Go.RowKit

def saE (va vb : Value) (i : Nat) : List (Nat × Value) := [(0, va), (1, vb), (5, .int .i64 (i : Int))]
def saR (w : World) (n i : Nat) (W : World) : Prop := i ≤ n ∧ Below w.heap.size w W
theorem map_at {la lb : List Fl} (e : la.map Fl.d = lb.map Fl.d) {i : Nat} {x : Fl} (hx : la[i]? = some x) : ∃ y, lb[i]? = some y ∧ x.d = y.d := by
  have h1 : (la.map Fl.d)[i]? = some x.d := by rw [List.getElem?_map, hx]; rfl
  rw [e, List.getElem?_map] at h1
  cases hy : lb[i]? with
  | none => rw [hy] at h1; cases h1
  | some y => rw [hy] at h1; simp only [Option.map_some, Option.some.injEq] at h1; exact ⟨y, rfl, h1.symm⟩
set_option maxRecDepth 100000 in
set_option maxHeartbeats 4000000 in
theorem sameAll_yes (va vb : Value) (la lb : List Fl) (w : World) (ha : Fs w va la) (hb : Fs w vb lb) (hxa : ∀ x ∈ la, Has w x.v x.b) (hxb : ∀ x ∈ lb, Has w x.v x.b) (e : la.map Fl.d = lb.map Fl.d) (hl : la.length ≤ 100000) : Calls Try.prog 18 #[va, vb] w fun e w' => e = .returned (.bool true) ∧ Below w.heap.size w w' := by
  have hlen : la.length = lb.length := by have := congrArg List.length e; simpa using this
  refine calls_of_args [va, vb] Try.func18 rfl 27 Try.ntmps18 (by show 2 ≤ 27; decide) ?_
  refine EW.seq ?_
  refine EW.region ?_
  first | refine WL.assign rfl rfl rfl ?_
  refine WL.done ?_
  refine EW.on ?_
  refine EW.seq ?_
  refine EW.seq ?_
  refine EW.region ?_
  first | refine WL.move rfl rfl rfl ?_
  refine WL.len rfl rfl rfl (ha.len _ _) ?_
  first | refine WL.move rfl rfl rfl ?_
  refine WL.len rfl rfl rfl (hb.len _ _) ?_
  refine WL.bin rfl rfl rfl rfl (int_ne_f (by rw [hlen]) _ _ _) ?_
  refine WL.done ?_
  refine EW.on ?_
  refine EW.cond_f rfl ?_
  refine EW.skip ?_
  refine EW.on ?_
  refine EW.seq ?_
  refine EW.seq ?_
  refine EW.region ?_
  first | refine WL.assign rfl rfl rfl ?_
  refine WL.done ?_
  refine EW.on ?_
  refine EW.block ?_
  refine EW.loop (saE va vb) (saR w la.length) (fun i => la.length - i) 0 [0, 1, 5] rfl ⟨Nat.zero_le _, Below.refl _ _⟩ ?_
  rintro i wi ⟨hil, be⟩
  show EW _ _ _ _ [(0, va), (1, vb), (5, .int .i64 (i : Int))] _
  refine EW.seq ?_
  refine EW.seq ?_
  refine EW.region ?_
  first | refine WL.move rfl rfl rfl ?_
  first | refine WL.move rfl rfl rfl ?_
  refine WL.len rfl rfl rfl (ha.len _ _) ?_
  refine WL.bin rfl rfl rfl rfl (int_lt_d _ _ _ _ _) ?_
  refine WL.done ?_
  refine EW.on ?_
  refine EW.cond_d rfl (fun h14 => ?_) (fun h14 => ?_)
  · refine EW.skip ?_
    refine EW.on ?_
    refine EW.seq ?_
    refine EW.block ?_
    refine EW.seq ?_
    obtain ⟨x, hx⟩ : ∃ x, la[i]? = some x := ⟨_, List.getElem?_eq_getElem (by omega)⟩
    obtain ⟨y, hy, hd⟩ := map_at e hx
    obtain ⟨ada, ixa, lxa⟩ := ha.get hx
    obtain ⟨adb, ixb, lxb⟩ := hb.get hy
    refine EW.ordB [(0, 0, 0), (1, 0, 0), (2, 0, 0), (3, 0, 1), (4, 0, 0), (5, 0, 0), (6, 0, 0), (7, 0, 1), (8, 1, 1), (9, 0, 0)] (by kernel_rfl) rfl (by kernel_rfl) ?_
    simp only [opsZ, List.getD_cons_zero, List.getD_cons_succ]
    first | refine ZE.move rfl rfl rfl rfl sz0 ?_
    first | refine ZE.move rfl rfl rfl rfl sz0 ?_
    refine ZE.index rfl rfl rfl rfl rfl sz0 (fun W => ixa W) ?_
    refine ZE.load rfl rfl rfl rfl sz1 (fun W hW => (lxa W (ha.on (bt be (sb_of hW)))).1) ?_
    first | refine ZE.move rfl rfl rfl rfl sz0 ?_
    first | refine ZE.move rfl rfl rfl rfl sz0 ?_
    refine ZE.index rfl rfl rfl rfl rfl sz0 (fun W => ixb W) ?_
    refine ZE.load rfl rfl rfl rfl sz1 (fun W hW => (lxb W (hb.on (bt be (sb_of hW)))).1) ?_
    refine ZE.callV [x.g, y.g] (.bool true) (fun W => Below wi.heap.size wi W) enter26 rfl rfl rfl (fun _ h => .inr h) (fun W hW => (same_yes x y W ((hxa x (List.mem_of_getElem? hx)).below (bt be hW)) ((hxb y (List.mem_of_getElem? hy)).below (bt be hW)) hd).mono fun e w' ⟨h1, h2⟩ => ⟨h1, bt hW h2⟩) ?_
    refine ZE.un rfl rfl rfl rfl sz0 (fun W => not_b _ W) ?_
    rintro W6 hW6
    refine EW.on ?_
    refine EW.cond_f rfl ?_
    refine EW.skip ?_
    refine pn_block ?_
    refine EW.on ?_
    refine EW.region ?_
    first | refine WL.move rfl rfl rfl ?_
    refine WL.bin rfl rfl rfl rfl (int_add (c := ((i + 1 : Nat) : Int)) (by rw [IntKind.wrap_i64]; omega) _ _ _) ?_
    first | refine WL.assign rfl rfl rfl ?_
    refine WL.done ?_
    exact EW.again (E := saE va vb) (R := saR w la.length) (m := fun i => la.length - i) (x := i) (i + 1) [0, 1, 5] rfl ⟨by omega, bt be hW6⟩ (by show la.length - (i + 1) < la.length - i; omega)
  · refine EW.exit ?_
    refine px_then ?_
    refine px_then ?_
    refine px_block ?_
    refine EW.on ?_
    refine EW.seq ?_
    refine EW.region ?_
    first | refine WL.assign rfl rfl rfl ?_
    refine WL.done ?_
    refine EW.on ?_
    refine EW.ret ?_
    exact EW.returns Try.results18 rfl ⟨rfl, be⟩
theorem dat_at {E : List Me} {R : List Fl} (eq : dat E = R.map Fl.d) {i : Nat} {y : Fl} (hy : R[i]? = some y) : ∃ m, E[i]? = some m ∧ m.x.d = y.d := by
  have h1 : (R.map Fl.d)[i]? = some y.d := by rw [List.getElem?_map, hy]; rfl
  rw [← eq, dat, List.getElem?_map] at h1
  cases hm : E[i]? with
  | none => rw [hm] at h1; cases h1
  | some m => rw [hm] at h1; simp only [Option.map_some, Option.some.injEq] at h1; exact ⟨m, rfl, h1⟩
theorem dat_n {E : List Me} {R : List Fl} (eq : dat E = R.map Fl.d) : (E.map fun m => m.x.n) = R.map fun x => x.n := by
  have h := congrArg (List.map fun d : Dt => d.1) eq
  unfold dat at h
  rw [List.map_map, List.map_map] at h
  exact h
theorem dat_len {E : List Me} {R : List Fl} (eq : dat E = R.map Fl.d) : E.length = R.length := by
  have := congrArg List.length eq
  simpa [dat] using this
theorem link_none {E : List Me} {R : List Fl} (eq : dat E = R.map Fl.d) {k : Int} (h : ∀ y ∈ R, y.n ≠ k) : lkE E k = none := lk_of_none fun m hm e => by
  have h1 : m.x.n ∈ R.map fun x => x.n := by rw [← dat_n eq]; exact List.mem_map.2 ⟨m, hm, rfl⟩
  obtain ⟨y, hy, hyn⟩ := List.mem_map.1 h1
  exact h y hy (by rw [hyn, ← e])
theorem me_uniq {E : List Me} (hnd : (E.map fun m => m.x.n).Nodup) {i j : Nat} {a b : Me} (ha : E[i]? = some a) (hb : E[j]? = some b) (e : a.x.n = b.x.n) : i = j := by
  have hi : (E.map fun m => m.x.n)[i]? = some a.x.n := by rw [List.getElem?_map, ha]; rfl
  have hj : (E.map fun m => m.x.n)[j]? = some a.x.n := by rw [List.getElem?_map, hb, e]; rfl
  exact (List.getElem?_inj (List.getElem?_eq_some_iff.1 hi).1 hnd).1 (by rw [hi, hj])
theorem link_some {E : List Me} {R : List Fl} (eq : dat E = R.map Fl.d) (hnd : (E.map fun m => m.x.n).Nodup) {k : Int} {i : Nat} {y : Fl} (hy : R[i]? = some y) (hyk : y.n = k) : (∃ x, lkE E k = some x ∧ x.d = y.d) ∧ dat (delE E k) = (R.take i ++ R.drop (i + 1)).map Fl.d := by
  obtain ⟨m, hm, hd⟩ := dat_at eq hy
  have hmk : m.x.n = k := by
    have : m.x.d.1 = y.d.1 := by rw [hd]
    exact this.trans hyk
  refine ⟨?_, ?_⟩
  · obtain ⟨x, hx⟩ := lk_key (E := E) (k := k) (List.mem_map.2 ⟨m, List.mem_of_getElem? hm, hmk⟩)
    obtain ⟨m', hm', rfl, hk'⟩ := lk_some hx
    obtain ⟨j, hj⟩ := List.mem_iff_getElem?.1 hm'
    have e := me_uniq hnd hm hj (by rw [hmk, hk'])
    rw [e, hj] at hm
    cases hm
    exact ⟨_, hx, hd⟩
  · have hi := (List.getElem?_eq_some_iff.1 hm).1
    have hdec : E = E.take i ++ (m :: E.drop (i + 1)) := by
      have h2 : E[i] = m := by rw [List.getElem?_eq_getElem hi] at hm; exact Option.some.inj hm
      rw [← h2, ← List.drop_eq_getElem_cons hi, List.take_append_drop]
    have hdel : delE E k = E.take i ++ E.drop (i + 1) := by
      have hne : ∀ (j : Nat) (a : Me), j ≠ i → E[j]? = some a → ¬ k = a.x.n := fun j a hj ha e => hj (me_uniq hnd ha hm (by rw [← e, hmk]))
      unfold delE
      conv => lhs; rw [hdec]
      rw [List.filter_append, List.filter_cons_of_neg (by simp [hmk])]
      congr 1
      · refine List.filter_eq_self.2 fun a ha => ?_
        obtain ⟨j, hj⟩ := List.mem_iff_getElem?.1 ha
        rw [List.getElem?_take] at hj
        split at hj
        · rw [decide_eq_false (hne j a (by omega) hj)]; rfl
        · cases hj
      · refine List.filter_eq_self.2 fun a ha => ?_
        obtain ⟨j, hj⟩ := List.mem_iff_getElem?.1 ha
        rw [List.getElem?_drop] at hj
        rw [decide_eq_false (hne _ a (by omega) hj)]; rfl
    have e1 : dat (delE E k) = (dat E).take i ++ (dat E).drop (i + 1) := by
      rw [hdel]
      unfold dat
      rw [List.map_append, List.map_take, List.map_drop]
    rw [e1, eq, List.map_append, List.map_take, List.map_drop]
/-- The net beside the document's. -/
structure Dk (w0 w : World) (p r q : Nat) (v : Value) (nodes most N : Int) (E : List Me) (c : Nat) (R : List Fl) : Prop where
  nt : Nt w p r nodes most N E c
  rn : Rn w q nodes most N v R
  eq : dat E = R.map Fl.d
  aE : ∀ m ∈ E, ∀ k, v.ownBlock = some k → Off m.x.v m.x.b k
  N0 : 0 ≤ N
  le : (E.length : Int) ≤ N
  be : Below w0.heap.size w0 w
  hp : w0.heap.size ≤ p
  hr : w0.heap.size ≤ r
  hq : w0.heap.size ≤ q
  hv : ∀ k, v.ownBlock = some k → w0.heap.size ≤ k
section
variable {w0 w w' : World} {p r q : Nat} {v : Value} {nodes most N : Int} {E : List Me} {c : Nat} {R : List Fl}
theorem Dk.on (h : Dk w0 w p r q v nodes most N E c R) (hb : Below w.heap.size w w') : Dk w0 w' p r q v nodes most N E c R := ⟨h.nt.on hb, h.rn.on hb, h.eq, h.aE, h.N0, h.le, h.be.trans (hb.mono h.be.size), h.hp, h.hr, h.hq, h.hv⟩
theorem Dk.nd (h : Dk w0 w p r q v nodes most N E c R) : (R.map fun x => x.n).Nodup := by rw [← dat_n h.eq]; exact h.nt.mp.nd
theorem Rn.neP (n : Nt w p r nodes most N E c) (h : Rn w q nodes most N v R) : p ≠ q ∧ r ≠ q ∧ v.ownBlock ≠ some p ∧ v.ownBlock ≠ some r := by
  refine ⟨n.bl.neT h.bl (by decide), fun e => ?_, h.fo.ow.neT n.bl (by decide), h.fo.ow.neM n.mp⟩
  have h1 := n.mp.hp
  have h2 := h.bl
  unfold Blk at h2
  rw [e, h2] at h1
  cases h1
/-- The document's net behind a call of the net. -/
theorem Dk.mid {w1 : World} (h : Dk w0 w p r q v nodes most N E c R) (f : Fx (fun k => k = p ∨ k = r) w w1) : Rn w1 q nodes most N v R := by
  obtain ⟨a1, a2, a3, a4⟩ := Rn.neP h.nt h.rn
  refine h.rn.fx f (fun e => ?_) (fun k hk e => ?_) (fun x hx k hk => ?_)
  · rcases e with e | e
    · exact a1 e.symm
    · exact a2 e.symm
  · rcases e with e | e
    · rw [e] at hk; exact a3 hk
    · rw [e] at hk; exact a4 hk
  · rcases hk with e | e
    · rw [e]; exact (h.rn.hs x hx).offB h.nt.bl (nob_net _ _ _ _)
    · rw [e]; exact map_off (h.rn.hs x hx) h.nt.mp.hp
theorem Dk.fin {w1 w2 : World} {N' : Int} {E' : List Me} {c' : Nat} {R' : List Fl} {v2 : Value} (h : Dk w0 w p r q v nodes most N E c R) (f : Fx (fun k => k = p ∨ k = r) w w1) (nt1 : Nt w1 p r nodes most N' E' c') (hE : ∀ m ∈ E', ∀ k, v.ownBlock = some k → Off m.x.v m.x.b k) (rn2 : Rn w2 q nodes most N' v2 R') (nw : Nw w1 v v2) (f2 : Fx (fun k => k = q ∨ v.ownBlock = some k) w1 w2) (eq : dat E' = R'.map Fl.d) (N0 : 0 ≤ N') (le : (E'.length : Int) ≤ N') : Dk w0 w2 p r q v2 nodes most N' E' c' R' := by
  have mid := h.mid f
  have a1 : p ≠ q := nt1.bl.neT mid.bl (by decide)
  have a2 : r ≠ q := fun e => by
    have h1 := nt1.mp.hp
    have h2 := mid.bl
    unfold Blk at h2
    rw [e, h2] at h1
    cases h1
  have a3 := mid.fo.ow.neT nt1.bl (by decide)
  have a4 := mid.fo.ow.neM nt1.mp
  refine ⟨nt1.fx f2 (fun e => ?_) (fun e => ?_) (fun m hm k hk => ?_), rn2, eq, fun m hm k hk => ?_, N0, le, ?_, h.hp, h.hr, h.hq, fun k hk => ?_⟩
  · rcases e with e | e
    · exact a1 e
    · exact a3 e
  · rcases e with e | e
    · exact a2 e
    · exact a4 e
  · rcases hk with e | e
    · rw [e]; exact (nt1.hs m hm).offB mid.bl mid.nob
    · exact hE m hm k e
  · rcases nw k hk with e | e
    · exact hE m hm k e
    · exact off_of (nt1.hs m hm) e
  · have s1 := h.be.size
    exact (h.be.trans (f.below (fun k hk e => by have := h.hp; have := h.hr; omega) s1)).trans (f2.below (fun k hk e => by
      rcases e with e | e
      · have := h.hq; omega
      · have := h.hv k e; omega) (by have := f.size; omega))
  · rcases nw k hk with e | e
    · exact h.hv k e
    · have := h.be.size; have := f.size; omega
theorem dat_push {E : List Me} {R : List Fl} {x y : Fl} {c : Nat} (eq : dat E = R.map Fl.d) (e : x.d = y.d) : dat (E ++ [⟨x, c⟩]) = (R ++ [y]).map Fl.d := by
  unfold dat at *
  rw [List.map_append, List.map_append, eq]
  simp [e]
end
end Go.Proofs.Ytplfelfmkgjijaa
