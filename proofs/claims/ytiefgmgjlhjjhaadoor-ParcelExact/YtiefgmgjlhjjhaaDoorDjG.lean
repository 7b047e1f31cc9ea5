import Derived.Test.YtiefgmgjlhjjhaaDoorDh
set_option linter.unusedVariables false
set_option linter.unusedSimpArgs false
namespace Go.Proofs.YtiefgmgjlhjjhaaDoor
open Go.RowKit

attribute [local irreducible] sm sumOf cnt chk partB ptB lgL pM pI pN pA pS pC
/-- A parcel of the program and one of the document are one. -/
structure RelP (m : Me) (x : Rp) : Prop where
  p : x.p = m.p
  id : x.id = m.id
  n : x.n = m.c.n
  s : x.s = m.c.s
  h : x.h = m.c.h.take m.c.n
  t : x.t = m.c.t.take m.c.n
def Rel : List Me → List Rp → Prop
  | [], [] => True
  | m :: E, x :: L => RelP m x ∧ Rel E L
  | _, _ => False
theorem Rel.len : ∀ {E : List Me} {L : List Rp}, Rel E L → L.length = E.length
  | [], [], _ => rfl
  | m :: E, x :: L, h => by rw [List.length_cons, List.length_cons, Rel.len h.2]
  | [], _ :: _, h => h.elim
  | _ :: _, [], h => h.elim
theorem RelP.key {m : Me} {x : Rp} (h : RelP m x) (a : List UInt8) (id : Nat) : isK a id x = decide (a = m.p ∧ id = m.id) := by
  unfold isK
  rw [h.p, h.id, Bool.eq_iff_iff]
  simp only [Bool.and_eq_true, decide_eq_true_eq]
  constructor
  · rintro ⟨h1, h2⟩; exact ⟨h1.symm, h2.symm⟩
  · rintro ⟨h1, h2⟩; exact ⟨h1.symm, h2.symm⟩
theorem lk_cons (m : Me) (E : List Me) (a : List UInt8) (id : Nat) : lkE (m :: E) a id = if a = m.p ∧ id = m.id then some m.c else lkE E a id := by
  unfold lkE
  by_cases h : a = m.p ∧ id = m.id
  · rw [List.find?_cons_of_pos (by simpa using h), if_pos h]; rfl
  · rw [List.find?_cons_of_neg (by simpa using h), if_neg h]
theorem Rel.miss : ∀ {E : List Me} {L : List Rp}, Rel E L → ∀ {a : List UInt8} {id : Nat}, lkE E a id = none → L.findIdx? (isK a id) = none
  | [], [], _, a, id, _ => rfl
  | m :: E, x :: L, h, a, id, hk => by
    rw [lk_cons] at hk
    by_cases hh : a = m.p ∧ id = m.id
    · rw [if_pos hh] at hk; cases hk
    · rw [if_neg hh] at hk
      rw [List.findIdx?_cons, h.1.key, decide_eq_false hh, Rel.miss h.2 hk]; rfl
  | [], _ :: _, h, _, _, _ => h.elim
  | _ :: _, [], h, _, _, _ => h.elim
theorem Rel.hit : ∀ {E : List Me} {L : List Rp}, Rel E L → ∀ {a : List UInt8} {id : Nat} {c : Pc}, lkE E a id = some c → ∃ i x m, L.findIdx? (isK a id) = some i ∧ L[i]? = some x ∧ E[i]? = some m ∧ m.c = c ∧ RelP m x ∧ m.p = a ∧ m.id = id
  | [], [], _, a, id, c, hk => by cases hk
  | m :: E, x :: L, h, a, id, c, hk => by
    rw [lk_cons] at hk
    by_cases hh : a = m.p ∧ id = m.id
    · rw [if_pos hh] at hk
      cases hk
      refine ⟨0, x, m, ?_, rfl, rfl, rfl, h.1, hh.1.symm, hh.2.symm⟩
      rw [List.findIdx?_cons, h.1.key, decide_eq_true hh]; rfl
    · rw [if_neg hh] at hk
      obtain ⟨i, y, m', h1, h2, h3, h4⟩ := Rel.hit h.2 hk
      refine ⟨i + 1, y, m', ?_, by simpa using h2, by simpa using h3, h4⟩
      rw [List.findIdx?_cons, h.1.key, decide_eq_false hh, h1]; rfl
  | [], _ :: _, h, _, _, _, _ => h.elim
  | _ :: _, [], h, _, _, _, _ => h.elim
theorem Rel.snoc : ∀ {E : List Me} {L : List Rp}, Rel E L → ∀ {m : Me} {x : Rp}, RelP m x → Rel (E ++ [m]) (L ++ [x])
  | [], [], _, m, x, hp => ⟨hp, trivial⟩
  | m :: E, x :: L, h, _, _, hp => ⟨h.1, Rel.snoc h.2 hp⟩
  | [], _ :: _, h, _, _, _ => h.elim
  | _ :: _, [], h, _, _, _ => h.elim
theorem set_off {E : List Me} {a : List UInt8} {id : Nat} (h : ∀ m ∈ E, ¬ (a = m.p ∧ id = m.id)) (K : Pc) : setE E a id K = E := by
  unfold setE
  conv => rhs; rw [← List.map_id E]
  exact List.map_congr_left fun m hm => by rw [if_neg (h m hm)]; rfl
theorem nd_off {m : Me} {E : List Me} (h : ((m :: E).map fun m => (m.p, m.id)).Nodup) {a : List UInt8} {id : Nat} (hh : a = m.p ∧ id = m.id) : ∀ y ∈ E, ¬ (a = y.p ∧ id = y.id) := fun y hy hq => by
  rw [List.map_cons, List.nodup_cons] at h
  exact h.1 (List.mem_map.2 ⟨y, hy, by rw [← hq.1, ← hq.2, ← hh.1, ← hh.2]⟩)
theorem Rel.set : ∀ {E : List Me} {L : List Rp}, Rel E L → (E.map fun m => (m.p, m.id)).Nodup → ∀ {a : List UInt8} {id i : Nat} {K : Pc} {Y : Rp}, L.findIdx? (isK a id) = some i → (∀ m, E[i]? = some m → RelP { m with c := K } Y) → Rel (setE E a id K) (L.set i Y)
  | [], [], _, _, a, id, i, K, Y, hf, _ => by cases hf
  | m :: E, x :: L, h, hnd, a, id, i, K, Y, hf, hY => by
    rw [List.findIdx?_cons, h.1.key] at hf
    by_cases hh : a = m.p ∧ id = m.id
    · rw [decide_eq_true hh] at hf
      simp only [if_true, Option.some.injEq] at hf
      subst hf
      have e : setE (m :: E) a id K = { m with c := K } :: setE E a id K := by unfold setE; rw [List.map_cons, if_pos hh]
      rw [e, set_off (nd_off hnd hh)]
      exact ⟨hY m rfl, h.2⟩
    · rw [decide_eq_false hh] at hf
      simp only [Bool.false_eq_true, if_false] at hf
      cases hq : L.findIdx? (isK a id) with
      | none => rw [hq] at hf; cases hf
      | some j =>
        rw [hq] at hf
        simp only [Option.map_some, Option.some.injEq] at hf
        subst hf
        have e : setE (m :: E) a id K = m :: setE E a id K := by unfold setE; rw [List.map_cons, if_neg hh]
        rw [e, List.set_cons_succ]
        rw [List.map_cons, List.nodup_cons] at hnd
        exact ⟨h.1, Rel.set h.2 hnd.2 hq (fun m' hm' => hY m' (by simpa using hm'))⟩
  | [], _ :: _, h, _, _, _, _, _, _, _, _ => h.elim
  | _ :: _, [], h, _, _, _, _, _, _, _, _ => h.elim
theorem Rel.del : ∀ {E : List Me} {L : List Rp}, Rel E L → (E.map fun m => (m.p, m.id)).Nodup → ∀ {a : List UInt8} {id i : Nat}, L.findIdx? (isK a id) = some i → Rel (delE E a id) (L.take i ++ L.drop (i + 1))
  | [], [], _, _, a, id, i, hf => by cases hf
  | m :: E, x :: L, h, hnd, a, id, i, hf => by
    rw [List.findIdx?_cons, h.1.key] at hf
    by_cases hh : a = m.p ∧ id = m.id
    · rw [decide_eq_true hh] at hf
      simp only [if_true, Option.some.injEq] at hf
      subst hf
      have e : delE (m :: E) a id = E := by
        unfold delE
        rw [List.filter_cons_of_neg (by simpa using hh)]
        exact List.filter_eq_self.2 fun y hy => by rw [decide_eq_false (nd_off hnd hh y hy)]; rfl
      rw [e]
      simpa using h.2
    · rw [decide_eq_false hh] at hf
      simp only [Bool.false_eq_true, if_false] at hf
      cases hq : L.findIdx? (isK a id) with
      | none => rw [hq] at hf; cases hf
      | some j =>
        rw [hq] at hf
        simp only [Option.map_some, Option.some.injEq] at hf
        subst hf
        have e : delE (m :: E) a id = m :: delE E a id := by unfold delE; rw [List.filter_cons_of_pos (by rw [decide_eq_false hh]; rfl)]
        rw [e]
        rw [List.map_cons, List.nodup_cons] at hnd
        have := Rel.del h.2 hnd.2 hq
        simpa using ⟨h.1, this⟩
  | [], _ :: _, h, _, _, _, _, _ => h.elim
  | _ :: _, [], h, _, _, _, _, _ => h.elim
theorem Rel.drop : ∀ {E : List Me} {L : List Rp}, Rel E L → ∀ (a : List UInt8), Rel (E.filter (notP a)) (L.filter (notR a))
  | [], [], _, a => trivial
  | m :: E, x :: L, h, a => by
    have e : notR a x = notP a m := by unfold notR notP; rw [h.1.p]
    by_cases hh : notP a m = true
    · rw [List.filter_cons_of_pos hh, List.filter_cons_of_pos (by rw [e]; exact hh)]
      exact ⟨h.1, Rel.drop h.2 a⟩
    · rw [List.filter_cons_of_neg hh, List.filter_cons_of_neg (by rw [e]; exact hh)]
      exact Rel.drop h.2 a
  | [], _ :: _, h, _ => h.elim
  | _ :: _, [], h, _ => h.elim
/-- Whole is whole. -/
theorem RelP.all {m : Me} {x : Rp} (h : RelP m x) (hs : m.c.sh) : m.c.all = rall x.h := by
  have hn := hs.n2
  have hg : ∀ i, i < m.c.n → ∃ b, m.c.h[i]? = some b ∧ x.h[i]? = some b := fun i hi => by
    have hl : i < m.c.h.length := by rw [hs.h]; omega
    refine ⟨m.c.h[i], List.getElem?_eq_getElem hl, ?_⟩
    rw [h.h, List.getElem?_take, if_pos hi, List.getElem?_eq_getElem hl]
  have hxl : x.h.length = m.c.n := by rw [h.h, List.length_take, hs.h]; omega
  unfold Pc.all
  by_cases hz : (m.c.mis m.c.n).length = 0
  · rw [decide_eq_true hz, rall_t]
    intro i hi
    obtain ⟨b, h1, h2⟩ := hg i (by omega)
    have hz' := List.eq_nil_of_length_eq_zero hz
    unfold Pc.mis at hz'
    rw [List.filter_eq_nil_iff] at hz'
    have := hz' i (List.mem_range.2 (by omega))
    rw [List.getD_eq_getElem?_getD, h1] at this
    rw [h2]
    simpa using this
  · rw [decide_eq_false hz]
    obtain ⟨i, hi⟩ : ∃ i, i ∈ m.c.mis m.c.n := by
      cases hq : m.c.mis m.c.n with
      | nil => rw [hq] at hz; exact absurd rfl hz
      | cons i r => exact ⟨i, by simp⟩
    unfold Pc.mis at hi
    rw [List.mem_filter, List.mem_range] at hi
    obtain ⟨b, h1, h2⟩ := hg i hi.1
    have h3 := hi.2
    rw [List.getD_eq_getElem?_getD, h1] at h3
    have hb : b = false := by simpa using h3
    rw [rall_f (i := i) (by rw [h2, hb])]
theorem RelP.txt {m : Me} {x : Rp} (h : RelP m x) : m.c.txt = x.t.flatten := by unfold Pc.txt; rw [h.t]
theorem RelP.mis {m : Me} {x : Rp} (h : RelP m x) : rmis x.h x.n = m.c.mis m.c.n := by
  unfold rmis Pc.mis
  rw [h.n]
  refine List.filter_congr fun i hi => ?_
  have := List.mem_range.1 hi
  rw [h.h, List.getD_eq_getElem?_getD, List.getD_eq_getElem?_getD, List.getElem?_take, if_pos this]
theorem take_setL {α : Type} (l : List α) (n i : Nat) (x : α) : (l.set i x).take n = (l.take n).set i x := List.take_set
/-- One part more on both sides. -/
theorem RelP.put {m : Me} {x : Rp} (h : RelP m x) (i : Nat) (u u' : Value) (b : List UInt8) : RelP { m with c := m.c.put i u b } (x.put i u' b) := ⟨h.p, h.id, h.n, h.s, by show x.h.set i true = (m.c.h.set i true).take m.c.n; rw [take_setL, ← h.h], by show x.t.set i b = (m.c.t.set i b).take m.c.n; rw [take_setL, ← h.t]⟩
theorem RelP.new {m : Me} {x : Rp} (h : RelP m x) (vi vt : Value) : RelP m (x.new vi vt) := ⟨h.p, h.id, h.n, h.s, h.h, h.t⟩
theorem RelP.mk0 (a c : List UInt8) (b : Nat) (vi vt : Value) (hn : pN c ≤ 64) : RelP ⟨a, pI c, Pc.mk0 (pN c) (pS c), b⟩ (Rp.x0 a c vi vt) := ⟨rfl, rfl, rfl, rfl, by show List.replicate (pN c) false = (List.replicate 64 false).take (pN c); rw [List.take_replicate, Nat.min_eq_left hn], by show List.replicate (pN c) [] = (List.replicate 64 []).take (pN c); rw [List.take_replicate, Nat.min_eq_left hn]⟩
end Go.Proofs.YtiefgmgjlhjjhaaDoor
set_option linter.unusedVariables false
set_option linter.unusedSimpArgs false
namespace Go.Proofs.YtiefgmgjlhjjhaaDoor
open Go.RowKit

attribute [local irreducible] sm sumOf cnt chk partB ptB lgL pM pI pN pA pS pC
/-- A block that holds nothing of the document's contents. -/
def RtB (L : List Rp) (k : Nat) : Prop := ∀ x ∈ L, ∀ (i : Nat) v b, x.ts[i]? = some v → x.t[i]? = some b → v.ownBlock ≠ some k
theorem Rt.fxM {w w' : World} {q : Nat} {v : Value} {most : Nat} {L : List Rp} (h : Rt w q v most L) {r : Nat} {es : Array MapEntry} {c : Nat} (hr : w.heap[r]? = some (.map es c)) (hf : Fx (fun k => k = r) w w') : Rt w' q v most L :=
  ⟨h.bl.fx hf (h.bl.neM hr), h.ow.fx hf (fun b hb e => by have e' : b = r := e; rw [e'] at hb; exact h.ow.neM hr hb), fun x hx => (h.hs x hx).fx hf (fun b hb e => by have e' : b = r := e; rw [e'] at hb; exact (h.hs x hx).bi.neM hr hb) (fun b hb e => by have e' : b = r := e; rw [e'] at hb; exact (h.hs x hx).pt.neM hr hb) (fun i u t hu ht k hk => by have e' : k = r := hk; rw [e']; exact ((h.hs x hx).hx i u t hu ht).neM hr)⟩
theorem Tr.offNew {w : World} {p r most : Nat} {E : List Me} {c : Nat} (h : Tr w p r most E c) {b : Nat} (hb : w.heap.size ≤ b) : TrB E b := fun m hm i v t hv ht => by
  by_cases e : v.ownBlock = some b
  · rcases ((h.hs m hm).has i v t hv ht).blk e with h1 | h1
    · exact .inl h1
    · omega
  · exact .inr e
theorem Rt.offNew {w : World} {q : Nat} {v : Value} {most : Nat} {L : List Rp} (h : Rt w q v most L) {b : Nat} (hb : w.heap.size ≤ b) : RtB L b := fun x hx i u t hu ht e => by
  have := (((h.hs x hx).hx i u t hu ht).lt e).1
  omega
theorem ad_err {E : List Me} {most : Nat} {a c : List UInt8} {e : Int} (h : adE E most a c = e) (he : ¬ e = 0) : adI E most a c = 0 ∧ adW E most a c = false ∧ ∀ u c0, adL E most a c u c0 = E := by
  have hz : ¬ adE E most a c = 0 := by rw [h]; exact he
  refine ⟨?_, ?_, fun u c0 => ?_⟩
  · unfold adI; rw [if_neg hz]
  · unfold adW; rw [if_neg hz]
  · unfold adL; rw [if_neg hz]
theorem ad_ok {E : List Me} {most : Nat} {a c : List UInt8} (h : adE E most a c = 0) : adI E most a c = pI c ∧ adW E most a c = adA E most a c ∧ ∀ u c0, adL E most a c u c0 = upE E a (pI c) (adQ E most a c u) c0 := by
  refine ⟨?_, ?_, fun u c0 => ?_⟩
  · unfold adI; rw [if_pos h]
  · unfold adW; rw [if_pos h]
  · unfold adL; rw [if_pos h]
def AdP (E : List Me) (most : Nat) (a c : List UInt8) (q : Nat) (v : Value) (L : List Rp) (w : World) (e : Ending) (w' : World) : Prop := e = .returned (.tuple #[u32v (adI E most a c), .bool (adW E most a c), .int .i64 (adE E most a c)]) ∧ ∃ v' L', Rt w' q v' most L' ∧ (∀ u c0, Rel (adL E most a c u c0) L') ∧ (∀ b, v'.ownBlock = some b → v.ownBlock = some b ∨ w.heap.size ≤ b) ∧ (∀ k, k < w.heap.size → RtB L k → RtB L' k) ∧ Fx (fun k => k = q ∨ v.ownBlock = some k) w w'
theorem ad_no {E : List Me} {L : List Rp} (hrel : Rel E L) {most : Nat} {a c : List UInt8} {q : Nat} {v : Value} {w w' : World} (ht : Rt w q v most L) {er : Int} (h : adE E most a c = er) (he : ¬ er = 0) (hb : Below w.heap.size w w') {e : Ending} (hE : e = .returned (.tuple #[u32v 0, .bool false, .int .i64 er])) : AdP E most a c q v L w e w' := by
  obtain ⟨h1, h2, h3⟩ := ad_err h he
  refine ⟨by rw [h1, h2, h]; exact hE, v, L, ht.on hb, fun u c0 => by rw [h3]; exact hrel, fun b hb => .inl hb, fun k _ hk => hk, Fx.of_below hb⟩
theorem RtB.put {L : List Rp} {k : Nat} {x : Rp} (h : ∀ (i : Nat) v b, x.ts[i]? = some v → x.t[i]? = some b → v.ownBlock ≠ some k) {i : Nat} {u : Value} {b : List UInt8} (hu : u.ownBlock ≠ some k) (hl : x.ts.length = x.t.length) : ∀ (j : Nat) v t, (x.put i u b).ts[j]? = some v → (x.put i u b).t[j]? = some t → v.ownBlock ≠ some k := fun j v t hv ht => by
  have hv' : (x.ts.set i u)[j]? = some v := hv
  have ht' : (x.t.set i b)[j]? = some t := ht
  rw [List.getElem?_set] at hv' ht'
  by_cases e : i = j
  · rw [if_pos e] at hv'
    split at hv'
    · cases hv'; exact hu
    · cases hv'
  · rw [if_neg e] at hv' ht'
    exact h j v t hv' ht'
set_option maxHeartbeats 2000000 in
/-- The document's Add beside the program's. -/
theorem doc_add {E : List Me} {L : List Rp} (hrel : Rel E L) (hnd : (E.map fun m => (m.p, m.id)).Nodup) (hsh : ∀ m ∈ E, m.c.sh) (q : Nat) (v : Value) (most : Nat) (hL : L.length ≤ 1000) (a : List UInt8) (v0 : Value) (c : List UInt8) (w : World) (ht : Rt w q v most L) (hv : Has w v0 c) (hl : c.length ≤ 140737488355328) (hRs : Rst w) (hBs : Bst w) : Calls Tryd.prog 31 #[.pointer (some ⟨q, 0, none⟩), sv a, v0] w (AdP E most a c q v L w) := by
  cases hnm : nmB a with
  | false =>
    refine (radd_nm q a v0 c w hv hl hnm).mono fun e w' ⟨h1, h2⟩ => ?_
    exact ad_no hrel ht (er := 212) (by unfold adE; rw [if_pos hnm]) (by decide) (h2 ▸ Below.refl _ _) h1
  | true =>
  cases hok : okP c with
  | false =>
    refine (radd_bad q a v0 c w hv hl hnm hok).mono fun e w' ⟨h1, h2⟩ => ?_
    exact ad_no hrel ht (er := 260) (by unfold adE; rw [if_neg (by rw [hnm]; decide), if_pos hok]) (by decide) h2 h1
  | true =>
  obtain ⟨K1, K2, K3, K4, K5, K6, K7⟩ := ok_is hok
  have hE0 : ∀ er, adH E most a c = er → ¬ er = 0 → adE E most a c = er := fun er h he => by
    unfold adE; rw [if_neg (by rw [hnm]; decide), if_neg (by rw [hok]; decide), if_pos (by rw [h]; exact he), h]
  have hE1 : adH E most a c = 0 → (adA E most a c = true ∧ ¬ sm (adQ E most a c u0).txt = (adQ E most a c u0).s) → adE E most a c = 101 := fun h hh => by
    unfold adE; rw [if_neg (by rw [hnm]; decide), if_neg (by rw [hok]; decide), if_neg (fun hn => hn h), if_pos hh]
  have hE2 : adH E most a c = 0 → ¬ (adA E most a c = true ∧ ¬ sm (adQ E most a c u0).txt = (adQ E most a c u0).s) → adE E most a c = 0 := fun h hh => by
    unfold adE; rw [if_neg (by rw [hnm]; decide), if_neg (by rw [hok]; decide), if_neg (fun hn => hn h), if_neg hh]
  cases hk : lkE E a (pI c) with
  | none =>
    have ahn := fun u => ah_none (most := most) (x := adX c u) hk
    refine (radd_none q v most L hL a v0 c w ht hv hl hRs hBs hnm hok (hrel.miss hk)).mono fun e w' h => ?_
    rcases h with ⟨f1, f2, f3⟩ | ⟨f1, vi, vt, u, hub, f2⟩
    · exact ad_no hrel ht (er := 120) (hE0 120 (by unfold adH; rw [ahn, if_pos (by rw [← hrel.len]; exact f1)]) (by decide)) (by decide) f3 f2
    · have hlt : ¬ most ≤ E.length := by rw [← hrel.len]; exact f1
      have hH : adH E most a c = 0 := by unfold adH; rw [ahn, if_neg hlt]
      have hQ : ∀ u', adQ E most a c u' = (Pc.mk0 (pN c) (pS c)).put (pA c) u' (pC c) := fun u' => by unfold adQ; rw [ahn, if_neg hlt]; rfl
      have R0 : ∀ b u', RelP ⟨a, pI c, (Pc.mk0 (pN c) (pS c)).put (pA c) u' (pC c), b⟩ ((Rp.x0 a c vi vt).put (pA c) u (pC c)) := fun b u' => (RelP.mk0 a c b vi vt K4).put (pA c) u' u (pC c)
      have sh0 : ((Pc.mk0 (pN c) (pS c)).put (pA c) u0 (pC c)).sh := Pc.put_sh (Pc.sh0 K4 K6) _ ⟨_, _, _, rfl⟩ _
      have hA : adA E most a c = rall ((Rp.x0 a c vi vt).put (pA c) u (pC c)).h := by unfold adA; rw [hQ]; exact (R0 0 u0).all sh0
      have hT : (adQ E most a c u0).txt = ((Rp.x0 a c vi vt).put (pA c) u (pC c)).t.flatten := by rw [hQ]; exact (R0 0 u0).txt
      have hS : (adQ E most a c u0).s = pS c := by rw [hQ]; rfl
      rw [← hA, ← hT] at f2
      rcases f2 with ⟨g1, g2, g3, g4⟩ | ⟨g1, g2, v', g3, g4, g5⟩
      · exact ad_no hrel ht (er := 101) (hE1 hH ⟨g1, by rw [hS]; exact g2⟩) (by decide) g4 g3
      · have e0 := hE2 hH (by rw [hS]; exact g1)
        obtain ⟨h1, h2, h3⟩ := ad_ok e0
        refine ⟨by rw [h1, h2, e0]; exact g2, v', _, g3, fun u' c0 => ?_, g4, fun k hk1 hk2 x hx => ?_, g5⟩
        · rw [h3, hQ]
          unfold upE
          rw [hk]
          exact hrel.snoc (R0 c0 u')
        · rcases List.mem_append.1 hx with h | h
          · exact hk2 x h
          · rw [List.mem_singleton.1 h]
            refine RtB.put (L := L) (fun i z b hz _ => ?_) (fun e => by have := hub k e; omega) (by show (List.replicate _ _).length = (List.replicate _ _).length; rw [List.length_replicate, List.length_replicate])
            rw [List.eq_of_mem_replicate (show z ∈ List.replicate (pN c) (Value.slice none 0 0) from List.mem_of_getElem? hz)]
            intro e; cases e
  | some cc =>
    obtain ⟨ki, y, m, i1, i2, i3, i4, i5, i6, i7⟩ := hrel.hit hk
    have ahs := fun u => ah_some (most := most) (x := adX c u) hk
    have hsm := hsh m (List.mem_of_getElem? i3)
    have hyn : y.n = cc.n := by rw [i5.n, i4]
    have hys : y.s = cc.s := by rw [i5.s, i4]
    refine (radd_some q v most L hL a v0 c w ht hv hl hRs hBs hnm hok ki y i1 i2).mono fun e w' h => ?_
    rcases h with ⟨f1, f2, f3⟩ | ⟨f1, f2, f3, f4, f5⟩ | ⟨f1, f2, f3, vi, vt, u, hub, f4⟩
    · exact ad_no hrel ht (er := 260) (hE0 260 (by unfold adH; rw [ahs, if_pos (fun h => f1 ⟨hyn.trans h.1, hys.trans h.2⟩)]) (by decide)) (by decide) f3 f2
    · have hg : cc.h.getD (pA c) false = true := by
        rw [i5.h, i4, List.getElem?_take] at f3
        split at f3
        · rw [List.getD_eq_getElem?_getD, f3]; rfl
        · cases f3
      exact ad_no hrel ht (er := 151) (hE0 151 (by unfold adH; rw [ahs, if_neg (fun h => h ⟨hyn.symm.trans f1, hys.symm.trans f2⟩), if_pos (by exact hg)]) (by decide)) (by decide) f5 f4
    · have hg : ¬ cc.h.getD (pA c) false = true := by
        rw [i5.h, i4, List.getElem?_take] at f3
        split at f3
        · rw [List.getD_eq_getElem?_getD, f3]; decide
        · cases f3
      have hah : ∀ u', ahR E most a (adX c u') = (cc, 0) := fun u' => by rw [ahs, if_neg (fun h => h ⟨hyn.symm.trans f1, hys.symm.trans f2⟩), if_neg (by exact hg)]
      have hH : adH E most a c = 0 := by unfold adH; rw [hah]
      have hQ : ∀ u', adQ E most a c u' = cc.put (pA c) u' (pC c) := fun u' => by unfold adQ; rw [hah]
      have R0 : ∀ u', RelP { m with c := cc.put (pA c) u' (pC c) } ((y.new vi vt).put (pA c) u (pC c)) := fun u' => by
        have := (i5.new vi vt).put (pA c) u' u (pC c)
        rw [i4] at this; exact this
      have sh0 : (cc.put (pA c) u0 (pC c)).sh := Pc.put_sh (i4 ▸ hsm) _ ⟨_, _, _, rfl⟩ _
      have hA : adA E most a c = rall ((y.new vi vt).put (pA c) u (pC c)).h := by unfold adA; rw [hQ]; exact (R0 u0).all sh0
      have hT : (adQ E most a c u0).txt = ((y.new vi vt).put (pA c) u (pC c)).t.flatten := by rw [hQ]; exact (R0 u0).txt
      have hS : (adQ E most a c u0).s = pS c := by rw [hQ]; show cc.s = pS c; rw [← hys]; exact f2
      rw [← hA, ← hT] at f4
      rcases f4 with ⟨g1, g2, g3, g4⟩ | ⟨g1, g2, v', g3, g4, g5⟩
      · exact ad_no hrel ht (er := 101) (hE1 hH ⟨g1, by rw [hS]; exact g2⟩) (by decide) g4 g3
      · have e0 := hE2 hH (by rw [hS]; exact g1)
        obtain ⟨h1, h2, h3⟩ := ad_ok e0
        refine ⟨by rw [h1, h2, e0]; exact g2, v', _, g3, fun u' c0 => ?_, g4, fun k hk1 hk2 x hx => ?_, g5⟩
        · rw [h3, hQ]
          unfold upE
          rw [hk]
          exact hrel.set hnd i1 (fun m' hm' => by rw [i3] at hm'; cases hm'; exact R0 u')
        · rcases List.mem_or_eq_of_mem_set hx with h | h
          · exact hk2 x h
          · rw [h]
            have hym := List.mem_of_getElem? i2
            have hyh := ht.hs y hym
            exact RtB.put (L := L) (x := y.new vi vt) (fun i z b hz hb => hk2 y hym i z b hz hb) (fun e => by have := hub k e; omega) (by show y.ts.length = y.t.length; rw [hyh.ls, hyh.lt])
end Go.Proofs.YtiefgmgjlhjjhaaDoor
