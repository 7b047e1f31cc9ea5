import Derived.Test.YtomioemhjhhbcaaGreatDoorZo
import Derived.Test.YtomioemhjhhbcaaGreatDoorYfG
import Derived.Test.YtomioemhjhhbcaaGreatDoorArmG
set_option linter.unusedVariables false
set_option linter.unusedSimpArgs false
namespace Go.Proofs.YtomioemhjhhbcaaGreatDoor
open Go.RowKit

/-- The disk behind a call: the log is zeros, the homes are the pages, the rest is zeros. -/
structure Dst (p more : Nat) (s : Nat → List UInt8) (ps : List (List UInt8)) : Prop where
  log : ∀ j, j < 1 + 2 * p → s j = zS
  hom : ∀ (i : Nat) (x : List UInt8), ps[i]? = some x → x = s (1 + 2 * (p + i)) ++ s (1 + 2 * (p + i) + 1)
  rst : ∀ j, 4 * p + 1 ≤ j → j < 4 * p + 1 + more → s j = zS
  len : ps.length = p
theorem Dst.img {p more : Nat} {s : Nat → List UInt8} {ps : List (List UInt8)} (h : Dst p more s ps) : imgS (4 * p + 1 + more) s = zerL (512 * (1 + 2 * p)) ++ ps.flatten ++ zerL (512 * more) := by
  rw [img_parts p more s, imgS_zero s (1 + 2 * p) h.log]
  have e1 : (List.range p).map (fun n => s (1 + 2 * (p + n)) ++ s (1 + 2 * (p + n) + 1)) = ps := by
    apply List.ext_getElem?
    intro i
    rcases Nat.lt_or_ge i p with hi | hi
    · rw [List.getElem?_map, List.getElem?_range hi, Option.map_some]
      have hx : ps[i]? = some (ps[i]'(by rw [h.len]; exact hi)) := List.getElem?_eq_getElem _
      rw [hx, h.hom i _ hx]
    · rw [List.getElem?_eq_none (by simp; omega), List.getElem?_eq_none (by rw [h.len]; omega)]
  rw [e1]
  congr 1
  exact imgS_zero (fun i => s (1 + 4 * p + i)) more (fun i hi => h.rst _ (by omega) (by omega))
theorem Dst.zero (p more : Nat) : Dst p more (fun _ => zS) (List.replicate p (zerL 1024)) :=
  ⟨fun _ _ => rfl, fun i x hx => by
    have := List.mem_of_getElem? hx
    rw [List.eq_of_mem_replicate this]
    show zerL 1024 = zS ++ zS
    unfold zerL zS
    rw [List.replicate_append_replicate], fun _ _ _ => rfl, List.length_replicate⟩
theorem pg2_other (s : Nat → List UInt8) (i j : Nat) (b : List UInt8) (h1 : j ≠ i) (h2 : j ≠ i + 1) : pg2 s i b j = s j := by
  unfold pg2 setS
  rw [if_neg h2, if_neg h1]
theorem pg2_fst (s : Nat → List UInt8) (i : Nat) (b : List UInt8) : pg2 s i b i = b.take 512 := by
  unfold pg2 setS
  rw [if_neg (by omega), if_pos rfl]
theorem pg2_snd (s : Nat → List UInt8) (i : Nat) (b : List UInt8) : pg2 s i b (i + 1) = b.drop 512 := by
  unfold pg2 setS
  rw [if_pos rfl]
theorem fold_other (f : Nat → Nat) (j : Nat) : ∀ (l : List Pw) (s : Nat → List UInt8), (∀ x ∈ l, j ≠ f x.n ∧ j ≠ f x.n + 1) → (l.foldl (fun s x => pg2 s (f x.n) x.b) s) j = s j
  | [], s, _ => rfl
  | x :: r, s, h => by
    rw [List.foldl_cons, fold_other f j r _ (fun y hy => h y (List.mem_cons_of_mem _ hy)), pg2_other _ _ _ _ (h x (List.mem_cons_self ..)).1 (h x (List.mem_cons_self ..)).2]
theorem fold_at (f : Nat → Nat) (hf : ∀ a b, a ≠ b → f a ≠ f b ∧ f a ≠ f b + 1 ∧ f a + 1 ≠ f b) : ∀ (l : List Pw) (s : Nat → List UInt8), (l.map Pw.n).Nodup → ∀ x ∈ l, (l.foldl (fun s x => pg2 s (f x.n) x.b) s) (f x.n) = x.b.take 512 ∧ (l.foldl (fun s x => pg2 s (f x.n) x.b) s) (f x.n + 1) = x.b.drop 512
  | [], s, _, x, hx => by cases hx
  | y :: r, s, hn, x, hx => by
    rw [List.map_cons, List.nodup_cons] at hn
    rcases List.mem_cons.1 hx with rfl | hr
    · have ho : ∀ z ∈ r, x.n ≠ z.n := fun z hz e => hn.1 (e ▸ List.mem_map_of_mem hz)
      rw [List.foldl_cons, fold_other f _ r _ (fun z hz => ⟨(hf _ _ (ho z hz)).1, (hf _ _ (ho z hz)).2.1⟩), fold_other f _ r _ (fun z hz => ⟨(hf _ _ (ho z hz)).2.2, fun e => (hf _ _ (ho z hz)).1 (by omega)⟩), pg2_fst, pg2_snd]
      exact ⟨rfl, rfl⟩
    · rw [List.foldl_cons]
      exact fold_at f hf r _ hn.2 x hr
theorem bl_zero (j : Nat) : ∀ (l : List Pw) (s : Nat → List UInt8), (s j = zS ∨ ∃ x ∈ l, j = 1 + 2 * x.n ∨ j = 1 + 2 * x.n + 1) → (l.foldl bl1 s) j = zS
  | [], s, h => by
    rcases h with h | ⟨x, hx, _⟩
    · exact h
    · cases hx
  | y :: r, s, h => by
    rw [List.foldl_cons]
    refine bl_zero j r _ ?_
    by_cases e : j = 1 + 2 * y.n ∨ j = 1 + 2 * y.n + 1
    · left
      unfold bl1 setS
      rcases e with e | e
      · rw [if_neg (by omega), if_pos e]
      · rw [if_pos e]
    · rcases h with h | ⟨x, hx, hj⟩
      · left
        unfold bl1 setS
        rw [if_neg (fun h => e (.inr h)), if_neg (fun h => e (.inl h))]
        exact h
      · rcases List.mem_cons.1 hx with rfl | hr
        · exact absurd hj e
        · exact .inr ⟨x, hr, hj⟩
theorem bl_other (j : Nat) : ∀ (l : List Pw) (s : Nat → List UInt8), (∀ x ∈ l, j ≠ 1 + 2 * x.n ∧ j ≠ 1 + 2 * x.n + 1) → (l.foldl bl1 s) j = s j
  | [], s, _ => rfl
  | y :: r, s, h => by
    rw [List.foldl_cons, bl_other j r _ (fun x hx => h x (List.mem_cons_of_mem _ hx))]
    have hy := h y (List.mem_cons_self ..)
    unfold bl1 setS
    rw [if_neg hy.2, if_neg hy.1]
/-- A commit of pages, in whatever order: sector by sector. -/
theorem ch_log {p : Nat} {s : Nat → List UInt8} {l : List Pw} (hl : ∀ x ∈ l, x.n < p) (hz : ∀ j, j < 1 + 2 * p → s j = zS) (j : Nat) (hj : j < 1 + 2 * p) : chS p s l j = zS := by
  unfold chS
  refine bl_zero j l _ ?_
  by_cases h0 : j = 0
  · left
    subst h0
    unfold setS
    rw [if_pos rfl]
  · by_cases h : ∃ x ∈ l, j = 1 + 2 * x.n ∨ j = 1 + 2 * x.n + 1
    · exact .inr h
    · left
      have h' : ∀ x ∈ l, j ≠ 1 + 2 * x.n ∧ j ≠ 1 + 2 * x.n + 1 := fun x hx => ⟨fun e => h ⟨x, hx, .inl e⟩, fun e => h ⟨x, hx, .inr e⟩⟩
      have e1 : ∀ (u : Nat → List UInt8) (b : List UInt8), setS u 0 b j = u j := fun u b => by unfold setS; rw [if_neg h0]
      rw [e1, e1]
      have := fold_other (fun n => 1 + 2 * (p + n)) j l (setS (l.foldl sl1 s) 0 (mkB l)) (fun x hx => ⟨by omega, by omega⟩)
      have e2 : l.foldl (hm1 p) (setS (l.foldl sl1 s) 0 (mkB l)) j = setS (l.foldl sl1 s) 0 (mkB l) j := this
      rw [e2, e1]
      have e3 : l.foldl sl1 s j = s j := fold_other (fun n => 1 + 2 * n) j l s h'
      rw [e3]
      exact hz j hj
theorem ch_far {p : Nat} {s : Nat → List UInt8} {l : List Pw} (hl : ∀ x ∈ l, x.n < p) (j : Nat) (hj : 1 + 2 * p ≤ j) (hh : ∀ x ∈ l, j ≠ 1 + 2 * (p + x.n) ∧ j ≠ 1 + 2 * (p + x.n) + 1) : chS p s l j = s j := by
  have e1 : ∀ (u : Nat → List UInt8) (b : List UInt8), setS u 0 b j = u j := fun u b => by unfold setS; rw [if_neg (by omega)]
  unfold chS
  rw [bl_other j l _ (fun x hx => by have := hl x hx; exact ⟨by omega, by omega⟩), e1, e1]
  have e2 : l.foldl (hm1 p) (setS (l.foldl sl1 s) 0 (mkB l)) j = setS (l.foldl sl1 s) 0 (mkB l) j := fold_other (fun n => 1 + 2 * (p + n)) j l _ hh
  rw [e2, e1]
  exact fold_other (fun n => 1 + 2 * n) j l s (fun x hx => by have := hl x hx; exact ⟨by omega, by omega⟩)
theorem ch_home {p : Nat} {s : Nat → List UInt8} {l : List Pw} (hl : ∀ x ∈ l, x.n < p) (hd : (l.map Pw.n).Nodup) (x : Pw) (hx : x ∈ l) : chS p s l (1 + 2 * (p + x.n)) = x.b.take 512 ∧ chS p s l (1 + 2 * (p + x.n) + 1) = x.b.drop 512 := by
  have e1 : ∀ (u : Nat → List UInt8) (b : List UInt8) (j : Nat), j ≠ 0 → setS u 0 b j = u j := fun u b j hj => by unfold setS; rw [if_neg hj]
  have h := fold_at (fun n => 1 + 2 * (p + n)) (fun a b h => ⟨by omega, by omega, by omega⟩) l (setS (l.foldl sl1 s) 0 (mkB l)) hd x hx
  unfold chS
  rw [bl_other _ l _ (fun y hy => by have := hl y hy; exact ⟨by omega, by omega⟩), e1 _ _ _ (by omega), e1 _ _ _ (by omega), bl_other _ l _ (fun y hy => by have := hl y hy; exact ⟨by omega, by omega⟩), e1 _ _ _ (by omega), e1 _ _ _ (by omega)]
  exact h
theorem aftL_out (i : Nat) : ∀ (acc : List (Nat × UInt8)) (ps : List (List UInt8)), i ∉ acc.map Prod.fst → (aftL ps acc)[i]? = ps[i]?
  | [], ps, _ => rfl
  | a :: r, ps, h => by
    rw [List.map_cons, List.mem_cons, not_or] at h
    show (aftL (ps.set a.1 (pgB a.1 a.2)) r)[i]? = _
    rw [aftL_out i r _ h.2, List.getElem?_set_ne (fun e => h.1 e.symm)]
theorem aftL_in : ∀ (acc : List (Nat × UInt8)) (ps : List (List UInt8)), (acc.map Prod.fst).Nodup → ∀ a ∈ acc, a.1 < ps.length → (aftL ps acc)[a.1]? = some (pgB a.1 a.2)
  | [], ps, _, a, ha, _ => by cases ha
  | b :: r, ps, hn, a, ha, hl => by
    rw [List.map_cons, List.nodup_cons] at hn
    show (aftL (ps.set b.1 (pgB b.1 b.2)) r)[a.1]? = _
    rcases List.mem_cons.1 ha with rfl | hr
    · rw [aftL_out a.1 r _ hn.1, List.getElem?_set_self hl]
    · exact aftL_in r _ hn.2 a hr (by rw [List.length_set]; exact hl)
theorem wantP_nodup (p : Nat) (gs : List Gp) : ((wantP p gs).map Prod.fst).Nodup := by
  have : ∀ (gs : List Gp) (acc : List (Nat × UInt8)), (acc.map Prod.fst).Nodup → ((gs.foldl (wStep p) acc).map Prod.fst).Nodup := fun gs => by
    induction gs with
    | nil => intro acc h; exact h
    | cons g r ih => intro acc h; exact ih _ (wStep_nodup p acc g h)
  exact this gs [] (by simp)
theorem wantP_lt (p : Nat) (hp : 0 < p) (gs : List Gp) : ∀ a ∈ wantP p gs, a.1 < p := by
  have : ∀ (gs : List Gp) (acc : List (Nat × UInt8)), (∀ a ∈ acc, a.1 < p) → ∀ a ∈ gs.foldl (wStep p) acc, a.1 < p := fun gs => by
    induction gs with
    | nil => intro acc h; exact h
    | cons g r ih => intro acc h; exact ih _ (wStep_lt p hp acc g h)
  exact this gs [] (fun a ha => by cases ha)
/-- The disk behind a commit. -/
theorem Dst.commit {p more : Nat} {s : Nat → List UInt8} {ps : List (List UInt8)} (h : Dst p more s ps) {acc : List (Nat × UInt8)} (hn : (acc.map Prod.fst).Nodup) (hlt : ∀ a ∈ acc, a.1 < p) {lo l : List Pw} (he : lo.map (fun z => (z.n, z.b)) = acc.map (fun a => (a.1, pgB a.1 a.2))) (hl : l.Perm lo) : (∀ x ∈ l, x.n < p) ∧ (l.map Pw.n).Nodup ∧ Dst p more (chS p s l) (aftL ps acc) := by
  have e1 : lo.map Pw.n = acc.map Prod.fst := by
    have := congrArg (List.map Prod.fst) he
    rw [List.map_map, List.map_map] at this
    exact this
  have hm : ∀ x ∈ l, ∃ a ∈ acc, x.n = a.1 ∧ x.b = pgB a.1 a.2 := fun x hx => by
    have : (x.n, x.b) ∈ acc.map (fun a => (a.1, pgB a.1 a.2)) := he ▸ List.mem_map_of_mem (f := fun z : Pw => (z.n, z.b)) (hl.subset hx)
    obtain ⟨a, ha, e⟩ := List.mem_map.1 this
    simp only [Prod.mk.injEq] at e
    exact ⟨a, ha, e.1.symm, e.2.symm⟩
  have hm2 : ∀ a ∈ acc, ∃ x ∈ l, x.n = a.1 ∧ x.b = pgB a.1 a.2 := fun a ha => by
    have : (a.1, pgB a.1 a.2) ∈ lo.map (fun z => (z.n, z.b)) := he ▸ List.mem_map_of_mem (f := fun a : Nat × UInt8 => (a.1, pgB a.1 a.2)) ha
    obtain ⟨x, hx, e⟩ := List.mem_map.1 this
    simp only [Prod.mk.injEq] at e
    exact ⟨x, hl.symm.subset hx, e.1, e.2⟩
  have hxl : ∀ x ∈ l, x.n < p := fun x hx => by
    obtain ⟨a, ha, e, _⟩ := hm x hx
    rw [e]; exact hlt a ha
  have hnd : (l.map Pw.n).Nodup := by
    have := (hl.map Pw.n).nodup_iff.2 (e1 ▸ hn)
    exact this
  refine ⟨hxl, hnd, fun j hj => ch_log hxl h.log j hj, fun i x hx => ?_, fun j h1 h2 => ?_, by rw [aftL_len]; exact h.len⟩
  · have hip : i < p := by
      have := (List.getElem?_eq_some_iff.1 hx).1
      rw [aftL_len, h.len] at this
      exact this
    by_cases hi : i ∈ acc.map Prod.fst
    · obtain ⟨a, ha, rfl⟩ := List.mem_map.1 hi
      rw [aftL_in acc ps hn a ha (by rw [h.len]; exact hip)] at hx
      obtain ⟨y, hy, y1, y2⟩ := hm2 a ha
      obtain ⟨c1, c2⟩ := ch_home (s := s) hxl hnd y hy
      rw [y1] at c1 c2
      rw [c1, c2, y2, List.take_append_drop]
      exact (Option.some.inj hx).symm
    · rw [aftL_out i acc ps hi] at hx
      have hh : ∀ y ∈ l, y.n ≠ i := fun y hy e => by
        obtain ⟨a, ha, e2, _⟩ := hm y hy
        exact hi (List.mem_map.2 ⟨a, ha, by omega⟩)
      rw [ch_far hxl _ (by omega) (fun y hy => by have := hh y hy; exact ⟨by omega, by omega⟩), ch_far hxl _ (by omega) (fun y hy => by have := hh y hy; exact ⟨by omega, by omega⟩)]
      exact h.hom i x hx
  · rw [ch_far hxl j (by omega) (fun y hy => by have := hxl y hy; exact ⟨by omega, by omega⟩)]
    exact h.rst j h1 h2
end Go.Proofs.YtomioemhjhhbcaaGreatDoor

set_option linter.unusedVariables false
set_option linter.unusedSimpArgs false
namespace Go.Proofs.YtomioemhjhhbcaaGreatDoor
open Go.RowKit

set_option maxRecDepth 100000 in
set_option maxHeartbeats 1000000 in
theorem arm_zero {w : World} {L : Lay} {D : Dv} (h : Dev w L D) (hd : D.down = false) (v : Value) (torn off : Int) :
    Calls Tryz.prog 21 #[.pointer (some ⟨L.p, 0, none⟩), .int .i64 0, .agg (lossC v torn off).toArray] w fun e w' => e = .returned (.int .i64 0) ∧ ∃ L', Turn w w' L L' ∧ Dev w' L' ⟨D.n, D.img, D.pen, 0, [], 0, 0, D.down, D.calls⟩ := by
  obtain ⟨g0, hg0⟩ : ∃ g, w.heap.size = g := ⟨_, rfl⟩
  have be0 : Below w.heap.size w (w.alloc (.cells (lossC v torn off).toArray 70)) := below_new w _
  have h0 := h.below be0
  obtain ⟨w0, hw0⟩ : ∃ w0, w.alloc (.cells (lossC v torn off).toArray 70) = w0 := ⟨_, rfl⟩
  rw [hw0] at be0 h0
  have hc := h0.c7
  rw [hd] at hc
  have hda := hide (disarm_any h0.dev)
  have H0 := hide h0
  have BE := hide be0
  clear h0 h be0
  go_enter Tryz.func21, Tryz.ntmps21
  go_wp2_with (first
    | (refine wpList_boxAt rfl 70 (.tmp 2) rfl (lossC v torn off) rfl g0 hg0 ?_; rw [hw0])
    | (go_at_call 51; refine hda.out.mono ?_; rintro e w1 ⟨rfl, hp, hq⟩; have F1 := hide hp; have D1 := hide hq; clear hp hq hc)
    | fail)
  go_ret
  refine ⟨rfl, unkL L, ⟨((Fx.of_below BE.out).and F1.out).mono (fun i _ h => .inl h), fun k h => .inl (unk_own L k h), rfl⟩, H0.out.disarmed F1.out D.down D1.out⟩
theorem karm0 {w : World} {L : Lay} {N : Nat} {s : Nat → List UInt8} {m c : Nat} (h : Dk w L N s m c) (v : Value) (torn off : Int) : Calls Tryz.prog 21 #[.pointer (some ⟨L.p, 0, none⟩), .int .i64 0, .agg (lossC v torn off).toArray] w fun e w' => e = .returned (.int .i64 0) ∧ ∃ L', Turn w w' L L' ∧ Dk w' L' N s m c := by
  obtain ⟨D, h1, h2, h3, h4, h5, h6, h7⟩ := h.ex
  refine (arm_zero h1 h2 v torn off).mono fun e w' h => ?_
  obtain ⟨rfl, L', t, d⟩ := h
  exact ⟨rfl, L', t, ⟨_, d, h2, rfl, h4, h5, h6, h7⟩⟩
theorem len36 (ao : Option Addr) (n c : Nat) (W : World) (ty : TypeId) : (Builtin.len_ #[36] ty #[.slice ao n c]).run Tryz.prog W = .ok (.int .i64 (n : Int)) W := by go_simp
set_option maxRecDepth 100000 in
set_option maxHeartbeats 1000000 in
theorem commit_0 {w : World} {p n q : Nat} (hb : Blk w q (lgC p n .nilIface) 87) (hn2 : n ≤ 1000) {v : Value} (hp : Pws w v []) : Calls Tryz.prog 9 #[.pointer (some ⟨q, 0, none⟩), v] w fun e w' => e = .returned .nilIface ∧ Below w.heap.size w w' := by
  refine calls_of_argsD [.pointer (some ⟨q, 0, none⟩), v] Tryz.func9 rfl 35 Tryz.ntmps9 (by show 2 ≤ 35; decide) ?_
  refine EW.seq ?_
  refine EW.region ?_
  obtain ⟨w1, q1, r1, b1, e1, hq1, z1⟩ := box22 (some ⟨q, 0, none⟩) w
  refine WL.box rfl rfl rfl r1 ?_
  obtain ⟨w3, q3, r3, b3, e3, hq3, z3⟩ := new24 w1
  have e03 := e1.trans (e3.mono e1.size)
  have g3 := hb.on e03
  have b13 := b1.on e3
  refine WL.new rfl rfl r3 ?_
  refine WL.done ?_
  refine EW.on ?_
  refine EW.seq ?_
  refine EW.region ?_
  refine WL.mkf [.pointer (some ⟨q1, 0, none⟩), .pointer (some ⟨q3, 0, none⟩)] rfl rfl rfl ?_
  refine WL.defer rfl rfl ?_
  refine WL.done ?_
  refine EW.on ?_
  refine EW.seq ?_
  refine EW.seq ?_
  refine EW.region ?_
  refine WL.load rfl rfl rfl (ld22c b13) ?_
  first | refine WL.nilc rfl rfl rfl ?_
  refine WL.field rfl rfl rfl (fld66_1 q _) ?_
  refine WL.load rfl rfl rfl (ldl24 g3) ?_
  refine WL.bin rfl rfl rfl rfl (ne24n _ _) ?_
  refine WL.done ?_
  refine EW.on ?_
  refine EW.cond_f rfl ?_
  refine EW.skip ?_
  refine EW.on ?_
  refine EW.seq ?_
  refine EW.seq ?_
  refine EW.region ?_
  refine WL.load rfl rfl rfl (ld22c b13) ?_
  first | refine WL.move rfl rfl rfl ?_
  refine WL.call [.pointer (some ⟨q, 0, none⟩), v] enter30 rfl rfl rfl (refusal_ok g3 _ [] (hp.below e03) (by decide) (fun z hz => by cases hz) hn2 (by simp)) ?_
  rintro _ w4 ⟨rfl, e4⟩
  have e04 := e03.trans (e4.mono e03.size)
  have b34 := b3.on e4
  refine ⟨_, rfl, ?_⟩
  first | refine WL.move rfl rfl rfl ?_
  first | refine WL.extract rfl rfl rfl (ext_2 _ _ _).1 ?_
  first | refine WL.extract rfl rfl rfl (ext_2 _ _ _).2 ?_
  first | refine WL.assign rfl rfl rfl ?_
  first | refine WL.assign rfl rfl rfl ?_
  refine WL.done ?_
  refine EW.on ?_
  refine EW.seq ?_
  refine EW.region ?_
  first | refine WL.move rfl rfl rfl ?_
  refine WL.bin rfl rfl rfl rfl (int_ne_f rfl _ _ _) ?_
  refine WL.done ?_
  refine EW.on ?_
  refine EW.cond_f rfl ?_
  refine EW.skip ?_
  refine EW.on ?_
  refine EW.seq ?_
  refine EW.seq ?_
  refine EW.region ?_
  first | refine WL.move rfl rfl rfl ?_
  refine WL.len rfl rfl rfl (hp.len _ _) ?_
  refine WL.bin rfl rfl rfl rfl (int_gt_f (by decide) _ _ _) ?_
  refine WL.done ?_
  refine EW.on ?_
  refine EW.cond_f rfl ?_
  refine EW.skip ?_
  refine EW.on ?_
  refine EW.seq ?_
  refine EW.region ?_
  obtain ⟨w7, s7, b7, x7⟩ := st24n b34
  refine WL.store rfl rfl rfl s7 ?_
  refine WL.done ?_
  refine EW.on ?_
  refine EW.ret ?_
  refine EW.leaves enter26 (commit1_none _ _ _) ?_
  rintro u w' ⟨hu, hw⟩
  subst hu
  rw [hw]
  refine ⟨rfl, fun a ha => ⟨_, results_c1 Tryz.results9 a.tmps w7 (ha.kn 4 _ rfl) (ld24c b7), rfl, e04.trans (x7.below (fun k hk e => by have e : k = q3 := e; have := e1.size; omega) e04.size)⟩⟩
/-- A commit of the wanted pages. -/
theorem commit_any {w : World} {L : Lay} {p more : Nat} {s : Nat → List UInt8} {c q : Nat} {ps : List (List UInt8)} (h : Dk w L (4 * p + 1 + more) s 0 c) (hb : Blk w q (lgC L.p p .nilIface) 87) (hp1 : 1 ≤ p) (hp2 : p ≤ 20) (hmore : more ≤ 3) (hcal : c ≤ 100000) (hd : Dst p more s ps) {v : Value} {lo : List Pw} (hp : Pws w v lo) {acc : List (Nat × UInt8)} (hn : (acc.map Prod.fst).Nodup) (hlt : ∀ a ∈ acc, a.1 < p) (hal : acc.length ≤ 20) (he : lo.map (fun z => (z.n, z.b)) = acc.map (fun a => (a.1, pgB a.1 a.2))) (hxF : ∀ x ∈ lo, ∀ k, x.v.ownBlock = some k → ¬ L.F k) (hxB : ∀ x ∈ lo, ∀ k, x.v.ownBlock = some k → k < w.heap.size) : Calls Tryz.prog 9 #[.pointer (some ⟨q, 0, none⟩), v] w fun e w' => e = .returned .nilIface ∧ ∃ L' s' c', Turn w w' L L' ∧ Dk w' L' (4 * p + 1 + more) s' 0 c' ∧ Dst p more s' (aftL ps acc) ∧ c' ≤ c + 128 := by
  have hlen : lo.length = acc.length := by
    have := congrArg List.length he
    rw [List.length_map, List.length_map] at this
    exact this
  rcases Nat.eq_zero_or_pos lo.length with h0 | h0
  · have e1 : lo = [] := List.eq_nil_of_length_eq_zero h0
    have e2 : acc = [] := List.eq_nil_of_length_eq_zero (by omega)
    subst e1 e2
    refine (commit_0 hb (by omega) hp).mono fun e w' h2 => ?_
    exact ⟨h2.1, L, s, c, ⟨Fx.of_below h2.2, fun k hk => .inl hk, rfl⟩, h.below h2.2, hd, by omega⟩
  · obtain ⟨g, cp, hv⟩ : ∃ g cp, v = .slice (some ⟨g, 0, none⟩) lo.length cp := by
      obtain ⟨_, ⟨_, hz⟩ | ⟨g, cp, cur, hv, _⟩⟩ := hp.row
      · omega
      · exact ⟨g, cp, hv⟩
    subst hv
    obtain ⟨c1, c2, _⟩ := hd.commit hn hlt he (List.Perm.refl lo)
    refine (commit_ok h hb (by omega) (by omega) (by omega) hcal hp h0 (by omega) c1 c2 hxF hxB).mono fun e w' h2 => ?_
    obtain ⟨h3, L', l', hl', t, d⟩ := h2
    exact ⟨h3, L', _, _, t, d, (hd.commit hn hlt he hl').2.2, by omega⟩
end Go.Proofs.YtomioemhjhhbcaaGreatDoor
