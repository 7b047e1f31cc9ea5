import Derived.Test.YtmbgeojjklboeaaGreatDoorQkG
import Derived.Test.YtmbgeojjklboeaaGreatDoorArmG
set_option linter.unusedVariables false
set_option linter.unusedSimpArgs false
namespace Go.Proofs.YtmbgeojjklboeaaGreatDoor
open Go.RowKit

/-- Pages behind these writes. -/
structure Aft (l : List Pw) (ps ps' : List (List UInt8)) : Prop where
  in_ : ∀ x ∈ l, ps'[x.n]? = some x.b
  out : ∀ i, i ∉ l.map Pw.n → ps'[i]? = ps[i]?
  len : ps'.length = ps.length
  b : ∀ x ∈ l, x.b.length = 1024
theorem sl_at {l : List Pw} (hd : (l.map Pw.n).Nodup) (s : Nat → List UInt8) (x : Pw) (hx : x ∈ l) : l.foldl sl1 s (1 + 2 * x.n) = x.b.take 512 ∧ l.foldl sl1 s (1 + 2 * x.n + 1) = x.b.drop 512 := fold_at (fun m => 1 + 2 * m) pl_slot.ne l s hd x hx
theorem hm_at {p : Nat} {l : List Pw} (hd : (l.map Pw.n).Nodup) (s : Nat → List UInt8) (x : Pw) (hx : x ∈ l) : l.foldl (hm1 p) s (1 + 2 * (p + x.n)) = x.b.take 512 ∧ l.foldl (hm1 p) s (1 + 2 * (p + x.n) + 1) = x.b.drop 512 := fold_at (fun m => 1 + 2 * (p + m)) (pl_home p).ne l s hd x hx
theorem us_slot {l : List Pw} {j p : Nat} (hl : ∀ x ∈ l, x.n < p) (h : Us gS l j) : 1 ≤ j ∧ j < 1 + 2 * p := by
  obtain ⟨x, hx, e⟩ := h
  have := hl x hx
  dsimp only [gS] at e
  omega
theorem us_homeP {l : List Pw} {j p : Nat} (hl : ∀ x ∈ l, x.n < p) (h : Us (gH p) l j) : 1 + 2 * p ≤ j ∧ j < 4 * p + 1 := by
  obtain ⟨x, hx, e⟩ := h
  have := hl x hx
  dsimp only [gH] at e
  omega
theorem us_hm {l : List Pw} {p i : Nat} (h : Us (gH p) l (1 + 2 * (p + i)) ∨ Us (gH p) l (1 + 2 * (p + i) + 1)) : i ∈ l.map Pw.n := by
  rcases h with ⟨x, hx, e⟩ | ⟨x, hx, e⟩
  all_goals
    dsimp only [gH] at e
    exact List.mem_map.2 ⟨x, hx, by omega⟩
section
variable {p more : Nat} {d d' : Nat → List UInt8} {ps ps' : List (List UInt8)} {l : List Pw} {left : Nat}
theorem ChX.st (hd : Dst p more d ps) (hdl : ∀ i, i < 4 * p + 1 + more → (d i).length = 512) (hne : l ≠ []) (hl : ∀ x ∈ l, x.n < p) (hnd : (l.map Pw.n).Nodup) (ha : Aft l ps ps') (hx : ChX p (4 * p + 1 + more) d l left d') (hlen : ∀ i, i < 4 * p + 1 + more → (d' i).length = 512) : (left ≤ 2 * l.length + 3 ∧ St p more d' ps) ∨ (2 * l.length + 1 < left ∧ St p more d' ps') := by
  have hip : ∀ (i : Nat) (x : List UInt8), ps[i]? = some x → i < p := fun i x hx => by have := (List.getElem?_eq_some_iff.1 hx).1; have := hd.len; omega
  have hip' : ∀ (i : Nat) (x : List UInt8), ps'[i]? = some x → i < p := fun i x hx => by have := (List.getElem?_eq_some_iff.1 hx).1; have := hd.len; have := ha.len; omega
  have hpl' : ps'.length = p := ha.len.trans hd.len
  have half : ∀ x ∈ l, x.b.take 512 ++ x.b.drop 512 = x.b := fun x _ => List.take_append_drop _ _
  -- what stands in the slots, and at home elsewhere
  have D1s : ∀ x ∈ l, chD1 d l (1 + 2 * x.n) ++ chD1 d l (1 + 2 * x.n + 1) = x.b := fun x hx => by
    obtain ⟨e1, e2⟩ := sl_at hnd d x hx
    unfold chD1
    rw [e1, e2]; exact half x hx
  have D1h : ∀ j, 1 + 2 * p ≤ j → chD1 d l j = d j := fun j hj => slf_other j l d (fun h => by have := us_slot hl h; omega)
  have out : ∀ (f : Nat → List UInt8), (∀ i, i < p → f (1 + 2 * (p + i)) = d (1 + 2 * (p + i)) ∧ f (1 + 2 * (p + i) + 1) = d (1 + 2 * (p + i) + 1)) → ∀ (i : Nat) (x : List UInt8), ps[i]? = some x → x = f (1 + 2 * (p + i)) ++ f (1 + 2 * (p + i) + 1) := fun f hf i x hx => by
    obtain ⟨e1, e2⟩ := hf i (hip i x hx)
    rw [e1, e2]
    exact hd.hom i x hx
  -- a standing marker, the slots filled
  have mkY : (∀ i, i < 4 * p + 1 + more → (d' i).length = 512) → d' 0 = mkB l → (∀ j, 1 ≤ j → j < 1 + 2 * p → d' j = chD1 d l j) → (∀ j, 4 * p + 1 ≤ j → j < 4 * p + 1 + more → d' j = zS) → (∀ i, i < p → i ∉ l.map Pw.n → d' (1 + 2 * (p + i)) = d (1 + 2 * (p + i)) ∧ d' (1 + 2 * (p + i) + 1) = d (1 + 2 * (p + i) + 1)) → St p more d' ps' := fun h1 h2 h3 h4 h5 => by
    refine .y ⟨h1, h4, hpl'⟩ l h2 hne hl (fun x hx => ?_) (fun i x hi hx => ?_)
    · have := hl x hx
      rw [h3 _ (by omega) (by omega), h3 _ (by omega) (by omega), D1s x hx]
      exact ha.in_ x hx
    · obtain ⟨e1, e2⟩ := h5 i (hip' i x hx) hi
      rw [e1, e2]
      rw [ha.out i hi] at hx
      exact hd.hom i x hx
  -- homes behind the change
  have D3h : ∀ (i : Nat) (x : List UInt8), ps'[i]? = some x → x = chD3 p d l (1 + 2 * (p + i)) ++ chD3 p d l (1 + 2 * (p + i) + 1) := fun i x hx => by
    unfold chD3
    by_cases hi : i ∈ l.map Pw.n
    · obtain ⟨z, hz, rfl⟩ := List.mem_map.1 hi
      obtain ⟨e1, e2⟩ := hm_at (p := p) hnd (chD2 d l) z hz
      rw [e1, e2, half z hz]
      rw [ha.in_ z hz] at hx
      exact (Option.some.inj hx).symm
    · have hi2 := hip' i x hx
      rw [hmf_other p _ l _ (fun h => hi (us_hm (.inl h))), hmf_other p _ l _ (fun h => hi (us_hm (.inr h)))]
      unfold chD2
      rw [setS_ne _ _ (by omega), setS_ne _ _ (by omega), D1h _ (by omega), D1h _ (by omega)]
      rw [ha.out i hi] at hx
      exact hd.hom i x hx
  have D3r : ∀ j, 4 * p + 1 ≤ j → j < 4 * p + 1 + more → chD3 p d l j = zS := fun j h1 h2 => by
    unfold chD3 chD2
    rw [hmf_other p _ l _ (fun h => by have := us_homeP hl h; omega), setS_ne _ _ (by omega), D1h j (by omega)]
    exact hd.rst j h1 h2
  have D3s : ∀ j, 1 ≤ j → j < 1 + 2 * p → chD3 p d l j = chD1 d l j := fun j h1 h2 => by
    unfold chD3 chD2
    rw [hmf_other p _ l _ (fun h => by have := us_homeP hl h; omega), setS_ne _ _ (by omega)]
  cases hx with
  | a h hu =>
    refine .inl ⟨by omega, .n ⟨hlen, fun j h1 h2 => ?_, hd.len⟩ ?_ (out d' fun i hi => ⟨?_, ?_⟩)⟩
    · rw [hu j h2 (fun h => by have := us_slot hl h; omega)]; exact hd.rst j h1 h2
    · rw [hu 0 (by omega) (fun h => by have := us_slot hl h; omega), hd.log 0 (by omega), bAt_zS]
    · exact hu _ (by omega) (fun h => by have := us_slot hl h; omega)
    · exact hu _ (by omega) (fun h => by have := us_slot hl h; omega)
  | b h h2 hu ht =>
    have oth : ∀ j, j < 4 * p + 1 + more → 1 ≤ j → d' j = chD1 d l j := fun j h1 h2 => hu j h1 (by show ¬ j = 0; omega)
    have rst : ∀ j, 4 * p + 1 ≤ j → j < 4 * p + 1 + more → d' j = zS := fun j h1 h2 => by rw [oth j h2 (by omega), D1h j (by omega)]; exact hd.rst j h1 h2
    have hh : ∀ i, i < p → d' (1 + 2 * (p + i)) = d (1 + 2 * (p + i)) ∧ d' (1 + 2 * (p + i) + 1) = d (1 + 2 * (p + i) + 1) := fun i hi => ⟨by rw [oth _ (by omega) (by omega), D1h _ (by omega)], by rw [oth _ (by omega) (by omega), D1h _ (by omega)]⟩
    rcases tn_last (mkB_len l) (hdl 0 (by omega)) ht with e | e
    · exact .inr ⟨h, mkY hlen e (fun j h1 h2 => oth j (by omega) h1) rst (fun i hi _ => hh i hi)⟩
    · exact .inl ⟨h2, .n ⟨hlen, rst, hd.len⟩ (by rw [e, hd.log 0 (by omega), bAt_zS]) (out d' hh)⟩
  | c h hu =>
    have oth : ∀ j, j < 4 * p + 1 + more → ¬ Us (gH p) l j → d' j = chD2 d l j := fun j h1 h2 => hu j h1 h2
    refine .inr ⟨by omega, mkY hlen ?_ (fun j h1 h2 => ?_) (fun j h1 h2 => ?_) (fun i hi hni => ⟨?_, ?_⟩)⟩
    · rw [oth 0 (by omega) (fun h => by have := us_homeP hl h; omega)]; unfold chD2; rw [setS_eq]
    · rw [oth j (by omega) (fun h => by have := us_homeP hl h; omega)]; unfold chD2; rw [setS_ne _ _ (by omega)]
    · rw [oth j h2 (fun h => by have := us_homeP hl h; omega)]; unfold chD2; rw [setS_ne _ _ (by omega), D1h j (by omega)]; exact hd.rst j h1 h2
    · rw [oth _ (by omega) (fun h => hni (us_hm (.inl h)))]; unfold chD2; rw [setS_ne _ _ (by omega), D1h _ (by omega)]
    · rw [oth _ (by omega) (fun h => hni (us_hm (.inr h)))]; unfold chD2; rw [setS_ne _ _ (by omega), D1h _ (by omega)]
  | e h hu ht =>
    have oth : ∀ j, j < 4 * p + 1 + more → 1 ≤ j → d' j = chD3 p d l j := fun j h1 h2 => hu j h1 (by show ¬ j = 0; omega)
    have rst : ∀ j, 4 * p + 1 ≤ j → j < 4 * p + 1 + more → d' j = zS := fun j h1 h2 => by rw [oth j h2 (by omega)]; exact D3r j h1 h2
    rcases tn_off (mkB_len l) ht with e | e
    · refine .inr ⟨by omega, .n ⟨hlen, rst, hpl'⟩ (by rw [e]; exact off_last _ (mkB_len l)) (fun i x hx => ?_)⟩
      have := hip' i x hx
      rw [oth _ (by omega) (by omega), oth _ (by omega) (by omega)]
      exact D3h i x hx
    · refine .inr ⟨by omega, .y ⟨hlen, rst, hpl'⟩ l e hne hl (fun x hx => ?_) (fun i x hi hx => ?_)⟩
      · have := hl x hx
        rw [oth _ (by omega) (by omega), oth _ (by omega) (by omega), D3s _ (by omega) (by omega), D3s _ (by omega) (by omega), D1s x hx]
        exact ha.in_ x hx
      · have := hip' i x hx
        rw [oth _ (by omega) (by omega), oth _ (by omega) (by omega)]
        exact D3h i x hx
  | f h hu ht =>
    have oth : ∀ j, j < 4 * p + 1 + more → 1 + 2 * p ≤ j → d' j = chD3 p d l j := fun j h1 h2 => by
      rw [hu j h1 (fun h => by rcases h with h | h
                               · omega
                               · have := us_slot hl h; omega)]
      unfold chD4
      rw [setS_ne _ _ (by omega)]
    refine .inr ⟨by omega, .n ⟨hlen, fun j h1 h2 => by rw [oth j h2 (by omega)]; exact D3r j h1 h2, hpl'⟩ ?_ (fun i x hx => ?_)⟩
    · rcases tn_last zS_len (by rw [List.length_set, mkB_len]) ht with e | e
      · rw [e, bAt_zS]
      · rw [e]; exact off_last _ (mkB_len l)
    · have := hip' i x hx
      rw [oth _ (by omega) (by omega), oth _ (by omega) (by omega)]
      exact D3h i x hx
end
end Go.Proofs.YtmbgeojjklboeaaGreatDoor

set_option linter.unusedVariables false
set_option linter.unusedSimpArgs false
namespace Go.Proofs.YtmbgeojjklboeaaGreatDoor
open Go.RowKit

set_option maxRecDepth 100000 in
set_option maxHeartbeats 1000000 in
theorem arm_zero {w : World} {L : Lay} {D : Dv} (h : Dev w L D) (hd : D.down = false) (v : Value) (torn off : Int) :
    Calls Tryz.prog 20 #[.pointer (some ⟨L.p, 0, none⟩), .int .i64 0, .agg (lossC v torn off).toArray] w fun e w' => e = .returned (.int .i64 0) ∧ ∃ L', Turn w w' L L' ∧ Dev w' L' ⟨D.n, D.img, D.pen, 0, [], 0, 0, D.down, D.calls⟩ := by
  obtain ⟨g0, hg0⟩ : ∃ g, w.heap.size = g := ⟨_, rfl⟩
  have be0 : Below w.heap.size w (w.alloc (.cells (lossC v torn off).toArray 63)) := below_new w _
  have h0 := h.below be0
  obtain ⟨w0, hw0⟩ : ∃ w0, w.alloc (.cells (lossC v torn off).toArray 63) = w0 := ⟨_, rfl⟩
  rw [hw0] at be0 h0
  have hc := h0.c7
  rw [hd] at hc
  have hda := hide (disarm_any h0.dev)
  have H0 := hide h0
  have BE := hide be0
  clear h0 h be0
  go_enter Tryz.func20, Tryz.ntmps20
  go_wp2_with (first
    | (refine wpList_boxAt rfl 63 (.tmp 2) rfl (lossC v torn off) rfl g0 hg0 ?_; rw [hw0])
    | (go_at_call 52; refine hda.out.mono ?_; rintro e w1 ⟨rfl, hp, hq⟩; have F1 := hide hp; have D1 := hide hq; clear hp hq hc)
    | fail)
  go_ret
  refine ⟨rfl, unkL L, ⟨((Fx.of_below BE.out).and F1.out).mono (fun i _ h => .inl h), fun k h => .inl (unk_own L k h), rfl⟩, H0.out.disarmed F1.out D.down D1.out⟩
set_option maxRecDepth 100000 in
set_option maxHeartbeats 1000000 in
theorem commit_0 {w : World} {p n q : Nat} (hb : Blk w q (lgC p n .nilIface) 88) (hn2 : n ≤ 1000) {v : Value} (hp : Pws w v []) : Calls Tryz.prog 14 #[.pointer (some ⟨q, 0, none⟩), v] w fun e w' => e = .returned .nilIface ∧ Below w.heap.size w w' := by
  refine calls_of_argsD [.pointer (some ⟨q, 0, none⟩), v] Tryz.func14 rfl 35 Tryz.ntmps14 (by show 2 ≤ 35; decide) ?_; refine EW.seq ?_; refine EW.region ?_
  obtain ⟨w1, q1, r1, b1, e1, hq1, z1⟩ := box22 (some ⟨q, 0, none⟩) w
  refine WL.box rfl rfl rfl r1 ?_
  obtain ⟨w3, q3, r3, b3, e3, hq3, z3⟩ := new24 w1
  have e03 := e1.trans (e3.mono e1.size)
  have g3 := hb.on e03
  have b13 := b1.on e3
  refine WL.new rfl rfl r3 ?_; refine WL.done ?_; refine EW.on ?_; refine EW.seq ?_; refine EW.region ?_; refine WL.mkf [.pointer (some ⟨q1, 0, none⟩), .pointer (some ⟨q3, 0, none⟩)] rfl rfl rfl ?_; refine WL.defer rfl rfl ?_; refine WL.done ?_; refine EW.on ?_; refine EW.seq ?_; refine EW.seq ?_; refine EW.region ?_; refine WL.load rfl rfl rfl (ld22c b13) ?_; refine WL.nilc rfl rfl rfl ?_; refine WL.field rfl rfl rfl (fld66_1 q _) ?_; refine WL.load rfl rfl rfl (ldl24 g3) ?_; refine WL.bin rfl rfl rfl rfl (ne24n _ _) ?_; refine WL.done ?_; refine EW.on ?_; refine EW.cond_f rfl ?_; refine EW.skip ?_; refine EW.on ?_; refine EW.seq ?_; refine EW.seq ?_; refine EW.region ?_; refine WL.load rfl rfl rfl (ld22c b13) ?_; refine WL.move rfl rfl rfl ?_; refine WL.call [.pointer (some ⟨q, 0, none⟩), v] enter43 rfl rfl rfl (refusal_ok g3 _ [] (hp.below e03) (by decide) (fun z hz => by cases hz) hn2 (by simp)) ?_
  rintro _ w4 ⟨rfl, e4⟩
  have e04 := e03.trans (e4.mono e03.size)
  have b34 := b3.on e4
  refine ⟨_, rfl, ?_⟩; refine WL.move rfl rfl rfl ?_; refine WL.extract rfl rfl rfl (ext_2 _ _ _).1 ?_; refine WL.extract rfl rfl rfl (ext_2 _ _ _).2 ?_; refine WL.assign rfl rfl rfl ?_; refine WL.assign rfl rfl rfl ?_; refine WL.done ?_; refine EW.on ?_; refine EW.seq ?_; refine EW.region ?_; refine WL.move rfl rfl rfl ?_; refine WL.bin rfl rfl rfl rfl (int_ne_f rfl _ _ _) ?_; refine WL.done ?_; refine EW.on ?_; refine EW.cond_f rfl ?_; refine EW.skip ?_; refine EW.on ?_; refine EW.seq ?_; refine EW.seq ?_; refine EW.region ?_; refine WL.move rfl rfl rfl ?_; refine WL.len rfl rfl rfl (hp.len _ _) ?_; refine WL.bin rfl rfl rfl rfl (int_gt_f (by decide) _ _ _) ?_; refine WL.done ?_; refine EW.on ?_; refine EW.cond_f rfl ?_; refine EW.skip ?_; refine EW.on ?_; refine EW.seq ?_; refine EW.region ?_
  obtain ⟨w7, s7, b7, x7⟩ := st24n b34
  refine WL.store rfl rfl rfl s7 ?_; refine WL.done ?_; refine EW.on ?_; refine EW.ret ?_; refine EW.leaves enter41 (commit1_none _ _ _) ?_
  rintro u w' ⟨hu, hw⟩
  subst hu
  rw [hw]
  refine ⟨rfl, fun a ha => ⟨_, results_c1 Tryz.results14 a.tmps w7 (ha.kn 4 _ rfl) (ld24c b7), rfl, e04.trans (x7.below (fun k hk e => by have e : k = q3 := e; have := e1.size; omega) e04.size)⟩⟩
/-- A commit of the wanted pages. -/
theorem commit_any {w : World} {L : Lay} {p more : Nat} {s : Nat → List UInt8} {c q : Nat} {ps : List (List UInt8)} (h : Dk w L (4 * p + 1 + more) s 0 c) (hb : Blk w q (lgC L.p p .nilIface) 88) (hp1 : 1 ≤ p) (hp2 : p ≤ 20) (hmore : more ≤ 3) (hcal : c ≤ 900000) (hd : Dst p more s ps) {v : Value} {lo : List Pw} (hp : Pws w v lo) {acc : List (Nat × UInt8)} (hn : (acc.map Prod.fst).Nodup) (hlt : ∀ a ∈ acc, a.1 < p) (hal : acc.length ≤ 20) (he : lo.map (fun z => (z.n, z.b)) = acc.map (fun a => (a.1, pgB a.1 a.2))) (hxF : ∀ x ∈ lo, ∀ k, x.v.ownBlock = some k → ¬ L.F k) (hxB : ∀ x ∈ lo, ∀ k, x.v.ownBlock = some k → k < w.heap.size) : Calls Tryz.prog 14 #[.pointer (some ⟨q, 0, none⟩), v] w fun e w' => e = .returned .nilIface ∧ ∃ L' s' c', Turn w w' L L' ∧ Dk w' L' (4 * p + 1 + more) s' 0 c' ∧ Dst p more s' (aftL ps acc) ∧ c' ≤ c + 128 := by
  have hlen : lo.length = acc.length := by
    have := congrArg List.length he
    rw [List.length_map, List.length_map] at this
    exact this
  rcases Nat.eq_zero_or_pos lo.length with h0 | h0
  · have e1 : lo = [] := List.eq_nil_of_length_eq_zero h0
    have e2 : acc = [] := List.eq_nil_of_length_eq_zero (by omega)
    subst e1 e2
    refine (commit_0 hb (by omega) hp).mono fun e w' h2 => ?_
    exact ⟨h2.1, L, s, c, ⟨Fx.of_below h2.2, fun k hk => .inl hk, rfl⟩, h.below h2.2, hd, by omega⟩
  · obtain ⟨g, cp, hv⟩ : ∃ g cp, v = .slice (some ⟨g, 0, none⟩) lo.length cp := by
      obtain ⟨_, ⟨_, hz⟩ | ⟨g, cp, cur, hv, _⟩⟩ := hp.row
      · omega
      · exact ⟨g, cp, hv⟩
    subst hv
    obtain ⟨c1, c2, _⟩ := hd.commit hn hlt he (List.Perm.refl lo)
    refine (commit_ok h hb (by omega) (by omega) (by omega) hcal hp h0 (by omega) c1 c2 hxF hxB).mono fun e w' h2 => ?_
    obtain ⟨h3, L', l', hl', t, d⟩ := h2
    exact ⟨h3, L', _, _, t, d, (hd.commit hn hlt he hl').2.2, by omega⟩
end Go.Proofs.YtmbgeojjklboeaaGreatDoor
