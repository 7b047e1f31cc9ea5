import Derived.Test.YtgfgabgnejnipaaBook
namespace Go.Proofs.Ytgfgabgnejnipaa
open Go.RowKit

/-- 'append' to an owned row leaves what was there. -/
theorem run_appk (w : World) (base : Nat) (t ty e : TypeId) (i : TypeInfo) (z : Value) (bytes : Nat) (ht : Try.prog.underlying t = some (.slice e)) (hi : Try.prog.info? e = some i) (hz : i.zero = some z)
    (hsize : i.size = 1) (hby : i.bytes = bytes) (v : Value) (n : Nat) (xs : List Value) (hown : w.ownsRow base e 1 v n xs)
    (a : Addr) (m c : Nat) (news : List Value) (hl : news.length = m) (hnews : ∀ j u, news[j]? = some u → w.cell? (a.add j) = some u) (h1 : ∀ u ∈ news, u.oneCell' = true)
    (hb : (n + m) * bytes ≤ 140737488355328) (hn : n + m ≤ 140737488355328) (hby0 : bytes ≤ 24)
    (v' : Value) (w' : World) (r1 : (Builtin.append_ #[t, t] ty #[v, .slice (some a) m c]).run Try.prog w = .ok v' w') : w'.ownsRow base e 1 v n xs := by
  have hown' := hown
  obtain ⟨hx, ⟨rfl, hz0⟩ | ⟨g, cp, cur, rfl, hg, hh2, hnc, hc, hs, htk⟩⟩ := hown'
  · exact ⟨hx, .inl ⟨rfl, hz0⟩⟩
  · by_cases hroom : n + m ≤ cp
    · obtain ⟨w2, q1, q2, _⟩ := run_append_fits (P := Try.prog) w base t ty e i 1 ht hi hsize g n cp xs hown a m c news (by omega) hnews h1 hroom
      rw [r1] at q1
      simp only [Result.ok.injEq] at q1
      obtain ⟨rfl, rfl⟩ := q1
      obtain ⟨_, ⟨hc0, _⟩ | ⟨g', cp', cur', hv, hg', hh', hnc', hc', hs', htk'⟩⟩ := q2
      · cases hc0
      · simp only [Value.slice.injEq, Option.some.injEq, Addr.mk.injEq] at hv
        obtain ⟨⟨rfl, _⟩, _, rfl⟩ := hv
        refine ⟨hx, .inr ⟨g, cp, cur', rfl, hg, hh', by omega, hc, hs', ?_⟩⟩
        rw [Nat.mul_one] at htk' hx ⊢
        have e2 : (cur'.toList.take (n + m)).take n = (xs ++ news).take n := by rw [htk']
        rw [List.take_take, Nat.min_eq_left (by omega), List.take_left' hx] at e2
        exact e2
    · have hcap := nextcap_le (n + m) cp (by omega)
      have hfit : Builtin.nextslicecap (n + m) cp * i.bytes ≤ 281474976710656 := by
        rw [hby]
        have h1 := Nat.mul_le_mul_right bytes hcap
        rw [Nat.add_mul] at h1
        have h2 : ((n + m) + 768) / 4 * bytes * 4 ≤ ((n + m) + 768) * bytes := by
          rw [Nat.mul_right_comm]
          exact Nat.mul_le_mul_right _ (Nat.div_mul_le_self _ _)
        rw [Nat.add_mul (n + m) 768 bytes] at h2
        omega
      have q1 := run_append_grow (P := Try.prog) w t ty e i z ht hi hz ⟨g, 0, none⟩ n cp xs (by rw [hsize]; exact hx) (World.ownsRow.cells hown (g := g) rfl) a m c news (by rw [hsize]; omega) hnews (by omega) (by omega) hfit
      rw [r1] at q1
      simp only [Result.ok.injEq] at q1
      obtain ⟨rfl, rfl⟩ := q1
      refine ⟨hx, .inr ⟨g, cp, cur, rfl, hg, ?_, hnc, hc, hs, htk⟩⟩
      rw [Below.heap_alloc w.drew _ g (block_lt hh2)]
      exact hh2

/-- 'append(s, x...)' of bytes in a region that draws its order; what was there stays. -/
theorem step_appk {ops : Array Oper} {o : Oper} {a : Act} {w : World} {K : Act → World → Prop} {Q : Exit → Act → World → Prop} {E : Prop} (hgd : o.guard = none) (s x : Operand)
    (ho : o.op = .call { callee := .builtin .append, args := #[s, x], argTypes := #[22, 22] }) (base : Nat) (v : Value) (bs : List UInt8) (hs : a.eval s = v) (hown : Own w base v bs)
    (ad : Addr) (c m : Nat) (ys : List UInt8) (hm : m = ys.length) (hx : a.eval x = .slice (some ad) m c) (hh : ∀ i u, ys[i]? = some u → w.cell? (ad.add i) = some (byt u)) (hb : bs.length + ys.length ≤ 140737488355328) (hbase : base ≤ w.heap.size)
    (h : ∀ v' w', Own w' base v' (bs ++ ys) → w.grownBy w' v.ownBlock → Nw w v v' → Own w' base v bs → K (a.put o.dst v') w') : if Region.wanted o (yielded ops a.tmps) = true then Oper.wp Try.prog o a w K Q else E := by
  have hw : Region.wanted o (yielded ops a.tmps) = true := by simp [Region.wanted, hgd]
  rw [if_pos hw]
  subst hm
  obtain ⟨i0, hi, hz0, hz1, hz2⟩ := info_parts Try.info5
  have hnews : ∀ j u, (ys.map byt)[j]? = some u → w.cell? (ad.add j) = some u := by
    intro j u hj
    simp only [List.getElem?_map, Option.map_eq_some_iff] at hj
    obtain ⟨b, hb, rfl⟩ := hj
    exact hh j b hb
  obtain ⟨v', w', hrun, r1, r2, r3⟩ := run_appx w base 22 o.type 5 i0 (.int .u8 0) 1 Try.underlying22 hi hz0 hz1 hz2 rfl v _ _ hown ad ys.length c (ys.map byt) (by simp) hnews (byt_one ys) (by omega) hb (by decide) hbase
  have r4 := run_appk w base 22 o.type 5 i0 (.int .u8 0) 1 Try.underlying22 hi hz0 hz1 hz2 v _ _ hown ad ys.length c (ys.map byt) (by simp) hnews (byt_one ys) (by omega) hb (by decide) v' w' hrun
  unfold Oper.wp
  simp [execOp, ho, resolve, invoke, builtin, hs, hx, hrun, Result.andThen]
  exact h v' w' (by simpa [Own] using r1) r2 r3 r4

/-- A stage of Note: w the world ahead of it, W the one at hand. -/
structure Js (w W : World) (T : Nat) (cs0 cs : Array Value) (L0 V0 lv L V wv : Value) (ls0 vs0 ls vs : List Value) (M : List UInt8) : Prop where
  bk : Bk W T cs L V ls vs
  en : Ents W ls0 vs0
  ol : Own W 0 lv M
  ow : Own W 0 wv M
  pre : ∀ i, i < 8 → cs[i]? = cs0[i]?
  fx : Fx (Nf T L0 V0 lv) w W
  nl : Nw w L0 L
  nv : Nw w V0 V
  nw : Nw w (.slice none 0 0) wv
  hd : ∀ u, u ∈ ls0 ∨ u ∈ vs0 → Apart u lv
  hw : ∀ u, u ∈ ls0 ∨ u ∈ vs0 → Apart u wv
  lw : Apart lv wv

theorem Nw.up {w W : World} {a b c : Value} (h : Nw w a b) (k : Nw W b c) (hs : w.heap.size ≤ W.heap.size) : Nw w a c := fun i hi => by
  rcases k i hi with h1 | h1
  · exact h i h1
  · exact .inr (Nat.le_trans hs h1)

theorem Own.below0 {w w' : World} {base : Nat} {v : Value} {bs : List UInt8} (h : Own w base v bs) (hb : Below w.heap.size w w') : Own w' base v bs := h.below hb

section
variable {w W W' : World} {T : Nat} {cs0 cs : Array Value} {L0 V0 lv L V wv : Value} {ls0 vs0 ls vs : List Value} {M : List UInt8}

theorem Js.below (h : Js w W T cs0 cs L0 V0 lv L V wv ls0 vs0 ls vs M) (hb : Below W.heap.size W W') : Js w W' T cs0 cs L0 V0 lv L V wv ls0 vs0 ls vs M :=
  ⟨h.bk.below hb, h.en.fx (S := fun _ => False) (Fx.of_below hb) (fun _ _ _ _ s => s), h.ol.below hb, h.ow.below hb, h.pre, h.fx.then_below hb, h.nl, h.nv, h.nw, h.hd, h.hw, h.lw⟩

theorem Js.putL (h : Js w W T cs0 cs L0 V0 lv L V wv ls0 vs0 ls vs M) {w2 : World} {L' u : Value} (ho : OwnL w2 L' (ls ++ [u])) (hg : W.grownBy w2 L.ownBlock) (hn : Nw W L L') :
    Js w (w2.setCell ⟨T, 8, none⟩ L') T cs0 (cs.setIfInBounds 8 L') L0 V0 lv L' V wv ls0 vs0 (ls ++ [u]) vs M ∧ (w2.cell? ⟨T, 8, none⟩ = some L ∧ w2.frozen? ⟨T, 8, none⟩ = false ∧ w2.cell? ⟨T, 9, none⟩ = some V) ∧ ∀ r bs, Own W 0 r bs → Own (w2.setCell ⟨T, 8, none⟩ L') 0 r bs := by
  obtain ⟨b1, b2, b3⟩ := h.bk.putL ho hg hn
  have ty5 : ∀ r : Value, (∀ k, r.ownBlock = some k → ∃ cur, W.heap[k]? = some (.cells cur 5 (0, 0))) → ∀ k, r.ownBlock = some k → ¬ (k = T ∨ L.ownBlock = some k) := by
    intro r hr k hk hS
    obtain ⟨cur, hc⟩ := hr k hk
    rcases hS with rfl | hS
    · rw [h.bk.blk] at hc; simp at hc
    · obtain ⟨cur2, hc2⟩ := h.bk.ol.type k hS
      rw [hc] at hc2; simp at hc2
  have keep : ∀ r bs, Own W 0 r bs → Own (w2.setCell ⟨T, 8, none⟩ L') 0 r bs := fun r bs hr => hr.fx b2 (ty5 r hr.type)
  refine ⟨⟨b1, h.en.fx b2 (fun u hu => ty5 u (h.en.type u hu)), keep _ _ h.ol, keep _ _ h.ow, fun i hi => ?_, h.fx.trans b2 (fun i hi s => ?_), h.nl.up hn h.fx.size, h.nv, h.nw, h.hd, h.hw, h.lw⟩, b3, keep⟩
  · rw [get_set (by omega)]; exact h.pre i hi
  · rcases s with s | s
    · exact .inl s
    · rcases h.nl i s with s | s
      · exact .inr (.inl s)
      · omega

theorem Js.putV (h : Js w W T cs0 cs L0 V0 lv L V wv ls0 vs0 ls vs M) {w2 : World} {V' u : Value} (ho : OwnL w2 V' (vs ++ [u])) (hg : W.grownBy w2 V.ownBlock) (hn : Nw W V V') :
    Js w (w2.setCell ⟨T, 9, none⟩ V') T cs0 (cs.setIfInBounds 9 V') L0 V0 lv L V' wv ls0 vs0 ls (vs ++ [u]) M ∧ (w2.cell? ⟨T, 9, none⟩ = some V ∧ w2.frozen? ⟨T, 9, none⟩ = false ∧ w2.cell? ⟨T, 8, none⟩ = some L) ∧ ∀ r bs, Own W 0 r bs → Own (w2.setCell ⟨T, 9, none⟩ V') 0 r bs := by
  obtain ⟨b1, b2, b3⟩ := h.bk.putV ho hg hn
  have ty5 : ∀ r : Value, (∀ k, r.ownBlock = some k → ∃ cur, W.heap[k]? = some (.cells cur 5 (0, 0))) → ∀ k, r.ownBlock = some k → ¬ (k = T ∨ V.ownBlock = some k) := by
    intro r hr k hk hS
    obtain ⟨cur, hc⟩ := hr k hk
    rcases hS with rfl | hS
    · rw [h.bk.blk] at hc; simp at hc
    · obtain ⟨cur2, hc2⟩ := h.bk.ov.type k hS
      rw [hc] at hc2; simp at hc2
  have keep : ∀ r bs, Own W 0 r bs → Own (w2.setCell ⟨T, 9, none⟩ V') 0 r bs := fun r bs hr => hr.fx b2 (ty5 r hr.type)
  refine ⟨⟨b1, h.en.fx b2 (fun u hu => ty5 u (h.en.type u hu)), keep _ _ h.ol, keep _ _ h.ow, fun i hi => ?_, h.fx.trans b2 (fun i hi s => ?_), h.nl, h.nv.up hn h.fx.size, h.nw, h.hd, h.hw, h.lw⟩, b3, keep⟩
  · rw [get_set (by omega)]; exact h.pre i hi
  · rcases s with s | s
    · exact .inl s
    · rcases h.nv i s with s | s
      · exact .inr (.inr (.inl s))
      · omega

/-- The list's row grows, in its place or anew. -/
theorem Js.extL (h : Js w W T cs0 cs L0 V0 lv L V wv ls0 vs0 ls vs M) (hg : W.grownBy W' lv.ownBlock) (hk : Own W' 0 lv M) : Js w W' T cs0 cs L0 V0 lv L V wv ls0 vs0 ls vs M := by
  have f : Fx (fun k => lv.ownBlock = some k) W W' := Fx.grown hg (fun _ e => e)
  exact ⟨h.bk.bytes h.ol f, h.en.fx f (fun u hu k h1 h2 => h.hd u hu k h1 h2), hk, h.ow.fx f (fun k h1 h2 => h.lw k h2 h1), h.pre, h.fx.trans f (fun i _ s => .inr (.inr (.inr s))), h.nl, h.nv, h.nw, h.hd, h.hw, h.lw⟩

theorem Js.extW (h : Js w W T cs0 cs L0 V0 lv L V wv ls0 vs0 ls vs M) (hg : W.grownBy W' wv.ownBlock) (hk : Own W' 0 wv M) : Js w W' T cs0 cs L0 V0 lv L V wv ls0 vs0 ls vs M ∧ ∀ r bs, Own W 0 r bs → Apart r wv → Own W' 0 r bs := by
  have f : Fx (fun k => wv.ownBlock = some k) W W' := Fx.grown hg (fun _ e => e)
  refine ⟨⟨h.bk.bytes h.ow f, h.en.fx f (fun u hu k h1 h2 => h.hw u hu k h1 h2), h.ol.fx f (fun k h1 h2 => h.lw k h1 h2), hk, h.pre, h.fx.trans f (fun i hi s => ?_), h.nl, h.nv, h.nw, h.hd, h.hw, h.lw⟩, fun r bs hr ha => hr.fx f (fun k h1 h2 => ha k h1 h2)⟩
  rcases h.nw i s with s | s
  · cases s
  · omega

end

end Go.Proofs.Ytgfgabgnejnipaa
