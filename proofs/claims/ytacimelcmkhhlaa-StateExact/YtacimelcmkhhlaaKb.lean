import Derived.Test.YtacimelcmkhhlaaKa
set_option linter.unusedVariables false
set_option linter.unusedSimpArgs false
namespace Go.Proofs.Ytacimelcmkhhlaa
open Go.RowKit

theorem block_lt {w : World} {p : Nat} {o : Obj} (h : w.heap[p]? = some o) : p < w.heap.size := by
  rcases Nat.lt_or_ge p w.heap.size with hl | hl
  · exact hl
  · rw [Array.getElem?_eq_none hl] at h; cases h
/-- 'append' to an owned row leaves what was there. -/
theorem run_appk (w : World) (base : Nat) (t ty e : TypeId) (i : TypeInfo) (z : Value) (bytes : Nat) (ht : Try.prog.underlying t = some (.slice e)) (hi : Try.prog.info? e = some i) (hz : i.zero = some z)
    (hsize : i.size = 1) (hby : i.bytes = bytes) (v : Value) (n : Nat) (xs : List Value) (hown : w.ownsRow base e 1 v n xs)
    (a : Addr) (m c : Nat) (news : List Value) (hl : news.length = m) (hnews : ∀ j u, news[j]? = some u → w.cell? (a.add j) = some u) (h1 : ∀ u ∈ news, u.oneCell' = true)
    (hb : (n + m) * bytes ≤ 140737488355328) (hn : n + m ≤ 140737488355328) (hby0 : bytes ≤ 24)
    (v' : Value) (w' : World) (r1 : (Builtin.append_ #[t, t] ty #[v, .slice (some a) m c]).run Try.prog w = .ok v' w') : w'.ownsRow base e 1 v n xs := by
  have hown' := hown
  obtain ⟨hx, ⟨rfl, hz0⟩ | ⟨g, cp, cur, rfl, hg, hh2, hnc, hc, hs, htk⟩⟩ := hown'
  · exact ⟨hx, .inl ⟨rfl, hz0⟩⟩
  · by_cases hroom : n + m ≤ cp
    · obtain ⟨w2, q1, q2, _⟩ := run_append_fits (P := Try.prog) w base t ty e i 1 ht hi hsize g n cp xs hown a m c news (by omega) hnews h1 hroom
      rw [r1] at q1
      simp only [Result.ok.injEq] at q1
      obtain ⟨rfl, rfl⟩ := q1
      obtain ⟨_, ⟨hc0, _⟩ | ⟨g', cp', cur', hv, hg', hh', hnc', hc', hs', htk'⟩⟩ := q2
      · cases hc0
      · simp only [Value.slice.injEq, Option.some.injEq, Addr.mk.injEq] at hv
        obtain ⟨⟨rfl, _⟩, _, rfl⟩ := hv
        refine ⟨hx, .inr ⟨g, cp, cur', rfl, hg, hh', by omega, hc, hs', ?_⟩⟩
        rw [Nat.mul_one] at htk' hx ⊢
        have e2 : (cur'.toList.take (n + m)).take n = (xs ++ news).take n := by rw [htk']
        rw [List.take_take, Nat.min_eq_left (by omega), List.take_left' hx] at e2
        exact e2
    · have hcap := nextcap_le (n + m) cp (by omega)
      have hfit : Builtin.nextslicecap (n + m) cp * i.bytes ≤ 281474976710656 := by
        rw [hby]
        have h1 := Nat.mul_le_mul_right bytes hcap
        rw [Nat.add_mul] at h1
        have h2 : ((n + m) + 768) / 4 * bytes * 4 ≤ ((n + m) + 768) * bytes := by
          rw [Nat.mul_right_comm]
          exact Nat.mul_le_mul_right _ (Nat.div_mul_le_self _ _)
        rw [Nat.add_mul (n + m) 768 bytes] at h2
        omega
      have q1 := run_append_grow (P := Try.prog) w t ty e i z ht hi hz ⟨g, 0, none⟩ n cp xs (by rw [hsize]; exact hx) (World.ownsRow.cells hown (g := g) rfl) a m c news (by rw [hsize]; omega) hnews (by omega) (by omega) hfit
      rw [r1] at q1
      simp only [Result.ok.injEq] at q1
      obtain ⟨rfl, rfl⟩ := q1
      refine ⟨hx, .inr ⟨g, cp, cur, rfl, hg, ?_, hnc, hc, hs, htk⟩⟩
      rw [Below.heap_alloc w.drew _ g (block_lt hh2)]
      exact hh2
theorem info38 : (Try.prog.info? 38).map (fun i => (i.zero, i.size, i.bytes)) = some (some (.slice none 0 0), 1, 24) := by kernel_rfl
/-- An owned row is left by what is done elsewhere. -/
theorem row_fx {S : Nat → Prop} {w w' : World} {e : TypeId} {v : Value} {n : Nat} {xs : List Value} (h : w.ownsRow 0 e 1 v n xs) (hf : Fx S w w') (ho : ∀ k, v.ownBlock = some k → ¬ S k) : w'.ownsRow 0 e 1 v n xs := by
  obtain ⟨hx, h1 | ⟨g, cp, cur, rfl, hg, hh2, hr⟩⟩ := h
  · exact ⟨hx, .inl h1⟩
  · refine ⟨hx, .inr ⟨g, cp, cur, rfl, hg, ?_, hr⟩⟩
    rw [hf.block g (by
      rcases Nat.lt_or_ge g w.heap.size with hl | hl
      · exact hl
      · rw [Array.getElem?_eq_none hl] at hh2; cases hh2) (ho g rfl)]
    exact hh2
theorem row_lt {w : World} {e : TypeId} {v : Value} {n : Nat} {xs : List Value} (h : w.ownsRow 0 e 1 v n xs) {k : Nat} (hk : v.ownBlock = some k) : k < w.heap.size ∧ ∃ cur, w.heap[k]? = some (.cells cur e (0, 0)) := by
  obtain ⟨_, ⟨rfl, _⟩ | ⟨g, cp, cur, rfl, hg, hh2, _⟩⟩ := h
  · cases hk
  · simp only [Value.ownBlock, Option.some.injEq] at hk
    subst hk
    refine ⟨?_, cur, hh2⟩
    rcases Nat.lt_or_ge g w.heap.size with hl | hl
    · exact hl
    · rw [Array.getElem?_eq_none hl] at hh2; cases hh2
theorem row_ne {w : World} {e f : TypeId} {v u : Value} {n m : Nat} {xs ys : List Value} (h : w.ownsRow 0 e 1 v n xs) (h' : w.ownsRow 0 f 1 u m ys) (hne : e ≠ f) {k : Nat} (hk : v.ownBlock = some k) : u.ownBlock ≠ some k := fun hk' => by
  obtain ⟨_, c1, h1⟩ := row_lt h hk
  obtain ⟨_, c2, h2⟩ := row_lt h' hk'
  rw [h1] at h2
  simp at h2
  exact hne h2.2
theorem row_blk {w : World} {e t : TypeId} {v : Value} {n q : Nat} {xs cs : List Value} (h : w.ownsRow 0 e 1 v n xs) (hb : Blk w q cs t) (hne : e ≠ t) : v.ownBlock ≠ some q := fun hk => by
  obtain ⟨_, c1, h1⟩ := row_lt h hk
  unfold Blk at hb
  rw [h1] at hb
  simp at hb
  exact hne hb.2
theorem row_sl3 {w : World} {e : TypeId} {v : Value} {n : Nat} {xs : List Value} (h : w.ownsRow 0 e 1 v n xs) : ∃ ao n c, v = .slice ao n c := by
  obtain ⟨_, ⟨rfl, rfl⟩ | ⟨g, cp, cur, rfl, _⟩⟩ := h
  · exact ⟨_, _, _, rfl⟩
  · exact ⟨_, _, _, rfl⟩
theorem row_sl {w : World} {e : TypeId} {v : Value} {n : Nat} {xs : List Value} (h : w.ownsRow 0 e 1 v n xs) : ∃ ao c, v = .slice ao n c := by
  obtain ⟨_, ⟨rfl, rfl⟩ | ⟨g, cp, cur, rfl, _⟩⟩ := h
  · exact ⟨_, _, rfl⟩
  · exact ⟨_, _, rfl⟩
theorem ldL {W : World} {q j : Nat} {cs : List Value} {t : TypeId} {v : Value} (hb : Blk W q cs t) (hv : cs[j]? = some v) : (Instr.loadAt 57 (.pointer (some ⟨q, j, none⟩))).run Try.prog W = .ok v W := by
  have hc : W.cell? ⟨q, j, none⟩ = some v := (hb.cell j).trans hv
  go_simp
theorem stL {w : World} {q j : Nat} {cs : List Value} {t : TypeId} (hb : Blk w q cs t) (hj : j < cs.length) (ao : Option Addr) (n c : Nat) : ∃ w', (Instr.storeAt 57 (.pointer (some ⟨q, j, none⟩)) (.slice ao n c)).run Try.prog w = .ok () w' ∧ Blk w' q (cs.set j (.slice ao n c)) t ∧ Fx (fun k => k = q) w w' := by
  have hc : w.cell? ⟨q, j, none⟩ = some cs[j] := (hb.cell j).trans (List.getElem?_eq_getElem hj)
  have hf := hb.frozen j
  refine ⟨w.setCell ⟨q, j, none⟩ (.slice ao n c), by go_simp, hb.set j _, Fx.setCell (S := fun k => k = q) _ _ _ _ rfl⟩
theorem stL' {w : World} {q j : Nat} {cs : List Value} {t : TypeId} (hb : Blk w q cs t) (hj : j < cs.length) {v : Value} (hv : ∃ ao n c, v = .slice ao n c) : ∃ w', (Instr.storeAt 57 (.pointer (some ⟨q, j, none⟩)) v).run Try.prog w = .ok () w' ∧ Blk w' q (cs.set j v) t ∧ Fx (fun k => k = q) w w' := by
  obtain ⟨ao, n, c, rfl⟩ := hv
  exact stL hb hj ao n c
theorem f59_0 (q o : Nat) (W : World) : (Instr.fieldAt 59 (.pointer (some ⟨q, o, none⟩)) 0).run Try.prog W = .ok (.pointer (some ⟨q, o + 0, none⟩)) W := by
  go_simp
  try simp
  try rw [Addr.add_mid]
theorem f59_1 (q o : Nat) (W : World) : (Instr.fieldAt 59 (.pointer (some ⟨q, o, none⟩)) 1).run Try.prog W = .ok (.pointer (some ⟨q, o + 1, none⟩)) W := by
  go_simp
  try simp
  try rw [Addr.add_mid]
abbrev En3 := Value × Value × List UInt8
/-- The book of what was handed out. -/
structure Bk (w : World) (b qb : Nat) (L V : Value) (es : List En3) : Prop where
  bl : Blk w qb [L, V] 59
  ol : w.ownsRow 0 38 1 L es.length (es.map (·.1))
  ov : w.ownsRow 0 38 1 V es.length (es.map (·.2.1))
  hs : ∀ e ∈ es, Has w e.1 e.2.2 ∧ Has w e.2.1 e.2.2
  bq : b ≤ qb
  bL : ∀ k, L.ownBlock = some k → b ≤ k
  bV : ∀ k, V.ownBlock = some k → b ≤ k
  lv : ∀ k, L.ownBlock = some k → V.ownBlock ≠ some k
  ap : ∀ e ∈ es, ∀ k, (k = qb ∨ L.ownBlock = some k ∨ V.ownBlock = some k) → Off e.1 e.2.2 k ∧ Off e.2.1 e.2.2 k
/-- The book's blocks. -/
def bookB (qb : Nat) (L V : Value) (k : Nat) : Prop := k = qb ∨ L.ownBlock = some k ∨ V.ownBlock = some k
theorem Bk.fx {S : Nat → Prop} {w w' : World} {b qb : Nat} {L V : Value} {es : List En3} (h : Bk w b qb L V es) (hf : Fx S w w') (ho : ∀ k, S k → ¬ bookB qb L V k) (hd : ∀ e ∈ es, ∀ k, S k → Off e.1 e.2.2 k ∧ Off e.2.1 e.2.2 k) : Bk w' b qb L V es :=
  ⟨h.bl.fx hf (fun hS => ho _ hS (.inl rfl)), row_fx h.ol hf (fun k hk hS => ho k hS (.inr (.inl hk))), row_fx h.ov hf (fun k hk hS => ho k hS (.inr (.inr hk))), fun e he => ⟨(h.hs e he).1.fxo hf (fun k hk => (hd e he k hk).1), (h.hs e he).2.fxo hf (fun k hk => (hd e he k hk).2)⟩, h.bq, h.bL, h.bV, h.lv, h.ap⟩
theorem Bk.below {w w' : World} {b qb : Nat} {L V : Value} {es : List En3} (h : Bk w b qb L V es) (hb : Below w.heap.size w w') : Bk w' b qb L V es := h.fx (S := fun _ => False) (Fx.of_below hb) (fun _ h => h.elim) (fun _ _ _ h => h.elim)
theorem Bk.lt {w : World} {b qb : Nat} {L V : Value} {es : List En3} (h : Bk w b qb L V es) {k : Nat} (hk : bookB qb L V k) : b ≤ k ∧ k < w.heap.size := by
  rcases hk with rfl | hk | hk
  · exact ⟨h.bq, h.bl.lt⟩
  · exact ⟨h.bL k hk, (row_lt h.ol hk).1⟩
  · exact ⟨h.bV k hk, (row_lt h.ov hk).1⟩
/-- Marks. -/
def mkB (m i : Nat) : UInt8 := UInt8.ofNat ((m + i) % 256)
def mkL (m n : Nat) : List UInt8 := (List.range n).map (mkB m)
theorem mkL_len (m n : Nat) : (mkL m n).length = n := by simp [mkL]
theorem mkL_succ (m n : Nat) : mkL m (n + 1) = mkL m n ++ [mkB m n] := by simp [mkL, List.range_succ]
theorem mk_set (m t : Nat) (ls : List UInt8) (ht : t < ls.length) : (mkL m t ++ ls.drop t).set t (mkB m t) = mkL m (t + 1) ++ ls.drop (t + 1) := by
  rw [List.set_append_right _ _ (by rw [mkL_len]; exact Nat.le_refl _), mkL_len, Nat.sub_self, List.drop_eq_getElem_cons ht, List.set_cons_zero, mkL_succ]
  simp
theorem mk_at (m t : Nat) (ls : List UInt8) : (mkL m (t + 1) ++ ls.drop (t + 1))[t]? = some (mkB m t) := by
  rw [List.getElem?_append_left (by rw [mkL_len]; omega), mkL_succ, List.getElem?_append_right (by rw [mkL_len]; exact Nat.le_refl _), mkL_len, Nat.sub_self]
  rfl
theorem conv_mod {x : Nat} (W : World) : (Go.convert 3 5 (.int .i64 (x : Int))).run Try.prog W = .ok (byt (UInt8.ofNat (x % 256))) W := by
  have e : IntKind.u8.wrap (x : Int) = ((x % 256 : Nat) : Int) := by rw [IntKind.wrap_u8]; omega
  have e2 : ((UInt8.ofNat (x % 256)).toNat : Int) = ((x % 256 : Nat) : Int) := by rw [UInt8.toNat_ofNat', Nat.mod_eq_of_lt (by omega)]
  unfold byt
  rw [e2]
  go_simp
theorem len55' {w : World} {v : Value} {n : Nat} {xs : List Value} (h : w.ownsRow 0 38 1 v n xs) (W : World) (ty : TypeId) : (Builtin.len_ #[57] ty #[v]).run Try.prog W = .ok (.int .i64 (n : Int)) W := by
  obtain ⟨ao, c, rfl⟩ := row_sl h
  exact len55 _ _ _ _ _
theorem sl_inj {g g' n c : Nat} (h : (Value.slice (some ⟨g, 0, none⟩) n c) = .slice (some ⟨g', 0, none⟩) n c) : g' = g := by
  simp only [Value.slice.injEq, Option.some.injEq, Addr.mk.injEq, and_true, true_and] at h
  exact h.symm
/-- What a slice and its longer kin are behind the second 'append'. -/
structure Kin (w1 W : World) (s sx : Value) (ms : List UInt8) (x : UInt8) : Prop where
  ob : W.ownsRow 0 5 1 sx (ms ++ [x, x, x]).length ((ms ++ [x, x, x]).map byt)
  hs : Has W s ms
  nw : Nw w1 s sx
theorem Kin.has {w1 W : World} {s sx : Value} {ms : List UInt8} {x : UInt8} (h : Kin w1 W s sx ms x) : Has W sx (ms ++ [x, x, x]) := Own.has (base := 0) h.ob
theorem Kin.below {w1 W W' : World} {s sx : Value} {ms : List UInt8} {x : UInt8} (h : Kin w1 W s sx ms x) (hb : Below W.heap.size W W') : Kin w1 W' s sx ms x := ⟨row_fx (S := fun _ => False) h.ob (Fx.of_below hb) (fun _ _ h => h), h.hs.below hb, h.nw⟩
/-- 'append' of three bytes: both read. -/
theorem kin_app {w1 W : World} {s : Value} {ms : List UInt8} {x : UInt8} (hs : W.ownsRow 0 5 1 s ms.length (ms.map byt)) (hl : ms.length ≤ 1000000) (g : Nat) (hg : Has W (.slice (some ⟨g, 0, none⟩) 3 3) [x, x, x]) (hsz : w1.heap.size ≤ W.heap.size) (ty : TypeId) : ∃ sx W', (Builtin.append_ #[38, 38] ty #[s, .slice (some ⟨g, 0, none⟩) 3 3]).run Try.prog W = .ok sx W' ∧ Kin w1 W' s sx ms x ∧ Fx (fun k => s.ownBlock = some k) W W' := by
  obtain ⟨i, hi, hz0, hz1, hz2⟩ := info_parts Try.info5
  rcases hg with ⟨e, _⟩ | ⟨ad, cap, e, h2, h3⟩
  · cases e
  · simp only [List.length_cons, List.length_nil, Value.slice.injEq, Option.some.injEq, true_and] at e
    obtain ⟨rfl, rfl⟩ := e
    have hn : ∀ j u, ([x, x, x].map byt)[j]? = some u → W.cell? ((⟨g, 0, none⟩ : Addr).add j) = some u := fun j u hj => by
      rw [List.getElem?_map, Option.map_eq_some_iff] at hj
      obtain ⟨b', hb, rfl⟩ := hj
      exact h3 j b' hb
    obtain ⟨v', w', r1, r2, r3, r4⟩ := run_appx W 38 ty 5 i (.int .u8 0) 1 1 Try.underlying38 hi hz0 hz1 hz2 rfl (by decide) s ms.length (ms.map byt) hs ⟨g, 0, none⟩ 3 3 ([x, x, x].map byt) rfl hn (byt_one _) (by omega) (by decide)
    have r5 := run_appk W 0 38 ty 5 i (.int .u8 0) 1 Try.underlying38 hi hz0 hz1 hz2 s ms.length (ms.map byt) hs ⟨g, 0, none⟩ 3 3 ([x, x, x].map byt) rfl hn (byt_one _) (by omega) (by omega) (by decide) v' w' r1
    refine ⟨v', w', r1, ⟨by rw [List.length_append, List.map_append]; exact r2, Own.has (base := 0) r5, fun k hk => ?_⟩, grown_fx r3⟩
    rcases r4 k hk with h | h
    · exact .inl h
    · exact .inr (by omega)
/-- 'append' of two slices to the book's row. -/
theorem row_app {W : World} {R : Value} {n : Nat} {rs : List Value} (hr : W.ownsRow 0 38 1 R n rs) (hn : n ≤ 1000) (g : Nat) (a c : Value) (hb : Blk W g [a, c] 38) (ha : ∃ ao n c, a = .slice ao n c) (hc : ∃ ao n c', c = .slice ao n c') (ty : TypeId) : ∃ R' W', (Builtin.append_ #[57, 57] ty #[R, .slice (some ⟨g, 0, none⟩) 2 2]).run Try.prog W = .ok R' W' ∧ W'.ownsRow 0 38 1 R' (n + 2) (rs ++ [a, c]) ∧ Fx (fun k => R.ownBlock = some k) W W' ∧ Nw W R R' := by
  obtain ⟨i, hi, hz0, hz1, hz2⟩ := info_parts info38
  obtain ⟨v', w', r1, r2, r3, r4⟩ := run_appx W 57 ty 38 i (.slice none 0 0) 1 24 Try.underlying57 hi hz0 hz1 hz2 rfl (by decide) R n rs hr ⟨g, 0, none⟩ 2 2 [a, c] rfl (fun j u hj => by rw [add_plain, hb.cell]; exact hj) (fun u hu => by
    simp only [List.mem_cons, List.not_mem_nil, or_false] at hu
    rcases hu with rfl | rfl
    · obtain ⟨_, _, _, rfl⟩ := ha; rfl
    · obtain ⟨_, _, _, rfl⟩ := hc; rfl) (by omega) (by decide)
  exact ⟨v', w', r1, r2, grown_fx r3, r4⟩
/-- One of the book's rows behind Note's line. -/
structure Lin (w1 W : World) (qb j : Nat) (L V R R' s sx : Value) (n : Nat) (rs : List Value) (ms : List UInt8) (x : UInt8) : Prop where
  bl : Blk W qb ([L, V].set j R') 59
  row : W.ownsRow 0 38 1 R' (n + 2) (rs ++ [s, sx])
  kin : Kin w1 W s sx ms x
  fx : Fx (fun k => k = qb ∨ R.ownBlock = some k ∨ s.ownBlock = some k) w1 W
  nw : Nw w1 R R'
end Go.Proofs.Ytacimelcmkhhlaa
