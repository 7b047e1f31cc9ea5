import Derived.Test.YtgfgabgnejnipaaQrd
namespace Go.Proofs.Ytgfgabgnejnipaa
open Go.RowKit

theorem Try.info22 : (Try.prog.info? 22).map (fun i => (i.zero, i.size, i.bytes)) = some (some (.slice none 0 0), 1, 24) := by kernel_rfl

/-- A row of slices. -/
def OwnL (w : World) (v : Value) (xs : List Value) : Prop := w.ownsRow 0 22 1 v xs.length xs ∧ ∀ u ∈ xs, u.oneCell' = true

theorem OwnL.nil (w : World) : OwnL w (.slice none 0 0) [] := ⟨⟨rfl, .inl ⟨rfl, rfl⟩⟩, by simp⟩

theorem OwnL.lt {w : World} {v : Value} {xs : List Value} (h : OwnL w v xs) : ∀ k, v.ownBlock = some k → k < w.heap.size := by
  intro k hk
  obtain ⟨⟨_, ⟨rfl, _⟩ | ⟨g, cap, cur, rfl, hg, hh, _⟩⟩, _⟩ := h
  · cases hk
  · simp [Value.ownBlock] at hk; subst hk; exact block_lt hh

theorem OwnL.type {w : World} {v : Value} {xs : List Value} (h : OwnL w v xs) : ∀ k, v.ownBlock = some k → ∃ cur, w.heap[k]? = some (.cells cur 22 (0, 0)) := by
  intro k hk
  obtain ⟨⟨_, ⟨rfl, _⟩ | ⟨g, cap, cur, rfl, hg, hh, _⟩⟩, _⟩ := h
  · cases hk
  · simp [Value.ownBlock] at hk; subst hk; exact ⟨cur, hh⟩

theorem Own.type {w : World} {base : Nat} {v : Value} {bs : List UInt8} (h : Own w base v bs) : ∀ k, v.ownBlock = some k → ∃ cur, w.heap[k]? = some (.cells cur 5 (0, 0)) := by
  intro k hk
  obtain ⟨_, ⟨rfl, _⟩ | ⟨g, cap, cur, rfl, hg, hh, _⟩⟩ := h
  · cases hk
  · simp [Value.ownBlock] at hk; subst hk; exact ⟨cur, hh⟩

theorem OwnL.fx {S : Nat → Prop} {w w' : World} {v : Value} {xs : List Value} (h : OwnL w v xs) (hf : Fx S w w') (hd : ∀ k, v.ownBlock = some k → ¬ S k) : OwnL w' v xs := by
  obtain ⟨⟨h1, h | ⟨g, cap, cur, hv, hg, hh, r⟩⟩, h2⟩ := h
  · exact ⟨⟨h1, .inl h⟩, h2⟩
  · refine ⟨⟨h1, .inr ⟨g, cap, cur, hv, hg, ?_, r⟩⟩, h2⟩
    rw [hf.block g (block_lt hh) (hd g (by rw [hv]; rfl)), hh]

theorem OwnL.slice {w : World} {v : Value} {xs : List Value} (h : OwnL w v xs) : ∃ ao cap, v = .slice ao xs.length cap := by
  obtain ⟨⟨_, ⟨rfl, h⟩ | ⟨g, cap, cur, rfl, _⟩⟩, _⟩ := h
  · exact ⟨none, 0, by rw [h]⟩
  · exact ⟨_, _, rfl⟩

theorem OwnL.len {w : World} {v : Value} {xs : List Value} (h : OwnL w v xs) (W : World) (ty : TypeId) : (Builtin.len_ #[66] ty #[v]).run Try.prog W = .ok (.int .i64 xs.length) W := by
  obtain ⟨ao, cap, rfl⟩ := h.slice
  go_simp

theorem idx66 (ad : Addr) (n cap m : Nat) (h : m < n) (W : World) : (Instr.indexAt 66 (.slice (some ad) n cap) (.int .i64 (m : Int))).run Try.prog W = .ok (.pointer (some (ad.add m))) W := by
  have hm : (m : Int) < (n : Int) := by omega
  go_simp

theorem eq_yes2 (a b : Value) (xs : List UInt8) (w : World) (ha : Has w a xs) (hb : Has w b xs) :
    Calls Try.prog 10 #[a, b] w fun e w' => e = .returned (.bool true) ∧ w' = w :=
  (eq_any a b xs xs w ha hb).mono fun e w' ⟨h1, h2⟩ => ⟨by rw [h1]; simp, h2⟩

/-- One slice of a row: its address, in whatever world; what lies there. -/
theorem OwnL.at {w : World} {v : Value} {xs : List Value} (h : OwnL w v xs) (m : Nat) (hm : m < xs.length) :
    ∃ ad : Addr, (∀ W, (Instr.indexAt 66 v (.int .i64 (m : Int))).run Try.prog W = .ok (.pointer (some ad)) W) ∧ w.cell? ad = some xs[m] := by
  obtain ⟨⟨_, ⟨rfl, h⟩ | ⟨g, cap, cur, rfl, _, hh, hn, hc, hs, ht⟩⟩, _⟩ := h
  · omega
  · have hm' : (m : Int) < (xs.length : Int) := by omega
    refine ⟨(⟨g, 0, none⟩ : Addr).add m, fun W => idx66 _ _ _ _ hm W, ?_⟩
    · rw [add_plain]
      have e : (cur.toList.take (xs.length * 1))[m]? = xs[m]? := by rw [ht]
      rw [Nat.mul_one, List.getElem?_take_of_lt hm, Array.getElem?_toList, List.getElem?_eq_getElem hm] at e
      simp [World.cell?, hh, e]

theorem run_app66 (w : World) (ty : TypeId) (v : Value) (xs : List Value) (hown : OwnL w v xs) (ad : Addr) (c : Nat) (u : Value) (hu : u.oneCell' = true) (hc : w.cell? ad = some u) (hn : xs.length ≤ 100000) :
    ∃ v' w', (Builtin.append_ #[66, 66] ty #[v, .slice (some ad) 1 c]).run Try.prog w = .ok v' w' ∧ OwnL w' v' (xs ++ [u]) ∧ w.grownBy w' v.ownBlock ∧ Nw w v v' := by
  obtain ⟨i0, hi, hz0, hz1, hz2⟩ := info_parts Try.info22
  obtain ⟨v', w', hrun, r1, r2, r3⟩ := run_appx w 0 66 ty 22 i0 (.slice none 0 0) 24 Try.underlying66 hi hz0 hz1 hz2 rfl v _ _ hown.1 ad 1 c [u] rfl (by
    intro j x hj
    match j, hj with
    | 0, hj => simp at hj; subst hj; rw [show ad.add 0 = ad from rfl]; exact hc) (by simpa using hu) (by omega) (by omega) (by decide) (Nat.zero_le _)
  refine ⟨v', w', hrun, ⟨by simpa using r1, ?_⟩, r2, r3⟩
  intro x hx
  rcases List.mem_append.1 hx with h | h
  · exact hown.2 x h
  · simp at h; subst h; exact hu

/-- 'append(s, u)' of a slice to a row of slices. -/
theorem wpList_app66 {w : World} {ops : Array Oper} {rest : List Oper} {o : Oper} {a : Act} {Q : Exit → Act → World → Prop} (hgd : o.guard = none) (s x : Operand)
    (ho : o.op = .call { callee := .builtin .append, args := #[s, x], argTypes := #[66, 66] }) (v : Value) (xs : List Value) (hs : a.eval s = v) (hown : OwnL w v xs)
    (ad : Addr) (c : Nat) (u : Value) (hx : a.eval x = .slice (some ad) 1 c) (hu : u.oneCell' = true) (hc : w.cell? ad = some u) (hn : xs.length ≤ 100000)
    (h : ∀ v' w', OwnL w' v' (xs ++ [u]) → w.grownBy w' v.ownBlock → Nw w v v' → wpList Try.prog ops Q rest (a.put o.dst v') w') : wpList Try.prog ops Q (o :: rest) a w := by
  obtain ⟨v', w', hrun, r1, r2, r3⟩ := run_app66 w o.type v xs hown ad c u hu hc hn
  refine wpList_plain hgd fun K hK => ?_
  unfold Oper.wp
  simp [execOp, ho, resolve, invoke, builtin, hs, hx, hrun, Result.andThen]
  exact hK _ _ (h v' w' r1 r2 r3)

theorem step_app66 {ops : Array Oper} {o : Oper} {a : Act} {w : World} {K : Act → World → Prop} {Q : Exit → Act → World → Prop} {E : Prop} (hgd : o.guard = none) (s x : Operand)
    (ho : o.op = .call { callee := .builtin .append, args := #[s, x], argTypes := #[66, 66] }) (v : Value) (xs : List Value) (hs : a.eval s = v) (hown : OwnL w v xs)
    (ad : Addr) (c : Nat) (u : Value) (hx : a.eval x = .slice (some ad) 1 c) (hu : u.oneCell' = true) (hc : w.cell? ad = some u) (hn : xs.length ≤ 100000)
    (h : ∀ v' w', OwnL w' v' (xs ++ [u]) → w.grownBy w' v.ownBlock → Nw w v v' → K (a.put o.dst v') w') : if Region.wanted o (yielded ops a.tmps) = true then Oper.wp Try.prog o a w K Q else E := by
  have hw : Region.wanted o (yielded ops a.tmps) = true := by simp [Region.wanted, hgd]
  rw [if_pos hw]
  obtain ⟨v', w', hrun, r1, r2, r3⟩ := run_app66 w o.type v xs hown ad c u hu hc hn
  unfold Oper.wp
  simp [execOp, ho, resolve, invoke, builtin, hs, hx, hrun, Result.andThen]
  exact h v' w' r1 r2 r3

/-- 'append(s, x...)' of bytes in a region that draws its order. -/
theorem step_appx {ops : Array Oper} {o : Oper} {a : Act} {w : World} {K : Act → World → Prop} {Q : Exit → Act → World → Prop} {E : Prop} (hgd : o.guard = none) (s x : Operand)
    (ho : o.op = .call { callee := .builtin .append, args := #[s, x], argTypes := #[22, 22] }) (base : Nat) (v : Value) (bs : List UInt8) (hs : a.eval s = v) (hown : Own w base v bs)
    (ad : Addr) (c m : Nat) (ys : List UInt8) (hm : m = ys.length) (hx : a.eval x = .slice (some ad) m c) (hh : ∀ i u, ys[i]? = some u → w.cell? (ad.add i) = some (byt u)) (hb : bs.length + ys.length ≤ 140737488355328) (hbase : base ≤ w.heap.size)
    (h : ∀ v' w', Own w' base v' (bs ++ ys) → w.grownBy w' v.ownBlock → Nw w v v' → K (a.put o.dst v') w') : if Region.wanted o (yielded ops a.tmps) = true then Oper.wp Try.prog o a w K Q else E := by
  have hw : Region.wanted o (yielded ops a.tmps) = true := by simp [Region.wanted, hgd]
  rw [if_pos hw]
  subst hm
  obtain ⟨i0, hi, hz0, hz1, hz2⟩ := info_parts Try.info5
  obtain ⟨v', w', hrun, r1, r2, r3⟩ := run_appx w base 22 o.type 5 i0 (.int .u8 0) 1 Try.underlying22 hi hz0 hz1 hz2 rfl v _ _ hown ad ys.length c (ys.map byt) (by simp) (by
    intro j u hj
    simp only [List.getElem?_map, Option.map_eq_some_iff] at hj
    obtain ⟨b, hb, rfl⟩ := hj
    exact hh j b hb) (byt_one ys) (by omega) hb (by decide) hbase
  unfold Oper.wp
  simp [execOp, ho, resolve, invoke, builtin, hs, hx, hrun, Result.andThen]
  exact h v' w' (by simpa [Own] using r1) r2 r3

/-- Not the same row. -/
def Apart (v u : Value) : Prop := ∀ k, v.ownBlock = some k → u.ownBlock ≠ some k

theorem Apart.symm {v u : Value} (h : Apart v u) : Apart u v := fun k h1 h2 => h k h2 h1
theorem Apart.nw {v u u' : Value} {w : World} (h : Apart v u) (hn : Nw w u u') (hl : ∀ k, v.ownBlock = some k → k < w.heap.size) : Apart v u' := by
  intro k h1 h2
  rcases hn k h2 with h3 | h3
  · exact h k h1 h3
  · have := hl k h1; omega

/-- The book within the table's block: the two rows of slices. -/
structure Bk (w : World) (T : Nat) (cs : Array Value) (L V : Value) (ls vs : List Value) : Prop where
  blk : w.heap[T]? = some (.cells cs 70)
  siz : cs.size = 10
  l8 : cs[8]? = some L
  v9 : cs[9]? = some V
  ol : OwnL w L ls
  ov : OwnL w V vs
  lv : Apart L V

/-- Each list and what it must hold. -/
def Ents (w : World) (ls vs : List Value) : Prop := ls.length = vs.length ∧ ∀ (i : Nat) l v, ls[i]? = some l → vs[i]? = some v → ∃ bs, Own w 0 l bs ∧ Own w 0 v bs

theorem Ents.fx {S : Nat → Prop} {w w' : World} {ls vs : List Value} (h : Ents w ls vs) (hf : Fx S w w') (hd : ∀ u, u ∈ ls ∨ u ∈ vs → ∀ k, u.ownBlock = some k → ¬ S k) : Ents w' ls vs := by
  refine ⟨h.1, fun i l v h1 h2 => ?_⟩
  obtain ⟨bs, b1, b2⟩ := h.2 i l v h1 h2
  exact ⟨bs, b1.fx hf (hd l (.inl (List.mem_of_getElem? h1))), b2.fx hf (hd v (.inr (List.mem_of_getElem? h2)))⟩

theorem Ents.type {w : World} {ls vs : List Value} (h : Ents w ls vs) : ∀ u, u ∈ ls ∨ u ∈ vs → ∀ k, u.ownBlock = some k → ∃ cur, w.heap[k]? = some (.cells cur 5 (0, 0)) := by
  rintro u (hu | hu) k hk
  · obtain ⟨i, hi, rfl⟩ := List.getElem_of_mem hu
    have hi2 : i < vs.length := by rw [← h.1]; exact hi
    obtain ⟨bs, b1, _⟩ := h.2 i _ _ (List.getElem?_eq_getElem hi) (List.getElem?_eq_getElem hi2)
    exact b1.type k hk
  · obtain ⟨i, hi, rfl⟩ := List.getElem_of_mem hu
    have hi2 : i < ls.length := by rw [h.1]; exact hi
    obtain ⟨bs, _, b1⟩ := h.2 i _ _ (List.getElem?_eq_getElem hi2) (List.getElem?_eq_getElem hi)
    exact b1.type k hk

theorem Ents.snoc {w : World} {ls vs : List Value} {l v : Value} {bs : List UInt8} (h : Ents w ls vs) (h1 : Own w 0 l bs) (h2 : Own w 0 v bs) : Ents w (ls ++ [l]) (vs ++ [v]) := by
  refine ⟨by simp [h.1], fun i a b ha hb => ?_⟩
  by_cases hi : i < ls.length
  · rw [List.getElem?_append_left hi] at ha
    rw [List.getElem?_append_left (by rw [← h.1]; exact hi)] at hb
    exact h.2 i a b ha hb
  · rw [List.getElem?_append_right (by omega)] at ha
    rw [List.getElem?_append_right (by rw [← h.1]; omega), ← h.1] at hb
    obtain ⟨d, hd⟩ : ∃ d, i - ls.length = d := ⟨_, rfl⟩
    rw [hd] at ha hb
    match d, ha, hb with
    | 0, ha, hb => simp at ha hb; subst ha hb; exact ⟨bs, h1, h2⟩

theorem Bk.cells {w : World} {T : Nat} {cs : Array Value} {L V : Value} {ls vs : List Value} (h : Bk w T cs L V ls vs) :
    w.cell? ⟨T, 8, none⟩ = some L ∧ w.cell? ⟨T, 9, none⟩ = some V ∧ ∀ o, w.frozen? ⟨T, o, none⟩ = false := by
  refine ⟨?_, ?_, fun o => ?_⟩
  · simp [World.cell?, h.blk, h.l8]
  · simp [World.cell?, h.blk, h.v9]
  · simp [World.frozen?, h.blk]

set_option maxRecDepth 100000 in
set_option maxHeartbeats 1000000 in
theorem holds_any (T : Nat) (cs : Array Value) (L V : Value) (ls vs : List Value) (w : World) (h : Bk w T cs L V ls vs) (he : Ents w ls vs) (hn : ls.length ≤ 100000) :
    Calls Try.prog 38 #[.pointer (some ⟨T, 8, none⟩)] w fun e w' => e = .returned (.bool true) ∧ ∃ q, w' = w.drewN q := by
  obtain ⟨c8, c9, _⟩ := h.cells
  have C8 := hide c8
  have C9 := hide c9
  have lL := h.ol.len
  have HOL := hide h.ol
  have HOV := hide h.ov
  have HE := hide he
  clear h he c8 c9
  go_enter Try.func38, Try.ntmps38
  go_wp2
  go_loopw [3] (fun i wr => ∃ k : Nat, k ≤ ls.length ∧ i = .int .i64 k ∧ ∃ q, wr = w.drewN q) (fun i _ => ls.length - (intOf i).toNat)
  case atStart => exact ⟨0, Nat.zero_le _, rfl, 0, rfl⟩
  case round =>
    obtain ⟨k, hk, rfl, q, hq⟩ := hrel
    have c8 : wr.cell? ⟨T, 8, none⟩ = some L := by rw [hq]; exact C8.out
    have c9 : wr.cell? ⟨T, 9, none⟩ = some V := by rw [hq]; exact C9.out
    have HQ := hide hq
    by_cases hlt : k < ls.length
    · have hltv : k < vs.length := by have := HE.out.1; omega
      obtain ⟨ad, i1, d1'⟩ := HOL.out.at k hlt
      obtain ⟨bd, i2, d2'⟩ := HOV.out.at k hltv
      have d1 : wr.cell? ad = some ls[k] := by rw [hq]; exact d1'
      have d2 : wr.cell? bd = some vs[k] := by rw [hq]; exact d2'
      obtain ⟨bs, b1, b2⟩ := HE.out.2 k ls[k] vs[k] (List.getElem?_eq_getElem hlt) (List.getElem?_eq_getElem hltv)
      have B1 : Hid (Has wr ls[k] bs) := by rw [hq]; exact b1.has.drewN q
      have B2 : Hid (Has wr vs[k] bs) := by rw [hq]; exact b2.has.drewN q
      clear b1 b2 d1' d2' hq
      generalize ls[k] = lv at *
      generalize vs[k] = vv at *
      have hi : (k : Int) < (ls.length : Int) := by omega
      go_wp2
      go_quiet ((go_at_call 10; exact Calls.quiet_of_same (eq_yes2 lv vv bs _ (B1.out.drewN _) (B2.out.drewN _))))
      go_wp2
      go_roundw
      case rel => exact ⟨k + 1, by omega, by go_num, q + nq, by rw [HQ.out]; simp⟩
      case measure => simp [intOf]; omega
    · have hi : ¬ (k : Int) < (ls.length : Int) := by omega
      clear hq
      go_wp2
      go_ret
      exact ⟨rfl, q, HQ.out⟩

theorem Bk.lt {w : World} {T : Nat} {cs : Array Value} {L V : Value} {ls vs : List Value} (h : Bk w T cs L V ls vs) : T < w.heap.size := block_lt h.blk
theorem Bk.nl {w : World} {T : Nat} {cs : Array Value} {L V : Value} {ls vs : List Value} (h : Bk w T cs L V ls vs) : L.ownBlock ≠ some T := by
  intro e
  obtain ⟨cur, hc⟩ := h.ol.type T e
  rw [h.blk] at hc; simp at hc
theorem Bk.nv {w : World} {T : Nat} {cs : Array Value} {L V : Value} {ls vs : List Value} (h : Bk w T cs L V ls vs) : V.ownBlock ≠ some T := by
  intro e
  obtain ⟨cur, hc⟩ := h.ov.type T e
  rw [h.blk] at hc; simp at hc

theorem Bk.fx {S : Nat → Prop} {w w' : World} {T : Nat} {cs : Array Value} {L V : Value} {ls vs : List Value} (h : Bk w T cs L V ls vs) (hf : Fx S w w') (hT : ¬ S T) (hL : ∀ k, L.ownBlock = some k → ¬ S k) (hV : ∀ k, V.ownBlock = some k → ¬ S k) : Bk w' T cs L V ls vs :=
  ⟨(hf.block T h.lt hT).trans h.blk, h.siz, h.l8, h.v9, h.ol.fx hf hL, h.ov.fx hf hV, h.lv⟩

theorem Bk.below {w w' : World} {T : Nat} {cs : Array Value} {L V : Value} {ls vs : List Value} (h : Bk w T cs L V ls vs) (hb : Below w.heap.size w w') : Bk w' T cs L V ls vs :=
  h.fx (S := fun _ => False) (Fx.of_below hb) (fun s => s) (fun _ _ s => s) (fun _ _ s => s)

/-- A row of bytes is turned: the book is not. -/
theorem Bk.bytes {w w' : World} {T : Nat} {cs : Array Value} {L V v : Value} {ls vs : List Value} {base : Nat} {bs : List UInt8} (h : Bk w T cs L V ls vs) (ho : Own w base v bs) (hf : Fx (fun k => v.ownBlock = some k) w w') : Bk w' T cs L V ls vs := by
  refine h.fx hf (fun e => ?_) (fun k hk e => ?_) (fun k hk e => ?_)
  · obtain ⟨cur, hc⟩ := ho.type T e
    rw [h.blk] at hc; simp at hc
  · obtain ⟨cur, hc⟩ := ho.type k e
    obtain ⟨cur2, hc2⟩ := h.ol.type k hk
    rw [hc] at hc2; simp at hc2
  · obtain ⟨cur, hc⟩ := ho.type k e
    obtain ⟨cur2, hc2⟩ := h.ov.type k hk
    rw [hc] at hc2; simp at hc2

theorem get_set {cs : Array Value} {i j : Nat} {v : Value} (h : i ≠ j) : (cs.setIfInBounds i v)[j]? = cs[j]? := by
  rw [Array.getElem?_setIfInBounds, if_neg h]

/-- A list is put into the book. -/
theorem Bk.putL {w w2 : World} {T : Nat} {cs : Array Value} {L V L' u : Value} {ls vs : List Value} (h : Bk w T cs L V ls vs) (ho : OwnL w2 L' (ls ++ [u])) (hg : w.grownBy w2 L.ownBlock) (hn : Nw w L L') :
    Bk (w2.setCell ⟨T, 8, none⟩ L') T (cs.setIfInBounds 8 L') L' V (ls ++ [u]) vs ∧ Fx (fun k => k = T ∨ L.ownBlock = some k) w (w2.setCell ⟨T, 8, none⟩ L') ∧ w2.cell? ⟨T, 8, none⟩ = some L ∧ w2.frozen? ⟨T, 8, none⟩ = false ∧ w2.cell? ⟨T, 9, none⟩ = some V := by
  have f1 : Fx (fun k => L.ownBlock = some k) w w2 := Fx.grown hg (fun k e => e)
  have b2 : w2.heap[T]? = some (.cells cs 70) := (f1.block T h.lt h.nl).trans h.blk
  have f2 : Fx (fun k => k = T) w2 (w2.setCell ⟨T, 8, none⟩ L') := Fx.setCell (S := fun k => k = T) w2 T 8 L' rfl
  have ov2 : OwnL w2 V vs := h.ov.fx f1 (fun k hk e => h.lv k e hk)
  refine ⟨⟨setCell_block w2 T 8 L' b2, by simp [h.siz], by rw [Array.getElem?_setIfInBounds, if_pos rfl, if_pos (by rw [h.siz]; decide)], by rw [get_set (by decide)]; exact h.v9, ho.fx f2 ?_, ov2.fx f2 ?_, (h.lv.symm.nw hn h.ov.lt).symm⟩, (f1.mono (T := fun k => k = T ∨ L.ownBlock = some k) (fun _ _ s => .inr s)).trans f2 (fun _ _ e => .inl e), ?_, ?_, ?_⟩
  · intro k hk e
    subst e
    obtain ⟨cur, hc⟩ := ho.type k hk
    rw [b2] at hc; simp at hc
  · intro k hk e
    subst e
    obtain ⟨cur, hc⟩ := ov2.type k hk
    rw [b2] at hc; simp at hc
  · simp [World.cell?, b2, h.l8]
  · simp [World.frozen?, b2]
  · simp [World.cell?, b2, h.v9]

theorem Bk.putV {w w2 : World} {T : Nat} {cs : Array Value} {L V V' u : Value} {ls vs : List Value} (h : Bk w T cs L V ls vs) (ho : OwnL w2 V' (vs ++ [u])) (hg : w.grownBy w2 V.ownBlock) (hn : Nw w V V') :
    Bk (w2.setCell ⟨T, 9, none⟩ V') T (cs.setIfInBounds 9 V') L V' ls (vs ++ [u]) ∧ Fx (fun k => k = T ∨ V.ownBlock = some k) w (w2.setCell ⟨T, 9, none⟩ V') ∧ w2.cell? ⟨T, 9, none⟩ = some V ∧ w2.frozen? ⟨T, 9, none⟩ = false ∧ w2.cell? ⟨T, 8, none⟩ = some L := by
  have f1 : Fx (fun k => V.ownBlock = some k) w w2 := Fx.grown hg (fun k e => e)
  have b2 : w2.heap[T]? = some (.cells cs 70) := (f1.block T h.lt h.nv).trans h.blk
  have f2 : Fx (fun k => k = T) w2 (w2.setCell ⟨T, 9, none⟩ V') := Fx.setCell (S := fun k => k = T) w2 T 9 V' rfl
  have ol2 : OwnL w2 L ls := h.ol.fx f1 (fun k hk e => h.lv k hk e)
  refine ⟨⟨setCell_block w2 T 9 V' b2, by simp [h.siz], by rw [get_set (by decide)]; exact h.l8, by rw [Array.getElem?_setIfInBounds, if_pos rfl, if_pos (by rw [h.siz]; decide)], ol2.fx f2 ?_, ho.fx f2 ?_, h.lv.nw hn h.ol.lt⟩, (f1.mono (T := fun k => k = T ∨ V.ownBlock = some k) (fun _ _ s => .inr s)).trans f2 (fun _ _ e => .inl e), ?_, ?_, ?_⟩
  · intro k hk e
    subst e
    obtain ⟨cur, hc⟩ := ol2.type k hk
    rw [b2] at hc; simp at hc
  · intro k hk e
    subst e
    obtain ⟨cur, hc⟩ := ho.type k hk
    rw [b2] at hc; simp at hc
  · simp [World.cell?, b2, h.v9]
  · simp [World.frozen?, b2]
  · simp [World.cell?, b2, h.l8]

/-- The marks of a list. -/
def mks (m n : Nat) : List UInt8 := (List.range n).map fun i => UInt8.ofNat (m + i)
theorem mks_length (m n : Nat) : (mks m n).length = n := by simp [mks]
theorem mks_succ (m k : Nat) : mks m (k + 1) = mks m k ++ [UInt8.ofNat (m + k)] := by simp [mks, List.range_succ]

theorem mks_write (m k : Nat) (bs : List UInt8) (_hk : k < bs.length) : (mks m k ++ bs.drop k).take k ++ [UInt8.ofNat (m + k)] ++ (mks m k ++ bs.drop k).drop (k + 1) = mks m (k + 1) ++ bs.drop (k + 1) := by
  rw [List.take_left' (mks_length m k), mks_succ, List.drop_append, mks_length, List.drop_of_length_le (by rw [mks_length]; omega), List.drop_drop]
  simp

theorem three_new (W X : World) (z : Int) (b : UInt8) (hz : z = (b.toNat : Int)) (h : Lik (W.alloc (.cells #[.int .u8 z, .int .u8 z, .int .u8 z] 5)) X) : ∀ i u, [b, b, b][i]? = some u → X.cell? ((⟨W.heap.size, 0, none⟩ : Addr).add i) = some (byt u) := by
  subst hz
  intro i u hu
  rw [add_plain]
  unfold World.cell?
  dsimp only
  rw [at_new W X _ h]
  match i, hu with
  | 0, hu => simp at hu; subst hu; rfl
  | 1, hu => simp at hu; subst hu; rfl
  | 2, hu => simp at hu; subst hu; rfl

theorem cell_new1 (W : World) (u : Value) : (W.alloc (.cells #[u] 22)).cell? ⟨W.heap.size, 0, none⟩ = some u := by
  unfold World.cell?
  dsimp only
  rw [at_new W _ (.cells #[u] 22) ⟨rfl, rfl, rfl, rfl⟩]
  simp

/-- What Note may turn. -/
def Nf (T : Nat) (L V lv : Value) : Nat → Prop := fun k => k = T ∨ L.ownBlock = some k ∨ V.ownBlock = some k ∨ lv.ownBlock = some k

end Go.Proofs.Ytgfgabgnejnipaa
