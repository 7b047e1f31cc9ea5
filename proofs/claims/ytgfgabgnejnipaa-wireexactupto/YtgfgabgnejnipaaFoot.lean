import Derived.Test.YtgfgabgnejnipaaReads
namespace Go.Proofs.Ytgfgabgnejnipaa
open Go.RowKit

/-- Blocks of S alone may have turned; blocks may have come. -/
structure Fx (S : Nat → Prop) (w w' : World) : Prop where
  os : w'.os = w.os
  tape : w'.tape = w.tape
  output : w'.output = w.output
  size : w.heap.size ≤ w'.heap.size
  block : ∀ k, k < w.heap.size → ¬ S k → w'.heap[k]? = w.heap[k]?

theorem Fx.of_below {S : Nat → Prop} {a b : World} (h : Below a.heap.size a b) : Fx S a b := ⟨h.os, h.tape, h.output, h.size, fun i hi _ => h.block i hi⟩
theorem Fx.refl (S : Nat → Prop) (w : World) : Fx S w w := Fx.of_below (Below.refl _ _)
theorem Fx.trans {S T : Nat → Prop} {a b c : World} (h : Fx S a b) (k : Fx T b c) (hT : ∀ i, i < a.heap.size → T i → S i) : Fx S a c :=
  ⟨k.os.trans h.os, k.tape.trans h.tape, k.output.trans h.output, Nat.le_trans h.size k.size, fun i hi hs => (k.block i (Nat.lt_of_lt_of_le hi h.size) (fun t => hs (hT i hi t))).trans (h.block i hi hs)⟩
theorem Fx.mono {S T : Nat → Prop} {a b : World} (h : Fx S a b) (hT : ∀ i, i < a.heap.size → S i → T i) : Fx T a b :=
  ⟨h.os, h.tape, h.output, h.size, fun i hi hs => h.block i hi (fun s => hs (hT i hi s))⟩
theorem Fx.then_below {S : Nat → Prop} {a b c : World} (h : Fx S a b) (k : Below b.heap.size b c) : Fx S a c := h.trans (Fx.of_below (S := S) k) (fun _ _ s => s)
theorem Fx.grown {S : Nat → Prop} {a b : World} {row : Option Nat} (h : a.grownBy b row) (hS : ∀ k, row = some k → S k) : Fx S a b :=
  ⟨h.os, h.tape, h.output, h.size, fun i hi hs => h.block i hi (fun e => hs (hS i e.symm))⟩
theorem Fx.setCell {S : Nat → Prop} (w : World) (p o : Nat) (v : Value) (hS : S p) : Fx S w (w.setCell ⟨p, o, none⟩ v) :=
  ⟨rfl, rfl, rfl, by simp [World.setCell], fun k _ hk => Below.heap_setCell _ _ _ _ (fun e => hk (by rw [show k = p from e]; exact hS))⟩
theorem Fx.of_frm {S : Nat → Prop} {q : Nat} {a b : World} (h : Frm q a b) (hS : S q) : Fx S a b :=
  ⟨h.os, h.tape, h.output, h.size, fun i hi hs => h.block i hi (fun e => hs (e ▸ hS))⟩
theorem Fx.of_only {S : Nat → Prop} {row : Option Nat} {a b : World} (h : Only a b row) (hS : ∀ k, row = some k → S k) : Fx S a b :=
  ⟨h.os, h.tape, h.output, by rw [h.size]; exact Nat.le_refl _, fun i _ hs => h.block i (fun e => hs (hS i e))⟩
theorem Fx.below {S : Nat → Prop} {a b : World} (h : Fx S a b) {B : Nat} (hB : ∀ k, k < B → ¬ S k) (hs : B ≤ a.heap.size) : Below B a b :=
  ⟨h.os, h.tape, h.output, h.size, fun k hk => h.block k (by omega) (hB k hk)⟩

theorem add_block (ad : Addr) (i : Nat) : (ad.add i).block = ad.block := by
  unfold Addr.add; split <;> rfl

theorem Has.fx {S : Nat → Prop} {w w' : World} {v : Value} {bs : List UInt8} (h : Has w v bs) (hf : Fx S w w') (hd : ∀ k, k < w.heap.size → v.ownBlock = some k → ¬ S k) : Has w' v bs := by
  rcases h with h | ⟨ad, cap, rfl, h2, h3⟩
  · exact .inl h
  · refine .inr ⟨ad, cap, rfl, h2, fun i u hu => ?_⟩
    have hc := h3 i u hu
    rw [← hc]
    refine World.cell?_of_block (hf.block _ (cell_lt hc) ?_)
    have hlt := cell_lt hc
    rw [add_block] at hlt ⊢
    exact hd _ hlt rfl

theorem Own.lt {w : World} {base : Nat} {v : Value} {bs : List UInt8} (h : Own w base v bs) : ∀ k, v.ownBlock = some k → k < w.heap.size := by
  intro k hk
  obtain ⟨_, ⟨rfl, _⟩ | ⟨g, cap, cur, rfl, hg, hh, _⟩⟩ := h
  · cases hk
  · simp [Value.ownBlock] at hk; subst hk; exact block_lt hh

theorem Own.fx {S : Nat → Prop} {w w' : World} {base : Nat} {v : Value} {bs : List UInt8} (h : Own w base v bs) (hf : Fx S w w') (hd : ∀ k, v.ownBlock = some k → ¬ S k) : Own w' base v bs := by
  obtain ⟨h1, h | ⟨g, cap, cur, hv, hg, hh, r⟩⟩ := h
  · exact ⟨h1, .inl h⟩
  · refine ⟨h1, .inr ⟨g, cap, cur, hv, hg, ?_, r⟩⟩
    rw [hf.block g (block_lt hh) (hd g (by rw [hv]; rfl)), hh]

/-- The row of v' is v's, or new. -/
def Nw (w : World) (v v' : Value) : Prop := ∀ k, v'.ownBlock = some k → v.ownBlock = some k ∨ w.heap.size ≤ k

theorem Nw.refl (w : World) (v : Value) : Nw w v v := fun _ h => .inl h

/-- 'append' to an owned row: what becomes of the row. -/
theorem run_appx (w : World) (base : Nat) (t ty e : TypeId) (i : TypeInfo) (z : Value) (bytes : Nat) (ht : Try.prog.underlying t = some (.slice e)) (hi : Try.prog.info? e = some i) (hz : i.zero = some z)
    (hsize : i.size = 1) (hby : i.bytes = bytes) (hzs : z.cells.size = 1) (v : Value) (n : Nat) (xs : List Value) (hown : w.ownsRow base e 1 v n xs)
    (a : Addr) (m c : Nat) (news : List Value) (hl : news.length = m) (hnews : ∀ j u, news[j]? = some u → w.cell? (a.add j) = some u) (h1 : ∀ u ∈ news, u.oneCell' = true)
    (hb : (n + m) * bytes ≤ 140737488355328) (hn : n + m ≤ 140737488355328) (hby0 : bytes ≤ 24) (hbase : base ≤ w.heap.size) :
    ∃ v' w', (Builtin.append_ #[t, t] ty #[v, .slice (some a) m c]).run Try.prog w = .ok v' w' ∧ w'.ownsRow base e 1 v' (n + m) (xs ++ news) ∧ w.grownBy w' v.ownBlock ∧ Nw w v v' := by
  have h63 : n + m ≤ maxLen := by unfold maxLen; omega
  obtain ⟨v', w', r1, r2, r3, r4⟩ := run_append_own (P := Try.prog) w base t ty e i z 1 bytes ht hi hz hsize hby hzs (by decide) v n xs hown a m c news (by omega) hnews h1 h63 hb hbase
  refine ⟨v', w', r1, r2, r3, ?_⟩
  have hown' := hown
  obtain ⟨hx, ⟨rfl, hz0⟩ | ⟨g, cp, cur, rfl, hg, hh2, hnc, hc, hs, htk⟩⟩ := hown'
  · have hnil : w.ownsRow w.heap.size e 1 (.slice none 0 0) n xs := ⟨hx, .inl ⟨rfl, hz0⟩⟩
    obtain ⟨v2, w2, q1, q2, q3, q4⟩ := run_append_own (P := Try.prog) w w.heap.size t ty e i z 1 bytes ht hi hz hsize hby hzs (by decide) _ n xs hnil a m c news (by omega) hnews h1 h63 hb (Nat.le_refl _)
    rw [r1] at q1
    simp only [Result.ok.injEq] at q1
    obtain ⟨rfl, rfl⟩ := q1
    intro k hk
    right
    obtain ⟨_, ⟨rfl, _⟩ | ⟨g, cap, cur, rfl, hg, _⟩⟩ := q2
    · cases hk
    · simp [Value.ownBlock] at hk; omega
  · by_cases hroom : n + m ≤ cp
    · obtain ⟨w2, q1, _⟩ := run_append_fits (P := Try.prog) w base t ty e i 1 ht hi hsize g n cp xs hown a m c news (by omega) hnews h1 hroom
      rw [r1] at q1
      simp only [Result.ok.injEq] at q1
      obtain ⟨rfl, rfl⟩ := q1
      exact fun k hk => .inl hk
    · have hcap := nextcap_le (n + m) cp (by omega)
      have hfit : Builtin.nextslicecap (n + m) cp * i.bytes ≤ 281474976710656 := by
        rw [hby]
        have h1 := Nat.mul_le_mul_right bytes hcap
        rw [Nat.add_mul] at h1
        have h2 : ((n + m) + 768) / 4 * bytes * 4 ≤ ((n + m) + 768) * bytes := by
          rw [Nat.mul_right_comm]
          exact Nat.mul_le_mul_right _ (Nat.div_mul_le_self _ _)
        rw [Nat.add_mul (n + m) 768 bytes] at h2
        omega
      have q1 := run_append_grow (P := Try.prog) w t ty e i z ht hi hz ⟨g, 0, none⟩ n cp xs (by rw [hsize]; exact hx) (World.ownsRow.cells hown (g := g) rfl) a m c news (by rw [hsize]; omega) hnews (by omega) (by omega) hfit
      rw [r1] at q1
      simp only [Result.ok.injEq] at q1
      obtain ⟨rfl, rfl⟩ := q1
      intro k hk
      simp [Value.ownBlock] at hk
      exact .inr (by omega)

/-- 'append(s, x...)' of bytes. -/
theorem wpList_appx {w : World} {ops : Array Oper} {rest : List Oper} {o : Oper} {a : Act} {Q : Exit → Act → World → Prop} (hgd : o.guard = none) (s x : Operand)
    (ho : o.op = .call { callee := .builtin .append, args := #[s, x], argTypes := #[22, 22] }) (base : Nat) (v : Value) (bs : List UInt8) (hs : a.eval s = v) (hown : Own w base v bs)
    (sv : Value) (ys : List UInt8) (hx : a.eval x = sv) (hh : Has w sv ys) (hb : bs.length + ys.length ≤ 140737488355328) (hbase : base ≤ w.heap.size)
    (h : ∀ v' w', Own w' base v' (bs ++ ys) → w.grownBy w' v.ownBlock → Nw w v v' → wpList Try.prog ops Q rest (a.put o.dst v') w') : wpList Try.prog ops Q (o :: rest) a w := by
  obtain ⟨i0, hi, hz0, hz1, hz2⟩ := info_parts Try.info5
  rcases hh with ⟨rfl, rfl⟩ | ⟨ad, cap, rfl, h2, h3⟩
  · refine wpList_append_own_none hgd s x 22 ho base 5 i0 1 Try.underlying22 hi v _ _ hs hown hx ?_
    exact h v w (by simpa using hown) (grown_refl _ _) (Nw.refl _ _)
  · obtain ⟨v', w', hrun, r1, r2, r3⟩ := run_appx w base 22 o.type 5 i0 (.int .u8 0) 1 Try.underlying22 hi hz0 hz1 hz2 rfl v _ _ hown ad ys.length cap (ys.map byt) (by simp) (by
      intro j u hj
      simp only [List.getElem?_map, Option.map_eq_some_iff] at hj
      obtain ⟨b, hb, rfl⟩ := hj
      exact h3 j b hb) (byt_one ys) (by omega) hb (by decide) hbase
    refine wpList_plain hgd fun K hK => ?_
    unfold Oper.wp
    simp [execOp, ho, resolve, invoke, builtin, hs, hx, hrun, Result.andThen]
    exact hK _ _ (h v' w' (by simpa [Own] using r1) r2 r3)

/-- What a writer may turn: its struct, the row of its bytes. -/
def Foot (p : Nat) (v : Value) : Nat → Prop := fun k => k = p ∨ v.ownBlock = some k

end Go.Proofs.Ytgfgabgnejnipaa
