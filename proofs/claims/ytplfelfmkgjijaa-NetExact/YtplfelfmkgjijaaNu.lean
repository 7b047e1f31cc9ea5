import Derived.Test.YtplfelfmkgjijaaNt
set_option linter.unusedVariables false
set_option linter.unusedSimpArgs false
namespace Go.Proofs.Ytplfelfmkgjijaa
open Go.RowKit

set_option maxRecDepth 100000 in
set_option maxHeartbeats 1000000 in
theorem both_send {w0 w : World} {p r q : Nat} {v : Value} {nodes most N : Int} {E : List Me} {c : Nat} {R : List Fl} (D : Dk w0 w p r q v nodes most N E c R) {fr tn : Int} {bs : List UInt8} {e1 : Ending} {w1 : World} (h1 : (fun (e : Ending) (w' : World) => (¬ (isN nodes fr ∧ isN nodes tn) ∧ e = .returned (.tuple #[.int .i64 0, .int .i64 240]) ∧ Below w.heap.size w w') ∨
    ((isN nodes fr ∧ isN nodes tn) ∧ most ≤ E.length ∧ e = .returned (.tuple #[.int .i64 0, .int .i64 231]) ∧ Below w.heap.size w w') ∨
    ((isN nodes fr ∧ isN nodes tn) ∧ ¬ most ≤ E.length ∧ ∃ v', e = .returned (.tuple #[.int .i64 N, .int .i64 0]) ∧ Nt w' p r nodes most (N + 1) (E ++ [⟨⟨N, fr, tn, v', bs⟩, c⟩]) (c + 1) ∧ Fresh w v' ∧ Fx (fun k => k = p ∨ k = r) w w')) e1 w1) :
    ∃ a b, e1 = .returned (.tuple #[.int .i64 a, .int .i64 b]) ∧ Rn w1 q nodes most N v R ∧ Fx (fun k => k = p ∨ k = r) w w1 ∧ ∀ (e2 : Ending) (w2 : World), (fun (e : Ending) (w' : World) => (¬ (isN nodes fr ∧ isN nodes tn) ∧ e = .returned (.tuple #[.int .i64 0, .int .i64 240]) ∧ Below w1.heap.size w1 w') ∨
    ((isN nodes fr ∧ isN nodes tn) ∧ most ≤ R.length ∧ e = .returned (.tuple #[.int .i64 0, .int .i64 231]) ∧ Below w1.heap.size w1 w') ∨
    ((isN nodes fr ∧ isN nodes tn) ∧ ¬ most ≤ R.length ∧ e = .returned (.tuple #[.int .i64 N, .int .i64 0]) ∧ ∃ v2 v', Rn w' q nodes most (N + 1) v2 (R ++ [⟨N, fr, tn, v', bs⟩]) ∧ Fresh w1 v' ∧ Nw w1 v v2 ∧ Fx (fun k => k = q ∨ v.ownBlock = some k) w1 w')) e2 w2 → e2 = .returned (.tuple #[.int .i64 a, .int .i64 b]) ∧ ∃ v5 N5 E5 c5 R5, Dk w0 w2 p r q v5 nodes most N5 E5 c5 R5 ∧ N5 ≤ N + 1 ∧ (∀ m ∈ E5, m ∈ E ∨ Fresh w m.x.v) ∧ (∀ x ∈ R5, x ∈ R ∨ Fresh w x.v) ∧ Fx (fun k => (k = p ∨ k = r) ∨ (k = q ∨ v.ownBlock = some k)) w w2 := by
  have hlen := dat_len D.eq
  rcases h1 with ⟨g1, rfl, l1⟩ | ⟨g1, g2, rfl, l1⟩ | ⟨g1, g2, v1, rfl, nt1, fr1, f1⟩
  · refine ⟨_, _, rfl, D.rn.on l1, Fx.of_below l1, fun e2 w2 h2 => ?_⟩
    rcases h2 with ⟨_, rfl, l2⟩ | ⟨g, _⟩ | ⟨g, _⟩
    · exact ⟨rfl, ⟨v, N, E, c, R, (D.on l1).on l2, by omega, fun m hm => .inl hm, fun x hx => .inl hx, Fx.of_below (bt l1 l2)⟩⟩
    · exact absurd g g1
    · exact absurd g g1
  · refine ⟨_, _, rfl, D.rn.on l1, Fx.of_below l1, fun e2 w2 h2 => ?_⟩
    rcases h2 with ⟨g, _⟩ | ⟨_, _, rfl, l2⟩ | ⟨_, g, _⟩
    · exact absurd g1 g
    · exact ⟨rfl, ⟨v, N, E, c, R, (D.on l1).on l2, by omega, fun m hm => .inl hm, fun x hx => .inl hx, Fx.of_below (bt l1 l2)⟩⟩
    · omega
  · refine ⟨_, _, rfl, D.mid f1, f1, fun e2 w2 h2 => ?_⟩
    rcases h2 with ⟨g, _⟩ | ⟨_, g, _⟩ | ⟨_, _, rfl, v2, v1', rn2, fr2, nw2, f2⟩
    · exact absurd g1 g
    · omega
    · exact ⟨rfl, ⟨v2, N + 1, _, _, _, D.fin f1 nt1 (fun m hm k hk => (by
          rcases List.mem_append.1 hm with hm | hm
          · exact D.aE m hm k hk
          · rw [List.mem_singleton.1 hm]
            exact .inr fun e => (by have := fr1 k e; have := D.rn.fo.ow.lt hk; omega))) rn2 nw2 f2 (dat_push D.eq rfl) (by have := D.N0; omega) (by rw [List.length_append]; have := D.le; simp only [List.length_cons, List.length_nil]; omega), by omega, fun m hm => (by
          rcases List.mem_append.1 hm with hm | hm
          · exact .inl hm
          · rw [List.mem_singleton.1 hm]; exact .inr fr1), fun x hx => (by
          rcases List.mem_append.1 hx with hx | hx
          · exact .inl hx
          · rw [List.mem_singleton.1 hx]; exact .inr fun k hk => (by have := fr2 k hk; have := f1.size; omega)), (f1.mono (fun i _ e => .inl e)).trans f2 (fun i _ e => .inr e)⟩⟩
set_option maxRecDepth 100000 in
set_option maxHeartbeats 1000000 in
theorem both_copy {w0 w : World} {p r q : Nat} {v : Value} {nodes most N : Int} {E : List Me} {c : Nat} {R : List Fl} (D : Dk w0 w p r q v nodes most N E c R) {k : Int} {e1 : Ending} {w1 : World} (h1 : (fun (e : Ending) (w' : World) => (lkE E k = none ∧ e = .returned (.tuple #[.int .i64 0, .int .i64 230]) ∧ Below w.heap.size w w') ∨
    (∃ x, lkE E k = some x ∧ most ≤ E.length ∧ e = .returned (.tuple #[.int .i64 0, .int .i64 231]) ∧ Below w.heap.size w w') ∨
    (∃ x, lkE E k = some x ∧ ¬ most ≤ E.length ∧ ∃ v', e = .returned (.tuple #[.int .i64 N, .int .i64 0]) ∧ Nt w' p r nodes most (N + 1) (E ++ [⟨⟨N, x.f, x.t, v', x.b⟩, c⟩]) (c + 1) ∧ Fresh w v' ∧ Fx (fun k => k = p ∨ k = r) w w')) e1 w1) :
    ∃ a b, e1 = .returned (.tuple #[.int .i64 a, .int .i64 b]) ∧ Rn w1 q nodes most N v R ∧ Fx (fun k => k = p ∨ k = r) w w1 ∧ ∀ (e2 : Ending) (w2 : World), (fun (e : Ending) (w' : World) => ((∀ y ∈ R, y.n ≠ k) ∧ e = .returned (.tuple #[.int .i64 0, .int .i64 230]) ∧ Below w1.heap.size w1 w') ∨
    (∃ (i : Nat) (y : Fl), R[i]? = some y ∧ y.n = k ∧ most ≤ R.length ∧ e = .returned (.tuple #[.int .i64 0, .int .i64 231]) ∧ Below w1.heap.size w1 w') ∨
    (∃ (i : Nat) (y : Fl), R[i]? = some y ∧ y.n = k ∧ ¬ most ≤ R.length ∧ e = .returned (.tuple #[.int .i64 N, .int .i64 0]) ∧ ∃ v2 v', Rn w' q nodes most (N + 1) v2 (R ++ [⟨N, y.f, y.t, v', y.b⟩]) ∧ Fresh w1 v' ∧ Nw w1 v v2 ∧ Fx (fun k => k = q ∨ v.ownBlock = some k) w1 w')) e2 w2 → e2 = .returned (.tuple #[.int .i64 a, .int .i64 b]) ∧ ∃ v5 N5 E5 c5 R5, Dk w0 w2 p r q v5 nodes most N5 E5 c5 R5 ∧ N5 ≤ N + 1 ∧ (∀ m ∈ E5, m ∈ E ∨ Fresh w m.x.v) ∧ (∀ x ∈ R5, x ∈ R ∨ Fresh w x.v) ∧ Fx (fun k => (k = p ∨ k = r) ∨ (k = q ∨ v.ownBlock = some k)) w w2 := by
  have hlen := dat_len D.eq
  have hnd := D.nt.mp.nd
  rcases h1 with ⟨g1, rfl, l1⟩ | ⟨x, g1, g2, rfl, l1⟩ | ⟨x, g1, g2, v1, rfl, nt1, fr1, f1⟩
  · refine ⟨_, _, rfl, D.rn.on l1, Fx.of_below l1, fun e2 w2 h2 => ?_⟩
    rcases h2 with ⟨_, rfl, l2⟩ | ⟨i, y, hy, hyk, _⟩ | ⟨i, y, hy, hyk, _⟩
    · exact ⟨rfl, ⟨v, N, E, c, R, (D.on l1).on l2, by omega, fun m hm => .inl hm, fun x hx => .inl hx, Fx.of_below (bt l1 l2)⟩⟩
    · obtain ⟨⟨x, hx, _⟩, _⟩ := link_some D.eq hnd hy hyk
      rw [hx] at g1; cases g1
    · obtain ⟨⟨x, hx, _⟩, _⟩ := link_some D.eq hnd hy hyk
      rw [hx] at g1; cases g1
  · refine ⟨_, _, rfl, D.rn.on l1, Fx.of_below l1, fun e2 w2 h2 => ?_⟩
    rcases h2 with ⟨g, _⟩ | ⟨i, y, hy, hyk, _, rfl, l2⟩ | ⟨i, y, hy, hyk, g, _⟩
    · rw [link_none D.eq g] at g1; cases g1
    · exact ⟨rfl, ⟨v, N, E, c, R, (D.on l1).on l2, by omega, fun m hm => .inl hm, fun x hx => .inl hx, Fx.of_below (bt l1 l2)⟩⟩
    · omega
  · refine ⟨_, _, rfl, D.mid f1, f1, fun e2 w2 h2 => ?_⟩
    rcases h2 with ⟨g, _⟩ | ⟨i, y, hy, hyk, g, _⟩ | ⟨i, y, hy, hyk, _, rfl, v2, v1', rn2, fr2, nw2, f2⟩
    · rw [link_none D.eq g] at g1; cases g1
    · omega
    · obtain ⟨⟨x', hx', hd⟩, _⟩ := link_some D.eq hnd hy hyk
      rw [hx'] at g1
      cases g1
      have hdd : Fl.d ⟨N, x.f, x.t, v1, x.b⟩ = Fl.d ⟨N, y.f, y.t, v1', y.b⟩ := by
        unfold Fl.d at hd ⊢
        simp only [Prod.mk.injEq] at hd ⊢
        exact ⟨trivial, hd.2⟩
      exact ⟨rfl, ⟨v2, N + 1, _, _, _, D.fin f1 nt1 (fun m hm k hk => (by
          rcases List.mem_append.1 hm with hm | hm
          · exact D.aE m hm k hk
          · rw [List.mem_singleton.1 hm]
            exact .inr fun e => (by have := fr1 k e; have := D.rn.fo.ow.lt hk; omega))) rn2 nw2 f2 (dat_push D.eq hdd) (by have := D.N0; omega) (by rw [List.length_append]; have := D.le; simp only [List.length_cons, List.length_nil]; omega), by omega, fun m hm => (by
          rcases List.mem_append.1 hm with hm | hm
          · exact .inl hm
          · rw [List.mem_singleton.1 hm]; exact .inr fr1), fun x hx => (by
          rcases List.mem_append.1 hx with hx | hx
          · exact .inl hx
          · rw [List.mem_singleton.1 hx]; exact .inr fun k hk => (by have := fr2 k hk; have := f1.size; omega)), (f1.mono (fun i _ e => .inl e)).trans f2 (fun i _ e => .inr e)⟩⟩
theorem box47 (o : Op5) (w : World) : ∃ w1 q, (Instr.box 47 o.g).run Try.prog w = .ok (.pointer (some ⟨q, 0, none⟩)) w1 ∧ Blk w1 q o.cs 47 ∧ Below w.heap.size w w1 ∧ q = w.heap.size := ⟨_, _, run_boxR 47 _ w _ rfl, Blk.new _ _ _, below_new _ _, rfl⟩
theorem Own.ownM {w : World} {b q : Nat} {v : Value} {bs : List UInt8} {es : Array MapEntry} {c : Nat} (h : Own w b v bs) (e : v.ownBlock = some q) (k : w.heap[q]? = some (.map es c)) : False := by
  obtain ⟨_, ⟨rfl, _⟩ | ⟨g, cp, cur, rfl, _, hh, _⟩⟩ := h
  · cases e
  · simp only [Value.ownBlock, Option.some.injEq] at e
    rw [← e, hh] at k
    cases k
theorem Own.neO {w : World} {b n k : Nat} {v u : Value} {bs : List UInt8} {e : TypeId} {l : List (List Value)} (h : Own w b v bs) (g : Ow e n w u l) (he : e ≠ 5) (hv : v.ownBlock = some k) (hu : u.ownBlock = some k) : False := by
  obtain ⟨_, ⟨rfl, _⟩ | ⟨g1, cp, cur, rfl, _, hh, _⟩⟩ := h
  · cases hv
  · simp only [Value.ownBlock, Option.some.injEq] at hv
    obtain ⟨_, ⟨rfl, _⟩ | ⟨g2, cp2, cur2, rfl, _, hh2, _⟩⟩ := g.row
    · cases hu
    · simp only [Value.ownBlock, Option.some.injEq] at hu
      rw [hv, ← hu, hh2] at hh
      simp only [Option.some.injEq, Obj.cells.injEq] at hh
      exact he hh.2.1
/-- Bytes of one's own are not the nets'. -/
theorem Dk.own {w0 w w1 : World} {p r q : Nat} {v : Value} {nodes most N : Int} {E : List Me} {c : Nat} {R : List Fl} (D : Dk w0 w p r q v nodes most N E c R) {b : Nat} {u : Value} {bs : List UInt8} (h : Own w b u bs) (f : Fx (fun k => (k = p ∨ k = r) ∨ (k = q ∨ v.ownBlock = some k)) w w1) : Own w1 b u bs := h.fx f (fun k hk e => by
  rcases e with (e | e) | (e | e)
  · rw [e] at hk; exact h.neT D.nt.bl (by decide) hk
  · rw [e] at hk; exact h.ownM hk D.nt.mp.hp
  · rw [e] at hk; exact h.neT D.rn.bl (by decide) hk
  · exact h.neO D.rn.fo.ow (by decide) hk e)
theorem Dk.has {w0 w w1 : World} {p r q : Nat} {v : Value} {nodes most N : Int} {E : List Me} {c : Nat} {R : List Fl} (D : Dk w0 w p r q v nodes most N E c R) {u : Value} {bs : List UInt8} (h : Has w u bs) (hu : ∀ k, v.ownBlock = some k → Off u bs k) (f : Fx (fun k => (k = p ∨ k = r) ∨ (k = q ∨ v.ownBlock = some k)) w w1) : Has w1 u bs := h.fxo f (fun k hk => by
  rcases hk with (e | e) | (e | e)
  · rw [e]; exact h.offB D.nt.bl (nob_net _ _ _ _)
  · rw [e]; exact map_off h D.nt.mp.hp
  · rw [e]; exact h.offB D.rn.bl D.rn.nob
  · exact hu k e)
theorem Dk.blk {w0 w w1 : World} {p r q : Nat} {v : Value} {nodes most N : Int} {E : List Me} {c : Nat} {R : List Fl} (D : Dk w0 w p r q v nodes most N E c R) {g : Nat} {cs : List Value} {t : TypeId} (h : Blk w g cs t) (h1 : t ≠ 58) (h2 : t ≠ 67) (h3 : t ≠ 36 ∨ ∀ k, v.ownBlock = some k → k < g) (f : Fx (fun k => (k = p ∨ k = r) ∨ (k = q ∨ v.ownBlock = some k)) w w1) : Blk w1 g cs t := h.fx f (fun e => by
  rcases e with (e | e) | (e | e)
  · exact h.neT D.nt.bl h1 e
  · have g1 := D.nt.mp.hp
    have g2 := h
    unfold Blk at g2
    rw [← e, g2] at g1
    cases g1
  · exact h.neT D.rn.bl h2 e
  · rcases h3 with h3 | h3
    · exact D.rn.fo.ow.neT h h3 e
    · have := h3 g e; omega)
/-- The caller writes into bytes of its own. -/
theorem Dk.wrote {w0 w w1 : World} {p r q : Nat} {v : Value} {nodes most N : Int} {E : List Me} {c : Nat} {R : List Fl} (D : Dk w0 w p r q v nodes most N E c R) {b : Nat} {u : Value} {bs : List UInt8} (h : Own w b u bs) (hb : w0.heap.size ≤ b) (f : Fx (fun k => u.ownBlock = some k) w w1) (hE : ∀ m ∈ E, ∀ k, u.ownBlock = some k → Off m.x.v m.x.b k) (hR : ∀ x ∈ R, ∀ k, u.ownBlock = some k → Off x.v x.b k) : Dk w0 w1 p r q v nodes most N E c R :=
  ⟨D.nt.fx f (fun e => h.neT D.nt.bl (by decide) e) (fun e => h.ownM e D.nt.mp.hp) hE, D.rn.fx f (fun e => h.neT D.rn.bl (by decide) e) (fun k hk e => h.neO D.rn.fo.ow (by decide) e hk) hR, D.eq, D.aE, D.N0, D.le, D.be.trans (f.below (fun k hk e => by have := h.ownBlock k e; omega) D.be.size), D.hp, D.hr, D.hq, D.hv⟩
theorem xorB (u : UInt8) (W : World) (x y : Operand) : (do eqGuard .xor 5 x y (byt u) (.int .u8 85); binOp .xor 5 (byt u) (.int .u8 85) : Sem Value).run Try.prog W = .ok (byt (u ^^^ 85)) W := by
  have e := xor_u8 u 85
  unfold byt
  rw [← e]
  go_simp
def stE (p q q5 : Nat) (vB : Value) (i : Nat) : List (Nat × Value) := [(7, vB), (12, .int .i64 (i : Int))]
def stRr (w5 : World) (b : Nat) (vB : Value) (n i : Nat) (W : World) : Prop := i ≤ n ∧ ∃ LL : List UInt8, LL.length = n ∧ Own W b vB LL ∧ Fx (fun k => vB.ownBlock = some k) w5 W
end Go.Proofs.Ytplfelfmkgjijaa
