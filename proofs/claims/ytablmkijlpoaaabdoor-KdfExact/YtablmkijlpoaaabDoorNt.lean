import Derived.Test.YtablmkijlpoaaabDoorBok
namespace Go.Proofs.YtablmkijlpoaaabDoor
open Go.RowKit

/-- The marks of a list. -/
def mks (m n : Nat) : List UInt8 := (List.range n).map fun i => UInt8.ofNat (m + i)
theorem mks_length (m n : Nat) : (mks m n).length = n := by simp [mks]
theorem mks_succ (m k : Nat) : mks m (k + 1) = mks m k ++ [UInt8.ofNat (m + k)] := by simp [mks, List.range_succ]
theorem mks_write (m k : Nat) (bs : List UInt8) (hk : k < bs.length) : (mks m k ++ bs.drop k).set k (UInt8.ofNat (m + k)) = mks m (k + 1) ++ bs.drop (k + 1) := by
  rw [List.set_append_right _ _ (by rw [mks_length]; omega), mks_length, Nat.sub_self, List.drop_eq_getElem_cons hk, List.set_cons_zero, mks_succ]
  simp

/-- A place in an owned row, to be written. -/
theorem Own.place {w : World} {base : Nat} {v : Value} {bs : List UInt8} (h : Own w base v bs) (k : Nat) (hk : k < bs.length) :
    ∃ g cap, v = .slice (some ⟨g, 0, none⟩) bs.length cap ∧ base ≤ g ∧ g < w.heap.size ∧ (∃ u, w.cell? ⟨g, k, none⟩ = some (byt u)) ∧ w.frozen? ⟨g, k, none⟩ = false ∧ ∀ b, Own (w.setCell ⟨g, k, none⟩ (byt b)) base v (bs.set k b) := by
  have hh := h
  obtain ⟨h1, ⟨rfl, h2⟩ | ⟨g, cap, cur, rfl, hg, hb, hn, hc, hs, ht⟩⟩ := h
  · omega
  · have hc2 := hh.cells k hk
    refine ⟨g, cap, rfl, hg, app_block hb, hc2.1, hc2.2, fun b => ?_⟩
    refine ⟨by simp, .inr ⟨g, cap, cur.setIfInBounds k (byt b), by rw [List.length_set], hg, setCell_block w g k (byt b) hb, by rw [List.length_set]; exact hn, hc, by rw [Array.size_setIfInBounds]; exact hs, ?_⟩⟩
    rw [List.length_set, List.map_set, Array.toList_setIfInBounds, List.take_set, ht]

/-- The book beside a list, and what it must hold. -/
structure Ns (x0 : World) (S0 : Nat → Prop) (w x : World) (p : Nat) (L V K M : Value) (lb vb ks ms ls vs : List Value) (lv wv : Value) (B : List UInt8) : Prop where
  bc : Bc w x p L V K M lb vb ks ms
  en : Ent 5 1 x ls vs
  ek : Ent 45 32 x ks ms
  o1 : Own x w.heap.size lv B
  ow : Own x w.heap.size wv B
  s1 : ∀ q, wv.ownBlock = some q → lv.ownBlock = some q → False
  se : ∀ u, u ∈ ls ∨ u ∈ vs → ∀ q, u.ownBlock = some q → ¬ lv.ownBlock = some q ∧ ¬ wv.ownBlock = some q
  fr : Fx S0 x0 x
  gl : ∀ q, lv.ownBlock = some q → x0.heap.size ≤ q
  gw : ∀ q, wv.ownBlock = some q → x0.heap.size ≤ q
theorem Ns.below {x0 : World} {S0 : Nat → Prop} {w x y : World} {p : Nat} {L V K M : Value} {lb vb ks ms ls vs : List Value} {lv wv : Value} {B : List UInt8} (h : Ns x0 S0 w x p L V K M lb vb ks ms ls vs lv wv B) (hb : Below x.heap.size x y) : Ns x0 S0 w y p L V K M lb vb ks ms ls vs lv wv B :=
  ⟨h.bc.below hb, h.en.below hb, h.ek.below hb, h.o1.below hb, h.ow.below hb, h.s1, h.se, h.fr.then_below hb, h.gl, h.gw⟩
theorem free45 {w : World} {base : Nat} {v : Value} {bs : List UInt8} (h : Own w base v bs) : Free (fun k => v.ownBlock = some k) 45 w := fun k cur hk hc => by
  obtain ⟨c, h2⟩ := ownsRow_type h hk
  rw [h2] at hc
  cases hc
/-- The list beside one that is longer. -/
structure Nm (x0 : World) (S0 : Nat → Prop) (w x : World) (p : Nat) (L V K M : Value) (lb vb ks ms ls vs : List Value) (lv l2 wv : Value) (B C : List UInt8) : Prop where
  ns : Ns x0 S0 w x p L V K M lb vb ks ms ls vs lv wv B
  o2 : Own x w.heap.size l2 C
  s2 : ∀ q, wv.ownBlock = some q → l2.ownBlock = some q → False
theorem Nm.below {x0 : World} {S0 : Nat → Prop} {w x y : World} {p : Nat} {L V K M : Value} {lb vb ks ms ls vs : List Value} {lv l2 wv : Value} {B C : List UInt8} (h : Nm x0 S0 w x p L V K M lb vb ks ms ls vs lv l2 wv B C) (hb : Below x.heap.size x y) : Nm x0 S0 w y p L V K M lb vb ks ms ls vs lv l2 wv B C :=
  ⟨h.ns.below hb, h.o2.below hb, h.s2⟩
theorem Ns.app {x0 : World} {S0 : Nat → Prop} {w x y : World} {p : Nat} {L V K M : Value} {lb vb ks ms ls vs : List Value} {lv l2 wv : Value} {B C : List UInt8} (h : Ns x0 S0 w x p L V K M lb vb ks ms ls vs lv wv B) (ho : Own y w.heap.size l2 C) (hg : x.grownBy y lv.ownBlock) (hn : Nw x lv l2) (hold : Own y w.heap.size lv B) : Nm x0 S0 w y p L V K M lb vb ks ms ls vs lv l2 wv B C := by
  have f : Fx (fun k => lv.ownBlock = some k) x y := Fx.grown hg (fun _ e => e)
  refine ⟨⟨h.bc.bytes (.inl rfl) h.o1 f, h.en.fx f (fun u hu q hq => (h.se u hu q hq).1), h.ek.free f (free45 h.o1), hold, ownsRow_fx h.ow f (fun q hq e => h.s1 q hq e), h.s1, h.se, h.fr.trans f (fun i hi e => absurd (h.gl i e) (by omega)), h.gl, h.gw⟩, ho, fun q h1 h2 => ?_⟩
  rcases hn q h2 with h3 | h3
  · exact h.s1 q h1 h3
  · have := (h.ow.lt q h1).2; omega
theorem Nm.putL {x0 : World} {S0 : Nat → Prop} {w x y : World} {p : Nat} {L L' V K M : Value} {lb vb ks ms ls vs : List Value} {lv l2 wv : Value} {B C : List UInt8} (h : Nm x0 S0 w x p L V K M lb vb ks ms ls vs lv l2 wv B C) (ho : y.ownsRow w.heap.size 29 1 L' (lb.length + 2) (lb ++ [lv, l2])) (hg : x.grownBy y L.ownBlock) (hn : Nw x L L') (hS : ∀ i, (i = p ∨ L.ownBlock = some i) → S0 i) :
    Nm x0 S0 w (y.setCell ⟨p, 0, none⟩ L') p L' V K M (lb ++ [lv, l2]) vb ks ms ls vs lv l2 wv B C ∧ y.cell? ⟨p, 0, none⟩ = some L ∧ y.frozen? ⟨p, 0, none⟩ = false := by
  obtain ⟨b, f, c, z⟩ := h.ns.bc.put0 ho hg hn
  have f5 := h.ns.bc.free0 (e := 5) (.inl rfl)
  exact ⟨⟨⟨b, h.ns.en.free f f5, h.ns.ek.free f (h.ns.bc.free0 (.inr rfl)), ownsRow_free h.ns.o1 f f5, ownsRow_free h.ns.ow f f5, h.ns.s1, h.ns.se, h.ns.fr.trans f (fun i _ s => hS i s), h.ns.gl, h.ns.gw⟩, ownsRow_free h.o2 f f5, h.s2⟩, c, z⟩
/-- Both pairs, ahead of the second list's store. -/
structure Nq (x0 : World) (S0 : Nat → Prop) (w x : World) (p : Nat) (L V K M : Value) (lb vb ks ms ls vs : List Value) (lv l2 wv v2 : Value) (B C : List UInt8) : Prop where
  bc : Bc w x p L V K M lb vb ks ms
  en : Ent 5 1 x ls vs
  ek : Ent 45 32 x ks ms
  o1 : Own x w.heap.size lv B
  o2 : Own x w.heap.size l2 C
  ow : Own x w.heap.size wv B
  o3 : Own x w.heap.size v2 C
  fr : Fx S0 x0 x
theorem Nq.below {x0 : World} {S0 : Nat → Prop} {w x y : World} {p : Nat} {L V K M : Value} {lb vb ks ms ls vs : List Value} {lv l2 wv v2 : Value} {B C : List UInt8} (h : Nq x0 S0 w x p L V K M lb vb ks ms ls vs lv l2 wv v2 B C) (hb : Below x.heap.size x y) : Nq x0 S0 w y p L V K M lb vb ks ms ls vs lv l2 wv v2 B C :=
  ⟨h.bc.below hb, h.en.below hb, h.ek.below hb, h.o1.below hb, h.o2.below hb, h.ow.below hb, h.o3.below hb, h.fr.then_below hb⟩
theorem Nm.app {x0 : World} {S0 : Nat → Prop} {w x y : World} {p : Nat} {L V K M : Value} {lb vb ks ms ls vs : List Value} {lv l2 wv v2 : Value} {B C : List UInt8} (h : Nm x0 S0 w x p L V K M lb vb ks ms ls vs lv l2 wv B C) (ho : Own y w.heap.size v2 C) (hg : x.grownBy y wv.ownBlock) (hold : Own y w.heap.size wv B) : Nq x0 S0 w y p L V K M lb vb ks ms ls vs lv l2 wv v2 B C := by
  have f : Fx (fun k => wv.ownBlock = some k) x y := Fx.grown hg (fun _ e => e)
  exact ⟨h.ns.bc.bytes (.inl rfl) h.ns.ow f, h.ns.en.fx f (fun u hu q hq => (h.ns.se u hu q hq).2), h.ns.ek.free f (free45 h.ns.ow), ownsRow_fx h.ns.o1 f (fun q hq e => h.ns.s1 q e hq), ownsRow_fx h.o2 f (fun q hq e => h.s2 q e hq), hold, ho, h.ns.fr.trans f (fun i hi e => absurd (h.ns.gw i e) (by omega))⟩
theorem Nq.putV {x0 : World} {S0 : Nat → Prop} {w x y : World} {p : Nat} {L V V' K M : Value} {ks ms ls vs : List Value} {lv l2 wv v2 : Value} {B C : List UInt8} (h : Nq x0 S0 w x p L V K M (ls ++ [lv, l2]) vs ks ms ls vs lv l2 wv v2 B C) (ho : y.ownsRow w.heap.size 29 1 V' (vs.length + 2) (vs ++ [wv, v2])) (hg : x.grownBy y V.ownBlock) (hn : Nw x V V') (_hBC : B.length + 3 = C.length) (hS : ∀ i, (i = p ∨ V.ownBlock = some i) → S0 i) :
    (Bc w (y.setCell ⟨p, 1, none⟩ V') p L V' K M (ls ++ [lv, l2]) (vs ++ [wv, v2]) ks ms ∧ Ent 5 1 (y.setCell ⟨p, 1, none⟩ V') (ls ++ [lv, l2]) (vs ++ [wv, v2]) ∧ Ent 45 32 (y.setCell ⟨p, 1, none⟩ V') ks ms ∧ Fx S0 x0 (y.setCell ⟨p, 1, none⟩ V')) ∧ y.cell? ⟨p, 1, none⟩ = some V ∧ y.frozen? ⟨p, 1, none⟩ = false := by
  obtain ⟨b, f, c, z⟩ := h.bc.put1 ho hg hn
  have f5 := h.bc.free1 (e := 5) (.inl rfl)
  have e1 := (h.en.free f f5).snoc (ownsRow_weaken (ownsRow_free h.o1 f f5)) (ownsRow_weaken (ownsRow_free h.ow f f5))
  have e2 := e1.snoc (ownsRow_weaken (ownsRow_free h.o2 f f5)) (ownsRow_weaken (ownsRow_free h.o3 f f5))
  rw [List.append_assoc, List.append_assoc] at e2
  exact ⟨⟨b, e2, h.ek.free f (h.bc.free1 (.inr rfl)), h.fr.trans f (fun i _ s => hS i s)⟩, c, z⟩
end Go.Proofs.YtablmkijlpoaaabDoor
namespace Go.Proofs.YtablmkijlpoaaabDoor
open Go.RowKit

theorem len24 (ao : Option Addr) (n c : Nat) (W : World) (ty : TypeId) : (Builtin.len_ #[24] ty #[.slice ao n c]).run Tryd.prog W = .ok (.int .i64 n) W := by go_simp
theorem len29 (ao : Option Addr) (n c : Nat) (W : World) (ty : TypeId) : (Builtin.len_ #[29] ty #[.slice ao n c]).run Tryd.prog W = .ok (.int .i64 n) W := by go_simp

/-- A store where an order is drawn. -/
theorem op_skip {P : Program} {ops : Array Oper} {Q : Exit → Act → World → Prop} {i : Nat} {o : Oper} (hi : ops[i]? = some o) (hg : o.guard = none) {K : Act → World → Prop} {a : Act} {w : World} (op : Op) (ho : o.op = op) (hd : o.dst = none) (w1 : World)
    (hrun : ∀ o' : Oper, o'.op = op → (execOp a.eval o').run P w = .ok .skip w1) (h : K a w1) : wpOp P ops Q i K a w := by
  refine op_wp hi hg ?_
  unfold Oper.wp
  rw [hrun o ho]
  simp only [Oper.upon]
  rw [hd]
  exact h
theorem own_of {w : World} {base : Nat} {v : Value} {m : Nat} {A C : List UInt8} (h : w.ownsRow base 5 1 v m (A.map byt ++ C.map byt)) (hm : (A ++ C).length = m) : Own w base v (A ++ C) := by
  unfold Own
  rw [hm, List.map_append]
  exact h
theorem row_of_own {w : World} {base : Nat} {v : Value} {m : Nat} {A : List UInt8} (h : Own w base v A) (hm : A.length = m) : w.ownsRow base 5 1 v m (A.map byt) := by
  subst hm; exact h
theorem own_of' {w : World} {base : Nat} {v : Value} {m : Nat} {A : List UInt8} (h : w.ownsRow base 5 1 v m (A.map byt)) (hm : A.length = m) : Own w base v A := by
  subst hm; exact h

theorem own_to {w : World} {base base' : Nat} {v : Value} {bs : List UInt8} (h : Own w base v bs) (hb : base' ≤ base) : Own w base' v bs := h.weaken hb

set_option maxHeartbeats 1000000 in
set_option maxRecDepth 100000 in
/-- 'Note'. -/
theorem note_any (w x y : World) (p : Nat) (L V K M lv : Value) (ls vs ks ms : List Value) (bs : List UInt8) (hB : Bc w x p L V K M ls vs ks ms) (hE : Ent 5 1 x ls vs) (hK : Ent 45 32 x ks ms) (hxy : Below x.heap.size x y) (hl : Own y x.heap.size lv bs) (hbs : bs.length ≤ 10000) (hn : ls.length ≤ 1000) :
    Calls Tryd.prog 27 #[.pointer (some ⟨p, 0, none⟩), lv] y fun e z => e = .returned (.tuple #[]) ∧ ∃ L' V' ls' vs', Bc w z p L' V' K M ls' vs' ks ms ∧ Ent 5 1 z ls' vs' ∧ Ent 45 32 z ks ms ∧ ls'.length = ls.length + 2 ∧ Fx (fun k => k = p ∨ L.ownBlock = some k ∨ V.ownBlock = some k) x z := by
  obtain ⟨al, cl, rfl⟩ := hl.slice
  obtain ⟨aL, cL, rfl⟩ := ownsRow_slice hB.ol
  obtain ⟨aV, cV, rfl⟩ := ownsRow_slice hB.ov
  obtain ⟨n, hbn⟩ : ∃ n, bs.length = n := ⟨_, rfl⟩
  rw [hbn] at hl hbs ⊢
  have HBN : Lk bs.length n := ⟨hbn⟩
  have cL0 : y.cell? ⟨p, 0, none⟩ = some (.slice aL ls.length cL) := (hB.below hxy).bk.cell 0
  have LY : Hid (∀ q, (Value.slice al n cl).ownBlock = some q → q < y.heap.size) := hide (fun q hq => (hl.lt q hq).2)
  have HXY := hide hxy
  have HB := hide hB
  have HE := hide hE
  have HK := hide hK
  have HL := hide hl
  obtain ⟨nl, hnl⟩ : ∃ nl, ls.length = nl := ⟨_, rfl⟩
  have HNL : Lk ls.length nl := ⟨hnl⟩
  have HVL : Lk vs.length nl := ⟨by rw [← hE.ll]; exact hnl⟩
  rw [hnl] at cL0 HB hn ⊢
  obtain ⟨mk, hmk⟩ : ∃ mk, nl * 29 + 7 = mk := ⟨_, rfl⟩
  have hmi : (nl : Int) * 29 + 7 = (mk : Int) := by omega
  have hmb : mk ≤ 100000 := by omega
  have hln := fun W ty => len24 aL nl cL W ty
  have hll := fun W ty => len29 al n cl W ty
  clear hB hE hK hl hbn hnl hmk
  go_enter Tryd.func27, Tryd.ntmps27
  go_wp2
  clear hmi cL0 hln
  go_loopw [5, 6] (fun t i wr => ∃ k : Nat, k ≤ n ∧ i = .int .i64 k ∧ ∃ at_ ct, t = .slice at_ k ct ∧ Hid (Own wr x.heap.size (.slice al n cl) (mks mk k ++ bs.drop k) ∧ Own wr y.heap.size (.slice at_ k ct) (mks mk k) ∧ Below x.heap.size x wr ∧ y.heap.size ≤ wr.heap.size)) (fun _ i _ => n - (intOf i).toNat)
  case atStart => exact ⟨0, by omega, rfl, none, 0, rfl, hide ⟨by simpa [mks] using HL.out, Own.nil _ _, HXY.out, Nat.le_refl _⟩⟩
  case round =>
    obtain ⟨k, hk, rfl, at_, ct, rfl, hy⟩ := hrel
    by_cases hlt : k < n
    · have hi : (k : Int) < (n : Int) := by omega
      have hlen : (mks mk k ++ bs.drop k).length = n := by rw [List.length_append, mks_length, List.length_drop, HBN.h]; omega
      obtain ⟨g, cap, hsh, hgx, hgl, ⟨u0, hc0⟩, hf0, hset⟩ := hy.out.1.place k (by omega)
      rw [hlen] at hsh
      simp only [Value.slice.injEq] at hsh
      obtain ⟨rfl, _, rfl⟩ := hsh
      have hix := fun W => idx29 ⟨g, 0, none⟩ n cl k hlt W
      rw [add_plain] at hix
      obtain ⟨b, hb⟩ : ∃ b, UInt8.ofNat (mk + k) = b := ⟨_, rfl⟩
      have hset1 := hset b
      rw [← hb, mks_write mk k bs (by rw [HBN.h]; exact hlt), hb] at hset1
      have hbz : ((mk : Int) + (k : Int)) % 256 = (b.toNat : Int) := by rw [← hb, UInt8.toNat_ofNat']; omega
      have HMS : Lk (mks mk (k + 1)) (mks mk k ++ [b]) := ⟨by rw [mks_succ, hb]⟩
      unfold byt at hc0
      have hix2 := hix
      go_upto_region 6 with fail
      rw [hbz]
      have X1 : Hid (Own (wr.setCell ⟨g, k, none⟩ (.int .u8 (b.toNat : Int))) x.heap.size (.slice (some ⟨g, 0, none⟩) n cl) (mks mk (k + 1) ++ bs.drop (k + 1)) ∧ Own (wr.setCell ⟨g, k, none⟩ (.int .u8 (b.toNat : Int))) y.heap.size (.slice at_ k ct) (mks mk k) ∧ Below x.heap.size x (wr.setCell ⟨g, k, none⟩ (.int .u8 (b.toNat : Int))) ∧ y.heap.size ≤ (wr.setCell ⟨g, k, none⟩ (.int .u8 (b.toNat : Int))).heap.size) := hide (by
        have hf : Fx (One g) wr (wr.setCell ⟨g, k, none⟩ (.int .u8 (b.toNat : Int))) := Fx.setCell wr g k _ rfl
        have hgy := LY.out g rfl
        exact ⟨hset1, ownsRow_fx hy.out.2.1 hf (fun q hq (e : q = g) => by have := (hy.out.2.1.lt q hq).1; omega), hy.out.2.2.1.setCell hgx _, Nat.le_trans hy.out.2.2.2 hf.size⟩)
      generalize wr.setCell ⟨g, k, none⟩ (.int .u8 (b.toNat : Int)) = x1 at X1 ⊢
      have hc1 : x1.cell? ⟨g, k, none⟩ = some (.int .u8 (b.toNat : Int)) := by
        have hl1 : (mks mk (k + 1) ++ bs.drop (k + 1)).length = n := by rw [List.length_append, mks_length, List.length_drop, HBN.h]; omega
        obtain ⟨ad, ha, hc⟩ := has_at X1.out.1.has hl1 k hlt
        simp only [Option.some.injEq] at ha
        subst ha
        rw [add_plain] at hc
        rw [hc, HMS.h, List.append_assoc, List.getD_eq_getElem?_getD, List.getElem?_append_right (by rw [mks_length]; omega), mks_length, Nat.sub_self]
        rfl
      have HML : Lk (mks mk k).length k := ⟨mks_length mk k⟩
      have HML1 : Lk (mks mk k ++ [b]).length (k + 1) := ⟨by rw [List.length_append, mks_length]; rfl⟩
      have U1 : Hid (Own (x1.alloc (.cells #[byt b] 5)) y.heap.size (.slice at_ k ct) (mks mk k)) := hide (X1.out.2.1.below (below_new x1 _))
      have HN1 : Hid (Has (x1.alloc (.cells #[byt b] 5)) (.slice (some ⟨x1.heap.size, 0, none⟩) 1 1) [b]) := hide (has_new1 x1 b)
      have SZ1 : Hid (y.heap.size ≤ (x1.alloc (.cells #[byt b] 5)).heap.size) := hide (Nat.le_trans X1.out.2.2.2 (below_new x1 _).size)
      have hkk : k ≤ 10000 := by omega
      clear hset hset1 hc0 hf0 hy hix hb hbz
      go_wp2_with (refine wpList_app rfl (.tmp 28) (.tmp 33) rfl y.heap.size (.slice at_ k ct) (mks mk k) rfl U1.out (.slice (some ⟨x1.heap.size, 0, none⟩) 1 1) [b] rfl HN1.out (by rw [HML.h]; simp; omega) SZ1.out ?_; intro v3 w3 ho3 hg3; obtain ⟨a3, c3, rfl⟩ := ho3.slice; rw [HML1.h] at ho3 ⊢; rw [← HMS.h] at ho3; have O3 := hide ho3; have G3 := hide hg3; clear ho3 hg3)
      have b2 := below_new x1 (.cells #[byt b] 5)
      have f3 : Fx (fun j => (Value.slice at_ k ct).ownBlock = some j) (x1.alloc (.cells #[byt b] 5)) w3 := Fx.grown G3.out (fun _ e => e)
      go_roundw
      case rel =>
        refine ⟨k + 1, by omega, by go_num, a3, c3, rfl, hide ⟨ownsRow_fx (X1.out.1.below b2) f3 (fun q hq e => ?_), O3.out, (X1.out.2.2.1.trans (b2.mono X1.out.2.2.1.size)).grown G3.out (Nat.le_trans X1.out.2.2.1.size b2.size) (fun q hq => ?_), Nat.le_trans SZ1.out f3.size⟩⟩
        · have h1 := LY.out q hq
          have h2 := (U1.out.lt q e).1
          omega
        · have h2 := (U1.out.lt q hq).1
          have h3 := HXY.out.size
          omega
      case measure => simp [intOf]; omega
    · obtain rfl : k = n := by omega
      have hi : ¬ (k : Int) < (k : Int) := by omega
      obtain ⟨Mk, hMk⟩ : ∃ Mk, mks mk k = Mk := ⟨_, rfl⟩
      have hy2 := hy.out
      rw [List.drop_of_length_le (by rw [HBN.h]; exact Nat.le_refl _), List.append_nil, hMk] at hy2
      have HMkL : Lk Mk.length k := ⟨by rw [← hMk]; exact mks_length mk k⟩
      have A0 : Hid (Ns x (fun k => k = p ∨ (Value.slice aL nl cL).ownBlock = some k ∨ (Value.slice aV vs.length cV).ownBlock = some k) w wr p (.slice aL nl cL) (.slice aV vs.length cV) K M ls vs ks ms ls vs (.slice al k cl) (.slice at_ k ct) Mk) := hide (by
        have hle := HXY.out.size
        refine ⟨HB.out.below hy2.2.2.1, HE.out.below hy2.2.2.1, HK.out.below hy2.2.2.1, own_to hy2.1 HB.out.be.size, own_to hy2.2.1 (Nat.le_trans HB.out.be.size hle), fun q h1 h2 => ?_, fun u hu q hq => ⟨fun e => ?_, fun e => ?_⟩, ?_, ?_, ?_⟩
        · have := (hy2.2.1.lt q h1).1
          have := LY.out q h2
          omega
        · have := HE.out.lt u hu q hq
          have := (hy2.1.lt q e).1
          omega
        · have := HE.out.lt u hu q hq
          have := (hy2.2.1.lt q e).1
          omega
        · exact Fx.of_below hy2.2.2.1
        · intro q hq
          exact (hy2.1.lt q hq).1
        · intro q hq
          have := (hy2.2.1.lt q hq).1
          omega)
      obtain ⟨xb, hxb⟩ : ∃ xb : UInt8, UInt8.ofNat (mk * 3 + 1) = xb := ⟨_, rfl⟩
      have hxz : ((mk : Int) * 3 + 1) % 256 = (xb.toNat : Int) := by rw [← hxb, UInt8.toNat_ofNat']; omega
      clear hy hy2 hMk hxb HL HB HE HK
      go_upto_region 8 with fail
      rw [hxz]
      clear hxz
      have HCL : Lk (Mk ++ [xb, xb, xb]).length (k + 3) := ⟨by rw [List.length_append, HMkL.h]; rfl⟩
      go_cut [54] (fun _ wx => ∃ a5 c5 a2 c2, Hid (Nm x (fun k => k = p ∨ (Value.slice aL nl cL).ownBlock = some k ∨ (Value.slice aV vs.length cV).ownBlock = some k) w wx p (.slice a5 (nl + 2) c5) (.slice aV vs.length cV) K M (ls ++ [.slice al k cl, .slice a2 (k + 3) c2]) vs ks ms ls vs (.slice al k cl) (.slice a2 (k + 3) c2) (.slice at_ k ct) Mk (Mk ++ [xb, xb, xb])))
      case first =>
        refine wp_region_noPanic ?_
        refine wp_region_any (by kernel_rfl) ?_
        have Z0 : Ns x (fun k => k = p ∨ (Value.slice aL nl cL).ownBlock = some k ∨ (Value.slice aV vs.length cV).ownBlock = some k) w { wr with drawn := wr.drawn + 1 } p (.slice aL nl cL) (.slice aV vs.length cV) K M ls vs ks ms ls vs (.slice al k cl) (.slice at_ k ct) Mk := A0.out.below (Below.refl _ _).drew
        generalize { wr with drawn := wr.drawn + 1 } = z0 at Z0 ⊢
        refine take_any (i := 0) rfl rfl (.move (.tmp 0)) rfl 39 rfl (v := (.pointer (some ⟨p, 0, none⟩))) (by kernel_rfl) (by kernel_rfl) (by kernel_rfl) (fun _ _ _ h => h) (fun o' ho w => by go_simp) ?_
        simp only [Act.put, List.setIfInBounds_toArray, List.set_cons_zero, List.set_cons_succ]
        refine take_any (i := 1) rfl rfl (.move (.tmp 0)) rfl 40 rfl (v := (.pointer (some ⟨p, 0, none⟩))) (by kernel_rfl) (by kernel_rfl) (by kernel_rfl) (fun _ _ _ h => h) (fun o' ho w => by go_simp) ?_
        simp only [Act.put, List.setIfInBounds_toArray, List.set_cons_zero, List.set_cons_succ]
        refine take_any (i := 2) rfl rfl (.nilCheck (.tmp 40)) rfl 41 rfl (v := (.pointer (some ⟨p, 0, none⟩))) (by kernel_rfl) (by kernel_rfl) (by kernel_rfl) (fun _ _ _ h => h) (fun o' ho w => by go_simp) ?_
        simp only [Act.put, List.setIfInBounds_toArray, List.set_cons_zero, List.set_cons_succ]
        refine take_any (i := 3) rfl rfl (.fieldAddr 27 (.tmp 41) 0) rfl 42 rfl (v := (.pointer (some ⟨p, 0, none⟩))) (by kernel_rfl) (by kernel_rfl) (by kernel_rfl) (fun _ _ _ h => h) (fun o' ho w => by go_simp) ?_
        simp only [Act.put, List.setIfInBounds_toArray, List.set_cons_zero, List.set_cons_succ]
        refine take_any (i := 5) rfl rfl (.move (.tmp 1)) rfl 44 rfl (v := (.slice al k cl)) (by kernel_rfl) (by kernel_rfl) (by kernel_rfl) (fun _ _ _ h => h) (fun o' ho w => by go_simp) ?_
        simp only [Act.put, List.setIfInBounds_toArray, List.set_cons_zero, List.set_cons_succ]
        refine take_any (i := 6) rfl rfl (.move (.tmp 1)) rfl 45 rfl (v := (.slice al k cl)) (by kernel_rfl) (by kernel_rfl) (by kernel_rfl) (fun _ _ _ h => h) (fun o' ho w => by go_simp) ?_
        simp only [Act.put, List.setIfInBounds_toArray, List.set_cons_zero, List.set_cons_succ]
        refine take_any (i := 7) rfl rfl (.move (.tmp 7)) rfl 46 rfl (v := (.int .u8 (xb.toNat : Int))) (by kernel_rfl) (by kernel_rfl) (by kernel_rfl) (fun _ _ _ h => h) (fun o' ho w => by go_simp) ?_
        simp only [Act.put, List.setIfInBounds_toArray, List.set_cons_zero, List.set_cons_succ]
        refine take_any (i := 8) rfl rfl (.move (.tmp 7)) rfl 47 rfl (v := (.int .u8 (xb.toNat : Int))) (by kernel_rfl) (by kernel_rfl) (by kernel_rfl) (fun _ _ _ h => h) (fun o' ho w => by go_simp) ?_
        simp only [Act.put, List.setIfInBounds_toArray, List.set_cons_zero, List.set_cons_succ]
        refine take_any (i := 9) rfl rfl (.move (.tmp 7)) rfl 48 rfl (v := (.int .u8 (xb.toNat : Int))) (by kernel_rfl) (by kernel_rfl) (by kernel_rfl) (fun _ _ _ h => h) (fun o' ho w => by go_simp) ?_
        simp only [Act.put, List.setIfInBounds_toArray, List.set_cons_zero, List.set_cons_succ]
        refine either (i := 4) (j := 10) (by kernel_rfl) ?_ ?_
        · have pc : z0.cell? ⟨p, 0, none⟩ = some (.slice aL nl cL) := Z0.bc.bk.cell 0
          refine op_run rfl rfl (.load 24 (.tmp 42)) rfl 43 rfl (.slice aL nl cL) z0 (fun o' ho => by go_simp) ?_
          clear pc
          simp only [Act.put, List.setIfInBounds_toArray, List.set_cons_zero, List.set_cons_succ]
          refine only_one (i := 10) (by kernel_rfl) ?_
          refine op_run rfl rfl (.buildSlice 29 3 #[(0, .tmp 46), (1, .tmp 47), (2, .tmp 48)]) rfl 49 rfl (.slice (some ⟨z0.heap.size, 0, none⟩) 3 3) (z0.alloc (.cells #[byt xb, byt xb, byt xb] 5)) (fun o' ho => by unfold byt; go_simp) ?_
          simp only [Act.put, List.setIfInBounds_toArray, List.set_cons_zero, List.set_cons_succ]
          have Zb := Z0.below (below_new z0 (.cells #[byt xb, byt xb, byt xb] 5))
          have nx : ∀ j u, ([xb, xb, xb].map byt)[j]? = some u → (z0.alloc (.cells #[byt xb, byt xb, byt xb] 5)).cell? ((⟨z0.heap.size, 0, none⟩ : Addr).add j) = some u := fun j u hj => by rw [add_plain]; exact ((Blk.new z0 ([xb, xb, xb].map byt) 5).cell j).trans hj
          generalize z0.alloc (.cells #[byt xb, byt xb, byt xb] 5) = zb at Zb nx ⊢
          generalize z0.heap.size = dx at nx ⊢
          refine only_one (i := 11) (by kernel_rfl) ?_
          refine op_appE elt29 rfl rfl (.tmp 45) (.tmp 49) rfl 50 rfl w.heap.size (.slice al k cl) k (Mk.map byt) rfl (row_of_own Zb.o1 HMkL.h) ⟨dx, 0, none⟩ 3 3 ([xb, xb, xb].map byt) rfl rfl nx (byt_one _) (by omega) Zb.bc.be.size ?_
          intro l2 zc ho2 hg2 hn2 hold2
          obtain ⟨a2, c2, rfl⟩ := ownsRow_slice ho2
          have Zc := Zb.app (own_of ho2 HCL.h) hg2 hn2 (own_of' hold2 HMkL.h)
          clear ho2 hg2 hn2 hold2 nx
          simp only [Act.put, List.setIfInBounds_toArray, List.set_cons_zero, List.set_cons_succ]
          refine only_one (i := 12) (by kernel_rfl) ?_
          refine op_run rfl rfl (.buildSlice 24 2 #[(0, .tmp 44), (1, .tmp 50)]) rfl 51 rfl (.slice (some ⟨zc.heap.size, 0, none⟩) 2 2) (zc.alloc (.cells #[(.slice al k cl), .slice a2 (k + 3) c2] 29)) (fun o' ho => by go_simp) ?_
          simp only [Act.put, List.setIfInBounds_toArray, List.set_cons_zero, List.set_cons_succ]
          have Zd := Zc.below (below_new zc (.cells #[(.slice al k cl), .slice a2 (k + 3) c2] 29))
          have ny : ∀ j u, [(.slice al k cl), .slice a2 (k + 3) c2][j]? = some u → (zc.alloc (.cells #[(.slice al k cl), .slice a2 (k + 3) c2] 29)).cell? ((⟨zc.heap.size, 0, none⟩ : Addr).add j) = some u := fun j u hj => by rw [add_plain]; exact ((Blk.new zc [(.slice al k cl), .slice a2 (k + 3) c2] 29).cell j).trans hj
          generalize zc.alloc (.cells #[(.slice al k cl), .slice a2 (k + 3) c2] 29) = zd at Zd ny ⊢
          generalize zc.heap.size = dy at ny ⊢
          refine only_one (i := 13) (by kernel_rfl) ?_
          refine op_appE elt24 rfl rfl (.tmp 43) (.tmp 51) rfl 52 rfl w.heap.size (.slice aL nl cL) nl ls rfl (by have := Zd.ns.bc.ol; rw [HNL.h] at this; exact this) ⟨dy, 0, none⟩ 2 2 [(.slice al k cl), .slice a2 (k + 3) c2] rfl rfl ny (by simp [Value.oneCell']) (by omega) Zd.ns.bc.be.size ?_
          intro L1 ze ho5 hg5 hn5 _
          obtain ⟨a5, c5, rfl⟩ := ownsRow_slice ho5
          obtain ⟨Z6, pc, pf⟩ := Zd.putL (by rw [HNL.h]; exact ho5) hg5 hn5 (fun i s => s.imp id .inl)
          simp only [Act.put, List.setIfInBounds_toArray, List.set_cons_zero, List.set_cons_succ]
          refine take_any (i := 14) rfl rfl (.nilCheck (.tmp 39)) rfl 53 rfl (v := (.pointer (some ⟨p, 0, none⟩))) (by kernel_rfl) (by kernel_rfl) (by kernel_rfl) (fun _ _ _ h => h) (fun o' ho w => by go_simp) ?_
          simp only [Act.put, List.setIfInBounds_toArray, List.set_cons_zero, List.set_cons_succ]
          refine take_any (i := 15) rfl rfl (.fieldAddr 27 (.tmp 53) 0) rfl 54 rfl (v := (.pointer (some ⟨p, 0, none⟩))) (by kernel_rfl) (by kernel_rfl) (by kernel_rfl) (fun _ _ _ h => h) (fun o' ho w => by go_simp) ?_
          simp only [Act.put, List.setIfInBounds_toArray, List.set_cons_zero, List.set_cons_succ]
          refine only_one (i := 16) (by kernel_rfl) ?_
          refine op_skip rfl rfl (.store 24 (.tmp 54) (.tmp 52)) rfl rfl (ze.setCell ⟨p, 0, none⟩ (.slice a5 (nl + 2) c5)) (fun o' ho => by go_simp) ?_
          have Z7 := hide Z6
          clear Z6 pc pf ho5 hg5 hn5
          generalize ze.setCell ⟨p, 0, none⟩ (.slice a5 (nl + 2) c5) = zf at Z7 ⊢
          refine wpAny_done (by kernel_rfl) (NoPanic.normal ?_) _
          go_wp2_with fail
          go_meet
          exact ⟨_, _, _, _, Z7⟩
        · refine op_run rfl rfl (.buildSlice 29 3 #[(0, .tmp 46), (1, .tmp 47), (2, .tmp 48)]) rfl 49 rfl (.slice (some ⟨z0.heap.size, 0, none⟩) 3 3) (z0.alloc (.cells #[byt xb, byt xb, byt xb] 5)) (fun o' ho => by unfold byt; go_simp) ?_
          simp only [Act.put, List.setIfInBounds_toArray, List.set_cons_zero, List.set_cons_succ]
          have Zb := Z0.below (below_new z0 (.cells #[byt xb, byt xb, byt xb] 5))
          have nx : ∀ j u, ([xb, xb, xb].map byt)[j]? = some u → (z0.alloc (.cells #[byt xb, byt xb, byt xb] 5)).cell? ((⟨z0.heap.size, 0, none⟩ : Addr).add j) = some u := fun j u hj => by rw [add_plain]; exact ((Blk.new z0 ([xb, xb, xb].map byt) 5).cell j).trans hj
          generalize z0.alloc (.cells #[byt xb, byt xb, byt xb] 5) = zb at Zb nx ⊢
          generalize z0.heap.size = dx at nx ⊢
          refine either (i := 4) (j := 11) (by kernel_rfl) ?_ ?_
          · have pc : zb.cell? ⟨p, 0, none⟩ = some (.slice aL nl cL) := Zb.bc.bk.cell 0
            refine op_run rfl rfl (.load 24 (.tmp 42)) rfl 43 rfl (.slice aL nl cL) zb (fun o' ho => by go_simp) ?_
            clear pc
            simp only [Act.put, List.setIfInBounds_toArray, List.set_cons_zero, List.set_cons_succ]
            refine only_one (i := 11) (by kernel_rfl) ?_
            refine op_appE elt29 rfl rfl (.tmp 45) (.tmp 49) rfl 50 rfl w.heap.size (.slice al k cl) k (Mk.map byt) rfl (row_of_own Zb.o1 HMkL.h) ⟨dx, 0, none⟩ 3 3 ([xb, xb, xb].map byt) rfl rfl nx (byt_one _) (by omega) Zb.bc.be.size ?_
            intro l2 zc ho2 hg2 hn2 hold2
            obtain ⟨a2, c2, rfl⟩ := ownsRow_slice ho2
            have Zc := Zb.app (own_of ho2 HCL.h) hg2 hn2 (own_of' hold2 HMkL.h)
            clear ho2 hg2 hn2 hold2 nx
            simp only [Act.put, List.setIfInBounds_toArray, List.set_cons_zero, List.set_cons_succ]
            refine only_one (i := 12) (by kernel_rfl) ?_
            refine op_run rfl rfl (.buildSlice 24 2 #[(0, .tmp 44), (1, .tmp 50)]) rfl 51 rfl (.slice (some ⟨zc.heap.size, 0, none⟩) 2 2) (zc.alloc (.cells #[(.slice al k cl), .slice a2 (k + 3) c2] 29)) (fun o' ho => by go_simp) ?_
            simp only [Act.put, List.setIfInBounds_toArray, List.set_cons_zero, List.set_cons_succ]
            have Zd := Zc.below (below_new zc (.cells #[(.slice al k cl), .slice a2 (k + 3) c2] 29))
            have ny : ∀ j u, [(.slice al k cl), .slice a2 (k + 3) c2][j]? = some u → (zc.alloc (.cells #[(.slice al k cl), .slice a2 (k + 3) c2] 29)).cell? ((⟨zc.heap.size, 0, none⟩ : Addr).add j) = some u := fun j u hj => by rw [add_plain]; exact ((Blk.new zc [(.slice al k cl), .slice a2 (k + 3) c2] 29).cell j).trans hj
            generalize zc.alloc (.cells #[(.slice al k cl), .slice a2 (k + 3) c2] 29) = zd at Zd ny ⊢
            generalize zc.heap.size = dy at ny ⊢
            refine only_one (i := 13) (by kernel_rfl) ?_
            refine op_appE elt24 rfl rfl (.tmp 43) (.tmp 51) rfl 52 rfl w.heap.size (.slice aL nl cL) nl ls rfl (by have := Zd.ns.bc.ol; rw [HNL.h] at this; exact this) ⟨dy, 0, none⟩ 2 2 [(.slice al k cl), .slice a2 (k + 3) c2] rfl rfl ny (by simp [Value.oneCell']) (by omega) Zd.ns.bc.be.size ?_
            intro L1 ze ho5 hg5 hn5 _
            obtain ⟨a5, c5, rfl⟩ := ownsRow_slice ho5
            obtain ⟨Z6, pc, pf⟩ := Zd.putL (by rw [HNL.h]; exact ho5) hg5 hn5 (fun i s => s.imp id .inl)
            simp only [Act.put, List.setIfInBounds_toArray, List.set_cons_zero, List.set_cons_succ]
            refine take_any (i := 14) rfl rfl (.nilCheck (.tmp 39)) rfl 53 rfl (v := (.pointer (some ⟨p, 0, none⟩))) (by kernel_rfl) (by kernel_rfl) (by kernel_rfl) (fun _ _ _ h => h) (fun o' ho w => by go_simp) ?_
            simp only [Act.put, List.setIfInBounds_toArray, List.set_cons_zero, List.set_cons_succ]
            refine take_any (i := 15) rfl rfl (.fieldAddr 27 (.tmp 53) 0) rfl 54 rfl (v := (.pointer (some ⟨p, 0, none⟩))) (by kernel_rfl) (by kernel_rfl) (by kernel_rfl) (fun _ _ _ h => h) (fun o' ho w => by go_simp) ?_
            simp only [Act.put, List.setIfInBounds_toArray, List.set_cons_zero, List.set_cons_succ]
            refine only_one (i := 16) (by kernel_rfl) ?_
            refine op_skip rfl rfl (.store 24 (.tmp 54) (.tmp 52)) rfl rfl (ze.setCell ⟨p, 0, none⟩ (.slice a5 (nl + 2) c5)) (fun o' ho => by go_simp) ?_
            have Z7 := hide Z6
            clear Z6 pc pf ho5 hg5 hn5
            generalize ze.setCell ⟨p, 0, none⟩ (.slice a5 (nl + 2) c5) = zf at Z7 ⊢
            refine wpAny_done (by kernel_rfl) (NoPanic.normal ?_) _
            go_wp2_with fail
            go_meet
            exact ⟨_, _, _, _, Z7⟩
          · refine op_appE elt29 rfl rfl (.tmp 45) (.tmp 49) rfl 50 rfl w.heap.size (.slice al k cl) k (Mk.map byt) rfl (row_of_own Zb.o1 HMkL.h) ⟨dx, 0, none⟩ 3 3 ([xb, xb, xb].map byt) rfl rfl nx (byt_one _) (by omega) Zb.bc.be.size ?_
            intro l2 zc ho2 hg2 hn2 hold2
            obtain ⟨a2, c2, rfl⟩ := ownsRow_slice ho2
            have Zc := Zb.app (own_of ho2 HCL.h) hg2 hn2 (own_of' hold2 HMkL.h)
            clear ho2 hg2 hn2 hold2 nx
            simp only [Act.put, List.setIfInBounds_toArray, List.set_cons_zero, List.set_cons_succ]
            refine either (i := 4) (j := 12) (by kernel_rfl) ?_ ?_
            · have pc : zc.cell? ⟨p, 0, none⟩ = some (.slice aL nl cL) := Zc.ns.bc.bk.cell 0
              refine op_run rfl rfl (.load 24 (.tmp 42)) rfl 43 rfl (.slice aL nl cL) zc (fun o' ho => by go_simp) ?_
              clear pc
              simp only [Act.put, List.setIfInBounds_toArray, List.set_cons_zero, List.set_cons_succ]
              refine only_one (i := 12) (by kernel_rfl) ?_
              refine op_run rfl rfl (.buildSlice 24 2 #[(0, .tmp 44), (1, .tmp 50)]) rfl 51 rfl (.slice (some ⟨zc.heap.size, 0, none⟩) 2 2) (zc.alloc (.cells #[(.slice al k cl), .slice a2 (k + 3) c2] 29)) (fun o' ho => by go_simp) ?_
              simp only [Act.put, List.setIfInBounds_toArray, List.set_cons_zero, List.set_cons_succ]
              have Zd := Zc.below (below_new zc (.cells #[(.slice al k cl), .slice a2 (k + 3) c2] 29))
              have ny : ∀ j u, [(.slice al k cl), .slice a2 (k + 3) c2][j]? = some u → (zc.alloc (.cells #[(.slice al k cl), .slice a2 (k + 3) c2] 29)).cell? ((⟨zc.heap.size, 0, none⟩ : Addr).add j) = some u := fun j u hj => by rw [add_plain]; exact ((Blk.new zc [(.slice al k cl), .slice a2 (k + 3) c2] 29).cell j).trans hj
              generalize zc.alloc (.cells #[(.slice al k cl), .slice a2 (k + 3) c2] 29) = zd at Zd ny ⊢
              generalize zc.heap.size = dy at ny ⊢
              refine only_one (i := 13) (by kernel_rfl) ?_
              refine op_appE elt24 rfl rfl (.tmp 43) (.tmp 51) rfl 52 rfl w.heap.size (.slice aL nl cL) nl ls rfl (by have := Zd.ns.bc.ol; rw [HNL.h] at this; exact this) ⟨dy, 0, none⟩ 2 2 [(.slice al k cl), .slice a2 (k + 3) c2] rfl rfl ny (by simp [Value.oneCell']) (by omega) Zd.ns.bc.be.size ?_
              intro L1 ze ho5 hg5 hn5 _
              obtain ⟨a5, c5, rfl⟩ := ownsRow_slice ho5
              obtain ⟨Z6, pc, pf⟩ := Zd.putL (by rw [HNL.h]; exact ho5) hg5 hn5 (fun i s => s.imp id .inl)
              simp only [Act.put, List.setIfInBounds_toArray, List.set_cons_zero, List.set_cons_succ]
              refine take_any (i := 14) rfl rfl (.nilCheck (.tmp 39)) rfl 53 rfl (v := (.pointer (some ⟨p, 0, none⟩))) (by kernel_rfl) (by kernel_rfl) (by kernel_rfl) (fun _ _ _ h => h) (fun o' ho w => by go_simp) ?_
              simp only [Act.put, List.setIfInBounds_toArray, List.set_cons_zero, List.set_cons_succ]
              refine take_any (i := 15) rfl rfl (.fieldAddr 27 (.tmp 53) 0) rfl 54 rfl (v := (.pointer (some ⟨p, 0, none⟩))) (by kernel_rfl) (by kernel_rfl) (by kernel_rfl) (fun _ _ _ h => h) (fun o' ho w => by go_simp) ?_
              simp only [Act.put, List.setIfInBounds_toArray, List.set_cons_zero, List.set_cons_succ]
              refine only_one (i := 16) (by kernel_rfl) ?_
              refine op_skip rfl rfl (.store 24 (.tmp 54) (.tmp 52)) rfl rfl (ze.setCell ⟨p, 0, none⟩ (.slice a5 (nl + 2) c5)) (fun o' ho => by go_simp) ?_
              have Z7 := hide Z6
              clear Z6 pc pf ho5 hg5 hn5
              generalize ze.setCell ⟨p, 0, none⟩ (.slice a5 (nl + 2) c5) = zf at Z7 ⊢
              refine wpAny_done (by kernel_rfl) (NoPanic.normal ?_) _
              go_wp2_with fail
              go_meet
              exact ⟨_, _, _, _, Z7⟩
            · refine op_run rfl rfl (.buildSlice 24 2 #[(0, .tmp 44), (1, .tmp 50)]) rfl 51 rfl (.slice (some ⟨zc.heap.size, 0, none⟩) 2 2) (zc.alloc (.cells #[(.slice al k cl), .slice a2 (k + 3) c2] 29)) (fun o' ho => by go_simp) ?_
              simp only [Act.put, List.setIfInBounds_toArray, List.set_cons_zero, List.set_cons_succ]
              have Zd := Zc.below (below_new zc (.cells #[(.slice al k cl), .slice a2 (k + 3) c2] 29))
              have ny : ∀ j u, [(.slice al k cl), .slice a2 (k + 3) c2][j]? = some u → (zc.alloc (.cells #[(.slice al k cl), .slice a2 (k + 3) c2] 29)).cell? ((⟨zc.heap.size, 0, none⟩ : Addr).add j) = some u := fun j u hj => by rw [add_plain]; exact ((Blk.new zc [(.slice al k cl), .slice a2 (k + 3) c2] 29).cell j).trans hj
              generalize zc.alloc (.cells #[(.slice al k cl), .slice a2 (k + 3) c2] 29) = zd at Zd ny ⊢
              generalize zc.heap.size = dy at ny ⊢
              refine only_one (i := 4) (by kernel_rfl) ?_
              have pc : zd.cell? ⟨p, 0, none⟩ = some (.slice aL nl cL) := Zd.ns.bc.bk.cell 0
              refine op_run rfl rfl (.load 24 (.tmp 42)) rfl 43 rfl (.slice aL nl cL) zd (fun o' ho => by go_simp) ?_
              clear pc
              simp only [Act.put, List.setIfInBounds_toArray, List.set_cons_zero, List.set_cons_succ]
              refine only_one (i := 13) (by kernel_rfl) ?_
              refine op_appE elt24 rfl rfl (.tmp 43) (.tmp 51) rfl 52 rfl w.heap.size (.slice aL nl cL) nl ls rfl (by have := Zd.ns.bc.ol; rw [HNL.h] at this; exact this) ⟨dy, 0, none⟩ 2 2 [(.slice al k cl), .slice a2 (k + 3) c2] rfl rfl ny (by simp [Value.oneCell']) (by omega) Zd.ns.bc.be.size ?_
              intro L1 ze ho5 hg5 hn5 _
              obtain ⟨a5, c5, rfl⟩ := ownsRow_slice ho5
              obtain ⟨Z6, pc, pf⟩ := Zd.putL (by rw [HNL.h]; exact ho5) hg5 hn5 (fun i s => s.imp id .inl)
              simp only [Act.put, List.setIfInBounds_toArray, List.set_cons_zero, List.set_cons_succ]
              refine take_any (i := 14) rfl rfl (.nilCheck (.tmp 39)) rfl 53 rfl (v := (.pointer (some ⟨p, 0, none⟩))) (by kernel_rfl) (by kernel_rfl) (by kernel_rfl) (fun _ _ _ h => h) (fun o' ho w => by go_simp) ?_
              simp only [Act.put, List.setIfInBounds_toArray, List.set_cons_zero, List.set_cons_succ]
              refine take_any (i := 15) rfl rfl (.fieldAddr 27 (.tmp 53) 0) rfl 54 rfl (v := (.pointer (some ⟨p, 0, none⟩))) (by kernel_rfl) (by kernel_rfl) (by kernel_rfl) (fun _ _ _ h => h) (fun o' ho w => by go_simp) ?_
              simp only [Act.put, List.setIfInBounds_toArray, List.set_cons_zero, List.set_cons_succ]
              refine only_one (i := 16) (by kernel_rfl) ?_
              refine op_skip rfl rfl (.store 24 (.tmp 54) (.tmp 52)) rfl rfl (ze.setCell ⟨p, 0, none⟩ (.slice a5 (nl + 2) c5)) (fun o' ho => by go_simp) ?_
              have Z7 := hide Z6
              clear Z6 pc pf ho5 hg5 hn5
              generalize ze.setCell ⟨p, 0, none⟩ (.slice a5 (nl + 2) c5) = zf at Z7 ⊢
              refine wpAny_done (by kernel_rfl) (NoPanic.normal ?_) _
              go_wp2_with fail
              go_meet
              exact ⟨_, _, _, _, Z7⟩
      case rest =>
        obtain ⟨aA, cA, aB, cB, A1⟩ := hcut
        go_upto_region 9 with fail
        refine wp_region_noPanic ?_
        refine wp_region_any (by kernel_rfl) ?_
        have Z0 : Nm x (fun k => k = p ∨ (Value.slice aL nl cL).ownBlock = some k ∨ (Value.slice aV vs.length cV).ownBlock = some k) w { wc with drawn := wc.drawn + 1 } p (.slice aA (nl + 2) cA) (.slice aV vs.length cV) K M (ls ++ [.slice al k cl, .slice aB (k + 3) cB]) vs ks ms ls vs (.slice al k cl) (.slice aB (k + 3) cB) (.slice at_ k ct) Mk (Mk ++ [xb, xb, xb]) := A1.out.below (Below.refl _ _).drew
        generalize { wc with drawn := wc.drawn + 1 } = z0 at Z0 ⊢
        refine take_any (i := 0) rfl rfl (.move (.tmp 0)) rfl 55 rfl (v := (.pointer (some ⟨p, 0, none⟩))) (by kernel_rfl) (by kernel_rfl) (by kernel_rfl) (fun _ _ _ h => h) (fun o' ho w => by go_simp) ?_
        simp only [Act.put, List.setIfInBounds_toArray, List.set_cons_zero, List.set_cons_succ]
        refine take_any (i := 1) rfl rfl (.move (.tmp 0)) rfl 56 rfl (v := (.pointer (some ⟨p, 0, none⟩))) (by kernel_rfl) (by kernel_rfl) (by kernel_rfl) (fun _ _ _ h => h) (fun o' ho w => by go_simp) ?_
        simp only [Act.put, List.setIfInBounds_toArray, List.set_cons_zero, List.set_cons_succ]
        refine take_any (i := 2) rfl rfl (.nilCheck (.tmp 56)) rfl 57 rfl (v := (.pointer (some ⟨p, 0, none⟩))) (by kernel_rfl) (by kernel_rfl) (by kernel_rfl) (fun _ _ _ h => h) (fun o' ho w => by go_simp) ?_
        simp only [Act.put, List.setIfInBounds_toArray, List.set_cons_zero, List.set_cons_succ]
        refine take_any (i := 3) rfl rfl (.fieldAddr 27 (.tmp 57) 1) rfl 58 rfl (v := (.pointer (some ⟨p, 1, none⟩))) (by kernel_rfl) (by kernel_rfl) (by kernel_rfl) (fun _ _ _ h => h) (fun o' ho w => by go_simp) ?_
        simp only [Act.put, List.setIfInBounds_toArray, List.set_cons_zero, List.set_cons_succ]
        refine take_any (i := 5) rfl rfl (.move (.tmp 5)) rfl 60 rfl (v := (.slice at_ k ct)) (by kernel_rfl) (by kernel_rfl) (by kernel_rfl) (fun _ _ _ h => h) (fun o' ho w => by go_simp) ?_
        simp only [Act.put, List.setIfInBounds_toArray, List.set_cons_zero, List.set_cons_succ]
        refine take_any (i := 6) rfl rfl (.move (.tmp 5)) rfl 61 rfl (v := (.slice at_ k ct)) (by kernel_rfl) (by kernel_rfl) (by kernel_rfl) (fun _ _ _ h => h) (fun o' ho w => by go_simp) ?_
        simp only [Act.put, List.setIfInBounds_toArray, List.set_cons_zero, List.set_cons_succ]
        refine take_any (i := 7) rfl rfl (.move (.tmp 7)) rfl 62 rfl (v := (.int .u8 (xb.toNat : Int))) (by kernel_rfl) (by kernel_rfl) (by kernel_rfl) (fun _ _ _ h => h) (fun o' ho w => by go_simp) ?_
        simp only [Act.put, List.setIfInBounds_toArray, List.set_cons_zero, List.set_cons_succ]
        refine take_any (i := 8) rfl rfl (.move (.tmp 7)) rfl 63 rfl (v := (.int .u8 (xb.toNat : Int))) (by kernel_rfl) (by kernel_rfl) (by kernel_rfl) (fun _ _ _ h => h) (fun o' ho w => by go_simp) ?_
        simp only [Act.put, List.setIfInBounds_toArray, List.set_cons_zero, List.set_cons_succ]
        refine take_any (i := 9) rfl rfl (.move (.tmp 7)) rfl 64 rfl (v := (.int .u8 (xb.toNat : Int))) (by kernel_rfl) (by kernel_rfl) (by kernel_rfl) (fun _ _ _ h => h) (fun o' ho w => by go_simp) ?_
        simp only [Act.put, List.setIfInBounds_toArray, List.set_cons_zero, List.set_cons_succ]
        refine either (i := 4) (j := 10) (by kernel_rfl) ?_ ?_
        · have pc : z0.cell? ⟨p, 1, none⟩ = some (.slice aV vs.length cV) := Z0.ns.bc.bk.cell 1
          refine op_run rfl rfl (.load 24 (.tmp 58)) rfl 59 rfl (.slice aV vs.length cV) z0 (fun o' ho => by go_simp) ?_
          clear pc
          simp only [Act.put, List.setIfInBounds_toArray, List.set_cons_zero, List.set_cons_succ]
          refine only_one (i := 10) (by kernel_rfl) ?_
          refine op_run rfl rfl (.buildSlice 29 3 #[(0, .tmp 62), (1, .tmp 63), (2, .tmp 64)]) rfl 65 rfl (.slice (some ⟨z0.heap.size, 0, none⟩) 3 3) (z0.alloc (.cells #[byt xb, byt xb, byt xb] 5)) (fun o' ho => by unfold byt; go_simp) ?_
          simp only [Act.put, List.setIfInBounds_toArray, List.set_cons_zero, List.set_cons_succ]
          have Zb := Z0.below (below_new z0 (.cells #[byt xb, byt xb, byt xb] 5))
          have nx : ∀ j u, ([xb, xb, xb].map byt)[j]? = some u → (z0.alloc (.cells #[byt xb, byt xb, byt xb] 5)).cell? ((⟨z0.heap.size, 0, none⟩ : Addr).add j) = some u := fun j u hj => by rw [add_plain]; exact ((Blk.new z0 ([xb, xb, xb].map byt) 5).cell j).trans hj
          generalize z0.alloc (.cells #[byt xb, byt xb, byt xb] 5) = zb at Zb nx ⊢
          generalize z0.heap.size = dx at nx ⊢
          refine only_one (i := 11) (by kernel_rfl) ?_
          refine op_appE elt29 rfl rfl (.tmp 61) (.tmp 65) rfl 66 rfl w.heap.size (.slice at_ k ct) k (Mk.map byt) rfl (row_of_own Zb.ns.ow HMkL.h) ⟨dx, 0, none⟩ 3 3 ([xb, xb, xb].map byt) rfl rfl nx (byt_one _) (by omega) Zb.ns.bc.be.size ?_
          intro l2 zc ho2 hg2 hn2 hold2
          obtain ⟨a2, c2, rfl⟩ := ownsRow_slice ho2
          have Zc := Zb.app (own_of ho2 HCL.h) hg2 (own_of' hold2 HMkL.h)
          clear ho2 hg2 hn2 hold2 nx
          simp only [Act.put, List.setIfInBounds_toArray, List.set_cons_zero, List.set_cons_succ]
          refine only_one (i := 12) (by kernel_rfl) ?_
          refine op_run rfl rfl (.buildSlice 24 2 #[(0, .tmp 60), (1, .tmp 66)]) rfl 67 rfl (.slice (some ⟨zc.heap.size, 0, none⟩) 2 2) (zc.alloc (.cells #[(.slice at_ k ct), .slice a2 (k + 3) c2] 29)) (fun o' ho => by go_simp) ?_
          simp only [Act.put, List.setIfInBounds_toArray, List.set_cons_zero, List.set_cons_succ]
          have Zd := Zc.below (below_new zc (.cells #[(.slice at_ k ct), .slice a2 (k + 3) c2] 29))
          have ny : ∀ j u, [(.slice at_ k ct), .slice a2 (k + 3) c2][j]? = some u → (zc.alloc (.cells #[(.slice at_ k ct), .slice a2 (k + 3) c2] 29)).cell? ((⟨zc.heap.size, 0, none⟩ : Addr).add j) = some u := fun j u hj => by rw [add_plain]; exact ((Blk.new zc [(.slice at_ k ct), .slice a2 (k + 3) c2] 29).cell j).trans hj
          generalize zc.alloc (.cells #[(.slice at_ k ct), .slice a2 (k + 3) c2] 29) = zd at Zd ny ⊢
          generalize zc.heap.size = dy at ny ⊢
          refine only_one (i := 13) (by kernel_rfl) ?_
          refine op_appE elt24 rfl rfl (.tmp 59) (.tmp 67) rfl 68 rfl w.heap.size (.slice aV vs.length cV) vs.length vs rfl Zd.bc.ov ⟨dy, 0, none⟩ 2 2 [(.slice at_ k ct), .slice a2 (k + 3) c2] rfl rfl ny (by simp [Value.oneCell']) (by rw [HVL.h]; omega) Zd.bc.be.size ?_
          intro L1 ze ho5 hg5 hn5 _
          obtain ⟨a5, c5, rfl⟩ := ownsRow_slice ho5
          obtain ⟨Z6, pc, pf⟩ := Zd.putV ho5 hg5 hn5 (by rw [HMkL.h, HCL.h]) (fun i s => s.imp id .inr)
          simp only [Act.put, List.setIfInBounds_toArray, List.set_cons_zero, List.set_cons_succ]
          refine take_any (i := 14) rfl rfl (.nilCheck (.tmp 55)) rfl 69 rfl (v := (.pointer (some ⟨p, 0, none⟩))) (by kernel_rfl) (by kernel_rfl) (by kernel_rfl) (fun _ _ _ h => h) (fun o' ho w => by go_simp) ?_
          simp only [Act.put, List.setIfInBounds_toArray, List.set_cons_zero, List.set_cons_succ]
          refine take_any (i := 15) rfl rfl (.fieldAddr 27 (.tmp 69) 1) rfl 70 rfl (v := (.pointer (some ⟨p, 1, none⟩))) (by kernel_rfl) (by kernel_rfl) (by kernel_rfl) (fun _ _ _ h => h) (fun o' ho w => by go_simp) ?_
          simp only [Act.put, List.setIfInBounds_toArray, List.set_cons_zero, List.set_cons_succ]
          refine only_one (i := 16) (by kernel_rfl) ?_
          refine op_skip rfl rfl (.store 24 (.tmp 70) (.tmp 68)) rfl rfl (ze.setCell ⟨p, 1, none⟩ (.slice a5 (vs.length + 2) c5)) (fun o' ho => by go_simp) ?_
          have Z7 := hide Z6
          clear Z6 pc pf ho5 hg5 hn5
          generalize ze.setCell ⟨p, 1, none⟩ (.slice a5 (vs.length + 2) c5) = zf at Z7 ⊢
          refine wpAny_done (by kernel_rfl) (NoPanic.normal ?_) _
          go_wp2_with fail
          go_end0
          exact ⟨rfl, _, _, _, _, Z7.out.1, Z7.out.2.1, Z7.out.2.2.1, by rw [List.length_append, HNL.h]; rfl, Z7.out.2.2.2⟩
        · refine op_run rfl rfl (.buildSlice 29 3 #[(0, .tmp 62), (1, .tmp 63), (2, .tmp 64)]) rfl 65 rfl (.slice (some ⟨z0.heap.size, 0, none⟩) 3 3) (z0.alloc (.cells #[byt xb, byt xb, byt xb] 5)) (fun o' ho => by unfold byt; go_simp) ?_
          simp only [Act.put, List.setIfInBounds_toArray, List.set_cons_zero, List.set_cons_succ]
          have Zb := Z0.below (below_new z0 (.cells #[byt xb, byt xb, byt xb] 5))
          have nx : ∀ j u, ([xb, xb, xb].map byt)[j]? = some u → (z0.alloc (.cells #[byt xb, byt xb, byt xb] 5)).cell? ((⟨z0.heap.size, 0, none⟩ : Addr).add j) = some u := fun j u hj => by rw [add_plain]; exact ((Blk.new z0 ([xb, xb, xb].map byt) 5).cell j).trans hj
          generalize z0.alloc (.cells #[byt xb, byt xb, byt xb] 5) = zb at Zb nx ⊢
          generalize z0.heap.size = dx at nx ⊢
          refine either (i := 4) (j := 11) (by kernel_rfl) ?_ ?_
          · have pc : zb.cell? ⟨p, 1, none⟩ = some (.slice aV vs.length cV) := Zb.ns.bc.bk.cell 1
            refine op_run rfl rfl (.load 24 (.tmp 58)) rfl 59 rfl (.slice aV vs.length cV) zb (fun o' ho => by go_simp) ?_
            clear pc
            simp only [Act.put, List.setIfInBounds_toArray, List.set_cons_zero, List.set_cons_succ]
            refine only_one (i := 11) (by kernel_rfl) ?_
            refine op_appE elt29 rfl rfl (.tmp 61) (.tmp 65) rfl 66 rfl w.heap.size (.slice at_ k ct) k (Mk.map byt) rfl (row_of_own Zb.ns.ow HMkL.h) ⟨dx, 0, none⟩ 3 3 ([xb, xb, xb].map byt) rfl rfl nx (byt_one _) (by omega) Zb.ns.bc.be.size ?_
            intro l2 zc ho2 hg2 hn2 hold2
            obtain ⟨a2, c2, rfl⟩ := ownsRow_slice ho2
            have Zc := Zb.app (own_of ho2 HCL.h) hg2 (own_of' hold2 HMkL.h)
            clear ho2 hg2 hn2 hold2 nx
            simp only [Act.put, List.setIfInBounds_toArray, List.set_cons_zero, List.set_cons_succ]
            refine only_one (i := 12) (by kernel_rfl) ?_
            refine op_run rfl rfl (.buildSlice 24 2 #[(0, .tmp 60), (1, .tmp 66)]) rfl 67 rfl (.slice (some ⟨zc.heap.size, 0, none⟩) 2 2) (zc.alloc (.cells #[(.slice at_ k ct), .slice a2 (k + 3) c2] 29)) (fun o' ho => by go_simp) ?_
            simp only [Act.put, List.setIfInBounds_toArray, List.set_cons_zero, List.set_cons_succ]
            have Zd := Zc.below (below_new zc (.cells #[(.slice at_ k ct), .slice a2 (k + 3) c2] 29))
            have ny : ∀ j u, [(.slice at_ k ct), .slice a2 (k + 3) c2][j]? = some u → (zc.alloc (.cells #[(.slice at_ k ct), .slice a2 (k + 3) c2] 29)).cell? ((⟨zc.heap.size, 0, none⟩ : Addr).add j) = some u := fun j u hj => by rw [add_plain]; exact ((Blk.new zc [(.slice at_ k ct), .slice a2 (k + 3) c2] 29).cell j).trans hj
            generalize zc.alloc (.cells #[(.slice at_ k ct), .slice a2 (k + 3) c2] 29) = zd at Zd ny ⊢
            generalize zc.heap.size = dy at ny ⊢
            refine only_one (i := 13) (by kernel_rfl) ?_
            refine op_appE elt24 rfl rfl (.tmp 59) (.tmp 67) rfl 68 rfl w.heap.size (.slice aV vs.length cV) vs.length vs rfl Zd.bc.ov ⟨dy, 0, none⟩ 2 2 [(.slice at_ k ct), .slice a2 (k + 3) c2] rfl rfl ny (by simp [Value.oneCell']) (by rw [HVL.h]; omega) Zd.bc.be.size ?_
            intro L1 ze ho5 hg5 hn5 _
            obtain ⟨a5, c5, rfl⟩ := ownsRow_slice ho5
            obtain ⟨Z6, pc, pf⟩ := Zd.putV ho5 hg5 hn5 (by rw [HMkL.h, HCL.h]) (fun i s => s.imp id .inr)
            simp only [Act.put, List.setIfInBounds_toArray, List.set_cons_zero, List.set_cons_succ]
            refine take_any (i := 14) rfl rfl (.nilCheck (.tmp 55)) rfl 69 rfl (v := (.pointer (some ⟨p, 0, none⟩))) (by kernel_rfl) (by kernel_rfl) (by kernel_rfl) (fun _ _ _ h => h) (fun o' ho w => by go_simp) ?_
            simp only [Act.put, List.setIfInBounds_toArray, List.set_cons_zero, List.set_cons_succ]
            refine take_any (i := 15) rfl rfl (.fieldAddr 27 (.tmp 69) 1) rfl 70 rfl (v := (.pointer (some ⟨p, 1, none⟩))) (by kernel_rfl) (by kernel_rfl) (by kernel_rfl) (fun _ _ _ h => h) (fun o' ho w => by go_simp) ?_
            simp only [Act.put, List.setIfInBounds_toArray, List.set_cons_zero, List.set_cons_succ]
            refine only_one (i := 16) (by kernel_rfl) ?_
            refine op_skip rfl rfl (.store 24 (.tmp 70) (.tmp 68)) rfl rfl (ze.setCell ⟨p, 1, none⟩ (.slice a5 (vs.length + 2) c5)) (fun o' ho => by go_simp) ?_
            have Z7 := hide Z6
            clear Z6 pc pf ho5 hg5 hn5
            generalize ze.setCell ⟨p, 1, none⟩ (.slice a5 (vs.length + 2) c5) = zf at Z7 ⊢
            refine wpAny_done (by kernel_rfl) (NoPanic.normal ?_) _
            go_wp2_with fail
            go_end0
            exact ⟨rfl, _, _, _, _, Z7.out.1, Z7.out.2.1, Z7.out.2.2.1, by rw [List.length_append, HNL.h]; rfl, Z7.out.2.2.2⟩
          · refine op_appE elt29 rfl rfl (.tmp 61) (.tmp 65) rfl 66 rfl w.heap.size (.slice at_ k ct) k (Mk.map byt) rfl (row_of_own Zb.ns.ow HMkL.h) ⟨dx, 0, none⟩ 3 3 ([xb, xb, xb].map byt) rfl rfl nx (byt_one _) (by omega) Zb.ns.bc.be.size ?_
            intro l2 zc ho2 hg2 hn2 hold2
            obtain ⟨a2, c2, rfl⟩ := ownsRow_slice ho2
            have Zc := Zb.app (own_of ho2 HCL.h) hg2 (own_of' hold2 HMkL.h)
            clear ho2 hg2 hn2 hold2 nx
            simp only [Act.put, List.setIfInBounds_toArray, List.set_cons_zero, List.set_cons_succ]
            refine either (i := 4) (j := 12) (by kernel_rfl) ?_ ?_
            · have pc : zc.cell? ⟨p, 1, none⟩ = some (.slice aV vs.length cV) := Zc.bc.bk.cell 1
              refine op_run rfl rfl (.load 24 (.tmp 58)) rfl 59 rfl (.slice aV vs.length cV) zc (fun o' ho => by go_simp) ?_
              clear pc
              simp only [Act.put, List.setIfInBounds_toArray, List.set_cons_zero, List.set_cons_succ]
              refine only_one (i := 12) (by kernel_rfl) ?_
              refine op_run rfl rfl (.buildSlice 24 2 #[(0, .tmp 60), (1, .tmp 66)]) rfl 67 rfl (.slice (some ⟨zc.heap.size, 0, none⟩) 2 2) (zc.alloc (.cells #[(.slice at_ k ct), .slice a2 (k + 3) c2] 29)) (fun o' ho => by go_simp) ?_
              simp only [Act.put, List.setIfInBounds_toArray, List.set_cons_zero, List.set_cons_succ]
              have Zd := Zc.below (below_new zc (.cells #[(.slice at_ k ct), .slice a2 (k + 3) c2] 29))
              have ny : ∀ j u, [(.slice at_ k ct), .slice a2 (k + 3) c2][j]? = some u → (zc.alloc (.cells #[(.slice at_ k ct), .slice a2 (k + 3) c2] 29)).cell? ((⟨zc.heap.size, 0, none⟩ : Addr).add j) = some u := fun j u hj => by rw [add_plain]; exact ((Blk.new zc [(.slice at_ k ct), .slice a2 (k + 3) c2] 29).cell j).trans hj
              generalize zc.alloc (.cells #[(.slice at_ k ct), .slice a2 (k + 3) c2] 29) = zd at Zd ny ⊢
              generalize zc.heap.size = dy at ny ⊢
              refine only_one (i := 13) (by kernel_rfl) ?_
              refine op_appE elt24 rfl rfl (.tmp 59) (.tmp 67) rfl 68 rfl w.heap.size (.slice aV vs.length cV) vs.length vs rfl Zd.bc.ov ⟨dy, 0, none⟩ 2 2 [(.slice at_ k ct), .slice a2 (k + 3) c2] rfl rfl ny (by simp [Value.oneCell']) (by rw [HVL.h]; omega) Zd.bc.be.size ?_
              intro L1 ze ho5 hg5 hn5 _
              obtain ⟨a5, c5, rfl⟩ := ownsRow_slice ho5
              obtain ⟨Z6, pc, pf⟩ := Zd.putV ho5 hg5 hn5 (by rw [HMkL.h, HCL.h]) (fun i s => s.imp id .inr)
              simp only [Act.put, List.setIfInBounds_toArray, List.set_cons_zero, List.set_cons_succ]
              refine take_any (i := 14) rfl rfl (.nilCheck (.tmp 55)) rfl 69 rfl (v := (.pointer (some ⟨p, 0, none⟩))) (by kernel_rfl) (by kernel_rfl) (by kernel_rfl) (fun _ _ _ h => h) (fun o' ho w => by go_simp) ?_
              simp only [Act.put, List.setIfInBounds_toArray, List.set_cons_zero, List.set_cons_succ]
              refine take_any (i := 15) rfl rfl (.fieldAddr 27 (.tmp 69) 1) rfl 70 rfl (v := (.pointer (some ⟨p, 1, none⟩))) (by kernel_rfl) (by kernel_rfl) (by kernel_rfl) (fun _ _ _ h => h) (fun o' ho w => by go_simp) ?_
              simp only [Act.put, List.setIfInBounds_toArray, List.set_cons_zero, List.set_cons_succ]
              refine only_one (i := 16) (by kernel_rfl) ?_
              refine op_skip rfl rfl (.store 24 (.tmp 70) (.tmp 68)) rfl rfl (ze.setCell ⟨p, 1, none⟩ (.slice a5 (vs.length + 2) c5)) (fun o' ho => by go_simp) ?_
              have Z7 := hide Z6
              clear Z6 pc pf ho5 hg5 hn5
              generalize ze.setCell ⟨p, 1, none⟩ (.slice a5 (vs.length + 2) c5) = zf at Z7 ⊢
              refine wpAny_done (by kernel_rfl) (NoPanic.normal ?_) _
              go_wp2_with fail
              go_end0
              exact ⟨rfl, _, _, _, _, Z7.out.1, Z7.out.2.1, Z7.out.2.2.1, by rw [List.length_append, HNL.h]; rfl, Z7.out.2.2.2⟩
            · refine op_run rfl rfl (.buildSlice 24 2 #[(0, .tmp 60), (1, .tmp 66)]) rfl 67 rfl (.slice (some ⟨zc.heap.size, 0, none⟩) 2 2) (zc.alloc (.cells #[(.slice at_ k ct), .slice a2 (k + 3) c2] 29)) (fun o' ho => by go_simp) ?_
              simp only [Act.put, List.setIfInBounds_toArray, List.set_cons_zero, List.set_cons_succ]
              have Zd := Zc.below (below_new zc (.cells #[(.slice at_ k ct), .slice a2 (k + 3) c2] 29))
              have ny : ∀ j u, [(.slice at_ k ct), .slice a2 (k + 3) c2][j]? = some u → (zc.alloc (.cells #[(.slice at_ k ct), .slice a2 (k + 3) c2] 29)).cell? ((⟨zc.heap.size, 0, none⟩ : Addr).add j) = some u := fun j u hj => by rw [add_plain]; exact ((Blk.new zc [(.slice at_ k ct), .slice a2 (k + 3) c2] 29).cell j).trans hj
              generalize zc.alloc (.cells #[(.slice at_ k ct), .slice a2 (k + 3) c2] 29) = zd at Zd ny ⊢
              generalize zc.heap.size = dy at ny ⊢
              refine only_one (i := 4) (by kernel_rfl) ?_
              have pc : zd.cell? ⟨p, 1, none⟩ = some (.slice aV vs.length cV) := Zd.bc.bk.cell 1
              refine op_run rfl rfl (.load 24 (.tmp 58)) rfl 59 rfl (.slice aV vs.length cV) zd (fun o' ho => by go_simp) ?_
              clear pc
              simp only [Act.put, List.setIfInBounds_toArray, List.set_cons_zero, List.set_cons_succ]
              refine only_one (i := 13) (by kernel_rfl) ?_
              refine op_appE elt24 rfl rfl (.tmp 59) (.tmp 67) rfl 68 rfl w.heap.size (.slice aV vs.length cV) vs.length vs rfl Zd.bc.ov ⟨dy, 0, none⟩ 2 2 [(.slice at_ k ct), .slice a2 (k + 3) c2] rfl rfl ny (by simp [Value.oneCell']) (by rw [HVL.h]; omega) Zd.bc.be.size ?_
              intro L1 ze ho5 hg5 hn5 _
              obtain ⟨a5, c5, rfl⟩ := ownsRow_slice ho5
              obtain ⟨Z6, pc, pf⟩ := Zd.putV ho5 hg5 hn5 (by rw [HMkL.h, HCL.h]) (fun i s => s.imp id .inr)
              simp only [Act.put, List.setIfInBounds_toArray, List.set_cons_zero, List.set_cons_succ]
              refine take_any (i := 14) rfl rfl (.nilCheck (.tmp 55)) rfl 69 rfl (v := (.pointer (some ⟨p, 0, none⟩))) (by kernel_rfl) (by kernel_rfl) (by kernel_rfl) (fun _ _ _ h => h) (fun o' ho w => by go_simp) ?_
              simp only [Act.put, List.setIfInBounds_toArray, List.set_cons_zero, List.set_cons_succ]
              refine take_any (i := 15) rfl rfl (.fieldAddr 27 (.tmp 69) 1) rfl 70 rfl (v := (.pointer (some ⟨p, 1, none⟩))) (by kernel_rfl) (by kernel_rfl) (by kernel_rfl) (fun _ _ _ h => h) (fun o' ho w => by go_simp) ?_
              simp only [Act.put, List.setIfInBounds_toArray, List.set_cons_zero, List.set_cons_succ]
              refine only_one (i := 16) (by kernel_rfl) ?_
              refine op_skip rfl rfl (.store 24 (.tmp 70) (.tmp 68)) rfl rfl (ze.setCell ⟨p, 1, none⟩ (.slice a5 (vs.length + 2) c5)) (fun o' ho => by go_simp) ?_
              have Z7 := hide Z6
              clear Z6 pc pf ho5 hg5 hn5
              generalize ze.setCell ⟨p, 1, none⟩ (.slice a5 (vs.length + 2) c5) = zf at Z7 ⊢
              refine wpAny_done (by kernel_rfl) (NoPanic.normal ?_) _
              go_wp2_with fail
              go_end0
              exact ⟨rfl, _, _, _, _, Z7.out.1, Z7.out.2.1, Z7.out.2.2.1, by rw [List.length_append, HNL.h]; rfl, Z7.out.2.2.2⟩
end Go.Proofs.YtablmkijlpoaaabDoor
