import Derived.Test.YtggehhlobjjmpaaSk
set_option linter.unusedVariables false
set_option linter.unusedSimpArgs false
namespace Go.Proofs.Ytggehhlobjjmpaa
open Go.RowKit

theorem bfx {w W W' : World} {r : Nat} (h : Below w.heap.size w W) (f : Fx (fun k => k = r) W W') (hr : w.heap.size ≤ r) : Below w.heap.size w W' := h.trans (f.below (fun k hk e => by omega) h.size)
theorem ZE.max {P : Program} {n : Nat} {ops : Array Oper} {S : Nat → World → Prop} {K : List (Nat × Value) → (World → Prop) → Prop} {i c lv : Nat} {ty : TypeId} {ps : String} {af : Array Edge} {gd : Option (Nat × Bool)} {r : List (Oper × Nat × Nat)} {e : List (Nat × Value)} {C : World → Prop} {x y : Operand} {ts : Array TypeId} {u u' v : Value} (h1 : decide (c = 1) = false) (hw : wantE ops e ⟨some i, .call { callee := .builtin .max, args := #[x, y], argTypes := ts }, ty, ps, af, gd⟩ = some true) (hi : decide (i < n) = true) (hx : evE e x = some u) (hy : evE e y = some u') (hc : ∀ w, C w → SZ S c lv C w) (hr : ∀ w, (Builtin.max_ ts ty #[u, u']).run P w = .ok v w) (k : wpZE P n ops S K r ((i, v) :: e) C) : wpZE P n ops S K ((⟨some i, .call { callee := .builtin .max, args := #[x, y], argTypes := ts }, ty, ps, af, gd⟩, c, lv) :: r) e C :=
  ZE.val h1 hw hi hc (fun a ha W hW => by simp [execOp, resolve, invoke, builtin, ha.ev hx, ha.ev hy, hr W, Result.andThen]) k
/-- The table while keys of turn 3 are taken. -/
def EL (Ks : List (List UInt8)) (left : List Bool) : List Me := ((List.range Ks.length).filter fun i => left.getD i false).map (fun i => ⟨3, 7 + i, Ks.getD i [], i⟩) ++ adE 2 9 Ks.length Ks
def LL (Ks : List (List UInt8)) (left : List Bool) : List Sk := (List.range Ks.length).map (fun i => ⟨2, 9 + i, Ks.getD i []⟩) ++ ((List.range Ks.length).filter fun i => left.getD i false).map (fun i => ⟨3, 7 + i, Ks.getD i []⟩)
theorem EL_init (Ks : List (List UInt8)) : adE 3 7 0 Ks ++ adE 2 9 Ks.length Ks = EL Ks (List.replicate Ks.length true) := by
  unfold EL
  congr 1
  rw [adE_range, List.filter_eq_self.2]
  · simp
  · intro i hi
    have := List.mem_range.1 hi
    simp [List.getElem?_replicate, this]
theorem EL_del (Ks : List (List UInt8)) (left : List Bool) (k : Nat) (hl : left.length = Ks.length) (hk : k < Ks.length) : delE (EL Ks left) 3 (7 + k) = EL Ks (left.set k false) := by
  unfold EL delE
  rw [List.filter_append]
  congr 1
  · rw [List.filter_map, List.filter_filter]
    congr 1
    apply List.filter_congr
    intro i hi
    have hi' := List.mem_range.1 hi
    simp only [Function.comp, List.getD_eq_getElem?_getD, List.getElem?_set]
    by_cases e : k = i
    · subst e
      simp [hl, hk]
    · have h1 : ¬ (7 + k = 7 + i) := by omega
      simp [e, h1]
  · apply List.filter_eq_self.2
    intro m hm
    rw [adE_range] at hm
    obtain ⟨i, _, rfl⟩ := List.mem_map.1 hm
    simp
theorem EL_perm (Ks : List (List UInt8)) (left : List Bool) : ((EL Ks left).map Me.sk).Perm (LL Ks left) := by
  unfold EL LL
  rw [List.map_append, List.map_map, adE_range, List.map_map]
  exact List.perm_append_comm
theorem EL_len (Ks : List (List UInt8)) (left : List Bool) : (EL Ks left).length = (LL Ks left).length := by
  have := (EL_perm Ks left).length_eq
  rwa [List.length_map] at this
theorem LL_lt (Ks : List (List UInt8)) (left : List Bool) : (LL Ks left).Pairwise Lt := by
  unfold LL
  rw [List.pairwise_append]
  refine ⟨?_, ?_, ?_⟩
  · rw [List.pairwise_map]
    exact List.pairwise_lt_range.imp fun h => .inr ⟨rfl, by show 9 + _ < 9 + _; omega⟩
  · rw [List.pairwise_map]
    exact (List.pairwise_lt_range.filter _).imp fun h => .inr ⟨rfl, by show 7 + _ < 7 + _; omega⟩
  · intro a ha b hb
    obtain ⟨i, _, rfl⟩ := List.mem_map.1 ha
    obtain ⟨j, _, rfl⟩ := List.mem_map.1 hb
    exact .inl (by show 2 < 3; decide)
theorem EL_lk {Ks : List (List UInt8)} {left : List Bool} (hnd : ((EL Ks left).map fun m => (m.t, m.n)).Nodup) {k : Nat} (hk : k < Ks.length) : lkE (EL Ks left) 3 (7 + k) = if left.getD k false = true then some (Ks.getD k []) else none := by
  by_cases h : left.getD k false = true
  · rw [if_pos h]
    exact lk_mem hnd (m := ⟨3, 7 + k, Ks.getD k [], k⟩) (List.mem_append.2 (.inl (List.mem_map.2 ⟨k, List.mem_filter.2 ⟨List.mem_range.2 hk, h⟩, rfl⟩)))
  · rw [if_neg h]
    refine lk_of_none fun m hm hh => ?_
    rcases List.mem_append.1 hm with hm | hm
    · obtain ⟨i, hi, rfl⟩ := List.mem_map.1 hm
      have h2 := hh.2
      dsimp only at h2
      rw [show i = k by omega] at hi
      exact h (List.mem_filter.1 hi).2
    · rw [adE_range] at hm
      obtain ⟨i, _, rfl⟩ := List.mem_map.1 hm
      exact absurd hh.1 (show ¬ (3 : Nat) = 2 by decide)
theorem LL_fst (Ks : List (List UInt8)) (left : List Bool) {i : Nat} (hi : i < Ks.length) : (LL Ks left)[i]? = some ⟨2, 9 + i, Ks.getD i []⟩ := by
  unfold LL
  rw [List.getElem?_append_left (by simpa using hi)]
  simp [hi]
def cntL (left : List Bool) (i : Nat) : Nat := ((List.range i).filter fun i => left.getD i false).length
theorem cnt_succ (left : List Bool) (i : Nat) : cntL left (i + 1) = cntL left i + (if left.getD i false = true then 1 else 0) := by
  unfold cntL
  rw [List.range_succ, List.filter_append, List.length_append]
  congr 1
  by_cases h : left.getD i false = true
  · rw [if_pos h, List.filter_cons_of_pos (p := fun j => left.getD j false) h]; rfl
  · rw [if_neg h, List.filter_cons_of_neg (p := fun j => left.getD j false) h]; rfl
theorem cnt_le (left : List Bool) (i : Nat) : cntL left i ≤ i := by
  unfold cntL
  refine Nat.le_trans (List.length_filter_le _ _) ?_
  simp
theorem LL_len (Ks : List (List UInt8)) (left : List Bool) : (LL Ks left).length = Ks.length + cntL left Ks.length := by
  unfold LL cntL
  simp
theorem LL_snd (Ks : List (List UInt8)) (left : List Bool) {i : Nat} (hi : i < Ks.length) (h : left.getD i false = true) : (LL Ks left)[Ks.length + cntL left i]? = some ⟨3, 7 + i, Ks.getD i []⟩ := by
  unfold LL
  rw [List.getElem?_append_right (by simp), List.length_map, List.length_range, Nat.add_sub_cancel_left, List.getElem?_map]
  have e : ((List.range Ks.length).filter fun i => left.getD i false)[cntL left i]? = some i := by
    rw [show Ks.length = i + (1 + (Ks.length - i - 1)) by omega, List.range_add, List.filter_append]
    unfold cntL
    rw [List.getElem?_append_right (Nat.le_refl _), Nat.sub_self, List.range_add, List.map_append, List.filter_append]
    have e1 : List.filter (fun j => left.getD j false) ((List.range 1).map (fun x => i + x)) = [i] := by
      show List.filter _ [i + 0] = _
      rw [Nat.add_zero, List.filter_cons_of_pos (p := fun j => left.getD j false) h]; rfl
    rw [e1]
    rfl
  rw [e]; rfl
/-- What stays. -/
structure OnS (w : World) (p r q : Nat) (v : Value) (Ks : List (List UInt8)) (lt lb : List Bool) (W : World) : Prop where
  tb : Tb W p r 64 (EL Ks lt) (Ks.length + Ks.length)
  ko : Ko W v Ks
  bl : Blk W q (lb.map Value.bool) 4
  be : Below w.heap.size w W
theorem OnS.on {w : World} {p r q : Nat} {v : Value} {Ks : List (List UInt8)} {lt lb : List Bool} {W W' : World} (h : OnS w p r q v Ks lt lb W) (hb : Below W.heap.size W W') : OnS w p r q v Ks lt lb W' := ⟨h.tb.on hb, h.ko.on hb, h.bl.on hb, bt h.be hb⟩
def oE0 (p : Nat) (tv : Value) (d : Value) : List (Nat × Value) := [(0, d), (1, tv), (5, .pointer (some ⟨p, 0, none⟩))]
def OR0 (w w1 : World) (d : Value) (W : World) : Prop := W = w1 ∧ ∃ Ks, Kl w1 d Ks ∧ Ks.length ≤ 30
def oE1 (p q m : Nat) (v tv : Value) (x : Nat) : List (Nat × Value) := [(0, v), (1, tv), (5, .pointer (some ⟨p, 0, none⟩)), (7, .slice (some ⟨q, 0, none⟩) m m), (8, .int .i64 (x : Int))]
def OR1 (w : World) (p r q : Nat) (v : Value) (Ks : List (List UInt8)) (x : Nat) (W : World) : Prop := x ≤ Ks.length ∧ OnS w p r q v Ks (List.replicate Ks.length true) (List.replicate x true ++ List.replicate (Ks.length - x) false) W
def oE2 (p q m : Nat) (v tv : Value) (x : Nat × List Bool) : List (Nat × Value) := [(0, v), (1, tv), (5, .pointer (some ⟨p, 0, none⟩)), (7, .slice (some ⟨q, 0, none⟩) m m), (9, .int .i64 (x.1 : Int))]
def OR2 (w : World) (p r q : Nat) (v : Value) (Ks : List (List UInt8)) (x : Nat × List Bool) (W : World) : Prop := x.1 ≤ 60 ∧ x.2.length = Ks.length ∧ OnS w p r q v Ks x.2 x.2 W
def oE3 (p q m : Nat) (v : Value) (x : List Bool) : List (Nat × Value) := [(0, v), (5, .pointer (some ⟨p, 0, none⟩)), (7, .slice (some ⟨q, 0, none⟩) m m)]
def OR3 (w : World) (p r q : Nat) (v : Value) (Ks : List (List UInt8)) (x : List Bool) (W : World) : Prop := x.length = Ks.length ∧ OnS w p r q v Ks x x W
def oE4 (p q m : Nat) (v u : Value) (x : Nat) : List (Nat × Value) := [(0, v), (5, .pointer (some ⟨p, 0, none⟩)), (7, .slice (some ⟨q, 0, none⟩) m m), (15, u), (16, .int .i64 (x : Int))]
def OR4 (w : World) (p r q : Nat) (v u : Value) (Ks : List (List UInt8)) (l : List Bool) (x : Nat) (W : World) : Prop := x ≤ Ks.length ∧ OnS w p r q v Ks l l W ∧ So W u (LL Ks l)
def oE5 (p q m : Nat) (v u : Value) (l : List Bool) (x : Nat) : List (Nat × Value) := [(0, v), (5, .pointer (some ⟨p, 0, none⟩)), (7, .slice (some ⟨q, 0, none⟩) m m), (15, u), (17, .int .i64 ((m + cntL l x : Nat) : Int)), (18, .int .i64 (x : Int))]
theorem adn_0 {m : Nat} (h : m ≤ 64) : adN [] 64 3 7 m = 0 := by
  unfold adN
  rw [if_neg (by omega), taken_f (fun i _ => rfl), if_neg (by decide), if_neg (by simp; omega)]
theorem adn_1 {Ks : List (List UInt8)} (h : Ks.length ≤ 31) : adN (adE 3 7 0 Ks) 64 2 9 Ks.length = 0 := by
  unfold adN
  rw [if_neg (by omega), taken_f (fun i _ => lk_of_none fun m hm hh => by
    rw [adE_range] at hm
    obtain ⟨i, _, rfl⟩ := List.mem_map.1 hm
    exact absurd hh.1 (show ¬ (2 : Nat) = 3 by decide)), if_neg (by decide), if_neg (by rw [adE_len]; omega)]
theorem adn_2 {E : List Me} {K : List UInt8} (h : lkE E 3 7 = some K) : adN E 64 3 7 1 = 151 := by
  unfold adN
  rw [if_neg (by decide), if_pos (taken_t (i := 0) (by decide) (by rw [h]; simp))]
theorem adn_3 (E : List Me) : adN E 64 5 4294967295 2 = 130 := by
  unfold adN
  rw [if_pos (by decide)]
theorem neq39_same {g : Sk} (h : g.ok) (W : World) (x y : Operand) : (do eqGuard .neq 39 x y g.v g.v; binOp .neq 39 g.v g.v : Sem Value).run Try.prog W = .ok (.bool false) W := by
  have := neq39 g g h h W x y
  simpa using this
theorem neq29_same {K : List UInt8} (h : K.length = 32) (W : World) (x y : Operand) : (do eqGuard .neq 29 x y (kv K) (kv K); binOp .neq 29 (kv K) (kv K) : Sem Value).run Try.prog W = .ok (.bool false) W := by
  have := neq29 K K h h W x y
  simpa using this
theorem rep_set (n x : Nat) (h : x < n) : (List.replicate x true ++ List.replicate (n - x) false).set x true = List.replicate (x + 1) true ++ List.replicate (n - (x + 1)) false := by
  rw [List.set_append_right _ _ (by simp), List.length_replicate, Nat.sub_self, show n - x = (n - (x + 1)) + 1 by omega, List.replicate_succ, List.set_cons_zero, List.replicate_succ', List.append_assoc]
  rfl
theorem cnt_all : ∀ (n i : Nat), i ≤ n → cntL (List.replicate n true) i = i
  | n, 0, _ => rfl
  | n, i + 1, h => by
    rw [cnt_succ, cnt_all n i (by omega), if_pos (by simp [List.getElem?_replicate, show i < n by omega])]
theorem getD_at {l : List Bool} {i : Nat} (h : i < l.length) : l[i]? = some (l.getD i false) := by
  rw [List.getD_eq_getElem?_getD, List.getElem?_eq_getElem h]; rfl
set_option maxRecDepth 100000 in
set_option maxHeartbeats 20000000 in
theorem once_any (w : World) (v tv : Value) (Ks0 : List (List UInt8)) (mt : Nat) (hk : Kl w v Ks0) (hin : In w tv mt) : Calls Try.prog 3 #[v, tv] w fun e w' => e = .returned (.bool true) ∧ Below w.heap.size w w' := by
  refine calls_of_args [v, tv] Try.func3 rfl 227 Try.ntmps3 (by show 2 ≤ 227; decide) ?_
  refine EW.seq ?_
  refine EW.region ?_
  first | refine WL.assign rfl rfl rfl ?_
  refine WL.done ?_
  refine EW.on ?_
  refine EW.seq ?_
  refine EW.region ?_
  refine WL.call [.int .i64 64] enter6 rfl rfl rfl (new_ok 64 (by decide) _) ?_
  rintro x1 w1 ⟨p, r, rfl, tb1, hp, hr, l1⟩
  refine ⟨_, rfl, ?_⟩
  first | refine WL.move rfl rfl rfl ?_
  first | refine WL.extract rfl rfl rfl (ext_2 _ _ _).1 ?_
  first | refine WL.extract rfl rfl rfl (ext_2 _ _ _).2 ?_
  first | refine WL.assign rfl rfl rfl ?_
  first | refine WL.assign rfl rfl rfl ?_
  refine WL.done ?_
  refine EW.on ?_
  refine EW.seq ?_
  refine EW.seq ?_
  refine EW.region ?_
  first | refine WL.move rfl rfl rfl ?_
  first | refine WL.bin rfl rfl rfl rfl (int_ne_f rfl _ _ _) ?_ | refine WL.bin rfl rfl rfl rfl (int_ne_t ‹_› _ _ _) ?_ | refine WL.bin rfl rfl rfl rfl (int_ne_f ‹_› _ _ _) ?_ | refine WL.bin rfl rfl rfl rfl (int_ne_t (by decide) _ _ _) ?_ | refine WL.bin rfl rfl rfl rfl (int_ne_d _ _ _ _ _) ?_
  first | refine WL.move rfl rfl rfl ?_
  first | refine WL.move rfl rfl rfl ?_ | refine WL.skip _ rfl rfl rfl ?_
  refine WL.bin rfl rfl rfl rfl (neP p _ _ _) ?_
  first | refine WL.pick rfl rfl rfl rfl ?_
  refine WL.done ?_
  refine EW.on ?_
  refine EW.cond_f rfl ?_
  refine EW.skip ?_
  refine EW.on ?_
  refine EW.join (oE0 p tv) (OR0 w w1) ?_ ?_
  · refine EW.seq ?_
    have tb1 : Tb w1 p r 64 [] 0 := tb1
    refine EW.region ?_
    first | refine WL.move rfl rfl rfl ?_
    refine WL.len rfl rfl rfl (hk.len _ _) ?_
    refine WL.bin rfl rfl rfl rfl (int_gt_d _ _ _ _ _) ?_
    refine WL.done ?_
    refine EW.on ?_
    refine EW.cond_d rfl (fun h31 => ?_) (fun h31 => ?_)
    · obtain ⟨v5, hcut, hk5, _⟩ := (hk.on l1).cut 30 (by omega) (by decide)
      refine EW.region ?_
      first | refine WL.move rfl rfl rfl ?_
      refine WL.sliceH rfl rfl rfl rfl (hcut _) ?_
      first | refine WL.assign rfl rfl rfl ?_
      refine WL.done ?_
      exact EW.met v5 [0, 1, 5] rfl ⟨rfl, _, hk5, by rw [List.length_take]; omega⟩
    · refine EW.skip ?_
      exact EW.met v [0, 1, 5] rfl ⟨rfl, Ks0, hk.on l1, by omega⟩
  · rintro d W1 ⟨hW1, Ks', hk', hle⟩
    rw [hW1]
    show EW _ _ _ _ [(0, d), (1, tv), (5, .pointer (some ⟨p, 0, none⟩))] _
    refine EW.seq ?_
    obtain ⟨vb, wb, rb, kob, lb, cb, hvb⟩ := bslK1 (1 :: List.replicate 31 0) rfl w1
    obtain ⟨va, wa, ra, koa, fa, na⟩ := kob.app (hk'.on lb) (by simp only [List.length_cons, List.length_nil]; omega) 22
    have hvbo : ∀ b, vb.ownBlock = some b → b = w1.heap.size := fun b hb => by
      rw [hvb] at hb
      simp only [Value.ownBlock, Option.some.injEq] at hb
      omega
    have hva : ∀ b, va.ownBlock = some b → w1.heap.size ≤ b := fun b hb => by
      rcases na b hb with e | e
      · have := hvbo b e; omega
      · have := lb.size; omega
    have hpl := tb1.bl.lt
    have hrl := tb1.mp.ltb
    have tb2 : Tb wa p r 64 [] 0 := (tb1.on lb).fx fa (fun e => by have := hvbo _ e; omega) (fun e => by have := hvbo _ e; omega)
    obtain ⟨Ks, hKs⟩ : ∃ Ks, Ks = [(1 :: List.replicate 31 0 : List UInt8)] ++ Ks' := ⟨_, rfl⟩
    rw [← hKs] at koa
    have hn1 : 0 < Ks.length ∧ Ks.length ≤ 31 := by rw [hKs]; simp; omega
    have be2 : Below w.heap.size w wa := (bt l1 lb).trans (fa.below (fun k hk e => by have := hvbo _ e; have := l1.size; omega) (bt l1 lb).size)
    have hcn : cntL (List.replicate Ks.length true) Ks.length = Ks.length := cnt_all _ _ (Nat.le_refl _)
    refine EW.region ?_
    refine WL.buildN [(0, .int .u8 1)] rfl rfl rfl (b29_1 _) ?_
    refine WL.bslN [(0, kv (1 :: List.replicate 31 0))] rfl rfl rfl rb ?_
    first | refine WL.move rfl rfl rfl ?_
    refine WL.app rfl rfl rfl rfl ra ?_
    first | refine WL.assign rfl rfl rfl ?_
    refine WL.done ?_
    refine EW.on ?_
    refine EW.seq ?_
    refine EW.seq ?_
    refine EW.region ?_
    first | refine WL.move rfl rfl rfl ?_
    first | refine WL.move rfl rfl rfl ?_
    refine WL.call [.pointer (some ⟨p, 0, none⟩), u32v 3, u32v 7, va] enter7 rfl rfl rfl (add_any tb2 (Nat.zero_le _) (by decide) 3 7 (by decide) (by decide) koa.kl (by omega) (fun b hb => .inl (by have := hva b hb; omega))) ?_
    rintro x3 w3 ⟨rfl, _, h30, f3⟩
    refine ⟨_, rfl, ?_⟩
    have tb3 := h30 (adn_0 (by omega))
    rw [adn_0 (by omega)]
    have ko3 := koa.fx f3 (fun b hb e => by have := hva b hb; omega)
    rw [List.nil_append, Nat.zero_add] at tb3
    first | refine WL.bin rfl rfl rfl rfl (int_ne_f rfl _ _ _) ?_ | refine WL.bin rfl rfl rfl rfl (int_ne_t ‹_› _ _ _) ?_ | refine WL.bin rfl rfl rfl rfl (int_ne_f ‹_› _ _ _) ?_ | refine WL.bin rfl rfl rfl rfl (int_ne_t (by decide) _ _ _) ?_ | refine WL.bin rfl rfl rfl rfl (int_ne_d _ _ _ _ _) ?_
    first | refine WL.move rfl rfl rfl ?_
    first | refine WL.move rfl rfl rfl ?_ | refine WL.skip _ rfl rfl rfl ?_
    first | refine WL.move rfl rfl rfl ?_ | refine WL.skip _ rfl rfl rfl ?_
    refine WL.call [.pointer (some ⟨p, 0, none⟩), u32v 2, u32v 9, va] enter7 rfl rfl rfl (add_any tb3 (by rw [adE_len]; omega) (by decide) 2 9 (by decide) (by decide) ko3.kl (by omega) (fun b hb => .inl (by have := hva b hb; omega))) ?_
    rintro x4 w4 ⟨rfl, _, h40, f4⟩
    refine ⟨_, rfl, ?_⟩
    have tb4 := h40 (adn_1 (by omega))
    rw [adn_1 (by omega)]
    rw [EL_init] at tb4
    have ko4 := ko3.fx f4 (fun b hb e => by have := hva b hb; omega)
    first | refine WL.bin rfl rfl rfl rfl (int_ne_f rfl _ _ _) ?_ | refine WL.bin rfl rfl rfl rfl (int_ne_t ‹_› _ _ _) ?_ | refine WL.bin rfl rfl rfl rfl (int_ne_f ‹_› _ _ _) ?_ | refine WL.bin rfl rfl rfl rfl (int_ne_t (by decide) _ _ _) ?_ | refine WL.bin rfl rfl rfl rfl (int_ne_d _ _ _ _ _) ?_ | refine WL.skip _ rfl rfl rfl ?_
    first | refine WL.pick rfl rfl rfl rfl ?_
    first | refine WL.move rfl rfl rfl ?_
    first | refine WL.move rfl rfl rfl ?_ | refine WL.skip _ rfl rfl rfl ?_
    refine WL.call [.pointer (some ⟨p, 0, none⟩)] enter8 rfl rfl rfl (len_any tb4) ?_
    rintro x5 w5 ⟨rfl, hw5⟩
    refine ⟨_, rfl, ?_⟩
    rw [hw5, EL_len, LL_len, hcn]
    first | refine WL.move rfl rfl rfl ?_ | refine WL.skip _ rfl rfl rfl ?_
    refine WL.len rfl rfl rfl (koa.kl.len _ _) ?_
    refine WL.bin rfl rfl rfl rfl (int_mul (c := ((Ks.length + Ks.length : Nat) : Int)) (by rw [IntKind.wrap_i64]; omega) _ _ _) ?_
    first | refine WL.bin rfl rfl rfl rfl (int_ne_f rfl _ _ _) ?_ | refine WL.bin rfl rfl rfl rfl (int_ne_t ‹_› _ _ _) ?_ | refine WL.bin rfl rfl rfl rfl (int_ne_f ‹_› _ _ _) ?_ | refine WL.bin rfl rfl rfl rfl (int_ne_t (by decide) _ _ _) ?_ | refine WL.bin rfl rfl rfl rfl (int_ne_d _ _ _ _ _) ?_ | refine WL.skip _ rfl rfl rfl ?_
    first | refine WL.pick rfl rfl rfl rfl ?_
    refine WL.done ?_
    refine EW.on ?_
    refine EW.cond_f rfl ?_
    refine EW.skip ?_
    refine EW.on ?_
    refine EW.seq ?_
    refine EW.seq ?_
    have be4 := bfx (bfx be2 f3 hr) f4 hr
    obtain ⟨vc, wc, rc, koc, lc, cc, hvc⟩ := bslK1 z32 rfl w4
    refine EW.region ?_
    first | refine WL.move rfl rfl rfl ?_
    refine WL.buildN [] rfl rfl rfl (b29 _) ?_
    refine WL.bslN [(0, kv z32)] rfl rfl rfl rc ?_
    refine WL.call [.pointer (some ⟨p, 0, none⟩), u32v 3, u32v 7, vc] enter7 rfl rfl rfl (add_any (tb4.on lc) (by rw [EL_len, LL_len, hcn]; omega) (by decide) 3 7 (by decide) (by decide) koc.kl (by decide) (fun b hb => .inl (by rw [hvc] at hb; simp only [Value.ownBlock, Option.some.injEq] at hb; have := tb4.mp.ltb; omega))) ?_
    rintro x6 w6 ⟨rfl, h60, _, f6⟩
    refine ⟨_, rfl, ?_⟩
    have hlk0 : lkE (EL Ks (List.replicate Ks.length true)) 3 7 = some (Ks.getD 0 []) := by
      have := EL_lk tb4.mp.nd (k := 0) (by omega)
      rw [if_pos (by simp [show 0 < Ks.length by omega])] at this
      exact this
    have tb6 := h60 (by rw [show ([z32] : List (List UInt8)).length = 1 from rfl, adn_2 hlk0]; decide)
    rw [show ([z32] : List (List UInt8)).length = 1 from rfl, adn_2 hlk0]
    have ko6 := (ko4.on lc).fx f6 (fun b hb e => by have := hva b hb; omega)
    have be6 := bfx (bt be4 lc) f6 hr
    obtain ⟨vd, wd, rd, kod, ld, cd, hvd⟩ := bslK2 z32 z32 rfl rfl w6
    first | refine WL.bin rfl rfl rfl rfl (int_ne_f rfl _ _ _) ?_ | refine WL.bin rfl rfl rfl rfl (int_ne_t ‹_› _ _ _) ?_ | refine WL.bin rfl rfl rfl rfl (int_ne_f ‹_› _ _ _) ?_ | refine WL.bin rfl rfl rfl rfl (int_ne_t (by decide) _ _ _) ?_ | refine WL.bin rfl rfl rfl rfl (int_ne_d _ _ _ _ _) ?_
    first | refine WL.move rfl rfl rfl ?_
    first | refine WL.move rfl rfl rfl ?_ | refine WL.skip _ rfl rfl rfl ?_
    refine WL.buildN [] rfl rfl rfl (b29 _) ?_
    refine WL.buildN [] rfl rfl rfl (b29 _) ?_
    refine WL.bslN [(0, kv z32), (1, kv z32)] rfl rfl rfl rd ?_
    refine WL.call [.pointer (some ⟨p, 0, none⟩), u32v 5, u32v 4294967295, vd] enter7 rfl rfl rfl (add_any (tb6.on ld) (by rw [EL_len, LL_len, hcn]; omega) (by decide) 5 4294967295 (by decide) (by decide) kod.kl (by decide) (fun b hb => .inl (by rw [hvd] at hb; simp only [Value.ownBlock, Option.some.injEq] at hb; have := tb6.mp.ltb; omega))) ?_
    rintro x7 w7 ⟨rfl, h70, _, f7⟩
    refine ⟨_, rfl, ?_⟩
    rw [show ([z32, z32] : List (List UInt8)).length = 2 from rfl, adn_3]
    have tb7 := h70 (by rw [show ([z32, z32] : List (List UInt8)).length = 2 from rfl, adn_3]; decide)
    have ko7 := (ko6.on ld).fx f7 (fun b hb e => by have := hva b hb; omega)
    have be7 := bfx (bt be6 ld) f7 hr
    obtain ⟨w8, q, r8, b8, l8, hq8⟩ := mk33 w7 Ks.length (by omega)
    have S8 : OnS w p r q va Ks (List.replicate Ks.length true) (List.replicate Ks.length false) w8 := ⟨tb7.on l8, ko7.on l8, b8, bt be7 l8⟩
    have hqp : p ≠ q ∧ r ≠ q := ⟨by have := tb7.bl.lt; omega, by have := tb7.mp.ltb; omega⟩
    have hqv : ∀ b, va.ownBlock = some b → b ≠ q := fun b hb => by have := ko7.ow.lt hb; omega
    have hqw : w.heap.size ≤ q := by have := be7.size; omega
    first | refine WL.bin rfl rfl rfl rfl (int_ne_f rfl _ _ _) ?_ | refine WL.bin rfl rfl rfl rfl (int_ne_t ‹_› _ _ _) ?_ | refine WL.bin rfl rfl rfl rfl (int_ne_f ‹_› _ _ _) ?_ | refine WL.bin rfl rfl rfl rfl (int_ne_t (by decide) _ _ _) ?_ | refine WL.bin rfl rfl rfl rfl (int_ne_d _ _ _ _ _) ?_ | refine WL.skip _ rfl rfl rfl ?_
    first | refine WL.pick rfl rfl rfl rfl ?_
    refine WL.done ?_
    refine EW.on ?_
    refine EW.cond_f rfl ?_
    refine EW.skip ?_
    refine EW.on ?_
    refine EW.seq ?_
    refine EW.region ?_
    first | refine WL.move rfl rfl rfl ?_
    refine WL.len rfl rfl rfl (koa.kl.len _ _) ?_
    refine WL.mks rfl rfl rfl rfl r8 ?_
    first | refine WL.assign rfl rfl rfl ?_
    refine WL.done ?_
    refine EW.on ?_
    refine EW.seq ?_
    refine EW.seq ?_
    refine EW.region ?_
    first | refine WL.assign rfl rfl rfl ?_
    refine WL.done ?_
    refine EW.on ?_
    refine EW.block ?_
    refine EW.loop (oE1 p q Ks.length va tv) (OR1 w p r q va Ks) (fun x => Ks.length - x) 0 [0, 1, 5, 7, 8] rfl ⟨Nat.zero_le _, by simpa using S8⟩ ?_
    rintro x wi ⟨hxl, S⟩
    show EW _ _ _ _ [(0, va), (1, tv), (5, .pointer (some ⟨p, 0, none⟩)), (7, .slice (some ⟨q, 0, none⟩) Ks.length Ks.length), (8, .int .i64 (x : Int))] _
    refine EW.seq ?_
    refine EW.seq ?_
    refine EW.region ?_
    first | refine WL.move rfl rfl rfl ?_
    first | refine WL.move rfl rfl rfl ?_
    refine WL.len rfl rfl rfl (koa.kl.len _ _) ?_
    refine WL.bin rfl rfl rfl rfl (int_lt_d _ _ _ _ _) ?_
    refine WL.done ?_
    refine EW.on ?_
    refine EW.cond_d rfl (fun h75 => ?_) (fun h75 => ?_)
    · refine EW.skip ?_
      refine EW.on ?_
      refine EW.seq ?_
      refine EW.block ?_
      have hlt : x < Ks.length := by omega
      obtain ⟨ws, rs, bs, fs⟩ := st4 S.bl (j := x) (by simp; omega) true
      refine EW.region ?_
      first | refine WL.move rfl rfl rfl ?_
      first | refine WL.move rfl rfl rfl ?_
      refine WL.index rfl rfl rfl rfl (idx33 q _ _ x hlt _) ?_
      refine WL.store rfl rfl rfl rs ?_
      refine WL.done ?_
      rw [rep_set _ _ hlt] at bs
      have S1 : OnS w p r q va Ks (List.replicate Ks.length true) (List.replicate (x + 1) true ++ List.replicate (Ks.length - (x + 1)) false) ws := ⟨S.tb.fx fs hqp.1 hqp.2, S.ko.fx fs (fun b hb e => hqv b hb e), bs, bfx S.be fs hqw⟩
      refine pn_block ?_
      refine EW.on ?_
      refine EW.region ?_
      first | refine WL.move rfl rfl rfl ?_
      refine WL.bin rfl rfl rfl rfl (int_add (c := ((x + 1 : Nat) : Int)) (by rw [IntKind.wrap_i64]; omega) _ _ _) ?_
      first | refine WL.assign rfl rfl rfl ?_
      refine WL.done ?_
      exact EW.again (E := oE1 p q Ks.length va tv) (R := OR1 w p r q va Ks) (m := fun x => Ks.length - x) (x := x) (x + 1) [0, 1, 5, 7, 8] rfl ⟨by omega, S1⟩ (by show Ks.length - (x + 1) < Ks.length - x; omega)
    · refine EW.exit ?_
      refine px_then ?_
      refine px_then ?_
      refine px_block ?_
      refine EW.on ?_
      refine EW.join (oE3 p q Ks.length va) (OR3 w p r q va Ks) ?_ ?_
      · refine EW.seq ?_
        have S0 : OnS w p r q va Ks (List.replicate Ks.length true) (List.replicate Ks.length true) wi := by
          have := S
          rw [show x = Ks.length by omega] at this
          simpa using this
        refine EW.region ?_
        first | refine WL.assign rfl rfl rfl ?_
        refine WL.done ?_
        refine EW.on ?_
        refine EW.block ?_
        refine EW.loop (oE2 p q Ks.length va tv) (OR2 w p r q va Ks) (fun x => 60 - x.1) (0, List.replicate Ks.length true) [0, 1, 5, 7, 9] rfl ⟨Nat.zero_le _, List.length_replicate, S0⟩ ?_
        rintro x wi ⟨hx60, hxl2, S⟩
        show EW _ _ _ _ [(0, va), (1, tv), (5, .pointer (some ⟨p, 0, none⟩)), (7, .slice (some ⟨q, 0, none⟩) Ks.length Ks.length), (9, .int .i64 (x.1 : Int))] _
        refine EW.seq ?_
        refine EW.seq ?_
        rcases Nat.lt_or_ge x.1 mt with hlt | hge
        · refine EW.region ?_
          first | refine WL.move rfl rfl rfl ?_
          first | refine WL.move rfl rfl rfl ?_
          refine WL.len rfl rfl rfl (hin.len _ _) ?_
          refine WL.bin rfl rfl rfl rfl (int_lt_t (by omega) _ _ _) ?_
          first | refine WL.move rfl rfl rfl ?_
          first | refine WL.move rfl rfl rfl ?_ | refine WL.skip _ rfl rfl rfl ?_
          refine WL.bin rfl rfl rfl rfl (int_lt_d _ _ _ _ _) ?_
          first | refine WL.pick rfl rfl rfl rfl ?_
          refine WL.done ?_
          refine EW.on ?_
          refine EW.cond_d rfl (fun h88 => ?_) (fun h88 => ?_)
          · refine EW.skip ?_
            refine EW.on ?_
            refine EW.seq ?_
            refine EW.block ?_
            refine EW.seq ?_
            obtain ⟨z, adz, hz, ixz, ldz⟩ := hin.at_ x.1 hlt
            obtain ⟨M, xx, yy, zz, ex, ey, ez, hM, eM⟩ := red z hz Ks.length hn1.1
            refine EW.ordB [(0, 0, 0), (1, 0, 0), (2, 0, 0), (3, 0, 1), (4, 0, 0), (5, 0, 0), (6, 0, 0), (7, 0, 1), (8, 0, 0), (9, 0, 0), (10, 0, 0), (11, 0, 0), (12, 0, 0), (13, 0, 0), (14, 0, 0)] (by kernel_rfl) rfl (by kernel_rfl) ?_
            simp only [opsZ, List.getD_cons_zero, List.getD_cons_succ]
            first | refine ZE.move rfl rfl rfl rfl sz0 ?_
            first | refine ZE.move rfl rfl rfl rfl sz0 ?_
            refine ZE.index rfl rfl rfl rfl rfl sz0 (fun W => ixz W) ?_
            refine ZE.load rfl rfl rfl rfl sz1 (fun W hW => ldz W (bt S.be (sb_of hW))) ?_
            first | refine ZE.move rfl rfl rfl rfl sz0 ?_
            first | refine ZE.move rfl rfl rfl rfl sz0 ?_
            refine ZE.index rfl rfl rfl rfl rfl sz0 (fun W => ixz W) ?_
            refine ZE.load rfl rfl rfl rfl sz1 (fun W hW => ldz W (bt S.be (sb_of hW))) ?_
            refine ZE.bin rfl rfl rfl rfl rfl sz0 (fun W => int_add ex W _ _) ?_
            refine ZE.un rfl rfl rfl rfl sz0 (fun W => neg_i _ ey W) ?_
            refine ZE.max rfl rfl rfl rfl rfl sz0 (fun W => by rw [max_i, ez]) ?_
            first | refine ZE.move rfl rfl rfl rfl sz0 ?_
            refine ZE.len rfl rfl rfl rfl sz0 (fun W => koa.kl.len W _) ?_
            refine ZE.bin rfl rfl rfl rfl rfl sz0 (fun W => rem_i _ _ (by omega) eM W _ _) ?_
            first | refine ZE.assign rfl rfl rfl rfl sz0 ?_
            rintro W hW
            have S1 := S.on hW
            refine EW.on ?_
            refine EW.seq ?_
            have hlkM := EL_lk S1.tb.mp.nd hM
            rcases hlb0 : x.2.getD M false with _ | _
            · have hlk : lkE (EL Ks x.2) 3 (7 + M) = none := by rw [hlkM, hlb0]; rfl
              have hlb : x.2[M]? = some false := by rw [← hlb0]; exact getD_at (by omega)
              refine EW.region ?_
              first | refine WL.move rfl rfl rfl ?_
              first | refine WL.move rfl rfl rfl ?_
              refine WL.conv rfl rfl rfl (cvU _ (by omega) _) ?_
              refine WL.bin rfl rfl rfl rfl (addU 7 M (by omega) _ _ _) ?_
              refine WL.call [.pointer (some ⟨p, 0, none⟩), u32v 3, u32v (7 + M)] enter9 rfl rfl rfl (find_any S1.tb 3 (7 + M)) ?_
              rintro xf wf ⟨rfl, lf⟩
              refine ⟨_, rfl, ?_⟩
              rw [hlk]
              have S2 := S1.on lf
              obtain ⟨q11, wg, wh, a11, s11, b11, l11, hq11⟩ := newK wf z32 z32l
              have S3 := S2.on l11
              first | refine WL.move rfl rfl rfl ?_
              first | refine WL.extract rfl rfl rfl (ext_2 _ _ _).1 ?_
              first | refine WL.extract rfl rfl rfl (ext_2 _ _ _).2 ?_
              refine WL.new rfl rfl a11 ?_
              refine WL.store rfl rfl rfl s11 ?_
              first | refine WL.assign rfl rfl rfl ?_
              refine WL.done ?_
              refine EW.on ?_
              refine EW.seq ?_
              refine EW.region ?_
              first | refine WL.move rfl rfl rfl ?_
              first | refine WL.move rfl rfl rfl ?_
              refine WL.conv rfl rfl rfl (cvU _ (by omega) _) ?_
              refine WL.bin rfl rfl rfl rfl (addU 7 M (by omega) _ _ _) ?_
              refine WL.call [.pointer (some ⟨p, 0, none⟩), u32v 3, u32v (7 + M)] enter10 rfl rfl rfl (ttake_any S3.tb 3 (7 + M)) ?_
              rintro xt wt ⟨rfl, tbt, ft⟩
              refine ⟨_, rfl, ?_⟩
              rw [hlk]
              have kot := S3.ko.fx ft (fun b hb e => by have := hva b hb; omega)
              have blt := S3.bl.fx ft (fun e => hqp.2 e.symm)
              have bet := bfx S3.be ft hr
              have b11t := b11.fx ft (by have := S2.tb.mp.ltb; omega)
              obtain ⟨q13, wu, wv, a13, s13, b13, l13, hq13⟩ := newK wt z32 z32l
              have b11v := b11t.on l13
              first | refine WL.move rfl rfl rfl ?_
              first | refine WL.extract rfl rfl rfl (ext_2 _ _ _).1 ?_
              first | refine WL.extract rfl rfl rfl (ext_2 _ _ _).2 ?_
              refine WL.new rfl rfl a13 ?_
              refine WL.store rfl rfl rfl s13 ?_
              first | refine WL.assign rfl rfl rfl ?_
              refine WL.done ?_
              have S4 : OnS w p r q va Ks x.2 x.2 wv := OnS.on ⟨by have := tbt; rwa [delE_none hlk] at this, kot, blt, bet⟩ l13
              refine EW.on ?_
              refine EW.seq ?_
              refine EW.seq ?_
              refine EW.region ?_
              first | refine WL.move rfl rfl rfl ?_
              first | refine WL.move rfl rfl rfl ?_
              refine WL.index rfl rfl rfl rfl (idx33 q _ _ M hM _) ?_
              refine WL.load rfl rfl rfl (ld4 (blt.on l13) hlb) ?_
              refine WL.un rfl rfl rfl (not_b _ _) ?_
              refine WL.done ?_
              refine EW.on ?_
              refine EW.cond_t rfl ?_
              refine EW.seq ?_
              refine EW.seq ?_
              refine EW.region ?_
              first | refine WL.move rfl rfl rfl ?_
              first | refine WL.bin rfl rfl rfl rfl (int_ne_f rfl _ _ _) ?_ | refine WL.bin rfl rfl rfl rfl (int_ne_t ‹_› _ _ _) ?_ | refine WL.bin rfl rfl rfl rfl (int_ne_f ‹_› _ _ _) ?_ | refine WL.bin rfl rfl rfl rfl (int_ne_t (by decide) _ _ _) ?_ | refine WL.bin rfl rfl rfl rfl (int_ne_d _ _ _ _ _) ?_
              first | refine WL.move rfl rfl rfl ?_
              first | refine WL.move rfl rfl rfl ?_ | refine WL.skip _ rfl rfl rfl ?_
              first | refine WL.bin rfl rfl rfl rfl (int_ne_f rfl _ _ _) ?_ | refine WL.bin rfl rfl rfl rfl (int_ne_t ‹_› _ _ _) ?_ | refine WL.bin rfl rfl rfl rfl (int_ne_f ‹_› _ _ _) ?_ | refine WL.bin rfl rfl rfl rfl (int_ne_t (by decide) _ _ _) ?_ | refine WL.bin rfl rfl rfl rfl (int_ne_d _ _ _ _ _) ?_ | refine WL.skip _ rfl rfl rfl ?_
              first | refine WL.pick rfl rfl rfl rfl ?_
              refine WL.done ?_
              refine EW.on ?_
              refine EW.cond_f rfl ?_
              refine EW.skip ?_
              refine EW.on ?_
              refine EW.exit ?_
              refine px_then ?_
              refine px_block ?_
              refine EW.on ?_
              refine EW.region ?_
              first | refine WL.move rfl rfl rfl ?_
              refine WL.bin rfl rfl rfl rfl (int_add (c := ((x.1 + 1 : Nat) : Int)) (by rw [IntKind.wrap_i64]; omega) _ _ _) ?_
              first | refine WL.assign rfl rfl rfl ?_
              refine WL.done ?_
              exact EW.again (E := oE2 p q Ks.length va tv) (R := OR2 w p r q va Ks) (m := fun x => 60 - x.1) (x := x) (x.1 + 1, x.2) [0, 1, 5, 7, 9] rfl ⟨by show x.1 + 1 ≤ 60; omega, hxl2, S4⟩ (by show 60 - (x.1 + 1) < 60 - x.1; omega)
            · have hlk : lkE (EL Ks x.2) 3 (7 + M) = some (Ks.getD M []) := by rw [hlkM, hlb0]; rfl
              have hlb : x.2[M]? = some true := by rw [← hlb0]; exact getD_at (by omega)
              have hMl := koa.kl.at32 (koa.kl.sub hM)
              refine EW.region ?_
              first | refine WL.move rfl rfl rfl ?_
              first | refine WL.move rfl rfl rfl ?_
              refine WL.conv rfl rfl rfl (cvU _ (by omega) _) ?_
              refine WL.bin rfl rfl rfl rfl (addU 7 M (by omega) _ _ _) ?_
              refine WL.call [.pointer (some ⟨p, 0, none⟩), u32v 3, u32v (7 + M)] enter9 rfl rfl rfl (find_any S1.tb 3 (7 + M)) ?_
              rintro xf wf ⟨rfl, lf⟩
              refine ⟨_, rfl, ?_⟩
              rw [hlk]
              have S2 := S1.on lf
              obtain ⟨q11, wg, wh, a11, s11, b11, l11, hq11⟩ := newK wf (Ks.getD M []) hMl
              have S3 := S2.on l11
              first | refine WL.move rfl rfl rfl ?_
              first | refine WL.extract rfl rfl rfl (ext_2 _ _ _).1 ?_
              first | refine WL.extract rfl rfl rfl (ext_2 _ _ _).2 ?_
              refine WL.new rfl rfl a11 ?_
              refine WL.store rfl rfl rfl s11 ?_
              first | refine WL.assign rfl rfl rfl ?_
              refine WL.done ?_
              refine EW.on ?_
              refine EW.seq ?_
              refine EW.region ?_
              first | refine WL.move rfl rfl rfl ?_
              first | refine WL.move rfl rfl rfl ?_
              refine WL.conv rfl rfl rfl (cvU _ (by omega) _) ?_
              refine WL.bin rfl rfl rfl rfl (addU 7 M (by omega) _ _ _) ?_
              refine WL.call [.pointer (some ⟨p, 0, none⟩), u32v 3, u32v (7 + M)] enter10 rfl rfl rfl (ttake_any S3.tb 3 (7 + M)) ?_
              rintro xt wt ⟨rfl, tbt, ft⟩
              refine ⟨_, rfl, ?_⟩
              rw [hlk]
              have kot := S3.ko.fx ft (fun b hb e => by have := hva b hb; omega)
              have blt := S3.bl.fx ft (fun e => hqp.2 e.symm)
              have bet := bfx S3.be ft hr
              have b11t := b11.fx ft (by have := S2.tb.mp.ltb; omega)
              obtain ⟨q13, wu, wv, a13, s13, b13, l13, hq13⟩ := newK wt (Ks.getD M []) hMl
              have b11v := b11t.on l13
              first | refine WL.move rfl rfl rfl ?_
              first | refine WL.extract rfl rfl rfl (ext_2 _ _ _).1 ?_
              first | refine WL.extract rfl rfl rfl (ext_2 _ _ _).2 ?_
              refine WL.new rfl rfl a13 ?_
              refine WL.store rfl rfl rfl s13 ?_
              first | refine WL.assign rfl rfl rfl ?_
              refine WL.done ?_
              have S4 : OnS w p r q va Ks (x.2.set M false) x.2 wv := OnS.on ⟨by have := tbt; rwa [EL_del Ks x.2 M hxl2 hM] at this, kot, blt, bet⟩ l13
              refine EW.on ?_
              refine EW.seq ?_
              refine EW.seq ?_
              refine EW.region ?_
              first | refine WL.move rfl rfl rfl ?_
              first | refine WL.move rfl rfl rfl ?_
              refine WL.index rfl rfl rfl rfl (idx33 q _ _ M hM _) ?_
              refine WL.load rfl rfl rfl (ld4 (blt.on l13) hlb) ?_
              refine WL.un rfl rfl rfl (not_b _ _) ?_
              refine WL.done ?_
              refine EW.on ?_
              refine EW.cond_f rfl ?_
              refine EW.skip ?_
              refine EW.on ?_
              refine EW.seq ?_
              obtain ⟨ws, rs, bs, fs⟩ := st4 S4.bl (j := M) (by omega) false
              refine EW.region ?_
              first | refine WL.move rfl rfl rfl ?_
              first | refine WL.move rfl rfl rfl ?_
              refine WL.index rfl rfl rfl rfl (idx33 q _ _ M hM _) ?_
              refine WL.store rfl rfl rfl rs ?_
              refine WL.done ?_
              have S5 : OnS w p r q va Ks (x.2.set M false) (x.2.set M false) ws := ⟨S4.tb.fx fs hqp.1 hqp.2, S4.ko.fx fs (fun b hb e => hqv b hb e), bs, bfx S4.be fs hqw⟩
              have b11s := b11v.fx fs (by have := S2.bl.lt; omega)
              have b13s := b13.fx fs (by have := blt.lt; omega)
              have kos := S5.ko
              obtain ⟨adk, ixk, ldk⟩ := koa.kl.get (koa.kl.sub hM)
              refine EW.on ?_
              refine EW.seq ?_
              refine EW.ordB [(0, 0, 0), (1, 0, 0), (2, 0, 0), (3, 0, 0), (4, 0, 0), (5, 0, 0), (6, 0, 0), (7, 0, 1), (8, 0, 0), (9, 0, 0), (10, 0, 0), (11, 0, 1), (12, 0, 0), (13, 0, 0), (14, 0, 0), (15, 0, 1), (16, 0, 0), (17, 0, 0), (18, 0, 0), (19, 0, 1), (20, 0, 0), (21, 0, 0)] (by kernel_rfl) rfl (by kernel_rfl) ?_
              simp only [opsZ, List.getD_cons_zero, List.getD_cons_succ]
              first | refine ZE.move rfl rfl rfl rfl sz0 ?_
              first | refine ZE.bin rfl rfl rfl rfl rfl sz0 (fun W => int_ne_f rfl W _ _) ?_ | refine ZE.bin rfl rfl rfl rfl rfl sz0 (fun W => int_ne_t ‹_› W _ _) ?_ | refine ZE.bin rfl rfl rfl rfl rfl sz0 (fun W => int_ne_f ‹_› W _ _) ?_ | refine ZE.bin rfl rfl rfl rfl rfl sz0 (fun W => int_ne_t (by decide) W _ _) ?_ | refine ZE.bin rfl rfl rfl rfl rfl sz0 (fun W => int_ne_d _ _ W _ _) ?_
              first | refine ZE.move rfl rfl rfl rfl sz0 ?_
              first | refine ZE.move rfl rfl rfl rfl sz0 ?_ | refine ZE.skip rfl rfl rfl sz0 ?_
              first | refine ZE.bin rfl rfl rfl rfl rfl sz0 (fun W => int_ne_f rfl W _ _) ?_ | refine ZE.bin rfl rfl rfl rfl rfl sz0 (fun W => int_ne_t ‹_› W _ _) ?_ | refine ZE.bin rfl rfl rfl rfl rfl sz0 (fun W => int_ne_f ‹_› W _ _) ?_ | refine ZE.bin rfl rfl rfl rfl rfl sz0 (fun W => int_ne_t (by decide) W _ _) ?_ | refine ZE.bin rfl rfl rfl rfl rfl sz0 (fun W => int_ne_d _ _ W _ _) ?_ | refine ZE.skip rfl rfl rfl sz0 ?_
              first | refine ZE.pick rfl rfl rfl rfl rfl sz0 ?_
              first | refine ZE.move rfl rfl rfl rfl sz0 ?_
              refine ZE.load rfl rfl rfl rfl sz1 (fun W hW => ld29 (b11s.on (sb_of hW)) hMl) ?_
              first | refine ZE.move rfl rfl rfl rfl sz0 ?_ | refine ZE.skip rfl rfl rfl sz0 ?_
              first | refine ZE.move rfl rfl rfl rfl sz0 ?_ | refine ZE.skip rfl rfl rfl sz0 ?_
              refine ZE.index rfl rfl rfl rfl rfl sz0 (fun W => ixk W) ?_
              refine ZE.load rfl rfl rfl rfl sz1 (fun W hW => ldk W (kos.kl.on (sb_of hW))) ?_
              refine ZE.bin rfl rfl rfl rfl rfl sz0 (fun W => neq29_same hMl W _ _) ?_
              first | refine ZE.pick rfl rfl rfl rfl rfl sz0 ?_
              first | refine ZE.move rfl rfl rfl rfl sz0 ?_
              refine ZE.load rfl rfl rfl rfl sz1 (fun W hW => ld29 (b13s.on (sb_of hW)) hMl) ?_
              first | refine ZE.move rfl rfl rfl rfl sz0 ?_ | refine ZE.skip rfl rfl rfl sz0 ?_
              first | refine ZE.move rfl rfl rfl rfl sz0 ?_ | refine ZE.skip rfl rfl rfl sz0 ?_
              refine ZE.index rfl rfl rfl rfl rfl sz0 (fun W => ixk W) ?_
              refine ZE.load rfl rfl rfl rfl sz1 (fun W hW => ldk W (kos.kl.on (sb_of hW))) ?_
              refine ZE.bin rfl rfl rfl rfl rfl sz0 (fun W => neq29_same hMl W _ _) ?_
              first | refine ZE.pick rfl rfl rfl rfl rfl sz0 ?_
              rintro W6 hW6
              refine EW.on ?_
              refine EW.cond_f rfl ?_
              refine EW.skip ?_
              refine pn_block ?_
              refine EW.on ?_
              refine EW.region ?_
              first | refine WL.move rfl rfl rfl ?_
              refine WL.bin rfl rfl rfl rfl (int_add (c := ((x.1 + 1 : Nat) : Int)) (by rw [IntKind.wrap_i64]; omega) _ _ _) ?_
              first | refine WL.assign rfl rfl rfl ?_
              refine WL.done ?_
              exact EW.again (E := oE2 p q Ks.length va tv) (R := OR2 w p r q va Ks) (m := fun x => 60 - x.1) (x := x) (x.1 + 1, x.2.set M false) [0, 1, 5, 7, 9] rfl ⟨by show x.1 + 1 ≤ 60; omega, by show (x.2.set M false).length = _; rw [List.length_set]; exact hxl2, S5.on hW6⟩ (by show 60 - (x.1 + 1) < 60 - x.1; omega)
          · refine EW.exit ?_
            refine px_then ?_
            refine px_then ?_
            refine px_block ?_
            exact EW.met x.2 [0, 5, 7] rfl ⟨hxl2, S⟩
        · refine EW.region ?_
          first | refine WL.move rfl rfl rfl ?_
          first | refine WL.move rfl rfl rfl ?_
          refine WL.len rfl rfl rfl (hin.len _ _) ?_
          refine WL.bin rfl rfl rfl rfl (int_lt_f (by omega) _ _ _) ?_
          first | refine WL.move rfl rfl rfl ?_
          refine WL.skip _ rfl rfl rfl ?_
          refine WL.skip _ rfl rfl rfl ?_
          first | refine WL.pick rfl rfl rfl rfl ?_
          refine WL.done ?_
          refine EW.on ?_
          refine EW.cond_f rfl ?_
          refine EW.exit ?_
          refine px_then ?_
          refine px_then ?_
          refine px_block ?_
          exact EW.met x.2 [0, 5, 7] rfl ⟨hxl2, S⟩
      · rintro lf wi ⟨hxl, S⟩
        show EW _ _ _ _ [(0, va), (5, .pointer (some ⟨p, 0, none⟩)), (7, .slice (some ⟨q, 0, none⟩) Ks.length Ks.length)] _
        refine EW.seq ?_
        refine EW.region ?_
        first | refine WL.move rfl rfl rfl ?_
        refine WL.call [.pointer (some ⟨p, 0, none⟩)] enter11 rfl rfl rfl (list_any S.tb (by rw [EL_len, LL_len]; have := cnt_le lf Ks.length; omega)) ?_
        rintro xl wl ⟨u, l, rfl, hpl, hal, sol, hul, ll⟩
        refine ⟨_, rfl, ?_⟩
        have el := asc_uniq (hpl.trans (EL_perm Ks lf)) hal (LL_lt Ks lf)
        subst el
        have S9 := S.on ll
        have hcl := cnt_le lf Ks.length
        first | refine WL.assign rfl rfl rfl ?_
        refine WL.done ?_
        refine EW.on ?_
        refine EW.seq ?_
        refine EW.seq ?_
        refine EW.region ?_
        first | refine WL.move rfl rfl rfl ?_
        refine WL.len rfl rfl rfl (sol.sl.len _ _) ?_
        first | refine WL.move rfl rfl rfl ?_
        refine WL.len rfl rfl rfl (koa.kl.len _ _) ?_
        refine WL.bin rfl rfl rfl rfl (int_lt_f (by rw [LL_len]; omega) _ _ _) ?_
        refine WL.done ?_
        refine EW.on ?_
        refine EW.cond_f rfl ?_
        refine EW.skip ?_
        refine EW.on ?_
        refine EW.seq ?_
        refine EW.seq ?_
        refine EW.region ?_
        first | refine WL.assign rfl rfl rfl ?_
        refine WL.done ?_
        refine EW.on ?_
        refine EW.block ?_
        refine EW.loop (oE4 p q Ks.length va u) (OR4 w p r q va u Ks lf) (fun x => Ks.length - x) 0 [0, 5, 7, 15, 16] rfl ⟨Nat.zero_le _, S9, sol⟩ ?_
        rintro x wj ⟨hxl4, S, sox⟩
        show EW _ _ _ _ [(0, va), (5, .pointer (some ⟨p, 0, none⟩)), (7, .slice (some ⟨q, 0, none⟩) Ks.length Ks.length), (15, u), (16, .int .i64 (x : Int))] _
        refine EW.seq ?_
        refine EW.seq ?_
        refine EW.region ?_
        first | refine WL.move rfl rfl rfl ?_
        first | refine WL.move rfl rfl rfl ?_
        refine WL.len rfl rfl rfl (koa.kl.len _ _) ?_
        refine WL.bin rfl rfl rfl rfl (int_lt_d _ _ _ _ _) ?_
        refine WL.done ?_
        refine EW.on ?_
        refine EW.cond_d rfl (fun h167 => ?_) (fun h167 => ?_)
        · refine EW.skip ?_
          refine EW.on ?_
          refine EW.seq ?_
          refine EW.block ?_
          refine EW.seq ?_
          have hlt : x < Ks.length := by omega
          obtain ⟨adl, ixl, ldl⟩ := sol.sl.get (LL_fst Ks lf hlt)
          obtain ⟨adk, ixk, ldk⟩ := koa.kl.get (koa.kl.sub hlt)
          have hxk := koa.kl.at32 (koa.kl.sub hlt)
          have hxo : Sk.ok ⟨2, 9 + x, Ks.getD x []⟩ := ⟨by show (2 : Nat) < 4294967296; decide, by show 9 + x < _; omega, hxk⟩
          refine EW.ordB [(0, 0, 0), (1, 0, 0), (2, 0, 0), (3, 0, 1), (4, 0, 0), (5, 0, 1), (6, 0, 0), (7, 0, 0), (8, 0, 0), (9, 0, 0), (10, 0, 1), (11, 0, 0), (12, 0, 0)] (by kernel_rfl) rfl (by kernel_rfl) ?_
          simp only [opsZ, List.getD_cons_zero, List.getD_cons_succ]
          first | refine ZE.move rfl rfl rfl rfl sz0 ?_
          first | refine ZE.move rfl rfl rfl rfl sz0 ?_
          refine ZE.index rfl rfl rfl rfl rfl sz0 (fun W => ixl W) ?_
          refine ZE.load rfl rfl rfl rfl sz1 (fun W hW => (ldl W (sox.sl.on (sb_of hW))).1) ?_
          first | refine ZE.move rfl rfl rfl rfl sz0 ?_
          refine ZE.conv rfl rfl rfl rfl sz1 (fun W hW => cvU _ (by omega) W) ?_
          refine ZE.bin rfl rfl rfl rfl rfl sz0 (fun W => addU 9 x (by omega) W _ _) ?_
          first | refine ZE.move rfl rfl rfl rfl sz0 ?_
          first | refine ZE.move rfl rfl rfl rfl sz0 ?_
          refine ZE.index rfl rfl rfl rfl rfl sz0 (fun W => ixk W) ?_
          refine ZE.load rfl rfl rfl rfl sz1 (fun W hW => ldk W (S.ko.kl.on (sb_of hW))) ?_
          refine ZE.buildN [(0, u32v 2), (1, u32v (9 + x)), (2, kv (Ks.getD x []))] rfl rfl rfl rfl sz0 (fun W => b39 _ _ _ hxk W) ?_
          refine ZE.bin rfl rfl rfl rfl rfl sz0 (fun W => neq39_same hxo W _ _) ?_
          rintro W4 hW4
          refine EW.on ?_
          refine EW.cond_f rfl ?_
          refine EW.skip ?_
          refine pn_block ?_
          refine EW.on ?_
          refine EW.region ?_
          first | refine WL.move rfl rfl rfl ?_
          refine WL.bin rfl rfl rfl rfl (int_add (c := ((x + 1 : Nat) : Int)) (by rw [IntKind.wrap_i64]; omega) _ _ _) ?_
          first | refine WL.assign rfl rfl rfl ?_
          refine WL.done ?_
          exact EW.again (E := oE4 p q Ks.length va u) (R := OR4 w p r q va u Ks lf) (m := fun x => Ks.length - x) (x := x) (x + 1) [0, 5, 7, 15, 16] rfl ⟨by omega, S.on hW4, sox.on hW4⟩ (by show Ks.length - (x + 1) < Ks.length - x; omega)
        · refine EW.exit ?_
          refine px_then ?_
          refine px_then ?_
          refine px_block ?_
          refine EW.on ?_
          refine EW.seq ?_
          refine EW.region ?_
          first | refine WL.move rfl rfl rfl ?_
          refine WL.len rfl rfl rfl (koa.kl.len _ _) ?_
          first | refine WL.assign rfl rfl rfl ?_
          refine WL.done ?_
          refine EW.on ?_
          refine EW.seq ?_
          refine EW.seq ?_
          refine EW.region ?_
          first | refine WL.assign rfl rfl rfl ?_
          refine WL.done ?_
          refine EW.on ?_
          refine EW.block ?_
          refine EW.loop (oE5 p q Ks.length va u lf) (OR4 w p r q va u Ks lf) (fun x => Ks.length - x) 0 [0, 5, 7, 15, 17, 18] rfl ⟨Nat.zero_le _, S, sox⟩ ?_
          clear S sox
          rintro x wj ⟨hxl4, S, sox⟩
          show EW _ _ _ _ [(0, va), (5, .pointer (some ⟨p, 0, none⟩)), (7, .slice (some ⟨q, 0, none⟩) Ks.length Ks.length), (15, u), (17, .int .i64 ((Ks.length + cntL lf x : Nat) : Int)), (18, .int .i64 (x : Int))] _
          refine EW.seq ?_
          refine EW.seq ?_
          refine EW.region ?_
          first | refine WL.move rfl rfl rfl ?_
          first | refine WL.move rfl rfl rfl ?_
          refine WL.len rfl rfl rfl (koa.kl.len _ _) ?_
          refine WL.bin rfl rfl rfl rfl (int_lt_d _ _ _ _ _) ?_
          refine WL.done ?_
          refine EW.on ?_
          refine EW.cond_d rfl (fun h188 => ?_) (fun h188 => ?_)
          · refine EW.skip ?_
            refine EW.on ?_
            refine EW.seq ?_
            refine EW.block ?_
            refine EW.seq ?_
            refine EW.seq ?_
            have hlt : x < Ks.length := by omega
            have hlb := getD_at (l := lf) (i := x) (by omega)
            rcases hlx : lf.getD x false with _ | _
            · rw [hlx] at hlb
              refine EW.region ?_
              first | refine WL.move rfl rfl rfl ?_
              first | refine WL.move rfl rfl rfl ?_
              refine WL.index rfl rfl rfl rfl (idx33 q _ _ x hlt _) ?_
              refine WL.load rfl rfl rfl (ld4 S.bl hlb) ?_
              refine WL.un rfl rfl rfl (not_b _ _) ?_
              refine WL.done ?_
              refine EW.on ?_
              refine EW.cond_t rfl ?_
              refine EW.exit ?_
              refine px_then ?_
              refine px_block ?_
              refine EW.on ?_
              refine EW.region ?_
              first | refine WL.move rfl rfl rfl ?_
              refine WL.bin rfl rfl rfl rfl (int_add (c := ((x + 1 : Nat) : Int)) (by rw [IntKind.wrap_i64]; omega) _ _ _) ?_
              first | refine WL.assign rfl rfl rfl ?_
              refine WL.done ?_
              exact EW.again (E := oE5 p q Ks.length va u lf) (R := OR4 w p r q va u Ks lf) (m := fun x => Ks.length - x) (x := x) (x + 1) [0, 5, 7, 15, 17, 18] (by unfold oE5; rw [cnt_succ, if_neg (by rw [hlx]; decide)]; rfl) ⟨by omega, S, sox⟩ (by show Ks.length - (x + 1) < Ks.length - x; omega)
            · rw [hlx] at hlb
              refine EW.region ?_
              first | refine WL.move rfl rfl rfl ?_
              first | refine WL.move rfl rfl rfl ?_
              refine WL.index rfl rfl rfl rfl (idx33 q _ _ x hlt _) ?_
              refine WL.load rfl rfl rfl (ld4 S.bl hlb) ?_
              refine WL.un rfl rfl rfl (not_b _ _) ?_
              refine WL.done ?_
              refine EW.on ?_
              refine EW.cond_f rfl ?_
              refine EW.skip ?_
              refine EW.on ?_
              refine EW.seq ?_
              refine EW.seq ?_
              have hN := (List.getElem?_eq_some_iff.1 (LL_snd Ks lf hlt hlx)).1
              rw [LL_len] at hN
              obtain ⟨adl, ixl, ldl⟩ := sol.sl.get (LL_snd Ks lf hlt hlx)
              obtain ⟨adk, ixk, ldk⟩ := koa.kl.get (koa.kl.sub hlt)
              have hxk := koa.kl.at32 (koa.kl.sub hlt)
              have hxo : Sk.ok ⟨3, 7 + x, Ks.getD x []⟩ := ⟨by show (3 : Nat) < 4294967296; decide, by show 7 + x < _; omega, hxk⟩
              refine EW.ordB [(0, 0, 0), (1, 0, 0), (2, 0, 0), (3, 0, 0), (4, 0, 0), (5, 0, 0), (6, 0, 0), (7, 0, 0), (8, 0, 1), (9, 0, 0), (10, 0, 1), (11, 0, 0), (12, 0, 0), (13, 0, 0), (14, 0, 0), (15, 0, 1), (16, 0, 0), (17, 0, 0), (18, 0, 0)] (by kernel_rfl) rfl (by kernel_rfl) ?_
              simp only [opsZ, List.getD_cons_zero, List.getD_cons_succ]
              first | refine ZE.move rfl rfl rfl rfl sz0 ?_
              first | refine ZE.move rfl rfl rfl rfl sz0 ?_
              refine ZE.len rfl rfl rfl rfl sz0 (fun W => sol.sl.len W _) ?_
              refine ZE.bin rfl rfl rfl rfl rfl sz0 (fun W => int_ge_f (by rw [LL_len]; omega) W _ _) ?_
              first | refine ZE.move rfl rfl rfl rfl sz0 ?_
              first | refine ZE.move rfl rfl rfl rfl sz0 ?_ | refine ZE.skip rfl rfl rfl sz0 ?_
              first | refine ZE.move rfl rfl rfl rfl sz0 ?_ | refine ZE.skip rfl rfl rfl sz0 ?_
              refine ZE.index rfl rfl rfl rfl rfl sz0 (fun W => ixl W) ?_
              refine ZE.load rfl rfl rfl rfl sz1 (fun W hW => (ldl W (sox.sl.on (sb_of hW))).1) ?_
              first | refine ZE.move rfl rfl rfl rfl sz0 ?_ | refine ZE.skip rfl rfl rfl sz0 ?_
              refine ZE.conv rfl rfl rfl rfl sz1 (fun W hW => cvU _ (by omega) W) ?_
              refine ZE.bin rfl rfl rfl rfl rfl sz0 (fun W => addU 7 x (by omega) W _ _) ?_
              first | refine ZE.move rfl rfl rfl rfl sz0 ?_ | refine ZE.skip rfl rfl rfl sz0 ?_
              first | refine ZE.move rfl rfl rfl rfl sz0 ?_ | refine ZE.skip rfl rfl rfl sz0 ?_
              refine ZE.index rfl rfl rfl rfl rfl sz0 (fun W => ixk W) ?_
              refine ZE.load rfl rfl rfl rfl sz1 (fun W hW => ldk W (S.ko.kl.on (sb_of hW))) ?_
              refine ZE.buildN [(0, u32v 3), (1, u32v (7 + x)), (2, kv (Ks.getD x []))] rfl rfl rfl rfl sz0 (fun W => b39 _ _ _ hxk W) ?_
              refine ZE.bin rfl rfl rfl rfl rfl sz0 (fun W => neq39_same hxo W _ _) ?_
              first | refine ZE.pick rfl rfl rfl rfl rfl sz0 ?_
              rintro W4 hW4
              refine EW.on ?_
              refine EW.cond_f rfl ?_
              refine EW.skip ?_
              refine EW.on ?_
              refine EW.region ?_
              first | refine WL.move rfl rfl rfl ?_
              refine WL.bin rfl rfl rfl rfl (int_add (c := ((Ks.length + cntL lf (x + 1) : Nat) : Int)) (by rw [IntKind.wrap_i64, cnt_succ, if_pos hlx]; have := cnt_le lf x; omega) _ _ _) ?_
              first | refine WL.assign rfl rfl rfl ?_
              refine WL.done ?_
              refine pn_block ?_
              refine EW.on ?_
              refine EW.region ?_
              first | refine WL.move rfl rfl rfl ?_
              refine WL.bin rfl rfl rfl rfl (int_add (c := ((x + 1 : Nat) : Int)) (by rw [IntKind.wrap_i64]; omega) _ _ _) ?_
              first | refine WL.assign rfl rfl rfl ?_
              refine WL.done ?_
              exact EW.again (E := oE5 p q Ks.length va u lf) (R := OR4 w p r q va u Ks lf) (m := fun x => Ks.length - x) (x := x) (x + 1) [0, 5, 7, 15, 17, 18] rfl ⟨by omega, S.on hW4, sox.on hW4⟩ (by show Ks.length - (x + 1) < Ks.length - x; omega)
          · refine EW.exit ?_
            refine px_then ?_
            refine px_then ?_
            refine px_block ?_
            refine EW.on ?_
            refine EW.seq ?_
            refine EW.region ?_
            first | refine WL.move rfl rfl rfl ?_
            first | refine WL.move rfl rfl rfl ?_
            refine WL.len rfl rfl rfl (sol.sl.len _ _) ?_
            refine WL.bin rfl rfl rfl rfl (int_eq_t (by rw [LL_len, show x = Ks.length by omega]) _ _ _) ?_
            first | refine WL.move rfl rfl rfl ?_
            first | refine WL.move rfl rfl rfl ?_ | refine WL.skip _ rfl rfl rfl ?_
            refine WL.call [.pointer (some ⟨p, 0, none⟩)] enter8 rfl rfl rfl (len_any S.tb) ?_
            rintro xe we ⟨rfl, hwe⟩
            refine ⟨_, rfl, ?_⟩
            rw [hwe, EL_len, LL_len]
            first | refine WL.move rfl rfl rfl ?_ | refine WL.skip _ rfl rfl rfl ?_
            refine WL.bin rfl rfl rfl rfl (int_eq_t (by rw [show x = Ks.length by omega]) _ _ _) ?_
            first | refine WL.pick rfl rfl rfl rfl ?_
            first | refine WL.assign rfl rfl rfl ?_
            refine WL.done ?_
            refine EW.on ?_
            refine EW.ret ?_
            exact EW.returns Try.results3 rfl ⟨rfl, S.be⟩
end Go.Proofs.Ytggehhlobjjmpaa
