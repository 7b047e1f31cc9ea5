import Derived.Test.YtplfelfmkgjijaaNu
set_option linter.unusedVariables false
set_option linter.unusedSimpArgs false
namespace Go.Proofs.Ytplfelfmkgjijaa
open Go.RowKit

set_option maxRecDepth 100000 in
set_option maxHeartbeats 20000000 in
theorem step_any {w0 w : World} {p r q : Nat} {v : Value} {nodes most N : Int} {E : List Me} {c : Nat} {R : List Fl} (D : Dk w0 w p r q v nodes most N E c R) (o : Op5) (ho0 : o.ok w0) (hN : N ≤ 1000) : Calls Try.prog 17 #[.pointer (some ⟨p, 0, none⟩), .pointer (some ⟨q, 0, none⟩), o.g] w fun e w' => e = .returned (.bool true) ∧ ∃ v' N' E' c' R', Dk w0 w' p r q v' nodes most N' E' c' R' ∧ N' ≤ N + 1 := by
  obtain ⟨w1, q5, r5, b5, l1, hq5⟩ := box47 o w
  have D1 := D.on l1
  have oh := ho0.on D1.be
  have hlb := ho0.lb
  have hlen := dat_len D.eq
  have hEl : E.length ≤ 100000 := by have := D.le; omega
  have hRl : R.length ≤ 100000 := by omega
  have hoff : ∀ k, v.ownBlock = some k → Off o.v o.b k := fun k hk => off_of ho0.hs (D.hv k hk)
  refine calls_of_args [.pointer (some ⟨p, 0, none⟩), .pointer (some ⟨q, 0, none⟩), o.g] Try.func17 rfl 151 Try.ntmps17 (by show 3 ≤ 151; decide) ?_
  refine EW.seq ?_
  refine EW.region ?_
  refine WL.box rfl rfl rfl r5 ?_
  first | refine WL.assign rfl rfl rfl ?_
  refine WL.done ?_
  refine EW.on ?_
  refine EW.seq ?_
  refine EW.seq ?_
  refine EW.region ?_
  refine WL.field rfl rfl rfl (g47_0 q5 _) ?_
  refine WL.load rfl rfl rfl (ldI b5 rfl) ?_
  refine WL.done ?_
  refine EW.on ?_
  refine EW.block ?_
  refine EW.seq ?_
  refine EW.region ?_
  refine WL.bin rfl rfl rfl rfl (int_eq_d _ _ _ _ _) ?_
  first | refine WL.assign rfl rfl rfl ?_
  refine WL.done ?_
  refine EW.on ?_
  refine EW.cond_d rfl (fun h23 => ?_) (fun h23 => ?_)
  · refine EW.seq ?_
    refine EW.region ?_
    obtain ⟨v25, w2, r2, own2, l2⟩ := bsl0 w1
    refine WL.bslN [] rfl rfl rfl r2 ?_
    refine WL.field rfl rfl rfl (g47_4 q5 _) ?_
    refine WL.load rfl rfl rfl (ldS (b5.on l2) rfl) ?_
    obtain ⟨vB, w3, r3, own3, l3, _⟩ := own2.app (oh.hs.below l2) (by have := oh.lb; simp; omega) l2.size 29
    rw [List.nil_append] at own3
    have l13 : Below w1.heap.size w1 w3 := l2.trans l3
    have D3 := D1.on l13
    have b53 := b5.on l13
    have oh3 := oh.on l13
    refine WL.app rfl rfl rfl rfl r3 ?_
    first | refine WL.assign rfl rfl rfl ?_
    refine WL.done ?_
    refine EW.on ?_
    refine EW.seq ?_
    refine EW.region ?_
    first | refine WL.move rfl rfl rfl ?_
    refine WL.field rfl rfl rfl (g47_2 q5 _) ?_
    refine WL.load rfl rfl rfl (ldI b53 rfl) ?_
    refine WL.field rfl rfl rfl (g47_3 q5 _) ?_
    refine WL.load rfl rfl rfl (ldI b53 rfl) ?_
    first | refine WL.move rfl rfl rfl ?_
    refine WL.call [.pointer (some ⟨p, 0, none⟩), .int .i64 o.f, .int .i64 o.t, vB] enter9 rfl rfl rfl (send_any D3.nt o.f o.t vB o.b own3.has (by have := oh.lb; omega) ⟨D.N0, by omega⟩) ?_
    rintro y4 w4 hc4
    obtain ⟨a, b, rfl, rn4, f4, hb4⟩ := both_send D3 hc4
    refine ⟨_, rfl, ?_⟩
    have f4' := f4.mono (T := fun k => (k = p ∨ k = r) ∨ (k = q ∨ v.ownBlock = some k)) (fun i _ e => .inl e)
    have b54 := D3.blk b53 (by decide) (by decide) (.inl (by decide)) f4'
    have oh4 := D3.has oh3.hs hoff f4'
    first | refine WL.move rfl rfl rfl ?_
    first | refine WL.extract rfl rfl rfl (ext_2 _ _ _).1 ?_
    first | refine WL.extract rfl rfl rfl (ext_2 _ _ _).2 ?_
    first | refine WL.assign rfl rfl rfl ?_
    first | refine WL.assign rfl rfl rfl ?_
    refine WL.done ?_
    refine EW.on ?_
    refine EW.seq ?_
    refine EW.region ?_
    first | refine WL.move rfl rfl rfl ?_
    refine WL.field rfl rfl rfl (g47_2 q5 _) ?_
    refine WL.load rfl rfl rfl (ldI b54 rfl) ?_
    refine WL.field rfl rfl rfl (g47_3 q5 _) ?_
    refine WL.load rfl rfl rfl (ldI b54 rfl) ?_
    refine WL.field rfl rfl rfl (g47_4 q5 _) ?_
    refine WL.load rfl rfl rfl (ldS b54 rfl) ?_
    refine WL.call [.pointer (some ⟨q, 0, none⟩), .int .i64 o.f, .int .i64 o.t, o.v] enter27 rfl rfl rfl (rsend_any rn4 o.f o.t o.v o.b oh4 (by have := oh.lb; omega) ⟨D.N0, by omega⟩ hRl) ?_
    rintro y5 w5 hc5
    obtain ⟨rfl, v5, N5, E5, c5, R5, D5, hN5, hE5, hR5, f5⟩ := hb4 _ _ hc5
    refine ⟨_, rfl, ?_⟩
    have own5 := D3.own own3 f5
    have b55 := D3.blk b53 (by decide) (by decide) (.inl (by decide)) f5
    have oh5 := D3.has oh3.hs hoff f5
    first | refine WL.move rfl rfl rfl ?_
    first | refine WL.extract rfl rfl rfl (ext_2 _ _ _).1 ?_
    first | refine WL.extract rfl rfl rfl (ext_2 _ _ _).2 ?_
    first | refine WL.assign rfl rfl rfl ?_
    first | refine WL.assign rfl rfl rfl ?_
    refine WL.done ?_
    refine EW.on ?_
    refine EW.seq ?_
    refine EW.seq ?_
    refine EW.region ?_
    first | refine WL.move rfl rfl rfl ?_
    first | refine WL.move rfl rfl rfl ?_
    refine WL.bin rfl rfl rfl rfl (int_ne_f rfl _ _ _) ?_
    first | refine WL.move rfl rfl rfl ?_
    first | refine WL.move rfl rfl rfl ?_ | refine WL.skip _ rfl rfl rfl ?_
    first | refine WL.move rfl rfl rfl ?_ | refine WL.skip _ rfl rfl rfl ?_
    refine WL.bin rfl rfl rfl rfl (int_ne_f rfl _ _ _) ?_
    first | refine WL.pick rfl rfl rfl rfl ?_
    first | refine WL.move rfl rfl rfl ?_
    first | refine WL.move rfl rfl rfl ?_ | refine WL.skip _ rfl rfl rfl ?_
    refine WL.conv rfl rfl rfl own5.has.convert ?_
    refine WL.field rfl rfl rfl (g47_4 q5 _) ?_
    refine WL.load rfl rfl rfl (ldS b55 rfl) ?_
    refine WL.conv rfl rfl rfl oh5.convert ?_
    refine WL.bin rfl rfl rfl rfl (str_ne_f rfl _ _ _) ?_
    first | refine WL.pick rfl rfl rfl rfl ?_
    refine WL.done ?_
    refine EW.on ?_
    refine EW.cond_f rfl ?_
    refine EW.skip ?_
    refine EW.on ?_
    refine EW.seq ?_
    refine EW.region ?_
    first | refine WL.assign rfl rfl rfl ?_
    refine WL.done ?_
    refine EW.on ?_
    refine EW.block ?_
    refine EW.loop (stE p q q5 vB) (stRr w5 w1.heap.size vB o.b.length) (fun i => o.b.length - i) 0 [7, 12] rfl ⟨Nat.zero_le _, o.b, rfl, own5, Fx.refl _ _⟩ ?_
    rintro i wi ⟨hil, LL, hLL, ownW, fW⟩
    show EW _ _ _ _ [(7, vB), (12, .int .i64 (i : Int))] _
    refine EW.seq ?_
    refine EW.seq ?_
    refine EW.region ?_
    first | refine WL.move rfl rfl rfl ?_
    first | refine WL.move rfl rfl rfl ?_
    refine WL.len rfl rfl rfl (own5.has.len _ _) ?_
    refine WL.bin rfl rfl rfl rfl (int_lt_d _ _ _ _ _) ?_
    refine WL.done ?_
    refine EW.on ?_
    refine EW.cond_d rfl (fun h69 => ?_) (fun h69 => ?_)
    · refine EW.skip ?_
      refine EW.on ?_
      refine EW.seq ?_
      refine EW.block ?_
      obtain ⟨u, hu⟩ : ∃ u, LL[i]? = some u := ⟨_, List.getElem?_eq_getElem (by omega)⟩
      obtain ⟨ad, w', ix, st, own', f'⟩ := ownW.setAt (i := i) (by omega) (u ^^^ 85)
      obtain ⟨ad2, ix2, lx2⟩ := ownW.has.get hu
      refine EW.region ?_
      first | refine WL.move rfl rfl rfl ?_
      first | refine WL.move rfl rfl rfl ?_
      refine WL.index rfl rfl rfl rfl (ix2 _) ?_
      refine WL.load rfl rfl rfl (lx2 _ ownW.has) ?_
      refine WL.bin rfl rfl rfl rfl (xorB u _ _ _) ?_
      refine WL.index rfl rfl rfl rfl (ix _) ?_
      refine WL.store rfl rfl rfl st ?_
      refine WL.done ?_
      refine pn_block ?_
      refine EW.on ?_
      refine EW.region ?_
      first | refine WL.move rfl rfl rfl ?_
      refine WL.bin rfl rfl rfl rfl (int_add (c := ((i + 1 : Nat) : Int)) (by rw [IntKind.wrap_i64]; omega) _ _ _) ?_
      first | refine WL.assign rfl rfl rfl ?_
      refine WL.done ?_
      exact EW.again (E := stE p q q5 vB) (R := stRr w5 w1.heap.size vB o.b.length) (m := fun i => o.b.length - i) (x := i) (i + 1) [7, 12] rfl ⟨by omega, _, by rw [List.length_set]; exact hLL, own', fW.and f'⟩ (by show o.b.length - (i + 1) < o.b.length - i; omega)
    · refine EW.exit ?_
      refine px_then ?_
      refine px_then ?_
      refine px_block ?_
      refine pn_block ?_
      refine EW.on ?_
      refine EW.seq ?_
      refine EW.region ?_
      first | refine WL.assign rfl rfl rfl ?_
      refine WL.done ?_
      refine EW.on ?_
      refine EW.ret ?_
      refine EW.returns Try.results17 rfl ⟨rfl, v5, N5, E5, c5, R5, D5.wrote own5 (by have := D1.be.size; omega) fW (fun m hm k hk => ?_) (fun x hx k hk => ?_), hN5⟩
      · have h1 := own3.ownBlock k hk
        have h2 := own3.lt hk
        rcases hE5 m hm with g | g
        · exact off_of (D1.nt.hs m g) h1
        · exact .inr fun e => by have := g k e; omega
      · have h1 := own3.ownBlock k hk
        have h2 := own3.lt hk
        rcases hR5 x hx with g | g
        · exact off_of (D1.rn.hs x g) h1
        · exact .inr fun e => by have := g k e; omega
  · refine EW.seq ?_
    refine EW.region ?_
    refine WL.bin rfl rfl rfl rfl (int_eq_d _ _ _ _ _) ?_
    first | refine WL.assign rfl rfl rfl ?_
    refine WL.done ?_
    refine EW.on ?_
    refine EW.cond_d rfl (fun h78 => ?_) (fun h78 => ?_)
    · refine EW.seq ?_
      rcases find_cases R o.k with hno | ⟨i, y, hy, hyk⟩
      · have hlk := link_none D1.eq hno
        refine EW.region ?_
        first | refine WL.move rfl rfl rfl ?_
        refine WL.field rfl rfl rfl (g47_1 q5 _) ?_
        refine WL.load rfl rfl rfl (ldI b5 rfl) ?_
        refine WL.call [.pointer (some ⟨p, 0, none⟩), .int .i64 o.k] enter14 rfl rfl rfl (deliver_any D1.nt o.k) ?_
        rintro y2 w2 (⟨_, rfl, l2⟩ | ⟨_, _, g, _⟩)
        rotate_left
        · rw [hlk] at g; cases g
        refine ⟨_, rfl, ?_⟩
        obtain ⟨q13, w2a, w3, ra, rs, b13, l3, hq13⟩ := newF w2 Fl.z Fl.z_sh
        have D3 := (D1.on l2).on l3
        have b53 := (b5.on l2).on l3
        first | refine WL.move rfl rfl rfl ?_
        first | refine WL.extract rfl rfl rfl (ext_2 _ _ _).1 ?_
        first | refine WL.extract rfl rfl rfl (ext_2 _ _ _).2 ?_
        refine WL.new rfl rfl ra ?_
        refine WL.store rfl rfl rfl rs ?_
        first | refine WL.assign rfl rfl rfl ?_
        refine WL.done ?_
        refine EW.on ?_
        refine EW.seq ?_
        refine EW.region ?_
        first | refine WL.move rfl rfl rfl ?_
        refine WL.field rfl rfl rfl (g47_1 q5 _) ?_
        refine WL.load rfl rfl rfl (ldI b53 rfl) ?_
        refine WL.call [.pointer (some ⟨q, 0, none⟩), .int .i64 o.k] enter28 rfl rfl rfl (rdeliver_any D3.rn D3.nd o.k hRl) ?_
        rintro y4 w4 (⟨_, rfl, l4⟩ | ⟨_, y', _, hy', hyk', _⟩)
        rotate_left
        · exact absurd hyk' (hno y' (List.mem_of_getElem? hy'))
        refine ⟨_, rfl, ?_⟩
        obtain ⟨q15, w4a, w5, ra', rs', b15, l5, hq15⟩ := newF w4 Fl.z Fl.z_sh
        have D5 := (D3.on l4).on l5
        have b135 := (b13.on l4).on l5
        first | refine WL.move rfl rfl rfl ?_
        first | refine WL.extract rfl rfl rfl (ext_2 _ _ _).1 ?_
        first | refine WL.extract rfl rfl rfl (ext_2 _ _ _).2 ?_
        refine WL.new rfl rfl ra' ?_
        refine WL.store rfl rfl rfl rs' ?_
        first | refine WL.assign rfl rfl rfl ?_
        refine WL.done ?_
        refine EW.on ?_
        refine EW.seq ?_
        refine EW.region ?_
        first | refine WL.move rfl rfl rfl ?_
        first | refine WL.move rfl rfl rfl ?_
        refine WL.bin rfl rfl rfl rfl (int_eq_t rfl _ _ _) ?_
        first | refine WL.move rfl rfl rfl ?_
        refine WL.load rfl rfl rfl (ld36 b135) ?_
        refine WL.load rfl rfl rfl (ld36 b15) ?_
        refine WL.call [Fl.z.g, Fl.z.g] enter26 rfl rfl rfl (same_yes Fl.z Fl.z _ (Has.nil _) (Has.nil _) rfl) ?_
        rintro y6 w6 ⟨rfl, l6⟩
        refine ⟨_, rfl, ?_⟩
        first | refine WL.pick rfl rfl rfl rfl ?_
        first | refine WL.assign rfl rfl rfl ?_
        refine WL.done ?_
        refine EW.on ?_
        refine EW.ret ?_
        refine pr_block ?_
        refine pr_then ?_
        exact EW.returns Try.results17 rfl ⟨rfl, v, N, E, c, R, D5.on l6, by omega⟩
      · obtain ⟨⟨x, hlk, hd⟩, hdel⟩ := link_some D1.eq D1.nt.mp.nd hy hyk
        refine EW.region ?_
        first | refine WL.move rfl rfl rfl ?_
        refine WL.field rfl rfl rfl (g47_1 q5 _) ?_
        refine WL.load rfl rfl rfl (ldI b5 rfl) ?_
        refine WL.call [.pointer (some ⟨p, 0, none⟩), .int .i64 o.k] enter14 rfl rfl rfl (deliver_any D1.nt o.k) ?_
        rintro y2 w2 (⟨g, _⟩ | ⟨x', vx, hx', rfl, bx2, nt2, f2⟩)
        · rw [hlk] at g; cases g
        rw [hlk] at hx'
        cases hx'
        refine ⟨_, rfl, ?_⟩
        obtain ⟨q13, w2a, w3, ra, rs, b13, l3, hq13⟩ := newF w2 ⟨x.n, x.f, x.t, vx, x.b⟩ (sh_of bx2.has)
        have s2 := f2.size
        have s3 := l3.size
        have f13 : Fx (fun k => k = p ∨ k = r) w1 w3 := (f2.mono (fun i _ e => .inr e)).then_below l3
        have rn3 := D1.mid f13
        have b53 := D1.blk b5 (by decide) (by decide) (.inl (by decide)) (f13.mono (T := fun k => (k = p ∨ k = r) ∨ (k = q ∨ v.ownBlock = some k)) (fun i _ e => .inl e))
        first | refine WL.move rfl rfl rfl ?_
        first | refine WL.extract rfl rfl rfl (ext_2 _ _ _).1 ?_
        first | refine WL.extract rfl rfl rfl (ext_2 _ _ _).2 ?_
        refine WL.new rfl rfl ra ?_
        refine WL.store rfl rfl rfl rs ?_
        first | refine WL.assign rfl rfl rfl ?_
        refine WL.done ?_
        refine EW.on ?_
        refine EW.seq ?_
        refine EW.region ?_
        first | refine WL.move rfl rfl rfl ?_
        refine WL.field rfl rfl rfl (g47_1 q5 _) ?_
        refine WL.load rfl rfl rfl (ldI b53 rfl) ?_
        refine WL.call [.pointer (some ⟨q, 0, none⟩), .int .i64 o.k] enter28 rfl rfl rfl (rdeliver_any rn3 D1.nd o.k hRl) ?_
        rintro y4 w4 (⟨hno, _⟩ | ⟨i', y', vy, hy', hyk', rfl, has4, v2, rn4, fv4, f4⟩)
        · exact absurd hyk (hno y (List.mem_of_getElem? hy))
        have ei := at_uniq D1.nd hy hy' (by rw [hyk, hyk'])
        subst ei
        rw [hy] at hy'
        cases hy'
        refine ⟨_, rfl, ?_⟩
        have D4 := D1.fin f13 (nt2.on l3) (fun m hm k hk => D1.aE m ((List.filter_sublist (l := E)).subset hm) k hk) rn4 (fun k hk => .inr (fv4 k hk)) (f4.mono (fun i _ e => .inl e)) hdel D1.N0 (by
          have := (List.filter_sublist (l := E) (p := fun m => !decide (o.k = m.x.n))).length_le
          have h2 := D1.le
          unfold delE
          omega)
        obtain ⟨q15, w4a, w5, ra', rs', b15, l5, hq15⟩ := newF w4 ⟨y.n, y.f, y.t, vy, y.b⟩ (sh_of has4)
        have hql : q < w1.heap.size := D1.rn.bl.lt
        have D5 := D4.on l5
        have b135 := (b13.fx f4 (fun e => by have e' : q13 = q := e; omega)).on l5
        have hx5 := ((((bx2.below l3).fx f4 (fun k hk e => by have e' : k = q := e; have := bx2.ownBlock k hk; omega)).has).below l5)
        have hy5 := has4.below l5
        first | refine WL.move rfl rfl rfl ?_
        first | refine WL.extract rfl rfl rfl (ext_2 _ _ _).1 ?_
        first | refine WL.extract rfl rfl rfl (ext_2 _ _ _).2 ?_
        refine WL.new rfl rfl ra' ?_
        refine WL.store rfl rfl rfl rs' ?_
        first | refine WL.assign rfl rfl rfl ?_
        refine WL.done ?_
        refine EW.on ?_
        refine EW.seq ?_
        refine EW.region ?_
        first | refine WL.move rfl rfl rfl ?_
        first | refine WL.move rfl rfl rfl ?_
        refine WL.bin rfl rfl rfl rfl (int_eq_t rfl _ _ _) ?_
        first | refine WL.move rfl rfl rfl ?_
        refine WL.load rfl rfl rfl (ld36 b135) ?_
        refine WL.load rfl rfl rfl (ld36 b15) ?_
        refine WL.call [Fl.g ⟨x.n, x.f, x.t, vx, x.b⟩, Fl.g ⟨y.n, y.f, y.t, vy, y.b⟩] enter26 rfl rfl rfl (same_yes ⟨x.n, x.f, x.t, vx, x.b⟩ ⟨y.n, y.f, y.t, vy, y.b⟩ _ hx5 hy5 hd) ?_
        rintro y6 w6 ⟨rfl, l6⟩
        refine ⟨_, rfl, ?_⟩
        first | refine WL.pick rfl rfl rfl rfl ?_
        first | refine WL.assign rfl rfl rfl ?_
        refine WL.done ?_
        refine EW.on ?_
        refine EW.ret ?_
        refine pr_block ?_
        refine pr_then ?_
        exact EW.returns Try.results17 rfl ⟨rfl, v2, N, _, _, _, D5.on l6, by omega⟩
    · refine EW.seq ?_
      refine EW.region ?_
      refine WL.bin rfl rfl rfl rfl (int_eq_d _ _ _ _ _) ?_
      first | refine WL.assign rfl rfl rfl ?_
      refine WL.done ?_
      refine EW.on ?_
      refine EW.cond_d rfl (fun h102 => ?_) (fun h102 => ?_)
      · refine EW.seq ?_
        rcases find_cases R o.k with hno | ⟨i, y, hy, hyk⟩
        · have hlk := link_none D1.eq hno
          refine EW.ordZ [(0, 0, 0), (1, 0, 0), (2, 0, 1), (4, 0, 0), (5, 0, 0), (6, 0, 1), (3, 1, 1), (7, 1, 0), (8, 0, 0), (9, 0, 0)] (SQ (fun W => Blk W q5 o.cs 47)) (fun W => Below w1.heap.size w1 W) (by kernel_rfl) rfl (by kernel_rfl) (sq_anti _) (below_drawn w1) ?_
          simp only [opsZ, List.getD_cons_zero, List.getD_cons_succ]
          refine ZE.move rfl rfl rfl rfl sq0 ?_
          refine ZE.field rfl rfl rfl rfl sq0 (fun W => g47_1 q5 W) ?_
          refine ZE.load rfl rfl rfl rfl (fun W hW => .inr (b5.on hW)) (fun W hW => ldI (sq_of hW) rfl) ?_
          refine ZE.move rfl rfl rfl rfl sq0 ?_
          refine ZE.field rfl rfl rfl rfl sq0 (fun W => g47_1 q5 W) ?_
          refine ZE.load rfl rfl rfl rfl (fun W hW => .inr (b5.on hW)) (fun W hW => ldI (sq_of hW) rfl) ?_
          refine ZE.callV [.pointer (some ⟨p, 0, none⟩), .int .i64 o.k] (.int .i64 230) (fun W => Dk w0 W p r q v nodes most N E c R ∧ Blk W q5 o.cs 47) enter12 rfl rfl rfl (fun _ h => .inr h.2) (fun W hW => ?_) ?_
          · refine (drop_any (D1.on hW).nt o.k).mono fun e w' ⟨h1, h2, h3⟩ => ⟨by rw [h1, hlk]; rfl, ?_, ?_⟩
            · have fp : Fx (fun k => k = p ∨ k = r) W w' := h3.mono (fun i _ e => .inr e)
              rw [delE_none hlk] at h2
              exact (D1.on hW).fin fp h2 D1.aE ((D1.on hW).mid fp) (fun k hk => .inl hk) (Fx.refl _ _) D1.eq D1.N0 D1.le
            · exact (D1.on hW).blk (b5.on hW) (by decide) (by decide) (.inl (by decide)) (h3.mono (fun i _ e => .inl (.inr e)))
          refine ZE.callV [.pointer (some ⟨q, 0, none⟩), .int .i64 o.k] (.int .i64 230) (fun W => Dk w0 W p r q v nodes most N E c R) enter29 rfl rfl rfl (fun _ _ => .inl rfl) (fun W hW => ?_) ?_
          · refine (rdrop_any hW.1.rn hW.1.nd o.k hRl).mono fun e w' hh => ?_
            rcases hh with ⟨_, h1, h2⟩ | ⟨_, y', hy', hyk', _⟩
            · exact ⟨h1, hW.1.on h2⟩
            · exact absurd hyk' (hno y' (List.mem_of_getElem? hy'))
          refine ZE.bin rfl rfl rfl rfl rfl sq0 (fun W => int_eq_t rfl W _ _) ?_
          refine ZE.assign rfl rfl rfl rfl sq0 ?_
          rintro W17 hW17
          refine EW.on ?_
          refine EW.ret ?_
          refine pr_block ?_
          refine pr_then ?_
          exact EW.returns Try.results17 rfl ⟨rfl, v, N, E, c, R, hW17, by omega⟩
        · obtain ⟨⟨x, hlk, hd⟩, hdel⟩ := link_some D1.eq D1.nt.mp.nd hy hyk
          refine EW.ordZ [(0, 0, 0), (1, 0, 0), (2, 0, 1), (4, 0, 0), (5, 0, 0), (6, 0, 1), (3, 1, 1), (7, 1, 0), (8, 0, 0), (9, 0, 0)] (SQ (fun W => Blk W q5 o.cs 47)) (fun W => Below w1.heap.size w1 W) (by kernel_rfl) rfl (by kernel_rfl) (sq_anti _) (below_drawn w1) ?_
          simp only [opsZ, List.getD_cons_zero, List.getD_cons_succ]
          refine ZE.move rfl rfl rfl rfl sq0 ?_
          refine ZE.field rfl rfl rfl rfl sq0 (fun W => g47_1 q5 W) ?_
          refine ZE.load rfl rfl rfl rfl (fun W hW => .inr (b5.on hW)) (fun W hW => ldI (sq_of hW) rfl) ?_
          refine ZE.move rfl rfl rfl rfl sq0 ?_
          refine ZE.field rfl rfl rfl rfl sq0 (fun W => g47_1 q5 W) ?_
          refine ZE.load rfl rfl rfl rfl (fun W hW => .inr (b5.on hW)) (fun W hW => ldI (sq_of hW) rfl) ?_
          refine ZE.callV [.pointer (some ⟨p, 0, none⟩), .int .i64 o.k] (.int .i64 0) (fun W => (∃ W0, Below w1.heap.size w1 W0 ∧ Nt W p r nodes most N (delE E o.k) c ∧ Fx (fun k => k = r) W0 W) ∧ Blk W q5 o.cs 47) enter12 rfl rfl rfl (fun _ h => .inr h.2) (fun W hW => ?_) ?_
          · refine (drop_any (D1.on hW).nt o.k).mono fun e w' ⟨h1, h2, h3⟩ => ⟨by rw [h1, hlk]; rfl, ⟨W, hW, h2, h3⟩, ?_⟩
            exact (D1.on hW).blk (b5.on hW) (by decide) (by decide) (.inl (by decide)) (h3.mono (fun i _ e => .inl (.inr e)))
          refine ZE.callV [.pointer (some ⟨q, 0, none⟩), .int .i64 o.k] (.int .i64 0) (fun w' => ∃ v' N' E' c' R', Dk w0 w' p r q v' nodes most N' E' c' R' ∧ N' ≤ N + 1) enter29 rfl rfl rfl (fun _ _ => .inl rfl) (fun W hW => ?_) ?_
          · obtain ⟨⟨W0, hW0, nt2, f2⟩, _⟩ := hW
            have D2 := D1.on hW0
            have fp : Fx (fun k => k = p ∨ k = r) W0 W := f2.mono (fun i _ e => .inr e)
            refine (rdrop_any (D2.mid fp) D1.nd o.k hRl).mono fun e w' hh => ?_
            rcases hh with ⟨hno, _⟩ | ⟨i', y', hy', hyk', h1, v2, rn4, fv4, f4⟩
            · exact absurd hyk (hno y (List.mem_of_getElem? hy))
            · have ei := at_uniq D1.nd hy hy' (by rw [hyk, hyk'])
              subst ei
              exact ⟨h1, v2, N, _, _, _, D2.fin fp nt2 (fun m hm k hk => D1.aE m ((List.filter_sublist (l := E)).subset hm) k hk) rn4 (fun k hk => .inr (fv4 k hk)) (f4.mono (fun i _ e => .inl e)) hdel D1.N0 (by
                have := (List.filter_sublist (l := E) (p := fun m => !decide (o.k = m.x.n))).length_le
                have h2 := D1.le
                unfold delE
                omega), by omega⟩
          refine ZE.bin rfl rfl rfl rfl rfl sq0 (fun W => int_eq_t rfl W _ _) ?_
          refine ZE.assign rfl rfl rfl rfl sq0 ?_
          rintro W17 hW17
          refine EW.on ?_
          refine EW.ret ?_
          refine pr_block ?_
          refine pr_then ?_
          exact EW.returns Try.results17 rfl ⟨rfl, hW17⟩
      · refine EW.seq ?_
        refine EW.region ?_
        refine WL.bin rfl rfl rfl rfl (int_eq_d _ _ _ _ _) ?_
        first | refine WL.assign rfl rfl rfl ?_
        refine WL.done ?_
        refine EW.on ?_
        refine EW.cond_d rfl (fun h113 => ?_) (fun h113 => ?_)
        · refine EW.seq ?_
          refine EW.region ?_
          first | refine WL.move rfl rfl rfl ?_
          refine WL.field rfl rfl rfl (g47_1 q5 _) ?_
          refine WL.load rfl rfl rfl (ldI b5 rfl) ?_
          refine WL.call [.pointer (some ⟨p, 0, none⟩), .int .i64 o.k] enter8 rfl rfl rfl (copy_any D1.nt o.k ⟨D.N0, by omega⟩) ?_
          rintro y2 w2 hc2
          obtain ⟨a, b, rfl, rn2, f2, hb2⟩ := both_copy D1 hc2
          refine ⟨_, rfl, ?_⟩
          have b52 := D1.blk b5 (by decide) (by decide) (.inl (by decide)) (f2.mono (T := fun k => (k = p ∨ k = r) ∨ (k = q ∨ v.ownBlock = some k)) (fun i _ e => .inl e))
          first | refine WL.move rfl rfl rfl ?_
          first | refine WL.extract rfl rfl rfl (ext_2 _ _ _).1 ?_
          first | refine WL.extract rfl rfl rfl (ext_2 _ _ _).2 ?_
          first | refine WL.assign rfl rfl rfl ?_
          first | refine WL.assign rfl rfl rfl ?_
          refine WL.done ?_
          refine EW.on ?_
          refine EW.seq ?_
          refine EW.region ?_
          first | refine WL.move rfl rfl rfl ?_
          refine WL.field rfl rfl rfl (g47_1 q5 _) ?_
          refine WL.load rfl rfl rfl (ldI b52 rfl) ?_
          refine WL.call [.pointer (some ⟨q, 0, none⟩), .int .i64 o.k] enter30 rfl rfl rfl (rcopy_any rn2 D1.nd o.k ⟨D.N0, by omega⟩ hRl) ?_
          rintro y3 w3 hc3
          obtain ⟨rfl, v5, N5, E5, c5, R5, D5, hN5, _, _, _⟩ := hb2 _ _ hc3
          refine ⟨_, rfl, ?_⟩
          first | refine WL.move rfl rfl rfl ?_
          first | refine WL.extract rfl rfl rfl (ext_2 _ _ _).1 ?_
          first | refine WL.extract rfl rfl rfl (ext_2 _ _ _).2 ?_
          first | refine WL.assign rfl rfl rfl ?_
          first | refine WL.assign rfl rfl rfl ?_
          refine WL.done ?_
          refine EW.on ?_
          refine EW.seq ?_
          refine EW.region ?_
          first | refine WL.move rfl rfl rfl ?_
          first | refine WL.move rfl rfl rfl ?_
          refine WL.bin rfl rfl rfl rfl (int_eq_t rfl _ _ _) ?_
          first | refine WL.move rfl rfl rfl ?_
          first | refine WL.move rfl rfl rfl ?_ | refine WL.skip _ rfl rfl rfl ?_
          first | refine WL.move rfl rfl rfl ?_ | refine WL.skip _ rfl rfl rfl ?_
          refine WL.bin rfl rfl rfl rfl (int_eq_t rfl _ _ _) ?_
          first | refine WL.pick rfl rfl rfl rfl ?_
          first | refine WL.assign rfl rfl rfl ?_
          refine WL.done ?_
          refine EW.on ?_
          refine EW.ret ?_
          refine pr_block ?_
          refine pr_then ?_
          exact EW.returns Try.results17 rfl ⟨rfl, v5, N5, E5, c5, R5, D5, hN5⟩
        · refine EW.seq ?_
          refine EW.region ?_
          refine WL.bin rfl rfl rfl rfl (int_eq_d _ _ _ _ _) ?_
          first | refine WL.assign rfl rfl rfl ?_
          refine WL.done ?_
          refine EW.on ?_
          refine EW.cond_d rfl (fun h137 => ?_) (fun h137 => ?_)
          · refine EW.seq ?_
            refine EW.region ?_
            first | refine WL.move rfl rfl rfl ?_
            refine WL.call [.pointer (some ⟨p, 0, none⟩)] enter11 rfl rfl rfl (flights_any D1.nt hEl) ?_
            rintro y2 w2 ⟨va, la, rfl, da, foa, _, bxa, _, l2⟩
            refine ⟨_, rfl, ?_⟩
            have D2 := D1.on l2
            first | refine WL.move rfl rfl rfl ?_
            refine WL.call [.pointer (some ⟨q, 0, none⟩)] enter19 rfl rfl rfl (rflights_any D2.rn hRl) ?_
            rintro y3 w3 ⟨vb, lb, rfl, fob, db, hxb, l3⟩
            refine ⟨_, rfl, ?_⟩
            have D3 := D2.on l3
            have hla : la.length ≤ 100000 := by
              have := congrArg List.length da
              rw [List.length_map, dat, List.length_map] at this
              omega
            refine WL.call [va, vb] enter18 rfl rfl rfl (sameAll_yes va vb la lb _ (foa.on l3).fs fob.fs (fun x hx => ((bxa x hx).1.below l3).has) hxb (by rw [da, D1.eq, db]) hla) ?_
            rintro y4 w4 ⟨rfl, l4⟩
            refine ⟨_, rfl, ?_⟩
            have D4 := D3.on l4
            first | refine WL.move rfl rfl rfl ?_
            first | refine WL.move rfl rfl rfl ?_ | refine WL.skip _ rfl rfl rfl ?_
            refine WL.call [.pointer (some ⟨p, 0, none⟩)] enter10 rfl rfl rfl (next_any D4.nt) ?_
            rintro y5 w5 ⟨rfl, hw5⟩
            refine ⟨_, rfl, ?_⟩
            rw [hw5]
            first | refine WL.move rfl rfl rfl ?_ | refine WL.skip _ rfl rfl rfl ?_
            refine WL.call [.pointer (some ⟨q, 0, none⟩)] enter20 rfl rfl rfl (rnext_any D4.rn) ?_
            rintro y6 w6 ⟨rfl, hw6⟩
            refine ⟨_, rfl, ?_⟩
            rw [hw6]
            refine WL.bin rfl rfl rfl rfl (int_eq_t rfl _ _ _) ?_
            first | refine WL.pick rfl rfl rfl rfl ?_
            first | refine WL.assign rfl rfl rfl ?_
            refine WL.done ?_
            refine EW.on ?_
            refine EW.ret ?_
            refine pr_block ?_
            refine pr_then ?_
            exact EW.returns Try.results17 rfl ⟨rfl, v, N, E, c, R, D4, by omega⟩
          · refine EW.skip ?_
            refine pn_block ?_
            refine EW.on ?_
            refine EW.seq ?_
            refine EW.region ?_
            first | refine WL.assign rfl rfl rfl ?_
            refine WL.done ?_
            refine EW.on ?_
            refine EW.ret ?_
            exact EW.returns Try.results17 rfl ⟨rfl, v, N, E, c, R, D1, by omega⟩
end Go.Proofs.Ytplfelfmkgjijaa
