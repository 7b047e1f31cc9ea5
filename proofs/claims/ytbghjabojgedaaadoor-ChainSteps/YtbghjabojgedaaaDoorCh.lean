import Derived.Test.YtbghjabojgedaaaDoorCg
set_option linter.unusedVariables false
set_option linter.unusedSimpArgs false
namespace Go.Proofs.YtbghjabojgedaaaDoor
open Go.RowKit

section
variable {P : Program}
theorem run_bs1 (w : World) (t e : TypeId) (cs : List Value) (hu : P.underlying t = some (.slice e)) (hsz : (P.info? e).map (·.size) = some 32) (hz : ((P.info? e).bind (·.zero)).isSome = true) (hc : cs.length = 32) :
    (Instr.buildSlice t 1 #[(0, .agg cs.toArray)]).run P w = .ok (.slice (some ⟨w.heap.size, 0, none⟩) 1 1) (w.alloc (.cells cs.toArray e)) := by
  cases hie : P.info? e with
  | none => simp [hie] at hsz
  | some ie =>
    simp only [hie, Option.map_some, Option.some.injEq, Option.bind_some] at hsz hz
    obtain ⟨z, hzz⟩ := Option.isSome_iff_exists.1 hz
    refine run_buildSlice w t e 1 _ _ ie z hu hie hzz (by rw [hsz]; decide) (by rw [hsz]; decide) ?_
    rw [hsz]
    have := Great.fill_whole (s := 32) (by decide) [Value.agg cs.toArray] ((Array.range (1 * 32)).map (z.cells[· % z.cells.size]!)) (by simp [Value.cells, hc]) (by simp)
    simpa [Value.cells] using this

end
theorem bslK (K : List UInt8) (hK : K.length = 32) (w : World) : (Instr.buildSlice 24 1 [(0, kv K)].toArray).run Tryd.prog w = .ok (.slice (some ⟨w.heap.size, 0, none⟩) 1 1) (w.alloc (.cells (K.map byt).toArray 23)) :=
  run_bs1 w 24 23 (K.map byt) ul24 (by kernel_rfl) (by kernel_rfl) (by rw [List.length_map, hK])
/-- A list is appended to a list of one's own. -/
theorem Kr.push {w : World} {v : Value} {X : List UInt8} {n : Nat} (h : Kr w v X n) {u : Value} {Y : List UInt8} {m : Nat} (hu : Kr w u Y m) (hl : n + m ≤ 1000) (ty : TypeId) : ∃ v' w', (Builtin.append_ #[24, 24] ty #[v, u]).run Tryd.prog w = .ok v' w' ∧ Kr w' v' (X ++ Y) (n + m) ∧ Fx (fun k => v.ownBlock = some k) w w' ∧ Nw w v v' := by
  obtain ⟨i, hi, hz0, hz1, hz2⟩ := info_parts infoK
  obtain ⟨hy, ⟨rfl, rfl⟩ | ⟨g, cp, cur, rfl, _, hh, hn, _, hs, ht⟩⟩ := hu.row
  · have : Y = [] := List.eq_nil_of_length_eq_zero (by have := hu.len; omega)
    subst this
    exact ⟨_, w, run_append_owned_none (P := Tryd.prog) w 0 24 ty 23 i 32 ul24 hi v _ _ h.row, by simpa using h, Fx.refl _ _, fun k hk => .inl hk⟩
  · obtain ⟨v', w', r1, r2, r3, r4⟩ := run_appx w 24 ty 23 i _ 32 32 ul24 hi hz0 hz1 hz2 (by rfl) (by decide) v n (X.map byt) h.row ⟨g, 0, none⟩ m cp (Y.map byt) hy (fun j x hj => by
      have hj' : j < m * 32 := by
        have := (List.getElem?_eq_some_iff.1 hj).1
        omega
      rw [add_plain, cell_of_row _ _ j _ 23 (0, 0) hh]
      rw [← ht, List.getElem?_take, if_pos hj'] at hj
      rw [← Array.getElem?_toList]; exact hj) (byt_one Y) (by omega) (by decide)
    exact ⟨v', w', r1, ⟨by rw [List.map_append]; exact r2⟩, grown_fx r3, r4⟩
def raE (n : Nat) (q p : Nat) (x : Nat × Value) : List (Nat × Value) := [(1, .int .i64 (n : Int)), (2, .pointer (some ⟨q, 0, none⟩)), (4, .pointer (some ⟨p, 0, none⟩)), (7, x.2), (8, .int .i64 (x.1 : Int))]
def RaI (w : World) (K : List UInt8) (n q p : Nat) (x : Nat × Value) (W : World) : Prop := x.1 ≤ n ∧ Blk W q ((ahK K x.1).map byt) 23 ∧ Blk W p (z32.map byt) 23 ∧ Kr W x.2 (ahL K x.1) x.1 ∧ (∀ k, x.2.ownBlock = some k → k ≠ q ∧ k ≠ p ∧ w.heap.size ≤ k) ∧ Below w.heap.size w W
set_option maxRecDepth 100000 in
set_option maxHeartbeats 1000000 in
theorem rahead_ok (K : List UInt8) (hK : K.length = 32) (n : Nat) (hn : n ≤ 256) (w : World) (hS : St3 w) : Calls Tryd.prog 14 #[kv K, .int .i64 (n : Int)] w fun e w' => ∃ v, e = .returned (.tuple #[kv (ahK K n), v, .int .i64 0]) ∧ Kr w' v (ahL K n) n ∧ Below w.heap.size w w' := by
  obtain ⟨w1, q, r1, b1, l1, hq⟩ := box23 K w
  obtain ⟨w2, p, r2, b2, l2, hp⟩ := new23 w1
  have z1 : ¬ (n : Int) < 0 := by omega
  have z2 : ¬ (256 : Int) < (n : Int) := by omega
  have hpq : p ≠ q := by have := b1.lt; omega
  refine calls_of_args [kv K, .int .i64 (n : Int)] Tryd.func14 rfl 35 Tryd.ntmps14 (by show 2 ≤ 35; decide) ?_
  refine EW.seq ?_
  refine EW.region ?_
  refine WL.box rfl rfl rfl r1 ?_
  refine WL.new rfl rfl r2 ?_
  first | refine WL.assign rfl rfl rfl ?_
  first | refine WL.assign rfl rfl rfl ?_
  refine WL.done ?_
  refine EW.on ?_
  refine EW.seq ?_
  refine EW.seq ?_
  refine EW.region ?_
  first | refine WL.move rfl rfl rfl ?_
  first | refine WL.bin rfl rfl rfl rfl (int_lt_t ‹_› _ _ _) ?_ | refine WL.bin rfl rfl rfl rfl (int_lt_f ‹_› _ _ _) ?_ | refine WL.bin rfl rfl rfl rfl (int_lt_d _ _ _ _ _) ?_
  first | refine WL.move rfl rfl rfl ?_
  first | refine WL.move rfl rfl rfl ?_ | refine WL.skip _ rfl rfl rfl ?_
  first | refine WL.bin rfl rfl rfl rfl (int_gt_t ‹_› _ _ _) ?_ | refine WL.bin rfl rfl rfl rfl (int_gt_f ‹_› _ _ _) ?_ | refine WL.bin rfl rfl rfl rfl (int_gt_d _ _ _ _ _) ?_ | refine WL.skip _ rfl rfl rfl ?_
  first | refine WL.pick rfl rfl rfl rfl ?_
  refine WL.done ?_
  refine EW.on ?_
  refine EW.cond_f rfl ?_
  refine EW.skip ?_
  refine EW.on ?_
  refine EW.seq ?_
  refine EW.region ?_
  first | refine WL.assign rfl rfl rfl ?_
  refine WL.done ?_
  refine EW.on ?_
  refine EW.seq ?_
  refine EW.seq ?_
  refine EW.region ?_
  first | refine WL.assign rfl rfl rfl ?_
  refine WL.done ?_
  refine EW.on ?_
  refine EW.block ?_
  refine EW.loop (raE n q p) (RaI w K n q p) (fun x => n - x.1) (0, .slice none 0 0) [1, 2, 4, 7, 8] rfl ⟨Nat.zero_le _, b1.on l2, b2, Kr.nil _, fun k hk => (by cases hk), bt l1 l2⟩ ?_
  rintro ⟨t, v⟩ wi ⟨htl, bq, bp, kr, hv, be⟩
  dsimp only at htl bq kr hv
  have hKt := ahK_len K hK t
  show EW _ _ _ _ [(1, .int .i64 (n : Int)), (2, .pointer (some ⟨q, 0, none⟩)), (4, .pointer (some ⟨p, 0, none⟩)), (7, v), (8, .int .i64 (t : Int))] _
  refine EW.seq ?_
  refine EW.seq ?_
  refine EW.region ?_
  first | refine WL.move rfl rfl rfl ?_
  first | refine WL.move rfl rfl rfl ?_
  first | refine WL.bin rfl rfl rfl rfl (int_lt_t ‹_› _ _ _) ?_ | refine WL.bin rfl rfl rfl rfl (int_lt_f ‹_› _ _ _) ?_ | refine WL.bin rfl rfl rfl rfl (int_lt_d _ _ _ _ _) ?_
  refine WL.done ?_
  refine EW.on ?_
  refine EW.cond_d rfl (fun h20 => ?_) (fun h20 => ?_)
  · refine EW.skip ?_
    refine EW.on ?_
    refine EW.seq ?_
    refine EW.block ?_
    refine EW.seq ?_
    have hlt : t < n := by omega
    refine EW.region ?_
    refine WL.load rfl rfl rfl (ld23 bq hKt) ?_
    refine WL.call [kv (ahK K t)] enter13 rfl rfl rfl (rstep_any (ahK K t) _ _ hKt rfl rfl wi ((hS.on be))) ?_
    rintro e w5 ⟨rfl, l5⟩
    refine ⟨_, rfl, ?_⟩
    obtain ⟨g9, g10, x1, x2, x3, w6, s1, s2, s3, s4, b9, b10, l6, hg9, hg10⟩ := new2 w5 _ _ (nxK_len (ahK K t)) (msK_len (ahK K t))
    have l56 := bt l5 l6
    first | refine WL.move rfl rfl rfl ?_
    first | refine WL.extract rfl rfl rfl (ext_2 _ _ _).1 ?_
    first | refine WL.extract rfl rfl rfl (ext_2 _ _ _).2 ?_
    refine WL.new rfl rfl s1 ?_
    refine WL.new rfl rfl s2 ?_
    refine WL.store rfl rfl rfl s3 ?_
    refine WL.store rfl rfl rfl s4 ?_
    refine WL.done ?_
    refine EW.on ?_
    refine EW.seq ?_
    refine EW.region ?_
    first | refine WL.move rfl rfl rfl ?_
    refine WL.load rfl rfl rfl (ld23 b10 (msK_len (ahK K t))) ?_
    refine WL.bslN [(0, kv (msK (ahK K t)))] rfl rfl rfl (bslK _ (msK_len (ahK K t)) _) ?_
    have l7 := below_new w6 (.cells ((msK (ahK K t)).map byt).toArray 23)
    have l57 := bt l56 l7
    obtain ⟨v', w8, a1, a2, a3, a4⟩ := (kr.on l57).push (Kr.of (n := 1) (Blk.new w6 ((msK (ahK K t)).map byt) 23) (msK_len (ahK K t)) (by omega)) (by omega) 24
    refine WL.app rfl rfl rfl rfl a1 ?_
    have hq8 := ((bq.on l57).fx a3 (fun e => (hv q e).1 rfl))
    first | refine WL.assign rfl rfl rfl ?_
    refine WL.done ?_
    refine EW.on ?_
    refine EW.region ?_
    refine WL.load rfl rfl rfl (ld23 ((b9.on l7).fx a3 (fun e => by have := kr.lt e; have := l5.size; omega)) (nxK_len (ahK K t))) ?_
    obtain ⟨w9, s9, b99, f9⟩ := st23 hq8 hKt (nxK_len (ahK K t))
    refine WL.store rfl rfl rfl s9 ?_
    refine WL.done ?_
    refine pn_block ?_
    refine EW.on ?_
    refine EW.region ?_
    first | refine WL.move rfl rfl rfl ?_
    refine WL.bin rfl rfl rfl rfl (int_add (c := ((t + 1 : Nat) : Int)) (by rw [IntKind.wrap_i64]; omega) _ _ _) ?_
    first | refine WL.assign rfl rfl rfl ?_
    refine WL.done ?_
    have hnq : ∀ k, v'.ownBlock = some k → k ≠ q ∧ k ≠ p ∧ w.heap.size ≤ k := fun k hk => by
      rcases a4 k hk with e | e
      · exact hv k e
      · have h1 := bq.lt
        have h2 := bp.lt
        have h3 := l57.size
        have h4 := be.size
        exact ⟨by omega, by omega, by omega⟩
    have be8 : Below w.heap.size w w8 := (bt be l57).trans (a3.below (fun k hk e => by have := (hv k e).2.2; omega) (bt be l57).size)
    refine EW.again (E := raE n q p) (R := RaI w K n q p) (m := fun x => n - x.1) (x := (t, v)) (t + 1, v') [1, 2, 4, 7, 8] rfl ⟨by show t + 1 ≤ n; omega, b99, ((bp.on l57).fx a3 (fun e => (hv p e).2.1 rfl)).fx f9 hpq, a2.fx f9 (fun k hk e => (hnq k hk).1 e), hnq, bf be8 f9 (by omega)⟩ (by show n - (t + 1) < n - t; omega)
  · refine EW.exit ?_
    refine px_then ?_
    refine px_then ?_
    refine px_block ?_
    refine EW.on ?_
    refine EW.seq ?_
    obtain rfl : t = n := by omega
    refine EW.region ?_
    refine WL.load rfl rfl rfl (ld23 bq hKt) ?_
    first | refine WL.move rfl rfl rfl ?_
    obtain ⟨w8, s8, b8, f8⟩ := st23 bp z32l hKt
    refine WL.store rfl rfl rfl s8 ?_
    first | refine WL.assign rfl rfl rfl ?_
    first | refine WL.assign rfl rfl rfl ?_
    refine WL.done ?_
    refine EW.on ?_
    refine EW.ret ?_
    exact EW.retKTT Tryd.results14 rfl rfl rfl b8 hKt ⟨v, rfl, kr.fx f8 (fun k hk e => (hv k hk).2.1 e), bf be f8 (by have := l1.size; omega)⟩
set_option maxRecDepth 100000 in
set_option maxHeartbeats 1000000 in
theorem rahead_no (K : List UInt8) (n : Int) (hn : n < 0 ∨ 256 < n) (w : World) : Calls Tryd.prog 14 #[kv K, .int .i64 n] w fun e w' => e = .returned (.tuple #[kv z32, .slice none 0 0, .int .i64 4]) ∧ Below w.heap.size w w' := by
  obtain ⟨w1, q, r1, b1, l1, hq⟩ := box23 K w
  obtain ⟨w2, p, r2, b2, l2, hp⟩ := new23 w1
  rcases Classical.em (n < 0) with z1 | z1
  · refine calls_of_args [kv K, .int .i64 n] Tryd.func14 rfl 35 Tryd.ntmps14 (by show 2 ≤ 35; decide) ?_
    refine EW.seq ?_
    refine EW.region ?_
    refine WL.box rfl rfl rfl r1 ?_
    refine WL.new rfl rfl r2 ?_
    first | refine WL.assign rfl rfl rfl ?_
    first | refine WL.assign rfl rfl rfl ?_
    refine WL.done ?_
    refine EW.on ?_
    refine EW.seq ?_
    refine EW.seq ?_
    refine EW.region ?_
    first | refine WL.move rfl rfl rfl ?_
    first | refine WL.bin rfl rfl rfl rfl (int_lt_t ‹_› _ _ _) ?_ | refine WL.bin rfl rfl rfl rfl (int_lt_f ‹_› _ _ _) ?_ | refine WL.bin rfl rfl rfl rfl (int_lt_d _ _ _ _ _) ?_
    first | refine WL.move rfl rfl rfl ?_
    first | refine WL.move rfl rfl rfl ?_ | refine WL.skip _ rfl rfl rfl ?_
    first | refine WL.bin rfl rfl rfl rfl (int_gt_t ‹_› _ _ _) ?_ | refine WL.bin rfl rfl rfl rfl (int_gt_f ‹_› _ _ _) ?_ | refine WL.bin rfl rfl rfl rfl (int_gt_d _ _ _ _ _) ?_ | refine WL.skip _ rfl rfl rfl ?_
    first | refine WL.pick rfl rfl rfl rfl ?_
    refine WL.done ?_
    refine EW.on ?_
    refine EW.cond_t rfl ?_
    refine EW.seq ?_
    refine EW.region ?_
    refine WL.buildN [] rfl rfl rfl (bld23 _) ?_
    obtain ⟨w3, r3, b3, f3⟩ := st23 b2 z32l z32l
    refine WL.store rfl rfl rfl r3 ?_
    first | refine WL.assign rfl rfl rfl ?_
    first | refine WL.assign rfl rfl rfl ?_
    refine WL.done ?_
    refine EW.on ?_
    refine EW.ret ?_
    refine pr_then ?_
    exact EW.retKTT Tryd.results14 rfl rfl rfl b3 z32l ⟨rfl, bf (bt l1 l2) f3 (by have := l1.size; omega)⟩
  · have z2 : 256 < n := by omega
    refine calls_of_args [kv K, .int .i64 n] Tryd.func14 rfl 35 Tryd.ntmps14 (by show 2 ≤ 35; decide) ?_
    refine EW.seq ?_
    refine EW.region ?_
    refine WL.box rfl rfl rfl r1 ?_
    refine WL.new rfl rfl r2 ?_
    first | refine WL.assign rfl rfl rfl ?_
    first | refine WL.assign rfl rfl rfl ?_
    refine WL.done ?_
    refine EW.on ?_
    refine EW.seq ?_
    refine EW.seq ?_
    refine EW.region ?_
    first | refine WL.move rfl rfl rfl ?_
    first | refine WL.bin rfl rfl rfl rfl (int_lt_t ‹_› _ _ _) ?_ | refine WL.bin rfl rfl rfl rfl (int_lt_f ‹_› _ _ _) ?_ | refine WL.bin rfl rfl rfl rfl (int_lt_d _ _ _ _ _) ?_
    first | refine WL.move rfl rfl rfl ?_
    first | refine WL.move rfl rfl rfl ?_ | refine WL.skip _ rfl rfl rfl ?_
    first | refine WL.bin rfl rfl rfl rfl (int_gt_t ‹_› _ _ _) ?_ | refine WL.bin rfl rfl rfl rfl (int_gt_f ‹_› _ _ _) ?_ | refine WL.bin rfl rfl rfl rfl (int_gt_d _ _ _ _ _) ?_ | refine WL.skip _ rfl rfl rfl ?_
    first | refine WL.pick rfl rfl rfl rfl ?_
    refine WL.done ?_
    refine EW.on ?_
    refine EW.cond_t rfl ?_
    refine EW.seq ?_
    refine EW.region ?_
    refine WL.buildN [] rfl rfl rfl (bld23 _) ?_
    obtain ⟨w3, r3, b3, f3⟩ := st23 b2 z32l z32l
    refine WL.store rfl rfl rfl r3 ?_
    first | refine WL.assign rfl rfl rfl ?_
    first | refine WL.assign rfl rfl rfl ?_
    refine WL.done ?_
    refine EW.on ?_
    refine EW.ret ?_
    refine pr_then ?_
    exact EW.retKTT Tryd.results14 rfl rfl rfl b3 z32l ⟨rfl, bf (bt l1 l2) f3 (by have := l1.size; omega)⟩
end Go.Proofs.YtbghjabojgedaaaDoor
