import Derived.Test.YteghbkeaojbdgaaQb
import Derived.Laws.MakeOwn
set_option linter.unusedVariables false
set_option linter.unusedSimpArgs false
namespace Go.Proofs.Yteghbkeaojbdgaa
open Go.RowKit

theorem made_one (z : Value) (hz : z.cells = #[z]) (n : Nat) : madeCells z.cells n = (List.replicate n z).toArray := by
  rw [hz]
  apply Array.ext
  · simp [size_madeCells]
  · intro i h1 h2
    simp [madeCells]
    rw [Nat.mod_one]; rfl
theorem run_mk22 (w : World) (l : Nat) (h : l ≤ 140737488355328) : (Instr.makeSlice 22 (.int .i64 (l : Int)) (.int .i64 (l : Int))).run Try.prog w = .ok (.slice (some ⟨w.heap.size, 0, none⟩) l l) (w.alloc (.cells ((List.replicate l (0 : UInt8)).map byt).toArray 5)) := by
  obtain ⟨i0, hi, hz0, hz1, hz2⟩ := info_parts Try.info5
  have hrun := run_make (P := Try.prog) w 22 5 i0 (.int .u8 0) Try.underlying22 hi hz0 .i64 .i64 l l (by omega) (by omega) (by rw [hz2]; omega) (by omega)
  rw [hz1, Int.toNat_natCast, Nat.mul_one, made_one _ rfl] at hrun
  rw [hrun, List.map_replicate]
  rfl
theorem flatB_one (a : Value) (ys : List UInt8) : flatB [(a, ys)] = ys := by simp [flatB]
theorem Wr.apart {w : World} {b q : Nat} {v : Value} {bs : List UInt8} (h : Wr w b q v bs) {q3 : Nat} {cs : List Value} {t : TypeId} (hb : Blk w q3 cs t) (h5 : t ≠ 5) (h71 : t ≠ 71) : ¬ (q3 = q ∨ v.ownBlock = some q3) := by
  unfold Blk at hb
  rintro (e | e)
  · have := h.bl
    unfold Blk at this
    rw [← e, hb] at this
    simp at this
    exact h71 this.2
  · obtain ⟨_, cur, hc⟩ := h.ob.lt e
    rw [hb] at hc
    simp at hc
    exact h5 hc.2
theorem wr_trans {w w1 w2 : World} {q : Nat} {v v1 v2 : Value} (hf : Fx (fun k => k = q ∨ v.ownBlock = some k) w w1) (hn : Nw w v v1) (hf1 : Fx (fun k => k = q ∨ v1.ownBlock = some k) w1 w2) (hn1 : Nw w1 v1 v2) : Fx (fun k => k = q ∨ v.ownBlock = some k) w w2 ∧ Nw w v v2 := by
  refine ⟨hf.trans hf1 (fun k hk e => ?_), fun k hk => ?_⟩
  · rcases e with e | e
    · exact .inl e
    · rcases hn k e with e' | e'
      · exact .inr e'
      · omega
  · rcases hn1 k hk with e | e
    · exact hn k e
    · exact .inr (by have := hf.size; omega)
/-- A record's bytes lie ahead of block b. -/
def RV.old (r : RV) (b : Nat) : Prop := ∀ k, b ≤ k → r.off k
theorem Wr.keep {w w' : World} {b q : Nat} {v : Value} {bs : List UInt8} (h : Wr w b q v bs) {r : RV} (hr : r.ok w) (ho : r.old b) (hf : Fx (fun k => k = q ∨ v.ownBlock = some k) w w') : r.ok w' :=
  hr.fx hf fun k hk => by
    rcases hk with e | e
    · exact ho k (by have := h.bq; omega)
    · exact ho k (h.ob.base k e)
/-- A record's bytes in a page. -/
def encD (d : Rc) : List UInt8 := [UInt8.ofNat d.t.toNat, UInt8.ofNat d.k.length] ++ d.k ++ [UInt8.ofNat (d.v.length / 256), UInt8.ofNat (d.v.length % 256)] ++ d.v
theorem enc_len (d : Rc) : (encD d).length = sizeD d := by simp [encD, sizeD]; omega
set_option maxRecDepth 100000 in
set_option maxHeartbeats 1000000 in
theorem write_any (b q : Nat) (v : Value) (bs : List UInt8) (x : RV) (w : World) (hw : Wr w b q v bs) (hbw : b ≤ w.heap.size) (hx : x.ok w) (ho : x.old b) (hd : okD x.d) (hl : bs.length + sizeD x.d ≤ 1008) : Calls Try.prog 25 #[.pointer (some ⟨q, 0, none⟩), x.val] w (WrS w b q v (bs ++ encD x.d)) := by
  obtain ⟨w1, q1, r1, bx1, e1, hq1⟩ := box32 x w
  have wr1 := hw.below e1
  have ok1 := hx.below e1
  have l1 := e1.size
  have h1 : 0 ≤ x.t := hd.1
  have h2 : x.t ≤ 15 := hd.2.1
  have h4 : x.k.length ≤ 64 := hd.2.2.2.1
  have h5 : x.v.length ≤ 900 := hd.2.2.2.2
  have hsz : sizeD x.d = 4 + x.k.length + x.v.length := rfl
  have ht : x.t = (x.t.toNat : Int) := by omega
  refine calls_of_args [.pointer (some ⟨q, 0, none⟩), x.val] Try.func25 rfl 22 Try.ntmps25 (by show 2 ≤ 22; decide) ?_
  refine EW.seq ?_
  refine EW.region ?_
  refine WL.box rfl rfl rfl r1 ?_
  refine WL.done ?_
  refine EW.on ?_
  refine EW.seq ?_
  refine EW.region ?_
  first | refine WL.move rfl rfl rfl ?_
  refine WL.field rfl rfl rfl (rfld0 _ _) ?_
  refine WL.load rfl rfl rfl (ldI bx1 rfl) ?_
  refine WL.call [.pointer (some ⟨q, 0, none⟩), .int .i64 x.t] enter40 rfl rfl rfl (by rw [ht]; exact u8_any b q v bs x.t.toNat (by omega) _ wr1 (by omega) (by omega)) ?_
  rintro _ w2 ⟨rfl, v2, wr2, f2, n2⟩
  have bx2 := bx1.fx f2 (wr1.apart bx1 (by decide) (by decide))
  have ok2 := wr1.keep ok1 ho f2
  have l2 := f2.size
  refine ⟨_, rfl, ?_⟩
  refine WL.done ?_
  refine EW.on ?_
  refine EW.seq ?_
  refine EW.region ?_
  first | refine WL.move rfl rfl rfl ?_
  refine WL.field rfl rfl rfl (rfld1 _ _) ?_
  refine WL.load rfl rfl rfl (ldS bx2 rfl) ?_
  refine WL.len rfl rfl rfl (ok2.hk.len _ _) ?_
  refine WL.call [.pointer (some ⟨q, 0, none⟩), .int .i64 (x.k.length : Int)] enter40 rfl rfl rfl (u8_any b q v2 _ x.k.length (by omega) _ wr2 (by omega) (by simp; omega)) ?_
  rintro _ w3 ⟨rfl, v3, wr3, f3, n3⟩
  have bx3 := bx2.fx f3 (wr2.apart bx2 (by decide) (by decide))
  have ok3 := wr2.keep ok2 ho f3
  have l3 := f3.size
  refine ⟨_, rfl, ?_⟩
  refine WL.done ?_
  refine EW.on ?_
  refine EW.seq ?_
  refine EW.region ?_
  first | refine WL.move rfl rfl rfl ?_
  refine WL.field rfl rfl rfl (rfld1 _ _) ?_
  refine WL.load rfl rfl rfl (ldS bx3 rfl) ?_
  refine WL.bslN [(0, x.vk)] rfl rfl rfl (bsl74_1 _ ok3.hk.sl _) ?_
  have nb := below_new w3 (.cells [x.vk].toArray 22)
  have hBp : Bp (w3.alloc (.cells [x.vk].toArray 22)) w3.heap.size [(x.vk, x.k)] := ⟨Blk.new _ _ _, fun p hp => by rw [List.mem_singleton.1 hp]; exact ok3.hk.below nb⟩
  refine WL.call [.pointer (some ⟨q, 0, none⟩), .slice (some ⟨w3.heap.size, 0, none⟩) 1 1] enter26 rfl rfl rfl (fixed_any b q w3.heap.size 1 v3 _ [(x.vk, x.k)] _ (wr3.below nb) hBp (by have := nb.size; omega) (by have := wr3.bl.lt; omega) (fun p hp => by rw [List.mem_singleton.1 hp]; exact fun k hk => (ho k (wr3.ob.base k hk)).1) (by show 1 ≤ 1000; decide) (by simp [flatB]; omega)) ?_
  rintro _ w4 ⟨rfl, v4, wr4, f4', n4'⟩
  obtain ⟨f4, n4⟩ := wr_after (b := b) nb f4' n4'
  have bx4 := bx3.fx f4 (wr3.apart bx3 (by decide) (by decide))
  have ok4 := wr3.keep ok3 ho f4
  have l4 := f4.size
  refine ⟨_, rfl, ?_⟩
  refine WL.done ?_
  refine EW.on ?_
  refine EW.region ?_
  first | refine WL.move rfl rfl rfl ?_
  refine WL.field rfl rfl rfl (rfld2 _ _) ?_
  refine WL.load rfl rfl rfl (ldS bx4 rfl) ?_
  refine WL.call [.pointer (some ⟨q, 0, none⟩), x.vv] enter41 rfl rfl rfl (run_any b q v4 _ x.vv x.v _ wr4 (by omega) ok4.hv (fun k hk => (ho k (wr4.ob.base k hk)).2) (by simp [flatB]; omega)) ?_
  rintro _ w5 ⟨rfl, v5, wr5, f5, n5⟩
  refine ⟨_, rfl, ?_⟩
  refine WL.done ?_
  obtain ⟨fa, na⟩ := wr_trans f2 n2 f3 n3
  obtain ⟨fb, nb'⟩ := wr_trans fa na f4 n4
  obtain ⟨fc, nc⟩ := wr_trans fb nb' f5 n5
  obtain ⟨fd, nd⟩ := wr_after (b := b) e1 fc nc
  exact EW.falls Try.results25 ⟨rfl, v5, by simpa [flatB, encD, RV.d] using wr5, fd, nd⟩
set_option maxRecDepth 100000 in
set_option maxHeartbeats 1000000 in
theorem out_any (b q : Nat) (v : Value) (bs : List UInt8) (w : World) (hw : Wr w b q v bs) (hl : bs.length ≤ 1008) : Calls Try.prog 27 #[.pointer (some ⟨q, 0, none⟩)] w fun e w' => ∃ v', e = .returned (.tuple #[v', .int .i64 0]) ∧ Has w' v' bs ∧ Below w.heap.size w w' := by
  refine calls_of_args [.pointer (some ⟨q, 0, none⟩)] Try.func27 rfl 18 Try.ntmps27 (by show 1 ≤ 18; decide) ?_
  refine EW.seq ?_
  refine EW.region ?_
  first | refine WL.assign rfl rfl rfl ?_
  first | refine WL.assign rfl rfl rfl ?_
  refine WL.done ?_
  refine EW.on ?_
  refine EW.seq ?_
  refine EW.seq ?_
  refine EW.region ?_
  first | refine WL.move rfl rfl rfl ?_
  first | refine WL.nilc rfl rfl rfl ?_
  refine WL.field rfl rfl rfl (f71_2 q _) ?_
  refine WL.load rfl rfl rfl (ldE hw.bl rfl) ?_
  first | refine WL.bin rfl rfl rfl rfl (int_ne_f rfl _ _ _) ?_ | refine WL.bin rfl rfl rfl rfl (int_ne_t ‹_› _ _ _) ?_ | refine WL.bin rfl rfl rfl rfl (int_ne_f ‹_› _ _ _) ?_ | refine WL.bin rfl rfl rfl rfl (int_ne_t (by decide) _ _ _) ?_ | refine WL.bin rfl rfl rfl rfl (int_ne_d _ _ _ _ _) ?_
  refine WL.done ?_
  refine EW.on ?_
  refine EW.cond_f rfl ?_
  refine EW.skip ?_
  refine EW.on ?_
  refine EW.seq ?_
  refine EW.region ?_
  first | refine WL.move rfl rfl rfl ?_
  first | refine WL.nilc rfl rfl rfl ?_
  refine WL.field rfl rfl rfl (f71_1 q _) ?_
  refine WL.load rfl rfl rfl (ldS hw.bl rfl) ?_
  refine WL.call [v] enter43 rfl rfl rfl (clone_any v bs _ hw.ob.own.has (by omega)) ?_
  rintro _ w3 ⟨v', rfl, g1, g2, g3⟩
  refine ⟨_, rfl, ?_⟩
  first | refine WL.assign rfl rfl rfl ?_
  first | refine WL.assign rfl rfl rfl ?_
  refine WL.done ?_
  refine EW.on ?_
  refine EW.ret ?_
  exact EW.returns2 Try.results27 rfl rfl ⟨v', rfl, g1, g3⟩
/-- A page's content. -/
def encP (ds : List Rc) : List UInt8 := ds.flatMap encD ++ List.replicate (leftN 1008 ds).toNat 0
theorem left_enc : ∀ (ds : List Rc) (l : Int), leftN l ds = l - ((ds.flatMap encD).length : Int)
  | [], l => by simp [leftN]
  | d :: ds, l => by
    rw [leftN, left_enc ds, List.flatMap_cons, List.length_append, enc_len]; omega
theorem encP_len {ds : List Rc} (h : fitN 1008 ds = ds.length) : (encP ds).length = 1008 := by
  have h1 := fit_left ds 1008 ds.length (by decide) (by omega)
  rw [List.take_of_length_le (Nat.le_refl _)] at h1
  have h2 := left_enc ds 1008
  simp only [encP, List.length_append, List.length_replicate]
  omega
def enE (v : Value) (q n : Nat) (ds : List Rc) (x : Nat × Value) : List (Nat × Value) := [(5, .pointer (some ⟨q, 0, none⟩)), (7, .int .i64 (leftN 1008 (ds.take x.1))), (24, v), (25, .int .i64 (n : Int)), (26, .int .i64 (x.1 : Int))]
def EnR (w4 : World) (b q : Nat) (ds : List Rc) (x : Nat × Value) (W : World) : Prop := Below w4.heap.size w4 W ∧ x.1 ≤ ds.length ∧ Wr W b q x.2 ((ds.take x.1).flatMap encD)
theorem RV.ok.old {r : RV} {w : World} (h : r.ok w) : r.old w.heap.size := fun k hk => h.off hk
set_option maxRecDepth 100000 in
set_option maxHeartbeats 4000000 in
theorem encode_any (v : Value) (rs : List RV) (w : World) (hL : Ls w v rs) (hs : Srt (rs.map RV.d)) (hn : rs.length ≤ 1000000000) (hfit : fitN 1008 (rs.map RV.d) = rs.length) : Calls Try.prog 7 #[v] w fun e w' => ∃ v', e = .returned (.tuple #[v', .int .i64 0]) ∧ Has w' v' (encP (rs.map RV.d)) ∧ Below w.heap.size w w' := by
  have zlt : ¬ (rs.length : Int) < (rs.length : Int) := by omega
  refine calls_of_args [v] Try.func7 rfl 47 Try.ntmps7 (by show 1 ≤ 47; decide) ?_
  refine EW.seq ?_
  refine EW.region ?_
  first | refine WL.assign rfl rfl rfl ?_
  first | refine WL.assign rfl rfl rfl ?_
  refine WL.done ?_
  refine EW.on ?_
  refine EW.seq ?_
  refine EW.seq ?_
  refine EW.region ?_
  first | refine WL.move rfl rfl rfl ?_
  refine WL.call [v] enter22 rfl rfl rfl (fault_ok v rs _ hL hs (by omega)) ?_
  rintro _ w3 ⟨rfl, be3⟩
  refine ⟨_, rfl, ?_⟩
  first | refine WL.assign rfl rfl rfl ?_
  refine WL.done ?_
  refine EW.on ?_
  refine EW.seq ?_
  refine EW.region ?_
  first | refine WL.move rfl rfl rfl ?_
  first | refine WL.bin rfl rfl rfl rfl (int_ne_f rfl _ _ _) ?_ | refine WL.bin rfl rfl rfl rfl (int_ne_t ‹_› _ _ _) ?_ | refine WL.bin rfl rfl rfl rfl (int_ne_f ‹_› _ _ _) ?_ | refine WL.bin rfl rfl rfl rfl (int_ne_t (by decide) _ _ _) ?_ | refine WL.bin rfl rfl rfl rfl (int_ne_d _ _ _ _ _) ?_
  refine WL.done ?_
  refine EW.on ?_
  refine EW.cond_f rfl ?_
  refine EW.skip ?_
  refine EW.on ?_
  refine EW.seq ?_
  refine EW.seq ?_
  refine EW.region ?_
  first | refine WL.move rfl rfl rfl ?_
  refine WL.call [v] enter23 rfl rfl rfl (fit_any v rs _ (hL.below be3) (fun r hr => hs.sm hr) (by omega)) ?_
  rintro _ w4 ⟨rfl, be4⟩
  rw [hfit]
  refine ⟨_, rfl, ?_⟩
  first | refine WL.move rfl rfl rfl ?_
  refine WL.len rfl rfl rfl (hL.len _ _) ?_
  first | refine WL.bin rfl rfl rfl rfl (int_lt_t ‹_› _ _ _) ?_ | refine WL.bin rfl rfl rfl rfl (int_lt_f ‹_› _ _ _) ?_ | refine WL.bin rfl rfl rfl rfl (int_lt_d _ _ _ _ _) ?_
  refine WL.done ?_
  refine EW.on ?_
  refine EW.cond_f rfl ?_
  refine EW.skip ?_
  refine EW.on ?_
  refine EW.seq ?_
  refine EW.region ?_
  refine WL.call [.int .i64 1008] enter24 rfl rfl rfl (newW_any _) ?_
  rintro _ w5 ⟨q, rfl, wr5, be5⟩
  refine ⟨_, rfl, ?_⟩
  first | refine WL.move rfl rfl rfl ?_
  first | refine WL.extract rfl rfl rfl (ext_2 _ _ _).1 ?_
  first | refine WL.extract rfl rfl rfl (ext_2 _ _ _).2 ?_
  first | refine WL.assign rfl rfl rfl ?_
  first | refine WL.assign rfl rfl rfl ?_
  refine WL.done ?_
  refine EW.on ?_
  refine EW.seq ?_
  refine EW.region ?_
  first | refine WL.assign rfl rfl rfl ?_
  refine WL.done ?_
  refine EW.on ?_
  refine EW.seq ?_
  refine EW.seq ?_
  refine EW.region ?_
  first | refine WL.move rfl rfl rfl ?_
  refine WL.len rfl rfl rfl (hL.len _ _) ?_
  first | refine WL.move rfl rfl rfl ?_
  refine WL.done ?_
  refine EW.on ?_
  refine EW.block ?_
  refine EW.loop (enE v q rs.length (rs.map RV.d)) (EnR w4 w4.heap.size q (rs.map RV.d)) (fun x => rs.length - x.1) (0, .slice none 0 0) [5, 7, 24, 25, 26] rfl ⟨be5, Nat.zero_le _, wr5⟩ ?_
  rintro ⟨t, vi⟩ wi ⟨bei, htl, hwi⟩
  dsimp only at htl hwi
  rw [List.length_map] at htl
  show EW _ _ _ _ [(5, .pointer (some ⟨q, 0, none⟩)), (7, .int .i64 (leftN 1008 ((rs.map RV.d).take t))), (24, v), (25, .int .i64 (rs.length : Int)), (26, .int .i64 (t : Int))] _
  refine EW.seq ?_
  refine EW.region ?_
  first | refine WL.bin rfl rfl rfl rfl (int_lt_t ‹_› _ _ _) ?_ | refine WL.bin rfl rfl rfl rfl (int_lt_f ‹_› _ _ _) ?_ | refine WL.bin rfl rfl rfl rfl (int_lt_d _ _ _ _ _) ?_
  refine WL.done ?_
  refine EW.on ?_
  refine EW.seq ?_
  refine EW.cond_d rfl (fun h27 => ?_) (fun h27 => ?_)
  · refine EW.skip ?_
    refine EW.on ?_
    refine EW.seq ?_
    refine EW.block ?_
    refine EW.seq ?_
    have ht : t < rs.length := by omega
    have tn : IntKind.i64.wrap ((t : Int) + 1) = ((t + 1 : Nat) : Int) := by rw [IntKind.wrap_i64]; omega
    obtain ⟨x, hx⟩ : ∃ x, rs[t]? = some x := ⟨_, List.getElem?_eq_getElem ht⟩
    have hxm : x ∈ rs := List.mem_of_getElem? hx
    have hL4 := (hL.below be3).below be4
    have okx4 := hL4.ok x hxm
    have hLi := hL4.below bei
    obtain ⟨adx, ix, ax⟩ := hLi.item hx
    have okx := hLi.ok x hxm
    have hxd : okD x.d := hs.ok _ (List.mem_map_of_mem hxm)
    have hstep : leftN 1008 ((rs.map RV.d).take (t + 1)) = leftN 1008 ((rs.map RV.d).take t) - (sizeD x.d : Int) := by rw [List.take_add_one, d_at hx]; exact leftN_snoc _ _ _
    have hl1 := fit_left (rs.map RV.d) 1008 (t + 1) (by decide) (by omega)
    have hl2 := left_enc ((rs.map RV.d).take t) 1008
    have hl3 := leftN_le 1008 ((rs.map RV.d).take t)
    have hsum : (((rs.map RV.d).take t).flatMap encD).length + sizeD x.d ≤ 1008 := by omega
    have lw : IntKind.i64.wrap (leftN 1008 ((rs.map RV.d).take t) - (sizeR x : Int)) = leftN 1008 ((rs.map RV.d).take (t + 1)) := by rw [hstep, sizeR_d, IntKind.wrap_i64]; omega
    refine EW.region ?_
    refine WL.index rfl rfl rfl rfl (ix _) ?_
    refine WL.load rfl rfl rfl (ldA ax) ?_
    obtain ⟨w7, q7, r7, b7, be7, hq7⟩ := new32 wi
    refine WL.new rfl rfl r7 ?_
    obtain ⟨w8, s8, b8, x8⟩ := st32 b7 rfl okx.one
    refine WL.store rfl rfl rfl s8 ?_
    have be8 : Below wi.heap.size wi w8 := be7.trans (x8.below (fun k hk e => by omega) be7.size)
    have wr8 := hwi.below be8
    refine WL.done ?_
    refine EW.on ?_
    refine EW.seq ?_
    refine EW.region ?_
    first | refine WL.move rfl rfl rfl ?_
    refine WL.load rfl rfl rfl (ld32 b8) ?_
    refine WL.call [.pointer (some ⟨q, 0, none⟩), x.val] enter25 rfl rfl rfl (write_any w4.heap.size q vi _ x _ wr8 (by have := be8.size; have := bei.size; omega) (okx.below be8) okx4.old hxd hsum) ?_
    rintro _ w9 ⟨rfl, v9, wr9, f9, n9⟩
    refine ⟨_, rfl, ?_⟩
    refine WL.done ?_
    refine EW.on ?_
    refine EW.region ?_
    first | refine WL.move rfl rfl rfl ?_
    refine WL.load rfl rfl rfl (ld32 (b8.fx f9 (wr8.apart b8 (by decide) (by decide)))) ?_
    refine WL.call [x.val] enter19 rfl rfl rfl (size_any x _ (wr8.keep (okx.below be8) okx4.old f9) (hs.sm hxm).1 (hs.sm hxm).2) ?_
    rintro _ w10 ⟨rfl, be10⟩
    refine ⟨_, rfl, ?_⟩
    first | refine WL.bin rfl rfl rfl rfl (int_sub ‹_› _ _ _) ?_
    first | refine WL.assign rfl rfl rfl ?_
    refine WL.done ?_
    refine pn_block ?_
    refine EW.on ?_
    refine EW.region ?_
    first | refine WL.bin rfl rfl rfl rfl (int_add ‹_› _ _ _) ?_
    first | refine WL.move rfl rfl rfl ?_
    refine WL.done ?_
    refine EW.again (E := enE v q rs.length (rs.map RV.d)) (R := EnR w4 w4.heap.size q (rs.map RV.d)) (m := fun x => rs.length - x.1) (x := (t, vi)) (t + 1, v9) [5, 7, 24, 25, 26] rfl ⟨?_, by show t + 1 ≤ _; rw [List.length_map]; omega, ?_⟩ (by show rs.length - (t + 1) < rs.length - t; omega)
    · have b1 := bei.trans (be8.mono bei.size)
      have b2 := b1.trans (f9.below (fun k hk e => by
        rcases e with e | e
        · have := wr8.bq; omega
        · have := wr8.ob.base k e; omega) b1.size)
      exact b2.trans (be10.mono b2.size)
    · show Wr w10 w4.heap.size q v9 (((rs.map RV.d).take (t + 1)).flatMap encD)
      have e : ((rs.map RV.d).take (t + 1)).flatMap encD = ((rs.map RV.d).take t).flatMap encD ++ encD x.d := by rw [List.take_add_one, d_at hx]; simp
      rw [e]
      exact wr9.below be10
  · refine EW.exit ?_
    refine px_then ?_
    refine px_then ?_
    refine px_block ?_
    refine EW.on ?_
    refine EW.seq ?_
    have hte : (rs.map RV.d).take t = rs.map RV.d := List.take_of_length_le (by rw [List.length_map]; omega)
    rw [hte] at hwi ⊢
    have hl1 := fit_left (rs.map RV.d) 1008 rs.length (by decide) (by omega)
    rw [List.take_of_length_le (by rw [List.length_map]; exact Nat.le_refl _)] at hl1
    have hl2 := left_enc (rs.map RV.d) 1008
    obtain ⟨l, hll⟩ : ∃ l, (leftN 1008 (rs.map RV.d)).toNat = l := ⟨_, rfl⟩
    have hl0 : leftN 1008 (rs.map RV.d) = (l : Int) := by omega
    refine EW.region ?_
    first | refine WL.move rfl rfl rfl ?_
    first | refine WL.move rfl rfl rfl ?_
    rw [hl0]
    refine WL.mks rfl rfl rfl rfl (run_mk22 _ l (by omega)) ?_
    have b11 := below_new wi (.cells ((List.replicate l (0 : UInt8)).map byt).toArray 5)
    have hh11 : Has (wi.alloc (.cells ((List.replicate l (0 : UInt8)).map byt).toArray 5)) (.slice (some ⟨wi.heap.size, 0, none⟩) l l) (List.replicate l 0) := by have := Has.new (bs := List.replicate l (0 : UInt8)) (Blk.new wi _ 5) l (by simp); simpa using this
    obtain ⟨w11, hw11⟩ : ∃ w11, wi.alloc (.cells ((List.replicate l (0 : UInt8)).map byt).toArray 5) = w11 := ⟨_, rfl⟩
    rw [hw11] at b11 hh11 ⊢
    refine WL.bslN [(0, .slice (some ⟨wi.heap.size, 0, none⟩) l l)] rfl rfl rfl (bsl74_1 _ ⟨_, _, _, rfl⟩ _) ?_
    have b12 := below_new w11 (.cells [.slice (some ⟨wi.heap.size, 0, none⟩) l l].toArray 22)
    have hBp : Bp (w11.alloc (.cells [.slice (some ⟨wi.heap.size, 0, none⟩) l l].toArray 22)) w11.heap.size [(.slice (some ⟨wi.heap.size, 0, none⟩) l l, List.replicate l 0)] := ⟨Blk.new _ _ _, fun p hp => by rw [List.mem_singleton.1 hp]; exact hh11.below b12⟩
    refine WL.call [.pointer (some ⟨q, 0, none⟩), .slice (some ⟨w11.heap.size, 0, none⟩) 1 1] enter26 rfl rfl rfl (fixed_any w4.heap.size q w11.heap.size 1 vi _ [(.slice (some ⟨wi.heap.size, 0, none⟩) l l, List.replicate l 0)] _ ((hwi.below b11).below b12) hBp (by have := b12.size; have := b11.size; have := bei.size; omega) (by have := (hwi.below b11).bl.lt; omega) (fun p hp => by rw [List.mem_singleton.1 hp]; exact fresh_off hwi wi.heap.size _ _ _ (Nat.le_refl _)) (by show 1 ≤ 1000; decide) (by rw [flatB_one, List.length_replicate]; omega)) ?_
    rintro _ w13 ⟨rfl, v13, wr13, f13, n13⟩
    refine ⟨_, rfl, ?_⟩
    refine WL.done ?_
    refine EW.on ?_
    refine EW.seq ?_
    refine EW.region ?_
    first | refine WL.move rfl rfl rfl ?_
    refine WL.call [.pointer (some ⟨q, 0, none⟩)] enter27 rfl rfl rfl (out_any w4.heap.size q v13 _ _ wr13 (by rw [flatB_one, List.length_append, List.length_replicate]; omega)) ?_
    rintro _ w14 ⟨v14, rfl, g1, g2⟩
    refine ⟨_, rfl, ?_⟩
    first | refine WL.extract rfl rfl rfl (ext_2 _ _ _).1 ?_
    first | refine WL.extract rfl rfl rfl (ext_2 _ _ _).2 ?_
    first | refine WL.assign rfl rfl rfl ?_
    first | refine WL.assign rfl rfl rfl ?_
    refine WL.done ?_
    refine EW.on ?_
    refine EW.ret ?_
    have bA := be3.trans (be4.mono be3.size)
    have bB := bA.trans (bei.mono bA.size)
    have bC := bB.trans (b11.mono bB.size)
    have bD := bC.trans (b12.mono bC.size)
    have bE : Below w.heap.size w w13 := bD.trans (f13.below (fun k hk e => by
      rcases e with e | e
      · have := hwi.bq; have := bA.size; omega
      · have := hwi.ob.base k e; have := bA.size; omega) bD.size)
    exact EW.returns2 Try.results7 rfl rfl ⟨v14, rfl, by rw [encP, hll]; simpa [flatB] using g1, bE.trans (g2.mono bE.size)⟩
end Go.Proofs.Yteghbkeaojbdgaa
