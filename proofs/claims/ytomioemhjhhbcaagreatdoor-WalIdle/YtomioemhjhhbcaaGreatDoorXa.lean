import Derived.Test.YtomioemhjhhbcaaGreatDoorWqG
set_option linter.unusedVariables false
set_option linter.unusedSimpArgs false
namespace Go.Proofs.YtomioemhjhhbcaaGreatDoor
open Go.RowKit

/-- A page to be written: its number, where its bytes lie, its bytes. -/
structure Pw where
  n : Nat
  v : Value
  b : List UInt8
def pgC (x : Pw) : List Value := [.int .i64 (x.n : Int), x.v]
def Pw.ok (w : World) (x : Pw) : Prop := Has w x.v x.b ∧ x.b.length = 1024
/-- Pages to be written lie there. -/
structure Pws (w : World) (v : Value) (l : List Pw) : Prop where
  row : w.ownsRow 0 52 2 v l.length (l.flatMap pgC)
  has : ∀ x ∈ l, x.ok w
theorem Pws.fx {S : Nat → Prop} {w w' : World} {v : Value} {l : List Pw} (h : Pws w v l) (hf : Fx S w w') (hv : ∀ k, v.ownBlock = some k → ¬ S k) (hx : ∀ x ∈ l, ∀ k, x.v.ownBlock = some k → ¬ S k) : Pws w' v l := ⟨ownsRow_fx h.row hf hv, fun x hm => ⟨(h.has x hm).1.fx hf (hx x hm), (h.has x hm).2⟩⟩
theorem Pws.below {w w' : World} {v : Value} {l : List Pw} (h : Pws w v l) (hb : Below w.heap.size w w') : Pws w' v l := h.fx (Fx.of_below (S := fun _ => False) hb) (fun _ _ s => s) (fun _ _ _ _ s => s)
theorem pg_get : ∀ (l : List Pw) (t : Nat) (x : Pw), l[t]? = some x → ∀ j, j < 2 → (l.flatMap pgC)[2 * t + j]? = (pgC x)[j]?
  | [], t, x, h, j, hj => by simp at h
  | a :: r, 0, x, h, j, hj => by
    simp only [List.getElem?_cons_zero, Option.some.injEq] at h
    subst h
    rw [List.flatMap_cons, List.getElem?_append_left (by simp [pgC]; omega)]
    simp
  | a :: r, t + 1, x, h, j, hj => by
    simp only [List.getElem?_cons_succ] at h
    rw [List.flatMap_cons, List.getElem?_append_right (by simp [pgC]; omega), ← pg_get r t x h j hj]
    congr 1
    simp [pgC]
    omega
theorem idx72 (q t n cap : Nat) (h : t < n) (W : World) : (Instr.indexAt 36 (.slice (some ⟨q, 0, none⟩) n cap) (.int .i64 (t : Int))).run Tryz.prog W = .ok (.pointer (some ⟨q, 2 * t, none⟩)) W := by
  have hm : (t : Int) < (n : Int) := by omega
  have e : (⟨q, 0, none⟩ : Addr).add (t * 2) = ⟨q, 2 * t, none⟩ := by rw [add_plain0]; congr 1; omega
  rw [← e]
  go_simp
theorem info111 (x : Pw) : (Tryz.prog.info? 52).map (·.size) = some (pgC x).length := by kernel_rfl
theorem Pws.item {w : World} {v : Value} {l : List Pw} (h : Pws w v l) {t : Nat} {x : Pw} (hx : l[t]? = some x) : ∃ ad, (∀ W, (Instr.indexAt 36 v (.int .i64 (t : Int))).run Tryz.prog W = .ok (.pointer (some ad)) W) ∧ (Instr.loadAt 52 (.pointer (some ad))).run Tryz.prog w = .ok (.agg (pgC x).toArray) w := by
  have hlt := (List.getElem?_eq_some_iff.1 hx).1
  obtain ⟨hl, ⟨rfl, h0⟩ | ⟨g, cp, cur, rfl, hg, hh2, hnc, hc, hs, htk⟩⟩ := h.row
  · omega
  · refine ⟨_, fun W => idx72 g t _ cp hlt W, run_loadA (fun j u hj => ?_) Tryz.underlying52 rfl (info111 x)⟩
    have hj2 : j < 2 := by have := (List.getElem?_eq_some_iff.1 hj).1; simpa [pgC] using this
    have hbl : Blk w g cur.toList 52 := by unfold Blk; simpa using hh2
    rw [add_plain2, hbl.cell]
    have e1 : (List.take (l.length * 2) cur.toList)[2 * t + j]? = cur.toList[2 * t + j]? := by rw [List.getElem?_take_of_lt (by omega)]
    rw [← e1, htk, pg_get l t x hx j hj2]
    exact hj
theorem Pws.len {w : World} {v : Value} {l : List Pw} (h : Pws w v l) (ty : TypeId) (W : World) : (Builtin.len_ #[36] ty #[v]).run Tryz.prog W = .ok (.int .i64 (l.length : Int)) W := by
  obtain ⟨hl, ⟨rfl, h0⟩ | ⟨g, cp, cur, rfl, _⟩⟩ := h.row
  · rw [h0]; go_simp
  · go_simp
theorem has_shape {w : World} {v : Value} {bs : List UInt8} (h : Has w v bs) : ∃ ao n c, v = .slice ao n c := by
  obtain ⟨ao, cap, rfl⟩ := h.slice
  exact ⟨_, _, _, rfl⟩
theorem new111 (w : World) : ∃ w1 q, (Instr.alloc 52 true (.tuple #[])).run Tryz.prog w = .ok (.pointer (some ⟨q, 0, none⟩)) w1 ∧ Blk w1 q [.int .i64 0, .slice none 0 0] 52 ∧ Below w.heap.size w w1 ∧ q = w.heap.size :=
  ⟨_, _, run_newR 52 [.int .i64 0, .slice none 0 0] (fun w => by rw [Tryz.zeroValue52]) w _ rfl, Blk.new _ _ _, below_new _ _, rfl⟩
theorem st111 {w : World} {q : Nat} {cs : List Value} (x : Pw) (hv : ∃ ao n c, x.v = .slice ao n c) (hb : Blk w q cs 52) (hl : cs.length = 2) : ∃ w', (Instr.storeAt 52 (.pointer (some ⟨q, 0, none⟩)) (.agg (pgC x).toArray)).run Tryz.prog w = .ok () w' ∧ Blk w' q (pgC x) 52 ∧ Fx (fun k => k = q) w w' :=
  ⟨_, run_storeR hb (info111 x) hl (all_oneCell_toArray fun v hm => by
    obtain ⟨ao, n, c, e⟩ := hv
    simp only [pgC, e, List.mem_cons, List.not_mem_nil, or_false] at hm
    rcases hm with rfl | rfl <;> rfl), hb.setRow _, by
    refine ⟨rfl, rfl, rfl, by simp [World.setRow], fun k hk hn => ?_⟩
    simp only [World.setRow]
    rw [Array.getElem?_modify]
    rw [if_neg (fun e => hn e.symm)]⟩
/-- A copy of one page of the list, in a variable. -/
theorem var111 {w : World} (x : Pw) (hx : x.ok w) : ∃ w1 w2 q, (Instr.alloc 52 true (.tuple #[])).run Tryz.prog w = .ok (.pointer (some ⟨q, 0, none⟩)) w1 ∧ (Instr.storeAt 52 (.pointer (some ⟨q, 0, none⟩)) (.agg (pgC x).toArray)).run Tryz.prog w1 = .ok () w2 ∧ Blk w2 q (pgC x) 52 ∧ Below w.heap.size w w2 ∧ q = w.heap.size := by
  obtain ⟨w1, q, r1, b1, e1, hq⟩ := new111 w
  obtain ⟨w2, r2, b2, x2⟩ := st111 x (has_shape hx.1) b1 rfl
  exact ⟨w1, w2, q, r1, r2, b2, below_of_new e1 x2 (fun k hk => by omega), hq⟩
theorem fld111_0 (q : Nat) (W : World) : (Instr.fieldAt 52 (.pointer (some ⟨q, 0, none⟩)) 0).run Tryz.prog W = .ok (.pointer (some ⟨q, 0, none⟩)) W := by go_simp
theorem fld111_1 (q : Nat) (W : World) : (Instr.fieldAt 52 (.pointer (some ⟨q, 0, none⟩)) 1).run Tryz.prog W = .ok (.pointer (some ⟨q, 1, none⟩)) W := by go_simp
theorem ldpn {W : World} {q : Nat} {x : Pw} (hb : Blk W q (pgC x) 52) : (Instr.loadAt 3 (.pointer (some ⟨q, 0, none⟩))).run Tryz.prog W = .ok (.int .i64 (x.n : Int)) W := ldc3 hb rfl
theorem ldpb {W : World} {q : Nat} {x : Pw} (hb : Blk W q (pgC x) 52) : (Instr.loadAt 50 (.pointer (some ⟨q, 1, none⟩))).run Tryz.prog W = .ok x.v W := by
  have hc : W.cell? ⟨q, 1, none⟩ = some x.v := hb.cell 1
  have hf := hb.frozen 1
  go_simp
theorem shl5 (k : Nat) (hk : k < 8) (W : World) (x y : Operand) : (do eqGuard .shl 5 x y (.int .u8 1) (.int .i64 (k : Int)); binOp .shl 5 (.int .u8 1) (.int .i64 (k : Int)) : Sem Value).run Tryz.prog W = .ok (byt (UInt8.ofNat (2 ^ k))) W := by
  have e : byt (UInt8.ofNat (2 ^ k)) = .int .u8 ((2 ^ k : Nat) : Int) ∧ IntKind.u8.wrap (2 ^ k) = 2 ^ k := by
    have h : k = 0 ∨ k = 1 ∨ k = 2 ∨ k = 3 ∨ k = 4 ∨ k = 5 ∨ k = 6 ∨ k = 7 := by omega
    rcases h with rfl | rfl | rfl | rfl | rfl | rfl | rfl | rfl <;> exact ⟨rfl, rfl⟩
  have h0 : ¬ (k : Int) < 0 := by omega
  rw [e.1]
  have e2 := e.2
  clear e
  go_simp
theorem or5 (a b : UInt8) (W : World) (x y : Operand) : (do eqGuard .or 5 x y (byt a) (byt b); binOp .or 5 (byt a) (byt b) : Sem Value).run Tryz.prog W = .ok (byt (a ||| b)) W := by
  unfold byt
  go_simp
  rw [or_u8, UInt8.toNat_or]
theorem Ob.at57 {w : World} {b : Nat} {v : Value} {bs : List UInt8} (h : Ob w b v bs) {i : Nat} (hi : i < bs.length) : ∃ ad, (∀ W, (Instr.indexAt 98 v (.int .i64 (i : Int))).run Tryz.prog W = .ok (.pointer (some ad)) W) ∧ ∀ W, Below w.heap.size w W → (Instr.loadAt 5 (.pointer (some ad))).run Tryz.prog W = .ok (byt (bs.getD i 0)) W := by
  obtain ⟨ad, ix, _⟩ := h.has.at57 hi
  refine ⟨ad, ix, fun W hW => ?_⟩
  obtain ⟨a2, i2, l2⟩ := (h.has.below hW).at57 hi
  have e := (ix W).symm.trans (i2 W)
  simp only [Result.ok.injEq, Value.pointer.injEq, Option.some.injEq, and_true] at e
  rw [e]
  exact l2
theorem run_mk57 (w : World) (l : Nat) (h : l ≤ 140737488355328) : (Instr.makeSlice 98 (.int .i64 (l : Int)) (.int .i64 (l : Int))).run Tryz.prog w = .ok (.slice (some ⟨w.heap.size, 0, none⟩) l l) (w.alloc (.cells ((List.replicate l (0 : UInt8)).map byt).toArray 5)) := by
  obtain ⟨i0, hi, hz0, hz1, hz2⟩ := info_parts Tryz.info5
  have hrun := run_make (P := Tryz.prog) w 98 5 i0 (.int .u8 0) Tryz.underlying98 hi hz0 .i64 .i64 l l (by omega) (by omega) (by rw [hz2]; omega) (by omega)
  rw [hz1, Int.toNat_natCast, Nat.mul_one, made_one _ rfl] at hrun
  rw [hrun, List.map_replicate]
  rfl
theorem zS_len : zS.length = 512 := List.length_replicate
theorem mk57 (W : World) : ∃ u w', (Instr.makeSlice 98 (.int .i64 ((512 : Nat) : Int)) (.int .i64 ((512 : Nat) : Int))).run Tryz.prog W = .ok u w' ∧ Ob w' W.heap.size u zS ∧ Below W.heap.size W w' := by
  refine ⟨_, _, run_mk57 W 512 (by decide), ?_, below_new _ _⟩
  have := Ob.blk (bs := zS) (Blk.new W (zS.map byt) 5) (by rw [zS_len]; decide)
  rw [zS_len] at this
  exact this
/-- The marker's bytes, of so many pages; and whole. -/
def mk1 (m : List UInt8) (x : Pw) : List UInt8 := m.set (x.n / 8) (m.getD (x.n / 8) 0 ||| UInt8.ofNat (2 ^ (x.n % 8)))
def mkT (l : List Pw) : List UInt8 := l.foldl mk1 zS
def mkB (l : List Pw) : List UInt8 := (mkT l).set 511 1
theorem mkT_snoc {l : List Pw} {t : Nat} {x : Pw} (h : l[t]? = some x) : mkT (l.take (t + 1)) = mk1 (mkT (l.take t)) x := by
  unfold mkT
  rw [List.take_add_one, h]
  simp [List.foldl_append]
theorem mk_len : ∀ (l : List Pw) (m : List UInt8), (l.foldl mk1 m).length = m.length
  | [], m => rfl
  | x :: r, m => by rw [List.foldl_cons, mk_len r]; simp [mk1]
theorem mkT_len (l : List Pw) : (mkT l).length = 512 := by unfold mkT; rw [mk_len]; exact zS_len
def mkE (v u : Value) (k : Nat) (t : Nat) : List (Nat × Value) := [(3, u), (7, v), (8, .int .i64 (k : Int)), (9, .int .i64 (t : Int))]
structure MkR (w : World) (l : List Pw) (u : Value) (t : Nat) (W : World) : Prop where
  o : Ob W w.heap.size u (mkT (l.take t))
  b : Below w.heap.size w W
  le : t ≤ l.length
set_option maxRecDepth 100000 in
set_option maxHeartbeats 1000000 in
theorem markerOf_any {w : World} {v : Value} {l : List Pw} (h : Pws w v l) (hl : l.length ≤ 1000) (hn : ∀ x ∈ l, x.n < 256) : Calls Tryz.prog 53 #[v] w fun e w' => ∃ u, e = .returned u ∧ Ob w' w.heap.size u (mkB l) ∧ Below w.heap.size w w' := by
  refine calls_of_args [v] Tryz.func53 rfl 29 Tryz.ntmps53 (by show 1 ≤ 29; decide) ?_
  refine EW.seq ?_
  refine EW.region ?_
  first | refine WL.assign rfl rfl rfl ?_
  refine WL.done ?_
  refine EW.on ?_
  refine EW.seq ?_
  refine EW.region ?_
  obtain ⟨u, w1, r1, o1, e1⟩ := mk57 w
  refine WL.mks rfl rfl rfl rfl r1 ?_
  first | refine WL.assign rfl rfl rfl ?_
  refine WL.done ?_
  refine EW.on ?_
  refine EW.seq ?_
  refine EW.seq ?_
  refine EW.region ?_
  first | refine WL.move rfl rfl rfl ?_
  refine WL.len rfl rfl rfl (h.len _ _) ?_
  first | refine WL.move rfl rfl rfl ?_
  refine WL.done ?_
  refine EW.on ?_
  refine EW.block ?_
  refine EW.loop (mkE v u l.length) (MkR w l u) (fun t => l.length - t) 0 [3, 7, 8, 9] rfl ⟨o1, e1, Nat.zero_le _⟩ ?_
  rintro t wi ⟨oi, ei, hle⟩
  show EW _ _ _ _ [(3, u), (7, v), (8, .int .i64 (l.length : Int)), (9, .int .i64 (t : Int))] _
  refine EW.seq ?_
  refine EW.region ?_
  first | refine WL.bin rfl rfl rfl rfl (int_lt_t ‹_› _ _ _) ?_ | refine WL.bin rfl rfl rfl rfl (int_lt_f ‹_› _ _ _) ?_ | refine WL.bin rfl rfl rfl rfl (int_lt_d _ _ _ _ _) ?_
  refine WL.done ?_
  refine EW.on ?_
  refine EW.seq ?_
  refine EW.cond_d rfl (fun h10 => ?_) (fun h10 => ?_)
  · refine EW.skip ?_
    refine EW.on ?_
    refine EW.seq ?_
    refine EW.block ?_
    refine EW.seq ?_
    have ht : t < l.length := by omega
    have tn : IntKind.i64.wrap ((t : Int) + 1) = ((t + 1 : Nat) : Int) := by rw [IntKind.wrap_i64]; omega
    refine EW.region ?_
    obtain ⟨x, hx⟩ : ∃ x, l[t]? = some x := ⟨_, List.getElem?_eq_getElem ht⟩
    have hxm := List.mem_of_getElem? hx
    have hxn := hn x hxm
    have pi := h.below ei
    obtain ⟨ad, ix, lx⟩ := pi.item hx
    refine WL.index rfl rfl rfl rfl (ix _) ?_
    refine WL.load rfl rfl rfl lx ?_
    obtain ⟨w2, w3, q3, r2, s3, b3, e3, hq3⟩ := var111 x (pi.has x hxm)
    refine WL.new rfl rfl r2 ?_
    have o3 := oi.below e3
    refine WL.store rfl rfl rfl s3 ?_
    obtain ⟨a4, i4, l4⟩ := o3.at57 (i := x.n / 8) (by rw [mkT_len]; omega)
    refine WL.done ?_
    refine EW.on ?_
    refine EW.ordB [(0, 0, 0), (1, 0, 0), (2, 0, 1), (3, 0, 0), (4, 0, 0), (5, 0, 1), (6, 0, 0), (7, 0, 1), (8, 0, 0), (9, 0, 0), (10, 0, 0), (11, 0, 0), (12, 1, 0)] (by kernel_rfl) rfl (by kernel_rfl) ?_
    simp only [opsZ, List.getD_cons_zero, List.getD_cons_succ]
    first | refine ZE.move rfl rfl rfl rfl sz0 ?_
    refine ZE.field rfl rfl rfl rfl sz0 (fun W => fld111_0 q3 W) ?_
    refine ZE.load rfl rfl rfl rfl sz1 (fun W hW => ldpn (b3.on (sb_of hW))) ?_
    refine ZE.bin rfl rfl rfl rfl rfl sz0 (fun W => quo8 x.n (by omega) W _ _) ?_
    refine ZE.index rfl rfl rfl rfl rfl sz0 (fun W => i4 W) ?_
    refine ZE.load rfl rfl rfl rfl sz1 (fun W hW => l4 W (sb_of hW)) ?_
    refine ZE.field rfl rfl rfl rfl sz0 (fun W => fld111_0 q3 W) ?_
    refine ZE.load rfl rfl rfl rfl sz1 (fun W hW => ldpn (b3.on (sb_of hW))) ?_
    refine ZE.bin rfl rfl rfl rfl rfl sz0 (fun W => rem8 x.n (by omega) W _ _) ?_
    refine ZE.bin rfl rfl rfl rfl rfl sz0 (fun W => shl5 (x.n % 8) (Nat.mod_lt _ (by decide)) W _ _) ?_
    refine ZE.bin rfl rfl rfl rfl rfl sz0 (fun W => or5 _ _ W _ _) ?_
    refine ZE.index rfl rfl rfl rfl rfl sz0 (fun W => i4 W) ?_
    refine ZE.store (fun W => Ob W w.heap.size u (mk1 (mkT (l.take t)) x) ∧ Below w.heap.size w W) rfl rfl rfl (fun W h => .inl rfl) (fun W hW => by
      obtain ⟨a5, w', i5, s5, o5, x5⟩ := (o3.below hW).setAt (x.n / 8) (by rw [mkT_len]; omega) ((mkT (l.take t)).getD (x.n / 8) 0 ||| UInt8.ofNat (2 ^ (x.n % 8))) 98 (.inr rfl)
      have e := (i4 W).symm.trans (i5 W)
      simp only [Result.ok.injEq, Value.pointer.injEq, Option.some.injEq, and_true] at e
      rw [← e] at s5
      exact ⟨w', s5, o5, below_of_new ((ei.trans (e3.mono ei.size)).trans (hW.mono (Nat.le_trans ei.size e3.size))) x5 (fun k hk => oi.base k hk)⟩) ?_
    rintro w7 ⟨o7, e7⟩
    refine pn_block ?_
    refine EW.on ?_
    refine EW.region ?_
    first | refine WL.bin rfl rfl rfl rfl (int_add ‹_› _ _ _) ?_
    first | refine WL.move rfl rfl rfl ?_
    refine WL.done ?_
    refine EW.again (E := mkE v u l.length) (R := MkR w l u) (m := fun t => l.length - t) (x := t) (t + 1) [3, 7, 8, 9] rfl ⟨by rw [mkT_snoc hx]; exact o7, e7, by omega⟩ (by show _ - (t + 1) < _ - t; omega)
  · refine EW.exit ?_
    refine px_then ?_
    refine px_then ?_
    refine px_block ?_
    refine EW.on ?_
    refine EW.seq ?_
    have hte : t = l.length := by omega
    rw [hte, List.take_length] at oi
    refine EW.region ?_
    first | refine WL.move rfl rfl rfl ?_
    obtain ⟨a6, w6, i6, s6, o6, x6⟩ := oi.setAt 511 (by rw [mkT_len]; omega) 1 98 (.inr rfl)
    refine WL.index rfl rfl rfl rfl (i6 _) ?_
    refine WL.store rfl rfl rfl s6 ?_
    refine WL.done ?_
    refine EW.on ?_
    refine EW.seq ?_
    refine EW.region ?_
    first | refine WL.move rfl rfl rfl ?_
    first | refine WL.assign rfl rfl rfl ?_
    refine WL.done ?_
    refine EW.on ?_
    refine EW.ret ?_
    exact EW.returns Tryz.results53 rfl ⟨u, rfl, o6, below_of_new ei x6 (fun k hk => oi.base k hk)⟩
end Go.Proofs.YtomioemhjhhbcaaGreatDoor
