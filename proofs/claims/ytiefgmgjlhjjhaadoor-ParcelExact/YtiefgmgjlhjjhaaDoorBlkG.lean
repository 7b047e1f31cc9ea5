import Derived.Test.YtiefgmgjlhjjhaaDoorRows
import Derived.WalkKit
import Derived.WalkSpells
import Derived.WalkLawsBesides
import Derived.Laws.BytesArg
import Derived.Laws.AppendOwnNone
import Derived.Lib.SliceRun
import Derived.Laws.BitsAllLaws
import Derived.Deep.MidRow
import Derived.Deep.WholeRow
namespace Go.Proofs.YtiefgmgjlhjjhaaDoor
open Go.RowKit

theorem hide {p : Prop} (h : p) : Hid p := h

/-- A byte as a value. -/
def byt (b : UInt8) : Value := .int .u8 (b.toNat : Int)

/-- The slice value v holds the bytes bs in the world w. -/
def Has (w : World) (v : Value) (bs : List UInt8) : Prop :=
  (v = .slice none 0 0 ∧ bs = []) ∨ ∃ ad cap, v = .slice (some ad) bs.length cap ∧ bs.length ≤ cap ∧ ∀ i u, bs[i]? = some u → w.cell? (ad.add i) = some (byt u)

theorem Has.nil (w : World) : Has w (.slice none 0 0) [] := .inl ⟨rfl, rfl⟩

theorem Has.cellsEq {w w' : World} {v : Value} {bs : List UInt8} (h : Has w v bs) (hb : ∀ a u, w.cell? a = some u → w'.cell? a = some u) : Has w' v bs := by
  rcases h with h | ⟨ad, cap, h1, h2, h3⟩
  · exact .inl h
  · exact .inr ⟨ad, cap, h1, h2, fun i u hu => hb _ _ (h3 i u hu)⟩

theorem cell_lt {w : World} {a : Addr} {u : Value} (h : w.cell? a = some u) : a.block < w.heap.size := by
  unfold World.cell? at h
  rcases Nat.lt_or_ge a.block w.heap.size with hl | hl
  · exact hl
  · rw [Array.getElem?_eq_none hl] at h; simp at h

theorem Has.below {w w' : World} {v : Value} {bs : List UInt8} (h : Has w v bs) (hb : Below w.heap.size w w') : Has w' v bs :=
  h.cellsEq fun _ _ hu => (hb.cell (cell_lt hu)).trans hu

theorem str_map (bs : List UInt8) : strOfNums (bs.map fun b => (b.toNat : Int)) = ⟨bs.toArray⟩ := by
  unfold strOfNums
  simp only [List.map_map]
  congr 2
  conv => rhs; rw [← List.map_id bs]
  apply List.map_congr_left
  intro x _
  simp

theorem Has.convert {w : World} {v : Value} {bs : List UInt8} (h : Has w v bs) : (convert 24 9 v).run Tryd.prog w = .ok (.string ⟨bs.toArray⟩) w := by
  rcases h with ⟨rfl, rfl⟩ | ⟨ad, cap, rfl, h2, h3⟩
  · exact run_convert_bytes_nil w 24 5 Tryd.underlying24 Tryd.underlying5 0 0 9 Tryd.underlying9
  · have hl : (loadCells ad bs.length).run Tryd.prog w = .ok ((bs.map fun b => (b.toNat : Int)).map (Value.int .u8)).toArray w := by
      have := run_loadCells_list (P := Tryd.prog) w ad ((bs.map fun b => (b.toNat : Int)).map (Value.int .u8)) (fun j v hj => by
        simp only [List.getElem?_map, Option.map_map, Option.map_eq_some_iff] at hj
        obtain ⟨u, hu, rfl⟩ := hj
        exact h3 j u hu)
      simpa using this
    rw [run_convert_bytes_string w 24 9 5 _ bs.length cap Tryd.underlying24 Tryd.underlying5 Tryd.underlying9, run_bytesToString w _ bs.length cap _ hl, foldl_push_bytes]
    have := str_map bs
    unfold strOfNums at this
    simp only [ByteArray.empty, ByteArray.emptyWithCapacity]
    rw [← this]
    simp
    rfl


theorem xor_u8 (a b : UInt8) : bits .xor .u8 (a.toNat : Int) (b.toNat : Int) = ((a ^^^ b).toNat : Int) := by
  have h1 := a.toNat_lt
  have h2 := b.toNat_lt
  have ha' : a.toNat % 2 ^ 8 = a.toNat := Nat.mod_eq_of_lt h1
  have hb' : b.toNat % 2 ^ 8 = b.toNat := Nat.mod_eq_of_lt h2
  have e : (BitVec.ofNat 8 a.toNat ^^^ BitVec.ofNat 8 b.toNat).toNat = a.toNat ^^^ b.toNat := by
    rw [BitVec.toNat_xor, BitVec.toNat_ofNat, BitVec.toNat_ofNat, ha', hb']
  show IntKind.u8.wrap (((BitVec.ofInt 8 (a.toNat : Int)) ^^^ (BitVec.ofInt 8 (b.toNat : Int))).toNat : Int) = _
  rw [BitVec.ofInt_natCast, BitVec.ofInt_natCast, e, UInt8.toNat_xor]
  have := Nat.xor_lt_two_pow h1 h2
  exact wraps_u8 _ (Int.natCast_nonneg _) (by exact_mod_cast this)

/-- The slice value v, made by the call itself (from block 'base' on), owns the bytes bs. -/
def Own (w : World) (base : Nat) (v : Value) (bs : List UInt8) : Prop := w.ownsRow base 5 1 v bs.length (bs.map byt)

theorem add_plain (g k : Nat) : (⟨g, 0, none⟩ : Addr).add k = ⟨g, k, none⟩ := by
  unfold Addr.add; split <;> simp_all

theorem Own.has {w : World} {base : Nat} {v : Value} {bs : List UInt8} (h : Own w base v bs) : Has w v bs := by
  obtain ⟨_, h | ⟨g, cap, cur, hv, hg, hh, hn, hc, hs, ht⟩⟩ := h
  · exact .inl ⟨h.1, List.eq_nil_of_length_eq_zero h.2⟩
  · refine .inr ⟨⟨g, 0, none⟩, cap, hv, hn, fun i u hu => ?_⟩
    rw [add_plain]
    have hi : i < bs.length := by
      rcases Nat.lt_or_ge i bs.length with h | h
      · exact h
      · rw [List.getElem?_eq_none h] at hu; cases hu
    have e : cur[i]? = some (byt u) := by
      have : (bs.map byt)[i]? = some (byt u) := by simp [hu]
      rw [← ht, Nat.mul_one, List.getElem?_take_of_lt hi, Array.getElem?_toList] at this
      exact this
    simp [World.cell?, hh, e]

theorem Own.nil (w : World) (base : Nat) : Own w base (.slice none 0 0) [] := ⟨rfl, .inl ⟨rfl, rfl⟩⟩

theorem Own.blocks {w w' : World} {base : Nat} {v : Value} {bs : List UInt8} (h : Own w base v bs) (hb : ∀ k, k < w.heap.size → w'.heap[k]? = w.heap[k]?) : Own w' base v bs := by
  obtain ⟨h1, h | ⟨g, cap, cur, hv, hg, hh, r⟩⟩ := h
  · exact ⟨h1, .inl h⟩
  · refine ⟨h1, .inr ⟨g, cap, cur, hv, hg, ?_, r⟩⟩
    rw [hb g ?_, hh]
    rcases Nat.lt_or_ge g w.heap.size with hl | hl
    · exact hl
    · rw [Array.getElem?_eq_none hl] at hh; cases hh

theorem Own.below {w w' : World} {base : Nat} {v : Value} {bs : List UInt8} (h : Own w base v bs) (hb : Below w.heap.size w w') : Own w' base v bs := h.blocks hb.block

theorem Own.ownBlock {w : World} {base : Nat} {v : Value} {bs : List UInt8} (h : Own w base v bs) : ∀ k, v.ownBlock = some k → base ≤ k := by
  intro k hk
  obtain ⟨_, ⟨rfl, _⟩ | ⟨g, cap, cur, rfl, hg, _⟩⟩ := h
  · cases hk
  · simp [Value.ownBlock] at hk; omega

theorem Tryd.info5 : (Tryd.prog.info? 5).map (fun i => (i.zero, i.size, i.bytes)) = some (some (.int .u8 0), 1, 1) := by kernel_rfl

theorem byt_one (bs : List UInt8) : ∀ u ∈ bs.map byt, u.oneCell' = true := by
  intro u hu
  obtain ⟨b, _, rfl⟩ := List.mem_map.1 hu
  rfl

theorem grown_refl (w : World) (row : Option Nat) : w.grownBy w row := ⟨rfl, rfl, rfl, Nat.le_refl _, fun _ _ _ => rfl⟩

theorem growBy_le (need : Nat) : ∀ rounds c, c < need → Builtin.growBy need rounds c ≤ need + (need + 768) / 4
  | 0, c, h => by unfold Builtin.growBy; omega
  | rounds + 1, c, h => by
    unfold Builtin.growBy
    rw [if_neg (by omega)]
    by_cases hc : c + (c + 768) / 4 < need
    · exact growBy_le need rounds _ hc
    · cases rounds with
      | zero => unfold Builtin.growBy; omega
      | succ r => unfold Builtin.growBy; rw [if_pos (by omega)]; omega

theorem nextcap_le (need old : Nat) (h : old < need) : Builtin.nextslicecap need old ≤ need + (need + 768) / 4 := by
  unfold Builtin.nextslicecap
  split
  · omega
  · split
    · omega
    · exact growBy_le need 4 old h

/-- 'append' of bytes to bytes of the call's own. -/
theorem run_app (w : World) (base : Nat) (v : Value) (bs : List UInt8) (hown : Own w base v bs) (ad : Addr) (cap : Nat) (ys : List UInt8) (hh : ∀ i u, ys[i]? = some u → w.cell? (ad.add i) = some (byt u))
    (hb : bs.length + ys.length ≤ 150000000000000) (hbase : base ≤ w.heap.size) (ty : TypeId) :
    ∃ v' w', (Builtin.append_ #[24, 24] ty #[v, .slice (some ad) ys.length cap]).run Tryd.prog w = .ok v' w' ∧ Own w' base v' (bs ++ ys) ∧ w.grownBy w' v.ownBlock := by
  obtain ⟨i0, hi, hz0, hz1, hz2⟩ := info_parts Tryd.info5
  have hnews : ∀ j u, (ys.map byt)[j]? = some u → w.cell? (ad.add j) = some u := by
    intro j u hj
    simp only [List.getElem?_map, Option.map_eq_some_iff] at hj
    obtain ⟨b, hb, rfl⟩ := hj
    exact hh j b hb
  by_cases hsmall : bs.length + ys.length ≤ 140737488355328
  · obtain ⟨v', w', r1, r2, r3, _⟩ := run_append_own (P := Tryd.prog) w base 24 ty 5 i0 (.int .u8 0) 1 1 Tryd.underlying24 hi hz0 hz1 hz2 rfl (by decide) v _ _ hown ad ys.length cap (ys.map byt) (by simp) hnews (byt_one ys) (by unfold maxLen; omega) (by omega) hbase
    exact ⟨v', w', r1, by simpa [Own] using r2, r3⟩
  · -- too long for the kit's law: what is there is moved, or there is room
    have hge := grownCap_ge w
    have made : ∀ old, Own (w.drew.alloc (.cells ((bs.map byt).toArray ++ (ys.map byt).toArray ++ Builtin.zeroCells (Value.int .u8 0).cells (grownCap w (bs.length + ys.length) old 5 - (bs.length + ys.length))) 5)) base (.slice (some ⟨w.heap.size, 0, none⟩) (bs.length + ys.length) (grownCap w (bs.length + ys.length) old 5)) (bs ++ ys) := by
      intro old
      have hg := hge (bs.length + ys.length) old 5
      refine ⟨by simp, .inr ⟨w.heap.size, _, _, by rw [List.length_append], hbase, heap_alloc_new w.drew _, by rw [List.length_append]; exact hg, grownCap_le_maxLen w _ old 5 (by unfold maxLen; omega), ?_, ?_⟩⟩
      · simp only [Array.size_append, List.size_toArray, List.length_map, size_zeroCells, Value.cells]
        simp
        omega
      · simp only [Array.toList_append, Nat.mul_one, List.append_assoc]
        rw [← List.append_assoc, ← List.map_append, ← List.length_map (f := byt)]
        exact List.take_left
    have grew : ∀ (o : Obj) (row : Option Nat), w.grownBy (w.drew.alloc o) row := fun o row => ⟨rfl, rfl, rfl, by simp, fun k hk _ => Below.heap_alloc w.drew o k hk⟩
    have hown' := hown
    obtain ⟨h1, ⟨rfl, hz⟩ | ⟨g, cp, cur, rfl, hg, hh2, hn, hc, hs, ht⟩⟩ := hown'
    · have hbs : bs = [] := List.eq_nil_of_length_eq_zero hz
      subst hbs
      have hr := run_append_nil (P := Tryd.prog) w 24 ty 5 i0 (.int .u8 0) Tryd.underlying24 hi hz0 ad ys.length cap (ys.map byt) (by simp [hz1]) hnews (by simp at hsmall; omega) (by simp at hb; omega) (by rw [hz2]; simp at hb; omega)
      have m := made 0
      simp only [List.map_nil, List.length_nil, Nat.zero_add, List.nil_append, Array.empty_append] at m
      exact ⟨_, _, hr, m, grew _ _⟩
    · by_cases hroom : bs.length + ys.length ≤ cp
      · obtain ⟨w', q1, q2, q3⟩ := run_append_fits (P := Tryd.prog) w base 24 ty 5 i0 1 Tryd.underlying24 hi hz1 g bs.length cp (bs.map byt) hown ad ys.length cap (ys.map byt) (by simp) hnews (byt_one ys) hroom
        exact ⟨_, w', q1, by simpa [Own] using q2, q3⟩
      · have holds : ∀ j u, (bs.map byt)[j]? = some u → w.cell? ((⟨g, 0, none⟩ : Addr).add j) = some u := World.ownsRow.cells hown (g := g) rfl
        have hcap := nextcap_le (bs.length + ys.length) cp (by omega)
        have hr := run_append_grow (P := Tryd.prog) w 24 ty 5 i0 (.int .u8 0) Tryd.underlying24 hi hz0 ⟨g, 0, none⟩ bs.length cp (bs.map byt) (by simp [hz1]) holds ad ys.length cap (ys.map byt) (by simp [hz1]) hnews (by omega) (by omega) (by rw [hz2]; omega)
        exact ⟨_, _, hr, made cp, grew _ _⟩

/-- 'append(s, x...)', s the call's own bytes, x any bytes. -/
theorem wpList_app {w : World} {ops : Array Oper} {rest : List Oper} {o : Oper} {a : Act} {Q : Exit → Act → World → Prop} (hgd : o.guard = none) (s x : Operand)
    (ho : o.op = .call { callee := .builtin .append, args := #[s, x], argTypes := #[24, 24] }) (base : Nat) (v : Value) (bs : List UInt8) (hs : a.eval s = v) (hown : Own w base v bs)
    (sv : Value) (ys : List UInt8) (hx : a.eval x = sv) (hh : Has w sv ys) (hb : bs.length + ys.length ≤ 150000000000000) (hbase : base ≤ w.heap.size)
    (h : ∀ v' w', Own w' base v' (bs ++ ys) → w.grownBy w' v.ownBlock → wpList Tryd.prog ops Q rest (a.put o.dst v') w') : wpList Tryd.prog ops Q (o :: rest) a w := by
  obtain ⟨i0, hi, hz0, hz1, hz2⟩ := info_parts Tryd.info5
  rcases hh with ⟨rfl, rfl⟩ | ⟨ad, cap, rfl, h2, h3⟩
  · refine wpList_append_own_none hgd s x 24 ho base 5 i0 1 Tryd.underlying24 hi v _ _ hs hown hx ?_
    have := h v w (by simpa using hown) (grown_refl _ _)
    exact this
  · obtain ⟨v', w', hrun, r1, r2⟩ := run_app w base v bs hown ad cap ys h3 hb hbase o.type
    refine wpList_plain hgd fun K hK => ?_
    unfold Oper.wp
    simp [execOp, ho, resolve, invoke, builtin, hs, hx, hrun, Result.andThen]
    exact hK _ _ (h v' w' r1 r2)

/-- The slice value v (of type [][]byte) holds the parts, each of which holds its bytes. -/
def Parts (w : World) (v : Value) (ps : List (Value × List UInt8)) : Prop :=
  (v = .slice none 0 0 ∧ ps = []) ∨ ∃ ad cap, v = .slice (some ad) ps.length cap ∧ ps.length ≤ cap ∧ ∀ i p, ps[i]? = some p → w.cell? (ad.add i) = some p.1 ∧ Has w p.1 p.2

/-- A word of 32 bits as a number. -/
def wn (x : BitVec 32) : Int := (x.toNat : Int)
def wv (x : BitVec 32) : Value := .int .u32 (wn x)
def wvs (l : List (BitVec 32)) : List Value := l.map wv

theorem wlt (x : BitVec 32) : x.toNat < 4294967296 := x.isLt
theorem wn_nonneg (x : BitVec 32) : 0 ≤ wn x := Int.natCast_nonneg _
theorem wn_lt (x : BitVec 32) : wn x < 4294967296 := by have := wlt x; unfold wn; omega

theorem wadd (x y : BitVec 32) : IntKind.u32.wrap (wn x + wn y) = wn (x + y) := by
  unfold wn
  rw [IntKind.wrap_u32', BitVec.toNat_add]; omega
theorem wxor (x y : BitVec 32) : bits .xor .u32 (wn x) (wn y) = wn (x ^^^ y) := by
  unfold wn
  rw [u32_xor_nat _ _ (wlt x) (wlt y), BitVec.toNat_xor]
theorem wand (x y : BitVec 32) : bits .and .u32 (wn x) (wn y) = wn (x &&& y) := by
  unfold wn
  rw [u32_and_nat _ _ (wlt x) (wlt y), BitVec.toNat_and]
theorem wor (x y : BitVec 32) : bits .or .u32 (wn x) (wn y) = wn (x ||| y) := by
  unfold wn
  rw [u32_or_nat _ _ (wlt x) (wlt y), BitVec.toNat_or]
theorem wandn (x y : BitVec 32) : bits .andNot .u32 (wn x) (wn y) = wn (x &&& ~~~y) := by
  unfold wn
  rw [u32_andNot_nat _ _ (wlt x) (wlt y), BitVec.toNat_and, BitVec.toNat_not]
theorem wshl (x : BitVec 32) (k : Nat) : IntKind.u32.wrap (wn x * 2 ^ k) = wn (x <<< k) := by
  unfold wn
  rw [IntKind.wrap_u32', BitVec.toNat_shiftLeft, Nat.shiftLeft_eq, Int.natCast_emod, Int.natCast_mul, Int.natCast_pow]
  rfl
theorem wshr (x : BitVec 32) (k : Nat) : wn x / 2 ^ k = wn (x >>> k) := by
  unfold wn
  rw [BitVec.toNat_ushiftRight, Nat.shiftRight_eq_div_pow, Int.natCast_ediv, Int.natCast_pow]
  rfl

/-- x turned right by n bits. -/
def rot (n : Nat) (x : BitVec 32) : BitVec 32 := (x <<< (32 - n)) ||| (x >>> n)

theorem neg_and (n : Nat) (hn : 0 < n) (hn' : n < 32) : bits .and .u64 (IntKind.u64.wrap (-(n : Int))) 31 = ((32 - n : Nat) : Int) := by
  have e : IntKind.u64.wrap (-(n : Int)) = ((18446744073709551616 - n : Nat) : Int) := by
    rw [IntKind.wrap_u64]
    omega
  have := u64_and_nat (18446744073709551616 - n) 31 (by omega) (by omega)
  rw [e]
  rw [show ((31 : Int)) = ((31 : Nat) : Int) from rfl, this, nat_mask5]
  congr 1
  omega

set_option maxRecDepth 100000 in
theorem rotl_any (x : BitVec 32) (n : Nat) (hn : 0 < n) (hn' : n < 32) (w : World) :
    Calls Tryd.prog 77 #[.int .u32 (wn x), .int .i64 (-(n : Int))] w fun e w' => e = .returned (.int .u32 (wn (rot n x))) ∧ w' = w := by
  have hs := neg_and n hn hn'
  have ho := wor (x <<< (32 - n)) (x >>> n)
  have h1 := wshl x (32 - n)
  have h2 := wshr x n
  obtain ⟨m, hm⟩ : ∃ m : Nat, m = 32 - n := ⟨_, rfl⟩
  have hm' : m < 32 := by omega
  rw [← hm] at hs ho h1
  have hr : Hid ((x <<< m ||| x >>> n) = rot n x) := by rw [hm]; rfl
  have hsub : (32 : Int) - (m : Int) = (n : Int) := by omega
  clear hm
  go_enter Tryd.func77, Tryd.ntmps77
  go_wp2
  go_ret
  refine ⟨?_, rfl⟩
  rw [← hr.out]
  rfl

set_option maxRecDepth 100000 in
theorem right_any (x : BitVec 32) (n : Nat) (hn : 0 < n) (hn' : n < 32) (w : World) :
    Calls Tryd.prog 74 #[.int .u32 (wn x), .int .i64 (n : Int)] w fun e w' => e = .returned (.int .u32 (wn (rot n x))) ∧ w' = w := by
  go_enter Tryd.func74, Tryd.ntmps74
  go_wp2_with (go_at_call 77; refine (rotl_any x n hn hn' _).mono ?_; rintro e w' ⟨rfl, rfl⟩)
  go_ret
  exact ⟨rfl, rfl⟩
theorem right_all (x : BitVec 32) (n : Int) (hn : 0 < n) (hn' : n < 32) (w : World) :
    Calls Tryd.prog 74 #[.int .u32 (wn x), .int .i64 n] w fun e w' => e = .returned (.int .u32 (wn (rot n.toNat x))) ∧ w' = w := by
  have := right_any x n.toNat (by omega) (by omega) w
  rwa [Int.toNat_of_nonneg (by omega)] at this
/-- Block g is a row of cells, none of them frozen. -/
def Blk (w : World) (g : Nat) (cs : List Value) (t : TypeId) : Prop := w.heap[g]? = some (.cells cs.toArray t (0, 0))

theorem Blk.lt {w : World} {g : Nat} {cs : List Value} {t : TypeId} (h : Blk w g cs t) : g < w.heap.size := by
  rcases Nat.lt_or_ge g w.heap.size with hl | hl
  · exact hl
  · unfold Blk at h; rw [Array.getElem?_eq_none hl] at h; cases h
theorem Blk.cell {w : World} {g : Nat} {cs : List Value} {t : TypeId} (h : Blk w g cs t) (j : Nat) : w.cell? ⟨g, j, none⟩ = cs[j]? := by
  rw [cell_of_row w g j _ t (0, 0) h]; simp
theorem Blk.frozen {w : World} {g : Nat} {cs : List Value} {t : TypeId} (h : Blk w g cs t) (j : Nat) : w.frozen? ⟨g, j, none⟩ = false := frozen_of_row w g j _ t h
theorem Blk.drewN {w : World} {g : Nat} {cs : List Value} {t : TypeId} (h : Blk w g cs t) (n : Nat) : Blk (w.drewN n) g cs t := by
  unfold Blk at h ⊢
  rw [← h]
  simp
theorem Blk.below {w w' : World} {n g : Nat} {cs : List Value} {t : TypeId} (h : Blk w g cs t) (hb : Below n w w') (hg : g < n) : Blk w' g cs t := by
  unfold Blk at h ⊢
  rw [hb.block g hg]; exact h
theorem Blk.new (w : World) (cs : List Value) (t : TypeId) : Blk (w.alloc (.cells cs.toArray t)) w.heap.size cs t := heap_alloc_new w _
theorem Blk.alloc {w : World} {g : Nat} {cs : List Value} {t : TypeId} (h : Blk w g cs t) (o : Obj) : Blk (w.alloc o) g cs t := by
  have hl := h.lt
  unfold Blk at h ⊢
  rw [← h]; exact Below.heap_alloc w o g hl
theorem Blk.set {w : World} {g : Nat} {cs : List Value} {t : TypeId} (h : Blk w g cs t) (j : Nat) (v : Value) : Blk (w.setCell ⟨g, j, none⟩ v) g (cs.set j v) t := by
  have := heap_setCell_same w g j _ t v h
  unfold Blk
  rw [this]
  simp
theorem Blk.setOther {w : World} {g : Nat} {cs : List Value} {t : TypeId} (h : Blk w g cs t) (k j : Nat) (v : Value) (hk : g ≠ k) : Blk (w.setCell ⟨k, j, none⟩ v) g cs t := by
  unfold Blk
  rw [heap_setCell_other w ⟨k, j, none⟩ g v hk]; exact h
theorem Blk.setRow {w : World} {g : Nat} {cs : List Value} {t : TypeId} (h : Blk w g cs t) (ds : List Value) : Blk (w.setRow g ds.toArray) g ds t := setRow_heap w g _ _ t (0, 0) h
theorem Blk.setRowOther {w : World} {g : Nat} {cs : List Value} {t : TypeId} (h : Blk w g cs t) (k : Nat) (ds : Array Value) (hk : g ≠ k) : Blk (w.setRow k ds) g cs t := by
  unfold Blk
  rw [setRow_other w k g ds hk]; exact h

theorem below_setRow {n : Nat} {w w' : World} (h : Below n w w') (g : Nat) (cs : Array Value) (hg : n ≤ g) : Below n w (w'.setRow g cs) :=
  ⟨h.os, h.tape, h.output, by rw [setRow_size]; exact h.size, fun k hk => by rw [setRow_other w' g k cs (by omega)]; exact h.block k hk⟩

theorem below_drewN {B : Nat} {a w : World} (h : Below B a w) : ∀ n, Below B a (w.drewN n)
  | 0 => h
  | n + 1 => by
    have := (below_drewN h n).drew
    first | exact this | simpa [World.drewN] using this

section
variable {P : Program} {ops : Array Oper} {rest : List Oper} {o : Oper} {a : Act} {w : World} {Q : Exit → Act → World → Prop}

/-- 'box' of a row. -/
theorem wpList_box (hgd : o.guard = none) (t : TypeId) (x : Operand) (ho : o.op = .box t x) (cs : List Value) (hx : a.eval x = .agg cs.toArray)
    (h : wpList P ops Q rest (a.put o.dst (.pointer (some ⟨w.heap.size, 0, none⟩))) (w.alloc (.cells cs.toArray t))) : wpList P ops Q (o :: rest) a w := by
  refine wpList_plain hgd fun K hK => ?_
  unfold Oper.wp execOp
  simp [ho, hx, Instr.box, newVar, Value.cells]
  exact hK _ _ h

theorem wpList_boxAt (hgd : o.guard = none) (t : TypeId) (x : Operand) (ho : o.op = .box t x) (cs : List Value) (hx : a.eval x = .agg cs.toArray) (g : Nat) (hg : w.heap.size = g)
    (h : wpList P ops Q rest (a.put o.dst (.pointer (some ⟨g, 0, none⟩))) (w.alloc (.cells cs.toArray t))) : wpList P ops Q (o :: rest) a w := by
  subst hg
  exact wpList_box hgd t x ho cs hx h

/-- A new variable that is a row. -/
theorem wpList_new (hgd : o.guard = none) (t : TypeId) (ho : o.op = .alloc t) (cs : List Value) (hz : ∀ w, (zeroValue t).run P w = .ok (.agg cs.toArray) w)
    (h : wpList P ops Q rest (a.put o.dst (.pointer (some ⟨w.heap.size, 0, none⟩))) (w.alloc (.cells cs.toArray t))) : wpList P ops Q (o :: rest) a w := by
  refine wpList_plain hgd fun K hK => ?_
  have hK := hK _ _ h
  unfold Oper.wp execOp
  simp [ho, Instr.alloc, hz, newVar, Value.cells]
  exact hK
theorem wpList_newAt (hgd : o.guard = none) (t : TypeId) (ho : o.op = .alloc t) (cs : List Value) (hz : ∀ w, (zeroValue t).run P w = .ok (.agg cs.toArray) w) (g : Nat) (hg : w.heap.size = g)
    (h : wpList P ops Q rest (a.put o.dst (.pointer (some ⟨g, 0, none⟩))) (w.alloc (.cells cs.toArray t))) : wpList P ops Q (o :: rest) a w := by
  subst hg
  exact wpList_new hgd t ho cs hz h
end

end Go.Proofs.YtiefgmgjlhjjhaaDoor
