import Derived.Test.YthlpfpggjkocmaaChn
import Derived.Test.YthlpfpggjkocmaaCutG
import Derived.Laws.MakeOwn
import Derived.Laws.IdiomCopy
import Derived.Laws.AppendOwn
set_option linter.unusedVariables false
set_option linter.unusedSimpArgs false
namespace Go.Proofs.Ythlpfpggjkocmaa
open Go.RowKit

theorem made_one (z : Value) (hz : z.cells = #[z]) (n : Nat) : madeCells z.cells n = (List.replicate n z).toArray := by
  rw [hz]
  apply Array.ext
  · simp [size_madeCells]
  · intro i h1 h2
    simp [madeCells]
    rw [Nat.mod_one]; rfl
theorem Try.info3 : (Try.prog.info? 3).map (fun i => (i.zero, i.size, i.bytes)) = some (some (.int .i64 0), 1, 8) := by kernel_rfl
theorem Try.info134 : (Try.prog.info? 134).map (fun i => (i.zero, i.size, i.bytes)) = some (some (.int .u64 0), 1, 8) := by kernel_rfl
theorem run_mk34 (w : World) (l : Nat) (h : l ≤ 140737488355328) : (Instr.makeSlice 37 (.int .i64 (l : Int)) (.int .i64 (l : Int))).run Try.prog w = .ok (.slice (some ⟨w.heap.size, 0, none⟩) l l) (w.alloc (.cells ((List.replicate l (0 : UInt8)).map byt).toArray 5)) := by
  obtain ⟨i0, hi, hz0, hz1, hz2⟩ := info_parts Try.info5
  have hrun := run_make (P := Try.prog) w 37 5 i0 (.int .u8 0) Try.underlying37 hi hz0 .i64 .i64 l l (by omega) (by omega) (by rw [hz2]; omega) (by omega)
  rw [hz1, Int.toNat_natCast, Nat.mul_one, made_one _ rfl] at hrun
  rw [hrun, List.map_replicate]
  rfl
theorem run_mk73 (w : World) (l : Nat) (h : l ≤ 17592186044416) : (Instr.makeSlice 85 (.int .i64 (l : Int)) (.int .i64 (l : Int))).run Try.prog w = .ok (.slice (some ⟨w.heap.size, 0, none⟩) l l) (w.alloc (.cells (List.replicate l (Value.int .i64 0)).toArray 3)) := by
  obtain ⟨i0, hi, hz0, hz1, hz2⟩ := info_parts Try.info3
  have hrun := run_make (P := Try.prog) w 85 3 i0 (.int .i64 0) Try.underlying85 hi hz0 .i64 .i64 l l (by omega) (by omega) (by rw [hz2]; omega) (by omega)
  rw [hz1, Int.toNat_natCast, Nat.mul_one, made_one _ rfl] at hrun
  exact hrun
theorem run_mk36 (w : World) (l : Nat) (h : l ≤ 17592186044416) : (Instr.makeSlice 86 (.int .i64 (l : Int)) (.int .i64 (l : Int))).run Try.prog w = .ok (.slice (some ⟨w.heap.size, 0, none⟩) l l) (w.alloc (.cells (List.replicate l (Value.int .u64 0)).toArray 134)) := by
  obtain ⟨i0, hi, hz0, hz1, hz2⟩ := info_parts Try.info134
  have hrun := run_make (P := Try.prog) w 86 134 i0 (.int .u64 0) Try.underlying86 hi hz0 .i64 .i64 l l (by omega) (by omega) (by rw [hz2]; omega) (by omega)
  rw [hz1, Int.toNat_natCast, Nat.mul_one, made_one _ rfl] at hrun
  exact hrun
theorem alloc_setCell (w : World) (cs : List Value) (t : TypeId) (j : Nat) (v : Value) : (w.alloc (.cells cs.toArray t)).setCell ⟨w.heap.size, j, none⟩ v = w.alloc (.cells (cs.set j v).toArray t) := by
  unfold World.setCell World.alloc
  simp only [World.mk.injEq, and_true]
  apply Array.ext
  · simp
  · intro i h1 h2
    by_cases hi : i = w.heap.size
    · subst hi
      rw [Array.getElem_modify_self]
      simp
    · rw [Array.getElem_modify_of_ne (Ne.symm hi)]
      simp at h1
      simp [Array.getElem_push, show i < w.heap.size by omega]
theorem alloc_setCells (w : World) (t : TypeId) : ∀ (vs : List Value) (o : Nat) (cs : List Value), o + vs.length ≤ cs.length → (w.alloc (.cells cs.toArray t)).setCells w.heap.size o vs = w.alloc (.cells (cs.take o ++ vs ++ cs.drop (o + vs.length)).toArray t)
  | [], o, cs, _ => by simp [World.setCells]
  | v :: r, o, cs, h => by
    rw [World.setCells, alloc_setCell, alloc_setCells w t r (o + 1) (cs.set o v) (by simp at h ⊢; omega), splice_one cs o v r h]

theorem info5s : (Try.prog.info? 5).map (·.size) = some 1 := by kernel_rfl
theorem info39s : (Try.prog.info? 134).map (·.size) = some 1 := by kernel_rfl

theorem copied_any (v : Value) (bs : List UInt8) (hb : bs.length ≤ 140737488355328) (w : World) (hv : Has w v bs) :
    Calls Try.prog 43 #[v] w fun e w' => e = .returned (.slice (some ⟨w.heap.size, 0, none⟩) bs.length bs.length) ∧ w' = w.alloc (.cells (bs.map byt).toArray 5) := by
  have hlen := hv.len
  have hmk := run_mk34 w bs.length hb
  obtain ⟨n, hn⟩ : ∃ n, bs.length = n := ⟨_, rfl⟩
  have hcp : (Builtin.copy_ #[37, 37] 3 #[.slice (some ⟨w.heap.size, 0, none⟩) bs.length bs.length, v]).run Try.prog (w.alloc (.cells ((List.replicate bs.length (0 : UInt8)).map byt).toArray 5)) = .ok (.int .i64 (bs.length : Int)) (w.alloc (.cells (bs.map byt).toArray 5)) := by
    rcases hv with ⟨rfl, rfl⟩ | ⟨ad, cap, rfl, h2, h3⟩
    · have := run_copy_none (P := Try.prog) (w.alloc (.cells ((List.replicate 0 (0 : UInt8)).map byt).toArray 5)) 37 37 3 5 (some ⟨w.heap.size, 0, none⟩) none 0 0 0 0 Try.underlying37 info5s (by simp)
      simpa [goInt] using this
    · have hB := Blk.new w ((List.replicate bs.length (0 : UInt8)).map byt) 5
      have := run_copy_cells (P := Try.prog) (w.alloc (.cells ((List.replicate bs.length (0 : UInt8)).map byt).toArray 5)) 37 37 3 5 w.heap.size 0 bs.length bs.length ad bs.length cap (bs.map byt) Try.underlying37 info5s (by simp)
        (fun j v hj => by
          rw [List.getElem?_map, Option.map_eq_some_iff] at hj
          obtain ⟨u, hu, rfl⟩ := hj
          have := h3 j u hu
          rw [Below.cell (below_new w _) (cell_lt this)]
          exact this)
        (fun j hj => by
          rw [Nat.zero_add, hB.cell, List.getElem?_eq_getElem (by simpa using hj)]; rfl) (fun j _ => hB.frozen _) (byt_one _)
      rw [alloc_setCells w 5 (bs.map byt) 0 _ (by simp)] at this
      simpa [goInt] using this
  rw [hn] at hlen hmk hcp ⊢
  obtain ⟨w1, hw1⟩ : ∃ w1, w.alloc (.cells ((List.replicate n (0 : UInt8)).map byt).toArray 5) = w1 := ⟨_, rfl⟩
  obtain ⟨w2, hw2⟩ : ∃ w2, w.alloc (.cells (bs.map byt).toArray 5) = w2 := ⟨_, rfl⟩
  obtain ⟨g, hg⟩ : ∃ g, w.heap.size = g := ⟨_, rfl⟩
  rw [hw1, hg] at hmk
  rw [hw1, hw2, hg] at hcp
  rw [hw2, hg]
  clear hw1 hw2 hg hv
  go_enter Try.func43, Try.ntmps43
  go_wp2
  go_ret
  exact ⟨rfl, rfl⟩
end Go.Proofs.Ythlpfpggjkocmaa

set_option linter.unusedVariables false
set_option linter.unusedSimpArgs false
namespace Go.Proofs.Ythlpfpggjkocmaa
open Go.RowKit

/-- A device: its sectors' number, the image, the pending writes, the calls left, the loss, whether it is down, how many calls there were. -/
structure Dv where
  n : Nat
  img : List UInt8
  pen : List (Nat × List UInt8)
  left : Nat
  keep : List (BitVec 64)
  torn : Int
  off : Int
  down : Bool
  calls : Nat
structure Dv.ok (D : Dv) : Prop where
  n1 : 1 ≤ D.n
  n2 : D.n ≤ 4096
  len : D.img.length = D.n * 512
  sec : ∀ x ∈ D.pen, x.1 < D.n ∧ x.2.length = 512
  few : D.pen.length ≤ 1000000
  cal : D.calls ≤ 1000000000000
/-- Where it lies: its block, the image's, the newest ones', the pending writes, the loss's numbers, the blocks of the pending bytes. -/
structure Lay where
  p : Nat
  gi : Nat
  gn : Nat
  vp : Value
  vk : Value
  gs : List Nat
def Lay.F (L : Lay) (k : Nat) : Prop := k = L.p ∨ k = L.gi ∨ k = L.gn ∨ L.vp.ownBlock = some k ∨ L.vk.ownBlock = some k ∨ k ∈ L.gs
/-- The cells of a device. -/
def dvC (gi n : Nat) (vp : Value) (gn left : Nat) (vk : Value) (torn off : Int) (down : Bool) (calls : Nat) : List Value :=
  [.slice (some ⟨gi, 0, none⟩) (n * 512) (n * 512), vp, .slice (some ⟨gn, 0, none⟩) n n, .int .i64 left, vk, .int .i64 torn, .int .i64 off, .bool down, .int .i64 calls]
/-- Where a sector's last pending write stands, from 1 on (the list is the other way round). -/
def nwR : List (Nat × List UInt8) → Nat → Nat
  | [], _ => 0
  | x :: r, i => if x.1 = i then r.length + 1 else nwR r i
def nw (pen : List (Nat × List UInt8)) (i : Nat) : Nat := nwR pen.reverse i
theorem nw_nil (i : Nat) : nw [] i = 0 := rfl
theorem nw_snoc (pen : List (Nat × List UInt8)) (x : Nat × List UInt8) (i : Nat) : nw (pen ++ [x]) i = if x.1 = i then pen.length + 1 else nw pen i := by
  simp [nw, nwR]
def nwC (n : Nat) (f : Nat → Nat) : List Value := (List.range n).map fun i => .int .i64 (f i : Int)
theorem nwC_length (n : Nat) (f : Nat → Nat) : (nwC n f).length = n := by simp [nwC]
theorem nwC_at (n : Nat) (f : Nat → Nat) (i : Nat) (h : i < n) : (nwC n f)[i]? = some (.int .i64 (f i : Int)) := by simp [nwC, h]
theorem nwC_set (n : Nat) (f : Nat → Nat) (i u : Nat) : (nwC n f).set i (.int .i64 (u : Int)) = nwC n (fun j => if i = j then u else f j) := by
  apply List.ext_getElem?
  intro j
  rw [List.getElem?_set]
  by_cases hij : i = j
  · subst hij
    rcases Nat.lt_or_ge i n with h | h
    · rw [if_pos rfl, if_pos (by rw [nwC_length]; exact h), nwC_at n _ i h, if_pos rfl]
    · rw [if_pos rfl, if_neg (by rw [nwC_length]; omega), List.getElem?_eq_none (by rw [nwC_length]; exact h)]
  · rw [if_neg hij]
    rcases Nat.lt_or_ge j n with h | h
    · rw [nwC_at n _ j h, nwC_at n _ j h, if_neg hij]
    · rw [List.getElem?_eq_none (by rw [nwC_length]; exact h), List.getElem?_eq_none (by rw [nwC_length]; exact h)]
theorem nwC_congr (n : Nat) (f g : Nat → Nat) (h : ∀ i, i < n → f i = g i) : nwC n f = nwC n g :=
  List.map_congr_left fun i hi => by rw [h i (List.mem_range.1 hi)]
theorem nwC_zero (n : Nat) : nwC n (fun _ => 0) = List.replicate n (.int .i64 0) := by
  apply List.ext_getElem?
  intro j
  rcases Nat.lt_or_ge j n with h | h
  · rw [nwC_at n _ j h, List.getElem?_replicate_of_lt h]; rfl
  · rw [List.getElem?_eq_none (by rw [nwC_length]; exact h), List.getElem?_eq_none (by simpa using h)]
/-- The cells of the pending writes. -/
def penC : List Nat → List (Nat × List UInt8) → List Value
  | g :: gs, x :: r => .int .i64 (x.1 : Int) :: .slice (some ⟨g, 0, none⟩) 512 512 :: penC gs r
  | _, _ => []
theorem penC_length : ∀ (gs : List Nat) (pen : List (Nat × List UInt8)), gs.length = pen.length → (penC gs pen).length = pen.length * 2
  | [], [], _ => rfl
  | g :: gs, x :: r, h => by
    have := penC_length gs r (by simpa using h)
    simp only [penC, List.length_cons, this]
    omega
theorem penC_at : ∀ (gs : List Nat) (pen : List (Nat × List UInt8)) (k g : Nat) (x : Nat × List UInt8), gs[k]? = some g → pen[k]? = some x →
    (penC gs pen)[k * 2]? = some (.int .i64 (x.1 : Int)) ∧ (penC gs pen)[k * 2 + 1]? = some (.slice (some ⟨g, 0, none⟩) 512 512)
  | [], _, k, g, x, h, _ => by simp at h
  | _ :: _, [], k, g, x, _, h => by simp at h
  | g0 :: gs, x0 :: r, 0, g, x, h1, h2 => by
    simp at h1 h2
    subst h1 h2
    exact ⟨rfl, rfl⟩
  | g0 :: gs, x0 :: r, k + 1, g, x, h1, h2 => by
    have := penC_at gs r k g x (by simpa using h1) (by simpa using h2)
    rw [show (k + 1) * 2 = k * 2 + 2 by omega]
    exact this
theorem penC_snoc : ∀ (gs : List Nat) (pen : List (Nat × List UInt8)) (g : Nat) (x : Nat × List UInt8), gs.length = pen.length → penC (gs ++ [g]) (pen ++ [x]) = penC gs pen ++ [.int .i64 (x.1 : Int), .slice (some ⟨g, 0, none⟩) 512 512]
  | [], [], g, x, _ => rfl
  | g0 :: gs, x0 :: r, g, x, h => by
    have := penC_snoc gs r g x (by simpa using h)
    simp only [List.cons_append, penC, this]
/-- Numbers of 64 bits in a slice. -/
def Has64 (w : World) (v : Value) (ks : List (BitVec 64)) : Prop :=
  (v = .slice none 0 0 ∧ ks = []) ∨ ∃ ad cap, v = .slice (some ad) ks.length cap ∧ ks.length ≤ cap ∧ ∀ i u, ks[i]? = some u → w.cell? (ad.add i) = some (wv u)
theorem Has64.nil (w : World) : Has64 w (.slice none 0 0) [] := .inl ⟨rfl, rfl⟩
theorem Has64.fx {S : Nat → Prop} {w w' : World} {v : Value} {bs : List (BitVec 64)} (h : Has64 w v bs) (hf : Fx S w w') (hd : ∀ k, v.ownBlock = some k → ¬ S k) : Has64 w' v bs := by
  rcases h with h | ⟨ad, cap, rfl, h2, h3⟩
  · exact .inl h
  · exact .inr ⟨ad, cap, rfl, h2, fun i u hu => hf.cell (h3 i u hu) (by rw [add_block]; exact hd _ rfl)⟩
theorem Has64.len {w : World} {v : Value} {bs : List (BitVec 64)} (h : Has64 w v bs) (W : World) (ty : TypeId) : (Builtin.len_ #[86] ty #[v]).run Try.prog W = .ok (.int .i64 (bs.length : Int)) W := by
  rcases h with ⟨rfl, rfl⟩ | ⟨ad, cap, rfl, _, _⟩
  · go_simp
  · go_simp
/-- The device lies there. -/
structure Dev (w : World) (L : Lay) (D : Dv) : Prop where
  dev : Blk w L.p (dvC L.gi D.n L.vp L.gn D.left L.vk D.torn D.off D.down D.calls) 90
  img : Blk w L.gi (D.img.map byt) 5
  new : Blk w L.gn (nwC D.n (nw D.pen)) 3
  pen : w.ownsRow 0 92 2 L.vp D.pen.length (penC L.gs D.pen)
  bys : ∀ (k g : Nat) (x : Nat × List UInt8), L.gs[k]? = some g → D.pen[k]? = some x → Blk w g (x.2.map byt) 5
  gsl : L.gs.length = D.pen.length
  kp : Has64 w L.vk D.keep
  ok : D.ok
  pi : L.p ≠ L.gi
  pn : L.p ≠ L.gn
  inn : L.gi ≠ L.gn
  vpn : ∀ k, L.vp.ownBlock = some k → k ≠ L.p ∧ k ≠ L.gi ∧ k ≠ L.gn ∧ L.vk.ownBlock ≠ some k ∧ k ∉ L.gs
  vkn : ∀ k, L.vk.ownBlock = some k → k ≠ L.p ∧ k ≠ L.gi ∧ k ≠ L.gn ∧ k < w.heap.size
  gsn : ∀ k ∈ L.gs, k ≠ L.p ∧ k ≠ L.gi ∧ k ≠ L.gn ∧ k < w.heap.size
theorem ownsRow_fx {S : Nat → Prop} {w w' : World} {base : Nat} {e size : Nat} {v : Value} {n : Nat} {xs : List Value} (h : w.ownsRow base e size v n xs) (hf : Fx S w w') (hd : ∀ k, v.ownBlock = some k → ¬ S k) : w'.ownsRow base e size v n xs := by
  obtain ⟨h1, h | ⟨g, cap, cur, hv, hg, hh, r⟩⟩ := h
  · exact ⟨h1, .inl h⟩
  · refine ⟨h1, .inr ⟨g, cap, cur, hv, hg, ?_, r⟩⟩
    rw [hf.block g ?_ (hd g (by rw [hv]; rfl)), hh]
    rcases Nat.lt_or_ge g w.heap.size with hl | hl
    · exact hl
    · rw [Array.getElem?_eq_none hl] at hh; cases hh
theorem ownsRow_lt {w : World} {base : Nat} {e size : Nat} {v : Value} {n : Nat} {xs : List Value} (h : w.ownsRow base e size v n xs) (k : Nat) (hk : v.ownBlock = some k) : k < w.heap.size := by
  obtain ⟨h1, ⟨rfl, _⟩ | ⟨g, cap, cur, rfl, hg, hh, r⟩⟩ := h
  · simp [Value.ownBlock] at hk
  · obtain rfl : g = k := by simpa [Value.ownBlock] using hk
    rcases Nat.lt_or_ge g w.heap.size with hl | hl
    · exact hl
    · rw [Array.getElem?_eq_none hl] at hh; cases hh
theorem Dev.lt {w : World} {L : Lay} {D : Dv} (h : Dev w L D) (k : Nat) (hk : L.F k) : k < w.heap.size := by
  rcases hk with rfl | rfl | rfl | hk | hk | hk
  · exact h.dev.lt
  · exact h.img.lt
  · exact h.new.lt
  · exact ownsRow_lt h.pen k hk
  · exact (h.vkn k hk).2.2.2
  · exact (h.gsn k hk).2.2.2
/-- Nothing of it is touched. -/
theorem Dev.fx {S : Nat → Prop} {w w' : World} {L : Lay} {D : Dv} (h : Dev w L D) (hf : Fx S w w') (hd : ∀ k, L.F k → ¬ S k) : Dev w' L D :=
  { dev := h.dev.fx hf (hd _ (.inl rfl)), img := h.img.fx hf (hd _ (.inr (.inl rfl))), new := h.new.fx hf (hd _ (.inr (.inr (.inl rfl)))),
    pen := ownsRow_fx h.pen hf (fun k hk => hd k (.inr (.inr (.inr (.inl hk))))),
    bys := fun k g x h1 h2 => (h.bys k g x h1 h2).fx hf (hd g (.inr (.inr (.inr (.inr (.inr (List.mem_of_getElem? h1))))))),
    gsl := h.gsl, kp := h.kp.fx hf (fun k hk => hd k (.inr (.inr (.inr (.inr (.inl hk)))))), ok := h.ok, pi := h.pi, pn := h.pn, inn := h.inn, vpn := h.vpn,
    vkn := fun k hk => ⟨(h.vkn k hk).1, (h.vkn k hk).2.1, (h.vkn k hk).2.2.1, Nat.lt_of_lt_of_le (h.vkn k hk).2.2.2 hf.size⟩,
    gsn := fun k hk => ⟨(h.gsn k hk).1, (h.gsn k hk).2.1, (h.gsn k hk).2.2.1, Nat.lt_of_lt_of_le (h.gsn k hk).2.2.2 hf.size⟩ }
theorem Dev.below {w w' : World} {L : Lay} {D : Dv} (h : Dev w L D) (hb : Below w.heap.size w w') : Dev w' L D := h.fx (Fx.of_below (S := fun _ => False) hb) (fun _ _ s => s)

/-- The device has turned, in its own blocks and new ones. -/
structure Turn (w w' : World) (L L' : Lay) : Prop where
  fx : Fx L.F w w'
  own : ∀ k, L'.F k → L.F k ∨ w.heap.size ≤ k
  p : L'.p = L.p
theorem Turn.refl (w : World) (L : Lay) : Turn w w L L := ⟨Fx.refl _ _, fun _ h => .inl h, rfl⟩
theorem Turn.trans {w w1 w2 : World} {L L1 L2 : Lay} (h : Turn w w1 L L1) (k : Turn w1 w2 L1 L2) : Turn w w2 L L2 :=
  ⟨h.fx.trans k.fx (fun i hi h1 => (h.own i h1).resolve_right (by omega)), fun i h2 => by
    rcases k.own i h2 with h3 | h3
    · exact h.own i h3
    · exact .inr (Nat.le_trans h.fx.size h3), k.p.trans h.p⟩

/-- What New makes. -/
def freshD (n : Nat) (img : List UInt8) : Dv := ⟨n, img, [], 0, [], 0, 0, false, 0⟩
def freshL (p gi gn : Nat) : Lay := ⟨p, gi, gn, .slice none 0 0, .slice none 0 0, []⟩
end Go.Proofs.Ythlpfpggjkocmaa
