import Derived.Test.YtmbgeojjklboeaaGreatDoorMkG
import Derived.Laws.AppendOwn
set_option linter.unusedVariables false
set_option linter.unusedSimpArgs false
namespace Go.Proofs.YtmbgeojjklboeaaGreatDoor
open Go.RowKit

/-- A device: its sectors' number, the image, the pending writes, the calls left, the loss, whether it is down, how many calls there were. -/
structure Dv where
  n : Nat
  img : List UInt8
  pen : List (Nat × List UInt8)
  left : Nat
  keep : List (BitVec 64)
  torn : Int
  off : Int
  down : Bool
  calls : Nat
structure Dv.ok (D : Dv) : Prop where
  n1 : 1 ≤ D.n
  n2 : D.n ≤ 4096
  len : D.img.length = D.n * 512
  sec : ∀ x ∈ D.pen, x.1 < D.n ∧ x.2.length = 512
  few : D.pen.length ≤ 1000000
  cal : D.calls ≤ 1000000000000
/-- Where it lies: its block, the image's, the newest ones', the pending writes, the loss's numbers, the blocks of the pending bytes. -/
structure Lay where
  p : Nat
  gi : Nat
  gn : Nat
  vp : Value
  vk : Value
  gs : List Nat
def Lay.F (L : Lay) (k : Nat) : Prop := k = L.p ∨ k = L.gi ∨ k = L.gn ∨ L.vp.ownBlock = some k ∨ L.vk.ownBlock = some k ∨ k ∈ L.gs
/-- The cells of a device. -/
def dvC (gi n : Nat) (vp : Value) (gn left : Nat) (vk : Value) (torn off : Int) (down : Bool) (calls : Nat) : List Value :=
  [.slice (some ⟨gi, 0, none⟩) (n * 512) (n * 512), vp, .slice (some ⟨gn, 0, none⟩) n n, .int .i64 left, vk, .int .i64 torn, .int .i64 off, .bool down, .int .i64 calls]
/-- Where a sector's last pending write stands, from 1 on (the list is the other way round). -/
def nwR : List (Nat × List UInt8) → Nat → Nat
  | [], _ => 0
  | x :: r, i => if x.1 = i then r.length + 1 else nwR r i
def nw (pen : List (Nat × List UInt8)) (i : Nat) : Nat := nwR pen.reverse i
theorem nw_nil (i : Nat) : nw [] i = 0 := rfl
theorem nw_snoc (pen : List (Nat × List UInt8)) (x : Nat × List UInt8) (i : Nat) : nw (pen ++ [x]) i = if x.1 = i then pen.length + 1 else nw pen i := by
  simp [nw, nwR]
def nwC (n : Nat) (f : Nat → Nat) : List Value := (List.range n).map fun i => .int .i64 (f i : Int)
theorem nwC_length (n : Nat) (f : Nat → Nat) : (nwC n f).length = n := by simp [nwC]
theorem nwC_at (n : Nat) (f : Nat → Nat) (i : Nat) (h : i < n) : (nwC n f)[i]? = some (.int .i64 (f i : Int)) := by simp [nwC, h]
theorem nwC_set (n : Nat) (f : Nat → Nat) (i u : Nat) : (nwC n f).set i (.int .i64 (u : Int)) = nwC n (fun j => if i = j then u else f j) := by
  apply List.ext_getElem?
  intro j
  rw [List.getElem?_set]
  by_cases hij : i = j
  · subst hij
    rcases Nat.lt_or_ge i n with h | h
    · rw [if_pos rfl, if_pos (by rw [nwC_length]; exact h), nwC_at n _ i h, if_pos rfl]
    · rw [if_pos rfl, if_neg (by rw [nwC_length]; omega), List.getElem?_eq_none (by rw [nwC_length]; exact h)]
  · rw [if_neg hij]
    rcases Nat.lt_or_ge j n with h | h
    · rw [nwC_at n _ j h, nwC_at n _ j h, if_neg hij]
    · rw [List.getElem?_eq_none (by rw [nwC_length]; exact h), List.getElem?_eq_none (by rw [nwC_length]; exact h)]
theorem nwC_congr (n : Nat) (f g : Nat → Nat) (h : ∀ i, i < n → f i = g i) : nwC n f = nwC n g :=
  List.map_congr_left fun i hi => by rw [h i (List.mem_range.1 hi)]
theorem nwC_zero (n : Nat) : nwC n (fun _ => 0) = List.replicate n (.int .i64 0) := by
  apply List.ext_getElem?
  intro j
  rcases Nat.lt_or_ge j n with h | h
  · rw [nwC_at n _ j h, List.getElem?_replicate_of_lt h]; rfl
  · rw [List.getElem?_eq_none (by rw [nwC_length]; exact h), List.getElem?_eq_none (by simpa using h)]
/-- The cells of the pending writes. -/
def penC : List Nat → List (Nat × List UInt8) → List Value
  | g :: gs, x :: r => .int .i64 (x.1 : Int) :: .slice (some ⟨g, 0, none⟩) 512 512 :: penC gs r
  | _, _ => []
theorem penC_length : ∀ (gs : List Nat) (pen : List (Nat × List UInt8)), gs.length = pen.length → (penC gs pen).length = pen.length * 2
  | [], [], _ => rfl
  | g :: gs, x :: r, h => by
    have := penC_length gs r (by simpa using h)
    simp only [penC, List.length_cons, this]
    omega
theorem penC_at : ∀ (gs : List Nat) (pen : List (Nat × List UInt8)) (k g : Nat) (x : Nat × List UInt8), gs[k]? = some g → pen[k]? = some x →
    (penC gs pen)[k * 2]? = some (.int .i64 (x.1 : Int)) ∧ (penC gs pen)[k * 2 + 1]? = some (.slice (some ⟨g, 0, none⟩) 512 512)
  | [], _, k, g, x, h, _ => by simp at h
  | _ :: _, [], k, g, x, _, h => by simp at h
  | g0 :: gs, x0 :: r, 0, g, x, h1, h2 => by
    simp at h1 h2
    subst h1 h2
    exact ⟨rfl, rfl⟩
  | g0 :: gs, x0 :: r, k + 1, g, x, h1, h2 => by
    have := penC_at gs r k g x (by simpa using h1) (by simpa using h2)
    rw [show (k + 1) * 2 = k * 2 + 2 by omega]
    exact this
theorem penC_snoc : ∀ (gs : List Nat) (pen : List (Nat × List UInt8)) (g : Nat) (x : Nat × List UInt8), gs.length = pen.length → penC (gs ++ [g]) (pen ++ [x]) = penC gs pen ++ [.int .i64 (x.1 : Int), .slice (some ⟨g, 0, none⟩) 512 512]
  | [], [], g, x, _ => rfl
  | g0 :: gs, x0 :: r, g, x, h => by
    have := penC_snoc gs r g x (by simpa using h)
    simp only [List.cons_append, penC, this]
/-- Numbers of 64 bits in a slice. -/
def Has64 (w : World) (v : Value) (ks : List (BitVec 64)) : Prop :=
  (v = .slice none 0 0 ∧ ks = []) ∨ ∃ ad cap, v = .slice (some ad) ks.length cap ∧ ks.length ≤ cap ∧ ∀ i u, ks[i]? = some u → w.cell? (ad.add i) = some (wv u)
theorem Has64.nil (w : World) : Has64 w (.slice none 0 0) [] := .inl ⟨rfl, rfl⟩
theorem Has64.fx {S : Nat → Prop} {w w' : World} {v : Value} {bs : List (BitVec 64)} (h : Has64 w v bs) (hf : Fx S w w') (hd : ∀ k, v.ownBlock = some k → ¬ S k) : Has64 w' v bs := by
  rcases h with h | ⟨ad, cap, rfl, h2, h3⟩
  · exact .inl h
  · exact .inr ⟨ad, cap, rfl, h2, fun i u hu => hf.cell (h3 i u hu) (by rw [add_block]; exact hd _ rfl)⟩
theorem Has64.len {w : World} {v : Value} {bs : List (BitVec 64)} (h : Has64 w v bs) (W : World) (ty : TypeId) : (Builtin.len_ #[61] ty #[v]).run Tryz.prog W = .ok (.int .i64 (bs.length : Int)) W := by
  rcases h with ⟨rfl, rfl⟩ | ⟨ad, cap, rfl, _, _⟩
  · go_simp
  · go_simp
/-- The device lies there. -/
structure Dev (w : World) (L : Lay) (D : Dv) : Prop where
  dev : Blk w L.p (dvC L.gi D.n L.vp L.gn D.left L.vk D.torn D.off D.down D.calls) 102
  img : Blk w L.gi (D.img.map byt) 5
  new : Blk w L.gn (nwC D.n (nw D.pen)) 3
  pen : w.ownsRow 0 121 2 L.vp D.pen.length (penC L.gs D.pen)
  bys : ∀ (k g : Nat) (x : Nat × List UInt8), L.gs[k]? = some g → D.pen[k]? = some x → Blk w g (x.2.map byt) 5
  gsl : L.gs.length = D.pen.length
  kp : Has64 w L.vk D.keep
  ok : D.ok
  pi : L.p ≠ L.gi
  pn : L.p ≠ L.gn
  inn : L.gi ≠ L.gn
  vpn : ∀ k, L.vp.ownBlock = some k → k ≠ L.p ∧ k ≠ L.gi ∧ k ≠ L.gn ∧ L.vk.ownBlock ≠ some k ∧ k ∉ L.gs
  vkn : ∀ k, L.vk.ownBlock = some k → k ≠ L.p ∧ k ≠ L.gi ∧ k ≠ L.gn ∧ k < w.heap.size
  gsn : ∀ k ∈ L.gs, k ≠ L.p ∧ k ≠ L.gi ∧ k ≠ L.gn ∧ k < w.heap.size
theorem ownsRow_fx {S : Nat → Prop} {w w' : World} {base : Nat} {e size : Nat} {v : Value} {n : Nat} {xs : List Value} (h : w.ownsRow base e size v n xs) (hf : Fx S w w') (hd : ∀ k, v.ownBlock = some k → ¬ S k) : w'.ownsRow base e size v n xs := by
  obtain ⟨h1, h | ⟨g, cap, cur, hv, hg, hh, r⟩⟩ := h
  · exact ⟨h1, .inl h⟩
  · refine ⟨h1, .inr ⟨g, cap, cur, hv, hg, ?_, r⟩⟩
    rw [hf.block g ?_ (hd g (by rw [hv]; rfl)), hh]
    rcases Nat.lt_or_ge g w.heap.size with hl | hl
    · exact hl
    · rw [Array.getElem?_eq_none hl] at hh; cases hh
theorem ownsRow_lt {w : World} {base : Nat} {e size : Nat} {v : Value} {n : Nat} {xs : List Value} (h : w.ownsRow base e size v n xs) (k : Nat) (hk : v.ownBlock = some k) : k < w.heap.size := by
  obtain ⟨h1, ⟨rfl, _⟩ | ⟨g, cap, cur, rfl, hg, hh, r⟩⟩ := h
  · simp [Value.ownBlock] at hk
  · obtain rfl : g = k := by simpa [Value.ownBlock] using hk
    rcases Nat.lt_or_ge g w.heap.size with hl | hl
    · exact hl
    · rw [Array.getElem?_eq_none hl] at hh; cases hh
theorem Dev.lt {w : World} {L : Lay} {D : Dv} (h : Dev w L D) (k : Nat) (hk : L.F k) : k < w.heap.size := by
  rcases hk with rfl | rfl | rfl | hk | hk | hk
  · exact h.dev.lt
  · exact h.img.lt
  · exact h.new.lt
  · exact ownsRow_lt h.pen k hk
  · exact (h.vkn k hk).2.2.2
  · exact (h.gsn k hk).2.2.2
/-- Nothing of it is touched. -/
theorem Dev.fx {S : Nat → Prop} {w w' : World} {L : Lay} {D : Dv} (h : Dev w L D) (hf : Fx S w w') (hd : ∀ k, L.F k → ¬ S k) : Dev w' L D :=
  { dev := h.dev.fx hf (hd _ (.inl rfl)), img := h.img.fx hf (hd _ (.inr (.inl rfl))), new := h.new.fx hf (hd _ (.inr (.inr (.inl rfl)))),
    pen := ownsRow_fx h.pen hf (fun k hk => hd k (.inr (.inr (.inr (.inl hk))))),
    bys := fun k g x h1 h2 => (h.bys k g x h1 h2).fx hf (hd g (.inr (.inr (.inr (.inr (.inr (List.mem_of_getElem? h1))))))),
    gsl := h.gsl, kp := h.kp.fx hf (fun k hk => hd k (.inr (.inr (.inr (.inr (.inl hk)))))), ok := h.ok, pi := h.pi, pn := h.pn, inn := h.inn, vpn := h.vpn,
    vkn := fun k hk => ⟨(h.vkn k hk).1, (h.vkn k hk).2.1, (h.vkn k hk).2.2.1, Nat.lt_of_lt_of_le (h.vkn k hk).2.2.2 hf.size⟩,
    gsn := fun k hk => ⟨(h.gsn k hk).1, (h.gsn k hk).2.1, (h.gsn k hk).2.2.1, Nat.lt_of_lt_of_le (h.gsn k hk).2.2.2 hf.size⟩ }
theorem Dev.below {w w' : World} {L : Lay} {D : Dv} (h : Dev w L D) (hb : Below w.heap.size w w') : Dev w' L D := h.fx (Fx.of_below (S := fun _ => False) hb) (fun _ _ s => s)

/-- The device has turned, in its own blocks and new ones. -/
structure Turn (w w' : World) (L L' : Lay) : Prop where
  fx : Fx L.F w w'
  own : ∀ k, L'.F k → L.F k ∨ w.heap.size ≤ k
  p : L'.p = L.p
theorem Turn.refl (w : World) (L : Lay) : Turn w w L L := ⟨Fx.refl _ _, fun _ h => .inl h, rfl⟩
theorem Turn.trans {w w1 w2 : World} {L L1 L2 : Lay} (h : Turn w w1 L L1) (k : Turn w1 w2 L1 L2) : Turn w w2 L L2 :=
  ⟨h.fx.trans k.fx (fun i hi h1 => (h.own i h1).resolve_right (by omega)), fun i h2 => by
    rcases k.own i h2 with h3 | h3
    · exact h.own i h3
    · exact .inr (Nat.le_trans h.fx.size h3), k.p.trans h.p⟩

/-- What New makes. -/
def freshD (n : Nat) (img : List UInt8) : Dv := ⟨n, img, [], 0, [], 0, 0, false, 0⟩
def freshL (p gi gn : Nat) : Lay := ⟨p, gi, gn, .slice none 0 0, .slice none 0 0, []⟩
end Go.Proofs.YtmbgeojjklboeaaGreatDoor

set_option linter.unusedVariables false
set_option linter.unusedSimpArgs false
namespace Go.Proofs.YtmbgeojjklboeaaGreatDoor
open Go.RowKit

theorem build75 (gi N gn n : Nat) (W : World) : (Instr.build 102 #[(0, .slice (some ⟨gi, 0, none⟩) N N), (2, .slice (some ⟨gn, 0, none⟩) n n)]).run Tryz.prog W =
    .ok (.agg #[.slice (some ⟨gi, 0, none⟩) N N, .slice none 0 0, .slice (some ⟨gn, 0, none⟩) n n, .int .i64 0, .slice none 0 0, .int .i64 0, .int .i64 0, .bool false, .int .i64 0]) W := by kernel_rfl
theorem dvC_fresh (gi n gn : Nat) : dvC gi n (.slice none 0 0) gn 0 (.slice none 0 0) 0 0 false 0 = [.slice (some ⟨gi, 0, none⟩) (n * 512) (n * 512), .slice none 0 0, .slice (some ⟨gn, 0, none⟩) n n, .int .i64 0, .slice none 0 0, .int .i64 0, .int .i64 0, .bool false, .int .i64 0] := rfl

set_option maxRecDepth 100000 in
theorem over_any (gi n : Nat) (hn : n ≤ 4096) (w : World) : Calls Tryz.prog 27 #[.slice (some ⟨gi, 0, none⟩) (n * 512) (n * 512)] w fun e w' =>
    e = .returned (.pointer (some ⟨w.heap.size + 1, 0, none⟩)) ∧ w' = (w.alloc (.cells (List.replicate n (Value.int .i64 0)).toArray 3)).alloc (.cells (dvC gi n (.slice none 0 0) w.heap.size 0 (.slice none 0 0) 0 0 false 0).toArray 102) := by
  have hmk := run_mk73 w n (by omega)
  have hbd := fun W => build75 gi (n * 512) w.heap.size n W
  have hlen : ∀ W ty, (Builtin.len_ #[49] ty #[.slice (some ⟨gi, 0, none⟩) (n * 512) (n * 512)]).run Tryz.prog W = .ok (.int .i64 ((n * 512 : Nat) : Int)) W := fun W ty => by go_simp
  have hq : (((n * 512 : Nat) : Int)) / 512 = (n : Int) := by omega
  have hq2 : wrap64 (n : Int) = (n : Int) := IntWalk.wrap64_in _ (by omega)
  rw [dvC_fresh]
  obtain ⟨N, hN⟩ : ∃ N, n * 512 = N := ⟨_, rfl⟩
  rw [hN] at hbd hlen hq ⊢
  obtain ⟨g, hg⟩ : ∃ g, w.heap.size = g := ⟨_, rfl⟩
  have hsz : (w.alloc (.cells (List.replicate n (Value.int .i64 0)).toArray 3)).heap.size = g + 1 := by simp [hg]
  obtain ⟨w1, hw1⟩ : ∃ w1, w.alloc (.cells (List.replicate n (Value.int .i64 0)).toArray 3) = w1 := ⟨_, rfl⟩
  rw [hw1] at hsz
  rw [hw1, hg] at hmk
  rw [hg] at hbd
  rw [hw1, hg]
  clear hw1 hg hN
  go_enter Tryz.func27, Tryz.ntmps27
  go_wp2_with (first | (refine wpList_boxAt rfl 102 (.tmp 8) rfl _ rfl (g + 1) hsz ?_))
  go_ret
  exact ⟨rfl, rfl⟩

/-- The world behind New. -/
def newW (w : World) (n : Nat) (img : List UInt8) : World :=
  ((w.alloc (.cells (img.map byt).toArray 5)).alloc (.cells (List.replicate n (Value.int .i64 0)).toArray 3)).alloc (.cells (dvC w.heap.size n (.slice none 0 0) (w.heap.size + 1) 0 (.slice none 0 0) 0 0 false 0).toArray 102)
theorem newW_below (w : World) (n : Nat) (img : List UInt8) : Below w.heap.size w (newW w n img) := by
  unfold newW
  exact (((Below.refl _ _).alloc (Nat.le_refl _) _).alloc (by simp) _).alloc (by simp; omega) _
theorem newW_dev (w : World) (n : Nat) (img : List UInt8) (h1 : 1 ≤ n) (h2 : n ≤ 4096) (hl : img.length = n * 512) :
    Dev (newW w n img) (freshL (w.heap.size + 2) w.heap.size (w.heap.size + 1)) (freshD n img) := by
  unfold newW freshL freshD
  refine { dev := ?_, img := ?_, new := ?_, pen := ⟨rfl, .inl ⟨rfl, rfl⟩⟩, bys := fun k g x h => by simp at h, gsl := rfl, kp := Has64.nil _, ok := ⟨h1, h2, hl, fun x hx => by simp at hx, by simp, by simp⟩, pi := by simp, pn := by simp, inn := by simp, vpn := fun k hk => by simp [Value.ownBlock] at hk, vkn := fun k hk => by simp [Value.ownBlock] at hk, gsn := fun k hk => by simp at hk }
  · have := Blk.new ((w.alloc (.cells (img.map byt).toArray 5)).alloc (.cells (List.replicate n (Value.int .i64 0)).toArray 3)) (dvC w.heap.size n (.slice none 0 0) (w.heap.size + 1) 0 (.slice none 0 0) 0 0 false 0) 102
    simpa using this
  · exact ((Blk.new w (img.map byt) 5).alloc _).alloc _
  · have := (Blk.new (w.alloc (.cells (img.map byt).toArray 5)) (List.replicate n (Value.int .i64 0)) 3).alloc (.cells (dvC w.heap.size n (.slice none 0 0) (w.heap.size + 1) 0 (.slice none 0 0) 0 0 false 0).toArray 102)
    rw [show nwC n (nw []) = List.replicate n (.int .i64 0) from nwC_zero n]
    simpa using this

def zer (n : Nat) : List UInt8 := List.replicate (n * 512) 0
theorem zer_length (n : Nat) : (zer n).length = n * 512 := by simp [zer]

set_option maxRecDepth 100000 in
theorem new_any (n : Nat) (h1 : 1 ≤ n) (h2 : n ≤ 4096) (w : World) : Calls Tryz.prog 9 #[.int .i64 (n : Int)] w fun e w' =>
    e = .returned (.tuple #[.pointer (some ⟨w.heap.size + 2, 0, none⟩), .int .i64 0]) ∧ w' = newW w n (zer n) := by
  have hmk := run_mk34 w (n * 512) (by omega)
  have hov := over_any w.heap.size n h2 (w.alloc (.cells ((zer n).map byt).toArray 5))
  rw [show (w.alloc (.cells ((zer n).map byt).toArray 5)).heap.size = w.heap.size + 1 by simp] at hov
  have hov2 : Hid (Calls Tryz.prog 27 #[.slice (some ⟨w.heap.size, 0, none⟩) (n * 512) (n * 512)] (w.alloc (.cells ((zer n).map byt).toArray 5)) fun e w' => e = .returned (.pointer (some ⟨w.heap.size + 2, 0, none⟩)) ∧ w' = newW w n (zer n)) := hide hov
  clear hov
  have a1 : ¬ (n : Int) < 1 := by omega
  have a2 : ¬ (4096 : Int) < (n : Int) := by omega
  rw [show (List.replicate (n * 512) (0 : UInt8)) = zer n from rfl] at hmk
  obtain ⟨w1, hw1⟩ : ∃ w1, w.alloc (.cells ((zer n).map byt).toArray 5) = w1 := ⟨_, rfl⟩
  obtain ⟨w2, hw2⟩ : ∃ w2, newW w n (zer n) = w2 := ⟨_, rfl⟩
  obtain ⟨g, hg⟩ : ∃ g, w.heap.size = g := ⟨_, rfl⟩
  rw [hw1, hg] at hmk
  rw [hw1, hw2, hg] at hov2
  rw [hw2, hg]
  clear hw1 hw2 hg
  have e1 : wrap64 ((n : Int) * 512) = ((n * 512 : Nat) : Int) := by rw [IntWalk.wrap64_in _ (by omega)]; simp
  have e2 : (n : Int) * 512 = ((n * 512 : Nat) : Int) := by simp
  obtain ⟨N, hN⟩ : ∃ N, n * 512 = N := ⟨_, rfl⟩
  rw [hN] at hmk hov2 e1 e2
  clear hN
  go_enter Tryz.func9, Tryz.ntmps9
  go_wp2_with (first
    | (go_at_call 27; refine hov2.out.mono ?_; rintro e w3 ⟨rfl, rfl⟩)
    | fail)
  go_ret2
  exact ⟨rfl, rfl⟩
/-- What is read off a device's own block. -/
theorem Dev.c0 {w : World} {L : Lay} {D : Dv} (h : Dev w L D) : w.cell? ⟨L.p, 0, none⟩ = some (.slice (some ⟨L.gi, 0, none⟩) (D.n * 512) (D.n * 512)) := (h.dev.cell 0).trans rfl
theorem Dev.c1 {w : World} {L : Lay} {D : Dv} (h : Dev w L D) : w.cell? ⟨L.p, 1, none⟩ = some L.vp := (h.dev.cell 1).trans rfl
theorem Dev.c2 {w : World} {L : Lay} {D : Dv} (h : Dev w L D) : w.cell? ⟨L.p, 2, none⟩ = some (.slice (some ⟨L.gn, 0, none⟩) D.n D.n) := (h.dev.cell 2).trans rfl
theorem Dev.c7 {w : World} {L : Lay} {D : Dv} (h : Dev w L D) : w.cell? ⟨L.p, 7, none⟩ = some (.bool D.down) := (h.dev.cell 7).trans rfl
theorem Dev.c8 {w : World} {L : Lay} {D : Dv} (h : Dev w L D) : w.cell? ⟨L.p, 8, none⟩ = some (.int .i64 D.calls) := (h.dev.cell 8).trans rfl

theorem sectors_any {w : World} {L : Lay} {D : Dv} (h : Dev w L D) : Calls Tryz.prog 56 #[.pointer (some ⟨L.p, 0, none⟩)] w fun e w' => e = .returned (.int .i64 (D.n : Int)) ∧ w' = w := by
  have hc := h.c2
  clear h
  go_enter Tryz.func56, Tryz.ntmps56
  go_wp2
  go_ret
  exact ⟨rfl, rfl⟩
theorem down_any {w : World} {L : Lay} {D : Dv} (h : Dev w L D) : Calls Tryz.prog 23 #[.pointer (some ⟨L.p, 0, none⟩)] w fun e w' => e = .returned (.bool D.down) ∧ w' = w := by
  have hc := h.c7
  clear h
  go_enter Tryz.func23, Tryz.ntmps23
  go_wp2
  go_ret
  exact ⟨rfl, rfl⟩
theorem calls_any {w : World} {L : Lay} {D : Dv} (h : Dev w L D) : Calls Tryz.prog 18 #[.pointer (some ⟨L.p, 0, none⟩)] w fun e w' => e = .returned (.int .i64 (D.calls : Int)) ∧ w' = w := by
  have hc := h.c8
  clear h
  go_enter Tryz.func18, Tryz.ntmps18
  go_wp2
  go_ret
  exact ⟨rfl, rfl⟩
/-- Why a sector can't be reached. -/
def refE (D : Dv) (i : Int) : Int := if D.down then 80 else if i < 0 ∨ (D.n : Int) ≤ i then 81 else 0
theorem refusal_any {w : World} {L : Lay} {D : Dv} (h : Dev w L D) (i : Int) : Calls Tryz.prog 77 #[.pointer (some ⟨L.p, 0, none⟩), .int .i64 i] w fun e w' => e = .returned (.int .i64 (refE D i)) ∧ w' = w := by
  have hs := hide (sectors_any h)
  have hc := h.c7
  clear h
  unfold refE
  cases hd : D.down with
  | true =>
    rw [hd] at hc
    go_enter Tryz.func77, Tryz.ntmps77
    go_wp2
    go_ret
    exact ⟨rfl, rfl⟩
  | false =>
    rw [hd] at hc
    by_cases h1 : i < 0
    · go_enter Tryz.func77, Tryz.ntmps77
      go_wp2
      go_ret
      exact ⟨by simp [h1], rfl⟩
    · by_cases h2 : (D.n : Int) ≤ i
      · go_enter Tryz.func77, Tryz.ntmps77
        go_wp2_with (first
          | (go_at_call 56; refine hs.out.mono ?_; rintro e w3 ⟨rfl, rfl⟩)
          | fail)
        go_ret
        exact ⟨by simp [h2], rfl⟩
      · go_enter Tryz.func77, Tryz.ntmps77
        go_wp2_with (first
          | (go_at_call 56; refine hs.out.mono ?_; rintro e w3 ⟨rfl, rfl⟩)
          | fail)
        go_ret
        exact ⟨by simp [h1, h2], rfl⟩
end Go.Proofs.YtmbgeojjklboeaaGreatDoor
