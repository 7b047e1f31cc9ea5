import Derived.Test.YtomioemhjhhbcaaGreatDoorDvG
set_option linter.unusedVariables false
set_option linter.unusedSimpArgs false
namespace Go.Proofs.YtomioemhjhhbcaaGreatDoor
open Go.RowKit

theorem build75 (gi N gn n : Nat) (W : World) : (Instr.build 81 #[(0, .slice (some ⟨gi, 0, none⟩) N N), (2, .slice (some ⟨gn, 0, none⟩) n n)]).run Tryz.prog W =
    .ok (.agg #[.slice (some ⟨gi, 0, none⟩) N N, .slice none 0 0, .slice (some ⟨gn, 0, none⟩) n n, .int .i64 0, .slice none 0 0, .int .i64 0, .int .i64 0, .bool false, .int .i64 0]) W := by kernel_rfl
theorem dvC_fresh (gi n gn : Nat) : dvC gi n (.slice none 0 0) gn 0 (.slice none 0 0) 0 0 false 0 = [.slice (some ⟨gi, 0, none⟩) (n * 512) (n * 512), .slice none 0 0, .slice (some ⟨gn, 0, none⟩) n n, .int .i64 0, .slice none 0 0, .int .i64 0, .int .i64 0, .bool false, .int .i64 0] := rfl

set_option maxRecDepth 100000 in
theorem over_any (gi n : Nat) (hn : n ≤ 4096) (w : World) : Calls Tryz.prog 35 #[.slice (some ⟨gi, 0, none⟩) (n * 512) (n * 512)] w fun e w' =>
    e = .returned (.pointer (some ⟨w.heap.size + 1, 0, none⟩)) ∧ w' = (w.alloc (.cells (List.replicate n (Value.int .i64 0)).toArray 3)).alloc (.cells (dvC gi n (.slice none 0 0) w.heap.size 0 (.slice none 0 0) 0 0 false 0).toArray 81) := by
  have hmk := run_mk73 w n (by omega)
  have hbd := fun W => build75 gi (n * 512) w.heap.size n W
  have hlen : ∀ W ty, (Builtin.len_ #[50] ty #[.slice (some ⟨gi, 0, none⟩) (n * 512) (n * 512)]).run Tryz.prog W = .ok (.int .i64 ((n * 512 : Nat) : Int)) W := fun W ty => by go_simp
  have hq : (((n * 512 : Nat) : Int)) / 512 = (n : Int) := by omega
  have hq2 : wrap64 (n : Int) = (n : Int) := IntWalk.wrap64_in _ (by omega)
  rw [dvC_fresh]
  obtain ⟨N, hN⟩ : ∃ N, n * 512 = N := ⟨_, rfl⟩
  rw [hN] at hbd hlen hq ⊢
  obtain ⟨g, hg⟩ : ∃ g, w.heap.size = g := ⟨_, rfl⟩
  have hsz : (w.alloc (.cells (List.replicate n (Value.int .i64 0)).toArray 3)).heap.size = g + 1 := by simp [hg]
  obtain ⟨w1, hw1⟩ : ∃ w1, w.alloc (.cells (List.replicate n (Value.int .i64 0)).toArray 3) = w1 := ⟨_, rfl⟩
  rw [hw1] at hsz
  rw [hw1, hg] at hmk
  rw [hg] at hbd
  rw [hw1, hg]
  clear hw1 hg hN
  go_enter Tryz.func35, Tryz.ntmps35
  go_wp2_with (first | (refine wpList_boxAt rfl 81 (.tmp 8) rfl _ rfl (g + 1) hsz ?_))
  go_ret
  exact ⟨rfl, rfl⟩

/-- The world behind New. -/
def newW (w : World) (n : Nat) (img : List UInt8) : World :=
  ((w.alloc (.cells (img.map byt).toArray 5)).alloc (.cells (List.replicate n (Value.int .i64 0)).toArray 3)).alloc (.cells (dvC w.heap.size n (.slice none 0 0) (w.heap.size + 1) 0 (.slice none 0 0) 0 0 false 0).toArray 81)
theorem newW_below (w : World) (n : Nat) (img : List UInt8) : Below w.heap.size w (newW w n img) := by
  unfold newW
  exact (((Below.refl _ _).alloc (Nat.le_refl _) _).alloc (by simp) _).alloc (by simp; omega) _
theorem newW_dev (w : World) (n : Nat) (img : List UInt8) (h1 : 1 ≤ n) (h2 : n ≤ 4096) (hl : img.length = n * 512) :
    Dev (newW w n img) (freshL (w.heap.size + 2) w.heap.size (w.heap.size + 1)) (freshD n img) := by
  unfold newW freshL freshD
  refine { dev := ?_, img := ?_, new := ?_, pen := ⟨rfl, .inl ⟨rfl, rfl⟩⟩, bys := fun k g x h => by simp at h, gsl := rfl, kp := Has64.nil _, ok := ⟨h1, h2, hl, fun x hx => by simp at hx, by simp, by simp⟩, pi := by simp, pn := by simp, inn := by simp, vpn := fun k hk => by simp [Value.ownBlock] at hk, vkn := fun k hk => by simp [Value.ownBlock] at hk, gsn := fun k hk => by simp at hk }
  · have := Blk.new ((w.alloc (.cells (img.map byt).toArray 5)).alloc (.cells (List.replicate n (Value.int .i64 0)).toArray 3)) (dvC w.heap.size n (.slice none 0 0) (w.heap.size + 1) 0 (.slice none 0 0) 0 0 false 0) 81
    simpa using this
  · exact ((Blk.new w (img.map byt) 5).alloc _).alloc _
  · have := (Blk.new (w.alloc (.cells (img.map byt).toArray 5)) (List.replicate n (Value.int .i64 0)) 3).alloc (.cells (dvC w.heap.size n (.slice none 0 0) (w.heap.size + 1) 0 (.slice none 0 0) 0 0 false 0).toArray 81)
    rw [show nwC n (nw []) = List.replicate n (.int .i64 0) from nwC_zero n]
    simpa using this

def zer (n : Nat) : List UInt8 := List.replicate (n * 512) 0
theorem zer_length (n : Nat) : (zer n).length = n * 512 := by simp [zer]

set_option maxRecDepth 100000 in
theorem new_any (n : Nat) (h1 : 1 ≤ n) (h2 : n ≤ 4096) (w : World) : Calls Tryz.prog 14 #[.int .i64 (n : Int)] w fun e w' =>
    e = .returned (.tuple #[.pointer (some ⟨w.heap.size + 2, 0, none⟩), .int .i64 0]) ∧ w' = newW w n (zer n) := by
  have hmk := run_mk34 w (n * 512) (by omega)
  have hov := over_any w.heap.size n h2 (w.alloc (.cells ((zer n).map byt).toArray 5))
  rw [show (w.alloc (.cells ((zer n).map byt).toArray 5)).heap.size = w.heap.size + 1 by simp] at hov
  have hov2 : Hid (Calls Tryz.prog 35 #[.slice (some ⟨w.heap.size, 0, none⟩) (n * 512) (n * 512)] (w.alloc (.cells ((zer n).map byt).toArray 5)) fun e w' => e = .returned (.pointer (some ⟨w.heap.size + 2, 0, none⟩)) ∧ w' = newW w n (zer n)) := hide hov
  clear hov
  have a1 : ¬ (n : Int) < 1 := by omega
  have a2 : ¬ (4096 : Int) < (n : Int) := by omega
  rw [show (List.replicate (n * 512) (0 : UInt8)) = zer n from rfl] at hmk
  obtain ⟨w1, hw1⟩ : ∃ w1, w.alloc (.cells ((zer n).map byt).toArray 5) = w1 := ⟨_, rfl⟩
  obtain ⟨w2, hw2⟩ : ∃ w2, newW w n (zer n) = w2 := ⟨_, rfl⟩
  obtain ⟨g, hg⟩ : ∃ g, w.heap.size = g := ⟨_, rfl⟩
  rw [hw1, hg] at hmk
  rw [hw1, hw2, hg] at hov2
  rw [hw2, hg]
  clear hw1 hw2 hg
  have e1 : wrap64 ((n : Int) * 512) = ((n * 512 : Nat) : Int) := by rw [IntWalk.wrap64_in _ (by omega)]; simp
  have e2 : (n : Int) * 512 = ((n * 512 : Nat) : Int) := by simp
  obtain ⟨N, hN⟩ : ∃ N, n * 512 = N := ⟨_, rfl⟩
  rw [hN] at hmk hov2 e1 e2
  clear hN
  go_enter Tryz.func14, Tryz.ntmps14
  go_wp2_with (first
    | (go_at_call 35; refine hov2.out.mono ?_; rintro e w3 ⟨rfl, rfl⟩)
    | fail)
  go_ret2
  exact ⟨rfl, rfl⟩
theorem new_no (n : Int) (h : n < 1 ∨ 4096 < n) (w : World) : Calls Tryz.prog 14 #[.int .i64 n] w fun e w' => e = .returned (.tuple #[.pointer none, .int .i64 4]) ∧ w' = w := by
  by_cases h1 : n < 1
  · go_enter Tryz.func14, Tryz.ntmps14
    go_wp2
    go_ret2
    exact ⟨rfl, rfl⟩
  · have h2 : 4096 < n := h.resolve_left h1
    go_enter Tryz.func14, Tryz.ntmps14
    go_wp2
    go_ret2
    exact ⟨rfl, rfl⟩

/-- What is read off a device's own block. -/
theorem Dev.c0 {w : World} {L : Lay} {D : Dv} (h : Dev w L D) : w.cell? ⟨L.p, 0, none⟩ = some (.slice (some ⟨L.gi, 0, none⟩) (D.n * 512) (D.n * 512)) := (h.dev.cell 0).trans rfl
theorem Dev.c1 {w : World} {L : Lay} {D : Dv} (h : Dev w L D) : w.cell? ⟨L.p, 1, none⟩ = some L.vp := (h.dev.cell 1).trans rfl
theorem Dev.c2 {w : World} {L : Lay} {D : Dv} (h : Dev w L D) : w.cell? ⟨L.p, 2, none⟩ = some (.slice (some ⟨L.gn, 0, none⟩) D.n D.n) := (h.dev.cell 2).trans rfl
theorem Dev.c3 {w : World} {L : Lay} {D : Dv} (h : Dev w L D) : w.cell? ⟨L.p, 3, none⟩ = some (.int .i64 D.left) := (h.dev.cell 3).trans rfl
theorem Dev.c7 {w : World} {L : Lay} {D : Dv} (h : Dev w L D) : w.cell? ⟨L.p, 7, none⟩ = some (.bool D.down) := (h.dev.cell 7).trans rfl
theorem Dev.c8 {w : World} {L : Lay} {D : Dv} (h : Dev w L D) : w.cell? ⟨L.p, 8, none⟩ = some (.int .i64 D.calls) := (h.dev.cell 8).trans rfl

theorem sectors_any {w : World} {L : Lay} {D : Dv} (h : Dev w L D) : Calls Tryz.prog 69 #[.pointer (some ⟨L.p, 0, none⟩)] w fun e w' => e = .returned (.int .i64 (D.n : Int)) ∧ w' = w := by
  have hc := h.c2
  clear h
  go_enter Tryz.func69, Tryz.ntmps69
  go_wp2
  go_ret
  exact ⟨rfl, rfl⟩
theorem down_any {w : World} {L : Lay} {D : Dv} (h : Dev w L D) : Calls Tryz.prog 22 #[.pointer (some ⟨L.p, 0, none⟩)] w fun e w' => e = .returned (.bool D.down) ∧ w' = w := by
  have hc := h.c7
  clear h
  go_enter Tryz.func22, Tryz.ntmps22
  go_wp2
  go_ret
  exact ⟨rfl, rfl⟩
theorem calls_any {w : World} {L : Lay} {D : Dv} (h : Dev w L D) : Calls Tryz.prog 8 #[.pointer (some ⟨L.p, 0, none⟩)] w fun e w' => e = .returned (.int .i64 (D.calls : Int)) ∧ w' = w := by
  have hc := h.c8
  clear h
  go_enter Tryz.func8, Tryz.ntmps8
  go_wp2
  go_ret
  exact ⟨rfl, rfl⟩
/-- Why a sector can't be reached. -/
def refE (D : Dv) (i : Int) : Int := if D.down then 80 else if i < 0 ∨ (D.n : Int) ≤ i then 81 else 0
theorem refusal_any {w : World} {L : Lay} {D : Dv} (h : Dev w L D) (i : Int) : Calls Tryz.prog 83 #[.pointer (some ⟨L.p, 0, none⟩), .int .i64 i] w fun e w' => e = .returned (.int .i64 (refE D i)) ∧ w' = w := by
  have hs := hide (sectors_any h)
  have hc := h.c7
  clear h
  unfold refE
  cases hd : D.down with
  | true =>
    rw [hd] at hc
    go_enter Tryz.func83, Tryz.ntmps83
    go_wp2
    go_ret
    exact ⟨rfl, rfl⟩
  | false =>
    rw [hd] at hc
    by_cases h1 : i < 0
    · go_enter Tryz.func83, Tryz.ntmps83
      go_wp2
      go_ret
      exact ⟨by simp [h1], rfl⟩
    · by_cases h2 : (D.n : Int) ≤ i
      · go_enter Tryz.func83, Tryz.ntmps83
        go_wp2_with (first
          | (go_at_call 69; refine hs.out.mono ?_; rintro e w3 ⟨rfl, rfl⟩)
          | fail)
        go_ret
        exact ⟨by simp [h2], rfl⟩
      · go_enter Tryz.func83, Tryz.ntmps83
        go_wp2_with (first
          | (go_at_call 69; refine hs.out.mono ?_; rintro e w3 ⟨rfl, rfl⟩)
          | fail)
        go_ret
        exact ⟨by simp [h1, h2], rfl⟩
end Go.Proofs.YtomioemhjhhbcaaGreatDoor

set_option linter.unusedVariables false
set_option linter.unusedSimpArgs false
namespace Go.Proofs.YtomioemhjhhbcaaGreatDoor
open Go.RowKit

/-- The image's bytes of a sector. -/
def secV (gi n i : Nat) : Value := .slice (some ⟨gi, i * 512, none⟩) 512 (n * 512 - i * 512)
theorem run_sec (gi n i : Nat) (hi : i < n) (W : World) : (Instr.slice 50 (.slice (some ⟨gi, 0, none⟩) (n * 512) (n * 512)) (some (.int .i64 ((i * 512 : Nat) : Int))) (some (.int .i64 (((i + 1) * 512 : Nat) : Int))) none).run Tryz.prog W = .ok (secV gi n i) W := by
  have ht : Tryz.prog.underlying 50 = some (.slice (Tryz.prog.elem 50)) := by rw [elem37]; exact Tryz.underlying50
  rw [run_slice_lh W 50 _ _ _ ht .i64 .i64 ((i * 512 : Nat) : Int) (((i + 1) * 512 : Nat) : Int) (by omega) (by omega) (by omega), elem37, size5]
  simp only [Result.andThen, sliced, Int.toNat_natCast, Nat.mul_one, secV]
  rw [if_neg (by omega), show (i + 1) * 512 - i * 512 = 512 by omega]
  simp only [Option.map_some]
  unfold Addr.add
  by_cases h0 : i = 0
  · subst h0; simp
  · rw [if_neg (by omega)]; simp

theorem durable_any {w : World} {L : Lay} {n : Nat} (hc : w.cell? ⟨L.p, 0, none⟩ = some (.slice (some ⟨L.gi, 0, none⟩) (n * 512) (n * 512))) (i : Nat) (hi : i < n) (hn : n ≤ 4096) : Calls Tryz.prog 84 #[.pointer (some ⟨L.p, 0, none⟩), .int .i64 (i : Int)] w fun e w' => e = .returned (secV L.gi n i) ∧ w' = w := by
  have hs := fun W => run_sec L.gi n i hi W
  have e1 : wrap64 ((i : Int) * 512) = ((i * 512 : Nat) : Int) := by rw [IntWalk.wrap64_in _ (by omega)]; simp
  have e2 : (i : Int) * 512 = ((i * 512 : Nat) : Int) := by simp
  have e3 : wrap64 (((i : Int) + 1) * 512) = (((i + 1) * 512 : Nat) : Int) := by rw [IntWalk.wrap64_in _ (by omega)]; simp
  have e4 : ((i : Int) + 1) * 512 = (((i + 1) * 512 : Nat) : Int) := by simp
  have e5 : wrap64 ((i : Int) + 1) = (i : Int) + 1 := IntWalk.wrap64_in _ (by omega)
  obtain ⟨A, hA⟩ : ∃ A, i * 512 = A := ⟨_, rfl⟩
  obtain ⟨B, hB⟩ : ∃ B, (i + 1) * 512 = B := ⟨_, rfl⟩
  obtain ⟨N, hN⟩ : ∃ N, n * 512 = N := ⟨_, rfl⟩
  obtain ⟨V, hV⟩ : ∃ V, secV L.gi n i = V := ⟨_, rfl⟩
  rw [hA, hB, hN, hV] at hs
  rw [hN] at hc
  rw [hA] at e1 e2
  rw [hB] at e3 e4
  rw [hV]
  clear hA hB hN hV
  go_enter Tryz.func84, Tryz.ntmps84
  go_wp2
  go_ret
  exact ⟨rfl, rfl⟩
/-- The first m bytes of a write go to the image. -/
def settleL (img : List UInt8) (s m : Nat) (b : List UInt8) : List UInt8 := img.take (s * 512) ++ b.take m ++ img.drop (s * 512 + m)
theorem settle_length (img : List UInt8) (s m n : Nat) (b : List UInt8) (hl : img.length = n * 512) (hs : s < n) (hm : m ≤ 512) (hb : b.length = 512) : (settleL img s m b).length = img.length := by
  simp only [settleL, List.length_append, List.length_take, List.length_drop, hl, hb]
  omega

theorem add_off (g o j : Nat) : (⟨g, o, none⟩ : Addr).add j = ⟨g, o + j, none⟩ := by
  unfold Addr.add; split <;> simp_all
/-- The cells of one pending write. -/
def pwC (s : Nat) (vb : Value) : List Value := [.int .i64 (s : Int), vb]
theorem sub_below {w : World} (W : World) (h : Below w.heap.size w W) {v : Value} {bs : List UInt8} (hh : Has w v bs) : Has W v bs := hh.below h

/-- 'copy(x[o:o + n], b)', x a block of bytes. -/
theorem wpList_cp {ops : Array Oper} {rest : List Oper} {o : Oper} {a : Act} {w : World} {Q : Exit → Act → World → Prop} (hgd : o.guard = none) (d x : Operand)
    (ho : o.op = .call { callee := .builtin .copy, args := #[d, x], argTypes := #[50, 50] }) (p off n c : Nat) (hd : a.eval d = .slice (some ⟨p, off, none⟩) n c)
    (v : Value) (bs : List UInt8) (hx : a.eval x = v) (hv : Has w v bs) (L : List UInt8) (hB : Blk w p (L.map byt) 5) (hon : off + n ≤ L.length)
    (h : ∀ (q : Int) w', Blk w' p ((L.take off ++ bs.take n ++ L.drop (off + (bs.take n).length)).map byt) 5 → Fx (One p) w w' → wpList Tryz.prog ops Q rest (a.put o.dst (.int .i64 q)) w') : wpList Tryz.prog ops Q (o :: rest) a w := by
  have hl : (bs.take n).length = min n bs.length := List.length_take
  rcases hv with ⟨rfl, rfl⟩ | ⟨ad, cap, rfl, h2, h3⟩
  · have hrun := run_copy_none (P := Tryz.prog) w 50 50 o.type 5 (some ⟨p, off, none⟩) none n c 0 0 Tryz.underlying50 info5s (by simp)
    refine wpList_plain hgd fun K hK => ?_
    unfold Oper.wp
    simp [execOp, ho, resolve, invoke, builtin, hd, hx, hrun, Result.andThen]
    refine hK _ _ ?_
    exact h 0 w (by simpa using hB) (Fx.refl _ _)
  · have hrun := run_copy_cells (P := Tryz.prog) w 50 50 o.type 5 p off n c ad bs.length cap ((bs.take n).map byt) Tryz.underlying50 info5s (by rw [List.length_map, hl]; exact Nat.min_comm _ _)
      (fun j v hj => by
        rw [List.getElem?_map, Option.map_eq_some_iff] at hj
        obtain ⟨u, hu, rfl⟩ := hj
        have hjq : j < (bs.take n).length := (List.getElem?_eq_some_iff.1 hu).1
        rw [List.getElem?_take_of_lt (by omega)] at hu
        exact h3 j u hu)
      (fun j hj => by
        rw [List.length_map] at hj
        rw [hB.cell, List.getElem?_eq_getElem (by rw [List.length_map]; omega)]; rfl) (fun j _ => hB.frozen _) (byt_one _)
    refine wpList_plain hgd fun K hK => ?_
    unfold Oper.wp
    rw [List.length_map] at hrun
    have hb := Blk.setCells ((bs.take n).map byt) off w (L.map byt) hB (by rw [List.length_map, List.length_map]; omega)
    have hfin := h ((bs.take n).length : Int) (w.setCells p off ((bs.take n).map byt)) (by
      rw [List.length_map] at hb
      rw [List.map_append, List.map_append, List.map_drop, show (L.take off).map byt = (L.map byt).take off from List.map_take]
      exact hb) (Fx.setCells (S := One p) p rfl _ _ _)
    generalize w.setCells p off ((bs.take n).map byt) = w' at hrun hfin
    simp [execOp, ho, resolve, invoke, builtin, hd, hx, hrun, Result.andThen]
    exact hK _ _ (by simpa [goInt, hl] using hfin)

set_option maxRecDepth 100000 in
set_option maxHeartbeats 1000000 in
theorem settle_any {w : World} {L : Lay} {n : Nat} {img : List UInt8} (hc : w.cell? ⟨L.p, 0, none⟩ = some (.slice (some ⟨L.gi, 0, none⟩) (n * 512) (n * 512))) (hI : Blk w L.gi (img.map byt) 5) (hl : img.length = n * 512) (hn : n ≤ 4096)
    (s m : Nat) (hs : s < n) (hm : m ≤ 512) (vb : Value) (b : List UInt8) (hb : b.length = 512) (hv : Has w vb b) :
    Calls Tryz.prog 86 #[.pointer (some ⟨L.p, 0, none⟩), .agg (pwC s vb).toArray, .int .i64 (m : Int)] w fun e w' => e = .returned (.tuple #[]) ∧ Fx (One L.gi) w w' ∧ Blk w' L.gi ((settleL img s m b).map byt) 5 := by
  have HC := hide hc
  have HI := hide hI
  have HV := hide hv
  have plt := cell_lt hc
  clear hc hI hv
  go_enter Tryz.func86, Tryz.ntmps86
  go_upto_region 1 with (refine wpList_boxAt rfl 130 (.tmp 1) rfl (pwC s vb) rfl w.heap.size rfl ?_)
  have b0 : Blk (w.alloc (.cells (pwC s vb).toArray 130)) w.heap.size (pwC s vb) 130 := Blk.new w _ _
  have be : Below w.heap.size w (w.alloc (.cells (pwC s vb).toArray 130)) := below_new w _
  generalize w.alloc (.cells (pwC s vb).toArray 130) = w1 at b0 be ⊢
  obtain ⟨g, hg⟩ : ∃ g, w.heap.size = g := ⟨_, rfl⟩
  rw [hg] at b0 be
  have HCW : ∀ W, Below w1.heap.size w1 W → W.cell? ⟨L.p, 0, none⟩ = some (.slice (some ⟨L.gi, 0, none⟩) (n * 512) (n * 512)) := fun W hW => (hW.cell (Nat.lt_of_lt_of_le plt be.size)).trans ((be.cell (by rw [← hg]; exact plt)).trans HC.out)
  have HVW : ∀ W, Below w1.heap.size w1 W → Has W vb b := fun W hW => HV.out.below (by rw [hg]; exact be.trans (hW.mono (by have := be.size; omega)))
  have R0 : ∀ W, Below w1.heap.size w1 W → W.cell? ⟨g, 0, none⟩ = some (.int .i64 (s : Int)) := fun W hW => ((b0.on hW).cell 0).trans rfl
  have R1 : ∀ W, Below w1.heap.size w1 W → W.cell? ⟨g, 1, none⟩ = some vb := fun W hW => ((b0.on hW).cell 1).trans rfl
  refine reg_rest 8 1 (by kernel_rfl) rfl (by kernel_rfl) ?_
  simp only [List.take_succ_cons, List.take_zero]
  refine wpLex_cons2 _ (uni_val (by rfl) (Op.move (Operand.tmp 0)) rfl (.pointer (some ⟨L.p, 0, none⟩)) (fun o' ho W hW => by go_simp)) (by simp only [Act.put, List.setIfInBounds_toArray, List.set_cons_zero, List.set_cons_succ]; rfl) ?_
  refine wpLex_cons2 _ (uni_val (by rfl) (Op.fieldAddr 130 (Operand.tmp 4) 0) rfl (.pointer (some ⟨g, 0, none⟩)) (fun o' ho W hW => by go_simp)) (by simp only [Act.put, List.setIfInBounds_toArray, List.set_cons_zero, List.set_cons_succ]; rfl) ?_
  refine wpLex_cons2 _ (uni_val (by rfl) (Op.load 3 (Operand.tmp 7)) rfl (.int .i64 (s : Int)) (fun o' ho W hW => by have hc := R0 W hW; go_simp)) (by simp only [Act.put, List.setIfInBounds_toArray, List.set_cons_zero, List.set_cons_succ]; rfl) ?_
  refine wpLex_cons2 _ (uni_callF (by rfl) 84 [Operand.tmp 6, Operand.tmp 8] #[40, 3] rfl [.pointer (some ⟨L.p, 0, none⟩), .int .i64 (s : Int)] (secV L.gi n s) rfl enter84 (fun W hW => (durable_any (HCW W hW) s hs hn).mono (fun e w' h => ⟨h.1, by rw [h.2]; exact Below.refl _ _⟩))) (by simp only [Act.put, List.setIfInBounds_toArray, List.set_cons_zero, List.set_cons_succ]; rfl) ?_
  refine wpLex_cons2 _ (uni_val (by rfl) (Op.fieldAddr 130 (Operand.tmp 4) 1) rfl (.pointer (some ⟨g, 1, none⟩)) (fun o' ho W hW => by go_simp)) (by simp only [Act.put, List.setIfInBounds_toArray, List.set_cons_zero, List.set_cons_succ]; rfl) ?_
  refine wpLex_cons2 _ (uni_val (by rfl) (Op.load 50 (Operand.tmp 10)) rfl (vb) (fun o' ho W hW => by have hc := R1 W hW; go_simp)) (by simp only [Act.put, List.setIfInBounds_toArray, List.set_cons_zero, List.set_cons_succ]; rfl) ?_
  refine wpLex_cons2 _ (uni_val (by rfl) (Op.move (Operand.tmp 2)) rfl (.int .i64 (m : Int)) (fun o' ho W hW => by go_simp)) (by simp only [Act.put, List.setIfInBounds_toArray, List.set_cons_zero, List.set_cons_succ]; rfl) ?_
  refine wpLex_cons2 _ (uni_val (by rfl) (Op.slice 50 (Operand.tmp 11) none (some (Operand.tmp 12)) none) rfl (cutV vb 0 m) (fun o' ho W hW => by have hq := (HVW W hW).cutH m (by omega) W; go_simp)) (by simp only [Act.put, List.setIfInBounds_toArray, List.set_cons_zero, List.set_cons_succ]; rfl) ?_
  intro W hW
  simp only [List.drop_succ_cons, List.drop_zero]
  have hI : Blk W L.gi (img.map byt) 5 := (HI.out.below be (by rw [← hg]; exact HI.out.lt)).on hW
  have hcut := (HVW W hW).cut 0 m (by omega) (by omega)
  simp only [List.drop_zero, Nat.sub_zero] at hcut
  have hgi : L.gi < w.heap.size := HI.out.lt
  have bw : Below w.heap.size w W := by rw [hg]; exact be.trans (hW.mono (by have := be.size; omega))
  refine wpList_cp rfl (.tmp 9) (.tmp 13) rfl L.gi (s * 512) 512 _ rfl _ (b.take m) rfl hcut img hI (by omega) (fun q W2 hB hF => ?_)
  refine wpList_nil ?_
  refine bodyPost_end (results_none Tryz.results86 _ _ _) rfl ?_
  refine ⟨rfl, (Fx.of_below bw).and (hF.mono (fun i _ h => h)), ?_⟩
  have e1 : (b.take m).take 512 = b.take m := List.take_of_length_le (by simp; omega)
  have e2 : (b.take m).length = m := by simp; omega
  rw [e1, e2] at hB
  exact hB
end Go.Proofs.YtomioemhjhhbcaaGreatDoor
