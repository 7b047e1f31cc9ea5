import Derived.Test.YthlpfpggjkocmaaDvG
set_option linter.unusedVariables false
set_option linter.unusedSimpArgs false
namespace Go.Proofs.Ythlpfpggjkocmaa
open Go.RowKit

theorem build75 (gi N gn n : Nat) (W : World) : (Instr.build 90 #[(0, .slice (some ⟨gi, 0, none⟩) N N), (2, .slice (some ⟨gn, 0, none⟩) n n)]).run Try.prog W =
    .ok (.agg #[.slice (some ⟨gi, 0, none⟩) N N, .slice none 0 0, .slice (some ⟨gn, 0, none⟩) n n, .int .i64 0, .slice none 0 0, .int .i64 0, .int .i64 0, .bool false, .int .i64 0]) W := by kernel_rfl
theorem dvC_fresh (gi n gn : Nat) : dvC gi n (.slice none 0 0) gn 0 (.slice none 0 0) 0 0 false 0 = [.slice (some ⟨gi, 0, none⟩) (n * 512) (n * 512), .slice none 0 0, .slice (some ⟨gn, 0, none⟩) n n, .int .i64 0, .slice none 0 0, .int .i64 0, .int .i64 0, .bool false, .int .i64 0] := rfl

set_option maxRecDepth 100000 in
theorem over_any (gi n : Nat) (hn : n ≤ 4096) (w : World) : Calls Try.prog 42 #[.slice (some ⟨gi, 0, none⟩) (n * 512) (n * 512)] w fun e w' =>
    e = .returned (.pointer (some ⟨w.heap.size + 1, 0, none⟩)) ∧ w' = (w.alloc (.cells (List.replicate n (Value.int .i64 0)).toArray 3)).alloc (.cells (dvC gi n (.slice none 0 0) w.heap.size 0 (.slice none 0 0) 0 0 false 0).toArray 90) := by
  have hmk := run_mk73 w n (by omega)
  have hbd := fun W => build75 gi (n * 512) w.heap.size n W
  have hlen : ∀ W ty, (Builtin.len_ #[37] ty #[.slice (some ⟨gi, 0, none⟩) (n * 512) (n * 512)]).run Try.prog W = .ok (.int .i64 ((n * 512 : Nat) : Int)) W := fun W ty => by go_simp
  have hq : (((n * 512 : Nat) : Int)) / 512 = (n : Int) := by omega
  have hq2 : wrap64 (n : Int) = (n : Int) := IntWalk.wrap64_in _ (by omega)
  rw [dvC_fresh]
  obtain ⟨N, hN⟩ : ∃ N, n * 512 = N := ⟨_, rfl⟩
  rw [hN] at hbd hlen hq ⊢
  obtain ⟨g, hg⟩ : ∃ g, w.heap.size = g := ⟨_, rfl⟩
  have hsz : (w.alloc (.cells (List.replicate n (Value.int .i64 0)).toArray 3)).heap.size = g + 1 := by simp [hg]
  obtain ⟨w1, hw1⟩ : ∃ w1, w.alloc (.cells (List.replicate n (Value.int .i64 0)).toArray 3) = w1 := ⟨_, rfl⟩
  rw [hw1] at hsz
  rw [hw1, hg] at hmk
  rw [hg] at hbd
  rw [hw1, hg]
  clear hw1 hg hN
  go_enter Try.func42, Try.ntmps42
  go_wp2_with (first | (refine wpList_boxAt rfl 90 (.tmp 8) rfl _ rfl (g + 1) hsz ?_))
  go_ret
  exact ⟨rfl, rfl⟩

/-- The world behind New. -/
def newW (w : World) (n : Nat) (img : List UInt8) : World :=
  ((w.alloc (.cells (img.map byt).toArray 5)).alloc (.cells (List.replicate n (Value.int .i64 0)).toArray 3)).alloc (.cells (dvC w.heap.size n (.slice none 0 0) (w.heap.size + 1) 0 (.slice none 0 0) 0 0 false 0).toArray 90)
theorem newW_below (w : World) (n : Nat) (img : List UInt8) : Below w.heap.size w (newW w n img) := by
  unfold newW
  exact (((Below.refl _ _).alloc (Nat.le_refl _) _).alloc (by simp) _).alloc (by simp; omega) _
theorem newW_dev (w : World) (n : Nat) (img : List UInt8) (h1 : 1 ≤ n) (h2 : n ≤ 4096) (hl : img.length = n * 512) :
    Dev (newW w n img) (freshL (w.heap.size + 2) w.heap.size (w.heap.size + 1)) (freshD n img) := by
  unfold newW freshL freshD
  refine { dev := ?_, img := ?_, new := ?_, pen := ⟨rfl, .inl ⟨rfl, rfl⟩⟩, bys := fun k g x h => by simp at h, gsl := rfl, kp := Has64.nil _, ok := ⟨h1, h2, hl, fun x hx => by simp at hx, by simp, by simp⟩, pi := by simp, pn := by simp, inn := by simp, vpn := fun k hk => by simp [Value.ownBlock] at hk, vkn := fun k hk => by simp [Value.ownBlock] at hk, gsn := fun k hk => by simp at hk }
  · have := Blk.new ((w.alloc (.cells (img.map byt).toArray 5)).alloc (.cells (List.replicate n (Value.int .i64 0)).toArray 3)) (dvC w.heap.size n (.slice none 0 0) (w.heap.size + 1) 0 (.slice none 0 0) 0 0 false 0) 90
    simpa using this
  · exact ((Blk.new w (img.map byt) 5).alloc _).alloc _
  · have := (Blk.new (w.alloc (.cells (img.map byt).toArray 5)) (List.replicate n (Value.int .i64 0)) 3).alloc (.cells (dvC w.heap.size n (.slice none 0 0) (w.heap.size + 1) 0 (.slice none 0 0) 0 0 false 0).toArray 90)
    rw [show nwC n (nw []) = List.replicate n (.int .i64 0) from nwC_zero n]
    simpa using this

def zer (n : Nat) : List UInt8 := List.replicate (n * 512) 0
theorem zer_length (n : Nat) : (zer n).length = n * 512 := by simp [zer]

set_option maxRecDepth 100000 in
theorem new_any (n : Nat) (h1 : 1 ≤ n) (h2 : n ≤ 4096) (w : World) : Calls Try.prog 34 #[.int .i64 (n : Int)] w fun e w' =>
    e = .returned (.tuple #[.pointer (some ⟨w.heap.size + 2, 0, none⟩), .int .i64 0]) ∧ w' = newW w n (zer n) := by
  have hmk := run_mk34 w (n * 512) (by omega)
  have hov := over_any w.heap.size n h2 (w.alloc (.cells ((zer n).map byt).toArray 5))
  rw [show (w.alloc (.cells ((zer n).map byt).toArray 5)).heap.size = w.heap.size + 1 by simp] at hov
  have hov2 : Hid (Calls Try.prog 42 #[.slice (some ⟨w.heap.size, 0, none⟩) (n * 512) (n * 512)] (w.alloc (.cells ((zer n).map byt).toArray 5)) fun e w' => e = .returned (.pointer (some ⟨w.heap.size + 2, 0, none⟩)) ∧ w' = newW w n (zer n)) := hide hov
  clear hov
  have a1 : ¬ (n : Int) < 1 := by omega
  have a2 : ¬ (4096 : Int) < (n : Int) := by omega
  rw [show (List.replicate (n * 512) (0 : UInt8)) = zer n from rfl] at hmk
  obtain ⟨w1, hw1⟩ : ∃ w1, w.alloc (.cells ((zer n).map byt).toArray 5) = w1 := ⟨_, rfl⟩
  obtain ⟨w2, hw2⟩ : ∃ w2, newW w n (zer n) = w2 := ⟨_, rfl⟩
  obtain ⟨g, hg⟩ : ∃ g, w.heap.size = g := ⟨_, rfl⟩
  rw [hw1, hg] at hmk
  rw [hw1, hw2, hg] at hov2
  rw [hw2, hg]
  clear hw1 hw2 hg
  have e1 : wrap64 ((n : Int) * 512) = ((n * 512 : Nat) : Int) := by rw [IntWalk.wrap64_in _ (by omega)]; simp
  have e2 : (n : Int) * 512 = ((n * 512 : Nat) : Int) := by simp
  obtain ⟨N, hN⟩ : ∃ N, n * 512 = N := ⟨_, rfl⟩
  rw [hN] at hmk hov2 e1 e2
  clear hN
  go_enter Try.func34, Try.ntmps34
  go_wp2_with (first
    | (go_at_call 42; refine hov2.out.mono ?_; rintro e w3 ⟨rfl, rfl⟩)
    | fail)
  go_ret2
  exact ⟨rfl, rfl⟩
theorem new_no (n : Int) (h : n < 1 ∨ 4096 < n) (w : World) : Calls Try.prog 34 #[.int .i64 n] w fun e w' => e = .returned (.tuple #[.pointer none, .int .i64 4]) ∧ w' = w := by
  by_cases h1 : n < 1
  · go_enter Try.func34, Try.ntmps34
    go_wp2
    go_ret2
    exact ⟨rfl, rfl⟩
  · have h2 : 4096 < n := h.resolve_left h1
    go_enter Try.func34, Try.ntmps34
    go_wp2
    go_ret2
    exact ⟨rfl, rfl⟩

/-- What is read off a device's own block. -/
theorem Dev.c0 {w : World} {L : Lay} {D : Dv} (h : Dev w L D) : w.cell? ⟨L.p, 0, none⟩ = some (.slice (some ⟨L.gi, 0, none⟩) (D.n * 512) (D.n * 512)) := (h.dev.cell 0).trans rfl
theorem Dev.c1 {w : World} {L : Lay} {D : Dv} (h : Dev w L D) : w.cell? ⟨L.p, 1, none⟩ = some L.vp := (h.dev.cell 1).trans rfl
theorem Dev.c2 {w : World} {L : Lay} {D : Dv} (h : Dev w L D) : w.cell? ⟨L.p, 2, none⟩ = some (.slice (some ⟨L.gn, 0, none⟩) D.n D.n) := (h.dev.cell 2).trans rfl
theorem Dev.c3 {w : World} {L : Lay} {D : Dv} (h : Dev w L D) : w.cell? ⟨L.p, 3, none⟩ = some (.int .i64 D.left) := (h.dev.cell 3).trans rfl
theorem Dev.c7 {w : World} {L : Lay} {D : Dv} (h : Dev w L D) : w.cell? ⟨L.p, 7, none⟩ = some (.bool D.down) := (h.dev.cell 7).trans rfl
theorem Dev.c8 {w : World} {L : Lay} {D : Dv} (h : Dev w L D) : w.cell? ⟨L.p, 8, none⟩ = some (.int .i64 D.calls) := (h.dev.cell 8).trans rfl

theorem sectors_any {w : World} {L : Lay} {D : Dv} (h : Dev w L D) : Calls Try.prog 45 #[.pointer (some ⟨L.p, 0, none⟩)] w fun e w' => e = .returned (.int .i64 (D.n : Int)) ∧ w' = w := by
  have hc := h.c2
  clear h
  go_enter Try.func45, Try.ntmps45
  go_wp2
  go_ret
  exact ⟨rfl, rfl⟩
theorem down_any {w : World} {L : Lay} {D : Dv} (h : Dev w L D) : Calls Try.prog 44 #[.pointer (some ⟨L.p, 0, none⟩)] w fun e w' => e = .returned (.bool D.down) ∧ w' = w := by
  have hc := h.c7
  clear h
  go_enter Try.func44, Try.ntmps44
  go_wp2
  go_ret
  exact ⟨rfl, rfl⟩
theorem calls_any {w : World} {L : Lay} {D : Dv} (h : Dev w L D) : Calls Try.prog 39 #[.pointer (some ⟨L.p, 0, none⟩)] w fun e w' => e = .returned (.int .i64 (D.calls : Int)) ∧ w' = w := by
  have hc := h.c8
  clear h
  go_enter Try.func39, Try.ntmps39
  go_wp2
  go_ret
  exact ⟨rfl, rfl⟩
/-- Why a sector can't be reached. -/
def refE (D : Dv) (i : Int) : Int := if D.down then 80 else if i < 0 ∨ (D.n : Int) ≤ i then 81 else 0
theorem refusal_any {w : World} {L : Lay} {D : Dv} (h : Dev w L D) (i : Int) : Calls Try.prog 66 #[.pointer (some ⟨L.p, 0, none⟩), .int .i64 i] w fun e w' => e = .returned (.int .i64 (refE D i)) ∧ w' = w := by
  have hs := hide (sectors_any h)
  have hc := h.c7
  clear h
  unfold refE
  cases hd : D.down with
  | true =>
    rw [hd] at hc
    go_enter Try.func66, Try.ntmps66
    go_wp2
    go_ret
    exact ⟨rfl, rfl⟩
  | false =>
    rw [hd] at hc
    by_cases h1 : i < 0
    · go_enter Try.func66, Try.ntmps66
      go_wp2
      go_ret
      exact ⟨by simp [h1], rfl⟩
    · by_cases h2 : (D.n : Int) ≤ i
      · go_enter Try.func66, Try.ntmps66
        go_wp2_with (first
          | (go_at_call 45; refine hs.out.mono ?_; rintro e w3 ⟨rfl, rfl⟩)
          | fail)
        go_ret
        exact ⟨by simp [h2], rfl⟩
      · go_enter Try.func66, Try.ntmps66
        go_wp2_with (first
          | (go_at_call 45; refine hs.out.mono ?_; rintro e w3 ⟨rfl, rfl⟩)
          | fail)
        go_ret
        exact ⟨by simp [h1, h2], rfl⟩
end Go.Proofs.Ythlpfpggjkocmaa
