import Derived.Test.YthlpfpggjkocmaaGu
import Derived.Laws.OwnMore
set_option linter.unusedVariables false
set_option linter.unusedSimpArgs false
namespace Go.Proofs.Ythlpfpggjkocmaa
open Go.RowKit

theorem Dev.crash_turn {w w' : World} {L : Lay} (hf : Fx (Three L) w w') : Turn w w' L (bareL L) := ⟨hf.mono (fun i _ h => three_F L i h), fun k h => .inl (bare_own L k h), rfl⟩
/-- Crash: it gives up now. -/
def crashE (D : Dv) : Int := if D.down then 80 else 0
theorem image_any {w : World} {L : Lay} {D : Dv} (h : Dev w L D) : Calls Try.prog 15 #[.pointer (some ⟨L.p, 0, none⟩)] w fun e w' =>
    e = .returned (.slice (some ⟨w.heap.size, 0, none⟩) D.img.length D.img.length) ∧ w' = w.alloc (.cells (D.img.map byt).toArray 5) := by
  have hc := h.c0
  have hi : Has w (.slice (some ⟨L.gi, 0, none⟩) (D.n * 512) (D.n * 512)) D.img := .inr ⟨⟨L.gi, 0, none⟩, D.n * 512, by rw [h.ok.len], by rw [h.ok.len]; omega, fun i u hu => by rw [add_plain, h.img.cell, List.getElem?_map, hu]; rfl⟩
  have hcp := hide (copied_any _ D.img (by have := h.ok.len; have := h.ok.n2; omega) w hi)
  clear h hi
  go_enter Try.func15, Try.ntmps15
  go_wp2_with (first
    | (go_at_call 43; refine hcp.out.mono ?_; rintro e w3 ⟨rfl, rfl⟩)
    | fail)
  go_ret
  exact ⟨rfl, rfl⟩
/-- One changing call more. -/
def tickD (D : Dv) : Dv := { D with calls := D.calls + 1, left := D.left - 1 }
def changedD (D : Dv) : Dv := if D.left = 1 then crashD { D with calls := D.calls + 1, left := 0 } D.keep D.torn D.off else tickD D
def changedE (D : Dv) : Int := if D.left = 1 then 80 else 0
def changedL (L : Lay) (D : Dv) : Lay := if D.left = 1 then bareL L else L
/-- Behind a change of the device's own block. -/
theorem Dev.setDev {w w' : World} {L : Lay} {D : Dv} (h : Dev w L D) (hf : Fx (One L.p) w w') (left calls : Nat) (hP : Blk w' L.p (dvC L.gi D.n L.vp L.gn left L.vk D.torn D.off D.down calls) 90) (hc : calls ≤ 1000000000000) : Dev w' L { D with left := left, calls := calls } :=
  { dev := hP, img := h.img.fx hf (Ne.symm h.pi), new := h.new.fx hf (Ne.symm h.pn), pen := ownsRow_fx h.pen hf (fun k hk e => (h.vpn k hk).1 e),
    bys := fun k g x h1 h2 => (h.bys k g x h1 h2).fx hf (fun e => (h.gsn g (List.mem_of_getElem? h1)).1 e), gsl := h.gsl, kp := h.kp.fx hf (fun k hk e => (h.vkn k hk).1 e),
    ok := ⟨h.ok.n1, h.ok.n2, h.ok.len, h.ok.sec, h.ok.few, hc⟩, pi := h.pi, pn := h.pn, inn := h.inn, vpn := h.vpn,
    vkn := fun k hk => ⟨(h.vkn k hk).1, (h.vkn k hk).2.1, (h.vkn k hk).2.2.1, Nat.lt_of_lt_of_le (h.vkn k hk).2.2.2 hf.size⟩,
    gsn := fun k hk => ⟨(h.gsn k hk).1, (h.gsn k hk).2.1, (h.gsn k hk).2.2.1, Nat.lt_of_lt_of_le (h.gsn k hk).2.2.2 hf.size⟩ }
theorem Turn.one {w w' : World} {L : Lay} (hf : Fx (One L.p) w w') : Turn w w' L L := ⟨hf.mono (fun i _ h => .inl h), fun k h => .inl h, rfl⟩
set_option maxRecDepth 100000 in
set_option maxHeartbeats 2000000 in
theorem changed_any {w : World} {L : Lay} {D : Dv} (h : Dev w L D) (hcal : D.calls < 1000000000000) (hleft : D.left < 9223372036854775808) : Calls Try.prog 68 #[.pointer (some ⟨L.p, 0, none⟩)] w fun e w' =>
    e = .returned (.int .i64 (changedE D)) ∧ Turn w w' L (changedL L D) ∧ Dev w' (changedL L D) (changedD D) := by
  have H := hide h
  have hc8 := h.c8
  have hf8 := h.dev.frozen 8
  have B1 : Blk (w.setCell ⟨L.p, 8, none⟩ (.int .i64 ((D.calls + 1 : Nat) : Int))) L.p (dvC L.gi D.n L.vp L.gn D.left L.vk D.torn D.off D.down (D.calls + 1)) 90 := h.dev.set 8 _
  have F1 : Fx (One L.p) w (w.setCell ⟨L.p, 8, none⟩ (.int .i64 ((D.calls + 1 : Nat) : Int))) := Fx.setCell _ _ _ _ rfl
  have e1 : wrap64 ((D.calls : Int) + 1) = ((D.calls + 1 : Nat) : Int) := by rw [IntWalk.wrap64_in _ (by omega)]; simp
  have e2 : (D.calls : Int) + 1 = ((D.calls + 1 : Nat) : Int) := by simp
  obtain ⟨C, hC⟩ : ∃ C, D.calls + 1 = C := ⟨_, rfl⟩
  rw [hC] at B1 F1 e1 e2
  have hC2 : C ≤ 1000000000000 := by omega
  have HC := hide hC
  clear hC
  obtain ⟨w1, hw1⟩ : ∃ w1, w.setCell ⟨L.p, 8, none⟩ (.int .i64 (C : Int)) = w1 := ⟨_, rfl⟩
  rw [hw1] at B1 F1
  have hc3 := (B1.cell 3).trans (show _ = some (.int .i64 (D.left : Int)) from rfl)
  have hf3 := B1.frozen 3
  have HB1 := hide B1
  have HF1 := hide F1
  clear B1 F1 h
  unfold changedE changedL changedD
  by_cases h0 : D.left = 0
  · have z0 : (D.left : Int) = 0 := by omega
    rw [if_neg (by omega), if_neg (by omega), if_neg (by omega)]
    go_enter Try.func68, Try.ntmps68
    go_wp2
    go_ret
    refine ⟨rfl, Turn.one HF1.out, ?_⟩
    have := H.out.setDev HF1.out D.left C HB1.out hC2
    rw [show tickD D = { D with left := D.left, calls := C } by unfold tickD; rw [HC.out, h0]]
    exact this
  · obtain ⟨l, hl⟩ : ∃ l, D.left = l + 1 := ⟨D.left - 1, by omega⟩
    rw [hl] at hc3
    have B2 : Blk (w1.setCell ⟨L.p, 3, none⟩ (.int .i64 (l : Int))) L.p (dvC L.gi D.n L.vp L.gn l L.vk D.torn D.off D.down C) 90 := HB1.out.set 3 _
    have F2 : Fx (One L.p) w (w1.setCell ⟨L.p, 3, none⟩ (.int .i64 (l : Int))) := HF1.out.and (Fx.setCell _ _ _ _ rfl)
    have n0 : ¬ ((l + 1 : Nat) : Int) = 0 := by omega
    have e3 : wrap64 (((l + 1 : Nat) : Int) - 1) = (l : Int) := by rw [IntWalk.wrap64_in _ (by omega)]; omega
    have e4 : ((l + 1 : Nat) : Int) - 1 = (l : Int) := by omega
    obtain ⟨l1, hl1⟩ : ∃ l1, l + 1 = l1 := ⟨_, rfl⟩
    rw [hl1] at hc3 n0 e3 e4
    obtain ⟨w2, hw2⟩ : ∃ w2, w1.setCell ⟨L.p, 3, none⟩ (.int .i64 (l : Int)) = w2 := ⟨_, rfl⟩
    rw [hw2] at B2 F2
    have hd3 := (B2.cell 3).trans (show _ = some (.int .i64 (l : Int)) from rfl)
    have D2 := hide (H.out.setDev F2 l C B2 hC2)
    have HF2 := hide F2
    have HB2 := hide B2
    clear B2 F2
    by_cases hz : l = 0
    · have hz2 : ¬ (0 : Int) < (l : Int) := by omega
      rw [if_pos (by omega), if_pos (by omega), if_pos (by omega)]
      have HZ := hide hz
      clear hz hl1 hl
      have hg := hide (giveUp_any D2.out L.vk D.keep D.torn D.off D2.out.kp (fun k hk => (H.out.vkn k hk).2.1))
      have R4 : Hid (w2.rangeAt L.p 4 (lossC L.vk D.torn D.off)) := hide (fun j v hj => by
        rw [HB2.out.cell, ← hj]
        have hj3 : j < 3 := by have := (List.getElem?_eq_some_iff.1 hj).1; simpa [lossC] using this
        match j, hj3 with
        | 0, _ => rfl
        | 1, _ => rfl
        | 2, _ => rfl)
      go_enter Try.func68, Try.ntmps68
      go_wp2_with (first
        | (refine wpList_load_mid rfl 88 (.tmp 30) rfl L.p 4 rfl (lossC L.vk D.torn D.off) _ R4.out Try.underlying88 rfl (info38 _ _ _) ?_)
        | (go_at_call 76; refine hg.out.mono ?_; rintro e w3 ⟨rfl, hp, hq⟩; have F3 := hide hp; have D3 := hide hq; clear hp hq)
        | fail)
      go_ret
      refine ⟨rfl, (Turn.one HF2.out).trans (Dev.crash_turn F3.out), ?_⟩
      rw [HC.out]
      have := D3.out
      rw [HZ.out] at this
      exact this
    · have hz2 : (0 : Int) < (l : Int) := by omega
      rw [if_neg (by omega), if_neg (by omega), if_neg (by omega)]
      clear hl1
      go_enter Try.func68, Try.ntmps68
      go_wp2
      go_ret
      refine ⟨rfl, Turn.one HF2.out, ?_⟩
      rw [show tickD D = { D with left := l, calls := C } by unfold tickD; rw [HC.out, hl, Nat.add_sub_cancel]]
      exact D2.out
end Go.Proofs.Ythlpfpggjkocmaa

set_option linter.unusedVariables false
set_option linter.unusedSimpArgs false
namespace Go.Proofs.Ythlpfpggjkocmaa
open Go.RowKit

/-- A row's new place: its old one, or a new block. -/
def Nw (w : World) (v v' : Value) : Prop := ∀ k, v'.ownBlock = some k → v.ownBlock = some k ∨ w.heap.size ≤ k
/-- 'append' to an owned row: what becomes of the row. -/
theorem run_appx (w : World) (t ty e : TypeId) (i : TypeInfo) (z : Value) (size bytes : Nat) (ht : Try.prog.underlying t = some (.slice e)) (hi : Try.prog.info? e = some i) (hz : i.zero = some z)
    (hsize : i.size = size) (hby : i.bytes = bytes) (hzs : z.cells.size = size) (hs0 : 0 < size) (v : Value) (n : Nat) (xs : List Value) (hown : w.ownsRow 0 e size v n xs)
    (a : Addr) (m c : Nat) (news : List Value) (hl : news.length = m * size) (hnews : ∀ j u, news[j]? = some u → w.cell? (a.add j) = some u) (h1 : ∀ u ∈ news, u.oneCell' = true)
    (hn : n + m ≤ 1000000000) (hby0 : bytes ≤ 64) :
    ∃ v' w', (Builtin.append_ #[t, t] ty #[v, .slice (some a) m c]).run Try.prog w = .ok v' w' ∧ w'.ownsRow 0 e size v' (n + m) (xs ++ news) ∧ w.grownBy w' v.ownBlock ∧ Nw w v v' := by
  have h63 : n + m ≤ maxLen := by unfold maxLen; omega
  have hb : (n + m) * bytes ≤ 140737488355328 := Nat.le_trans (Nat.mul_le_mul hn hby0) (by decide)
  obtain ⟨v', w', r1, r2, r3, r4⟩ := run_append_own (P := Try.prog) w 0 t ty e i z size bytes ht hi hz hsize hby hzs hs0 v n xs hown a m c news hl hnews h1 h63 hb (Nat.zero_le _)
  refine ⟨v', w', r1, r2, r3, ?_⟩
  have hown' := hown
  obtain ⟨hx, ⟨rfl, hz0⟩ | ⟨g, cp, cur, rfl, hg, hh2, hnc, hc, hs, htk⟩⟩ := hown'
  · have hnil : w.ownsRow w.heap.size e size (.slice none 0 0) n xs := ⟨hx, .inl ⟨rfl, hz0⟩⟩
    obtain ⟨v2, w2, q1, q2, q3, q4⟩ := run_append_own (P := Try.prog) w w.heap.size t ty e i z size bytes ht hi hz hsize hby hzs hs0 _ n xs hnil a m c news hl hnews h1 h63 hb (Nat.le_refl _)
    rw [r1] at q1
    simp only [Result.ok.injEq] at q1
    obtain ⟨rfl, rfl⟩ := q1
    intro k hk
    right
    obtain ⟨_, ⟨rfl, _⟩ | ⟨g, cap, cur, rfl, hg, _⟩⟩ := q2
    · cases hk
    · simp [Value.ownBlock] at hk; omega
  · by_cases hroom : n + m ≤ cp
    · obtain ⟨w2, q1, _⟩ := run_append_fits (P := Try.prog) w 0 t ty e i size ht hi hsize g n cp xs hown a m c news hl hnews h1 hroom
      rw [r1] at q1
      simp only [Result.ok.injEq] at q1
      obtain ⟨rfl, rfl⟩ := q1
      exact fun k hk => .inl hk
    · have hcap := nextcap_le (n + m) cp (by omega)
      have hfit : Builtin.nextslicecap (n + m) cp * i.bytes ≤ 281474976710656 := by
        rw [hby]
        refine Nat.le_trans (Nat.mul_le_mul (Nat.le_trans hcap (show (n + m) + ((n + m) + 768) / 4 ≤ 2000000000 by omega)) hby0) (by decide)
      have q1 := run_append_grow (P := Try.prog) w t ty e i z ht hi hz ⟨g, 0, none⟩ n cp xs (by rw [hsize]; exact hx) (World.ownsRow.cells hown (g := g) rfl) a m c news (by rw [hsize]; exact hl) hnews (by omega) (by omega) hfit
      rw [r1] at q1
      simp only [Result.ok.injEq] at q1
      obtain ⟨rfl, rfl⟩ := q1
      intro k hk
      simp [Value.ownBlock] at hk
      exact .inr (by omega)
theorem grown_fx {w w' : World} {v : Value} (h : w.grownBy w' v.ownBlock) : Fx (fun k => v.ownBlock = some k) w w' := by
  obtain ⟨h1, h2, h3, h4, h5⟩ := h
  exact ⟨h1, h2, h3, h4, fun k hk hn => h5 k hk (fun e => hn e.symm)⟩
end Go.Proofs.Ythlpfpggjkocmaa
