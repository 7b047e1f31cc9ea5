import Derived.Test.YthfcabhelldokaaSe
set_option linter.unusedVariables false
set_option linter.unusedSimpArgs false
namespace Go.Proofs.Ythfcabhelldokaa
open Go.RowKit

/-- Without its loss. -/
def unkL (L : Lay) : Lay := ⟨L.p, L.gi, L.gn, L.vp, .slice none 0 0, L.gs⟩
theorem unk_own (L : Lay) (k : Nat) (h : (unkL L).F k) : L.F k := by
  rcases h with h | h | h | h | h | h
  · exact .inl h
  · exact .inr (.inl h)
  · exact .inr (.inr (.inl h))
  · exact .inr (.inr (.inr (.inl h)))
  · simp [unkL, Value.ownBlock] at h
  · exact .inr (.inr (.inr (.inr (.inr h))))
/-- It runs again. -/
def upD (D : Dv) : Dv := ⟨D.n, D.img, D.pen, 0, [], 0, 0, false, D.calls⟩
/-- Behind a disarming. -/
theorem Dev.disarmed {w w' : World} {L : Lay} {D : Dv} (h : Dev w L D) (hf : Fx (One L.p) w w') (down : Bool) (hP : Blk w' L.p (dvC L.gi D.n L.vp L.gn 0 (.slice none 0 0) 0 0 down D.calls) 75) : Dev w' (unkL L) ⟨D.n, D.img, D.pen, 0, [], 0, 0, down, D.calls⟩ :=
  { dev := hP, img := h.img.fx hf (Ne.symm h.pi), new := h.new.fx hf (Ne.symm h.pn), pen := ownsRow_fx h.pen hf (fun k hk e => (h.vpn k hk).1 e),
    bys := fun k g x h1 h2 => (h.bys k g x h1 h2).fx hf (fun e => (h.gsn g (List.mem_of_getElem? h1)).1 e), gsl := h.gsl, kp := Has64.nil _,
    ok := ⟨h.ok.n1, h.ok.n2, h.ok.len, h.ok.sec, h.ok.few, h.ok.cal⟩, pi := h.pi, pn := h.pn, inn := h.inn,
    vpn := fun k hk => ⟨(h.vpn k hk).1, (h.vpn k hk).2.1, (h.vpn k hk).2.2.1, by simp [unkL, Value.ownBlock], (h.vpn k hk).2.2.2.2⟩,
    vkn := fun k hk => by simp [unkL, Value.ownBlock] at hk,
    gsn := fun k hk => ⟨(h.gsn k hk).1, (h.gsn k hk).2.1, (h.gsn k hk).2.2.1, Nat.lt_of_lt_of_le (h.gsn k hk).2.2.2 hf.size⟩ }
set_option maxRecDepth 100000 in
set_option maxHeartbeats 1000000 in
theorem up_any {w : World} {L : Lay} {D : Dv} (h : Dev w L D) : Calls Try.prog 25 #[.pointer (some ⟨L.p, 0, none⟩)] w fun e w' => e = .returned (.int .i64 0) ∧ Turn w w' L (unkL L) ∧ Dev w' (unkL L) (upD D) := by
  have hda := hide (disarm_any h.dev)
  have H := hide h
  clear h
  go_enter Try.func25, Try.ntmps25
  go_wp2_with (first
    | (go_at_call 41; refine hda.out.mono ?_; rintro e w4 ⟨rfl, hp, hq⟩; have F4 := hide hp; have D4 := hide hq; have hfz := hq.frozen 7; have hold := (hq.cell 7).trans (show _ = some (.bool D.down) from rfl); clear hp hq)
    | fail)
  go_ret
  have D5 := D4.out.set 7 (.bool false)
  have F5 : Fx (One L.p) w (w4.setCell ⟨L.p, 7, none⟩ (.bool false)) := F4.out.and (Fx.setCell _ _ _ _ rfl)
  exact ⟨rfl, ⟨F5.mono (fun i _ h => .inl h), fun k h => .inl (unk_own L k h), rfl⟩, H.out.disarmed F5 false D5⟩
end Go.Proofs.Ythfcabhelldokaa
