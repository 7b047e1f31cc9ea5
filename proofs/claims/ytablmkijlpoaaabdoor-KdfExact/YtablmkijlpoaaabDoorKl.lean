import Derived.Test.YtablmkijlpoaaabDoorHd
namespace Go.Proofs.YtablmkijlpoaaabDoor
open Go.RowKit

theorem len63 (ao : Option Addr) (n c : Nat) (W : World) (ty : TypeId) : (Builtin.len_ #[63] ty #[.slice ao n c]).run Tryd.prog W = .ok (.int .i64 n) W := by go_simp
theorem idx63 (ad : Addr) (n cap m : Nat) (h : m < n) (W : World) : (Instr.indexAt 63 (.slice (some ad) n cap) (.int .i64 (m : Int))).run Tryd.prog W = .ok (.pointer (some (ad.add (m * 32)))) W := by
  have hm : (m : Int) < (n : Int) := by omega
  go_simp
theorem rowE_range {w : World} {base : Nat} {e : TypeId} {v : Value} {n : Nat} {bs : List UInt8} (h : w.ownsRow base e 32 v n (bs.map byt)) (m : Nat) (hm : m < n) : ∃ g cap, v = .slice (some ⟨g, 0, none⟩) n cap ∧ w.rangeAt g (32 * m) (((bs.drop (32 * m)).take 32).map byt) := by
  have hl := h.1
  rw [List.length_map] at hl
  obtain ⟨_, ⟨h1, h2⟩ | ⟨g, cap, cur, h1, r⟩⟩ := id h
  · omega
  · refine ⟨g, cap, h1, fun j u hj => ?_⟩
    rw [List.getElem?_map] at hj
    have hj32 : j < 32 := by
      rcases Nat.lt_or_ge j 32 with h' | h'
      · exact h'
      · rw [List.getElem?_eq_none (by simp; omega)] at hj; cases hj
    rw [List.getElem?_take_of_lt hj32, List.getElem?_drop] at hj
    have hc := h.cells (g := g) (by rw [h1]; rfl) (32 * m + j) u (by rw [List.getElem?_map]; exact hj)
    rw [add_plain] at hc
    exact hc
theorem row_of_blk {w : World} {g base n : Nat} {X : List UInt8} (h : Blk w g (X.map byt) 45) (hb : base ≤ g) (hX : X.length = 32 * n) (hn : n ≤ 255) : w.ownsRow base 45 32 (.slice (some ⟨g, 0, none⟩) n n) n (X.map byt) := by
  refine ⟨by rw [List.length_map]; omega, .inr ⟨g, n, _, rfl, hb, h, Nat.le_refl _, by unfold maxLen; omega, by rw [List.size_toArray, List.length_map]; omega, ?_⟩⟩
  rw [List.take_of_length_le (by simp; omega)]
theorem info35l (D : List UInt8) (h : D.length = 32) : (Tryd.prog.info? 35).map (·.size) = some (D.map byt).length := by rw [List.length_map, h]; kernel_rfl

/-- What the law's calls leave of the book. -/
def Left3 (w x z : World) (p : Nat) (L V K M : Value) (ls vs ks : List Value) : Prop :=
  ∃ K' M' ks' ms', Bc w z p L V K' M' ls vs ks' ms' ∧ Ent 5 1 z ls vs ∧ Ent 45 32 z ks' ms' ∧ ks'.length = ks.length + 2 ∧ Fx (fun k => k = p ∨ K.ownBlock = some k ∨ M.ownBlock = some k) x z

set_option maxRecDepth 100000 in
set_option maxHeartbeats 1000000 in
theorem keyslaw_bad (w x : World) (p : Nat) (L V K M : Value) (ls vs ks ms : List Value) (hB : Bc w x p L V K M ls vs ks ms) (hE : Ent 5 1 x ls vs) (hK : Ent 45 32 x ks ms) (hn : ks.length ≤ 1000) (vk va vb : Value) (n : Int) (h0 : n < 0 ∨ 255 < n) :
    Calls Tryd.prog 14 #[.pointer (some ⟨p, 0, none⟩), vk, va, vb, .int .i64 n] x fun e z => e = .returned (.bool true) ∧ Left3 w x z p L V K M ls vs ks := by
  have hnote := hide (note32_any w x x p L V K M (.slice none 0 0) ls vs ks ms 0 [] hB hE hK (Below.refl _ _) (World.ownsRow_nil _ _ _ _) (by omega) hn)
  obtain ⟨er, hk, hr⟩ : ∃ er : Int, (Calls Tryd.prog 28 #[vk, va, vb, .int .i64 n] x fun e w' => e = .returned (.tuple #[.slice none 0 0, .int .i64 er]) ∧ w' = x) ∧ (Calls Tryd.prog 29 #[vk, va, vb, .int .i64 n] x fun e w' => e = .returned (.tuple #[.slice none 0 0, .int .i64 er]) ∧ w' = x) := by
    rcases h0 with h | h
    · exact ⟨4, keys_low vk va vb n x h, rkeys_low vk va vb n x h⟩
    · exact ⟨30, keys_high vk va vb n x h, rkeys_high vk va vb n x h⟩
  have HK := hide hk
  have HR := hide hr
  clear hB hE hK hk hr
  go_enter Tryd.func14, Tryd.ntmps14
  go_wp2_with (first
    | (go_at_call 28; refine HK.out.mono ?_; rintro e x1 ⟨rfl, hx1⟩; subst hx1)
    | (go_at_call 29; refine HR.out.mono ?_; rintro e x2 ⟨rfl, hx2⟩; subst hx2)
    | fail)
  go_loopw [15] (fun i wr => i = .int .i64 0 ∧ wr = x2) (fun _ _ => 0)
  case atStart => exact ⟨rfl, rfl⟩
  case round =>
    obtain ⟨rfl, rfl⟩ := hrel
    go_wp2_with (go_at_call 30; refine hnote.out.mono ?_; rintro e z ⟨rfl, hz⟩; have HZ := hide hz; clear hz)
    go_ret
    exact ⟨rfl, HZ.out⟩

set_option maxRecDepth 100000 in
set_option maxHeartbeats 1000000 in
theorem keyslaw_ok (w x : World) (p : Nat) (L V K M : Value) (ls vs ks ms : List Value) (hB : Bc w x p L V K M ls vs ks ms) (hE : Ent 5 1 x ls vs) (hK : Ent 45 32 x ks ms) (hn : ks.length ≤ 1000) (vk va vb : Value) (key A B : List UInt8) (n : Nat) (hnn : n ≤ 255)
    (hk : Has x vk key) (ha : Has x va A) (hb : Has x vb B) (lk : key.length ≤ 400) (la : A.length ≤ 400) (lb : B.length ≤ 400) (cK : Kst x) (cR : Rst x) (cS : Bst x) :
    Calls Tryd.prog 14 #[.pointer (some ⟨p, 0, none⟩), vk, va, vb, .int .i64 (n : Int)] x fun e z => e = .returned (.bool true) ∧ Left3 w x z p L V K M ls vs ks := by
  obtain ⟨X, hX⟩ : ∃ X, exOut (macOf key A) B (32 * n) = X := ⟨_, rfl⟩
  have HXL : Lk X.length (32 * n) := ⟨by rw [← hX]; exact exOut_length _ _ _⟩
  have hk1 := hide (keys_ok vk va vb key A B X n x hk ha hb cK (by omega) (by omega) (by omega) hnn hX)
  have hr1 : Hid (∀ y, Below x.heap.size x y → Calls Tryd.prog 29 #[vk, va, vb, .int .i64 (n : Int)] y fun e w' => ∃ u, e = .returned (.tuple #[u, .int .i64 0]) ∧ w'.ownsRow y.heap.size 35 32 u n (X.map byt) ∧ Below y.heap.size y w') := hide (fun y hy => rkeys_ok vk va vb key A B X n y (hk.below hy) (ha.below hy) (hb.below hy) (by omega) (by omega) (by omega) hnn hX (cR.below hy cR.lt) (cS.below hy cS.lt))
  have hnote : Hid (∀ y g, Below x.heap.size x y → Blk y g (X.map byt) 45 → x.heap.size ≤ g → Calls Tryd.prog 30 #[.pointer (some ⟨p, 0, none⟩), .slice (some ⟨g, 0, none⟩) n n] y fun e z => e = .returned (.tuple #[]) ∧ Left3 w x z p L V K M ls vs ks) := hide (fun y g hy hg hxg => note32_any w x y p L V K M _ ls vs ks ms n X hB hE hK hy (row_of_blk hg hxg HXL.h hnn) hnn hn)
  clear hB hE hK hk ha hb cK cR cS hX
  go_enter Tryd.func14, Tryd.ntmps14
  go_upto_region 6 with (first
    | (go_at_call 28; refine hk1.out.mono ?_; rintro e x1 ⟨g, rfl, hbg, hbx, hxg⟩; have BG := hide hbg; have BX := hide hbx; have XG := hide hxg; clear hbg hbx hxg)
    | (go_at_call 29; refine (hr1.out _ BX.out).mono ?_; rintro e x2 ⟨u, rfl, hu, hb2⟩; obtain ⟨am, cm, rfl⟩ := ownsRow_slice hu; have OU := hide hu; have B2 := hide hb2; clear hu hb2)
    | fail)
  have B2x : Hid (Below x.heap.size x x2) := hide (BX.out.trans (B2.out.mono BX.out.size))
  have BG2 : Hid (Blk x2 g (X.map byt) 45) := hide (BG.out.below B2.out BG.out.lt)
  clear BG BX B2 hk1 hr1
  have hl1 := fun W ty => len63 am n cm W ty
  go_loopw [15] (fun i wr => ∃ k : Nat, k ≤ n ∧ i = .int .i64 k ∧ ∃ q, wr = x2.drewN q) (fun i _ => n - (intOf i).toNat)
  case atStart => exact ⟨0, by omega, rfl, 0, rfl⟩
  case round =>
    obtain ⟨k, hk, rfl, q, hq⟩ := hrel
    have HQ := hide hq
    clear hq
    by_cases hlt : k < n
    · have hlz : (k : Int) < (n : Int) := by omega
      obtain ⟨gm, cm', hsh, R2⟩ := rowE_range OU.out k hlt
      simp only [Value.slice.injEq, true_and] at hsh
      obtain ⟨rfl, rfl⟩ := hsh
      obtain ⟨g', c', hsh', R1⟩ := rowE_range (row_of_blk BG2.out (Nat.zero_le _) HXL.h hnn) k hlt
      simp only [Value.slice.injEq, Option.some.injEq, Addr.mk.injEq, true_and, and_true] at hsh'
      obtain ⟨rfl, _⟩ := hsh'
      obtain ⟨C, hC⟩ : ∃ C, (X.drop (32 * k)).take 32 = C := ⟨_, rfl⟩
      have HCL : Lk C.length 32 := ⟨by rw [← hC, List.length_take, List.length_drop, HXL.h]; omega⟩
      rw [hC] at R1 R2
      have j1 := fun W => idx44 ⟨g, 0, none⟩ n n k hlt W
      have j2 := fun W => idx63 ⟨gm, 0, none⟩ n cm k hlt W
      rw [add_plain, Nat.mul_comm k 32] at j1 j2
      have hsCl := info45l C HCL.h
      have hsC5 := info35l C HCL.h
      have hEQ : ∀ W : World, (Op.equalIn 10000 45 (.agg (C.map byt).toArray) (.agg (C.map byt).toArray)).run Tryd.prog W = .ok true W := fun W => eq45 C HCL.h W
      have hGD := guard45
      have RR : Hid (x2.rangeAt g (32 * k) (C.map byt) ∧ x2.rangeAt gm (32 * k) (C.map byt)) := hide ⟨R1, R2⟩
      clear R1 R2 hC
      go_upto_region 8 with fail
      refine wp_region_noPanic ?_
      refine wp_region_held (S := fun W => W.rangeAt g (32 * k) (C.map byt) ∧ W.rangeAt gm (32 * k) (C.map byt)) (by kernel_rfl) ?_
      have HZ : { wr with drawn := wr.drawn + 1 } = x2.drewN (q + 1) := by rw [HQ.out]; simp [World.drewN]; omega
      have SZ : (fun W : World => W.rangeAt g (32 * k) (C.map byt) ∧ W.rangeAt gm (32 * k) (C.map byt)) { wr with drawn := wr.drawn + 1 } := by
        rw [HZ]
        exact ⟨fun i u hu => by simpa using RR.out.1 i u hu, fun i u hu => by simpa using RR.out.2 i u hu⟩
      have HZ' := hide HZ
      clear HZ
      generalize { wr with drawn := wr.drawn + 1 } = z0 at SZ HZ' ⊢
      refine takeH (i := 0) rfl (.move (.tmp 11)) rfl 48 rfl (v := (.slice (some ⟨g, 0, none⟩) n n)) (by kernel_rfl) (by kernel_rfl) (by kernel_rfl) (fun _ _ _ h => h) (by rfl) (fun o' ho W hW => by clear hW; go_simp) SZ ?_
      simp only [Act.put, List.setIfInBounds_toArray, List.set_cons_zero, List.set_cons_succ]
      refine takeH (i := 1) rfl (.move (.tmp 15)) rfl 49 rfl (v := (.int .i64 (k : Int))) (by kernel_rfl) (by kernel_rfl) (by kernel_rfl) (fun _ _ _ h => h) (by rfl) (fun o' ho W hW => by clear hW; go_simp) SZ ?_
      simp only [Act.put, List.setIfInBounds_toArray, List.set_cons_zero, List.set_cons_succ]
      refine takeH (i := 2) rfl (.indexAddr 44 (.tmp 48) (.tmp 49)) rfl 50 rfl (v := (.pointer (some ⟨g, 32 * k, none⟩))) (by kernel_rfl) (by kernel_rfl) (by kernel_rfl) (fun _ _ _ h => h) (by rfl) (fun o' ho W hW => by clear hW; go_simp) SZ ?_
      simp only [Act.put, List.setIfInBounds_toArray, List.set_cons_zero, List.set_cons_succ]
      refine takeH_load (i := 3) rfl 51 rfl 45 (.tmp 50) rfl (by kernel_rfl) (by kernel_rfl) (by kernel_rfl) (fun _ _ _ h => h) (by rfl) g (32 * k) rfl (C.map byt) rfl (fun W hW => hW.1) Tryd.underlying45 rfl hsCl SZ ?_
      simp only [Act.put, List.setIfInBounds_toArray, List.set_cons_zero, List.set_cons_succ]
      refine takeH (i := 4) rfl (.move (.tmp 13)) rfl 52 rfl (v := (.slice (some ⟨gm, 0, none⟩) n cm)) (by kernel_rfl) (by kernel_rfl) (by kernel_rfl) (fun _ _ _ h => h) (by rfl) (fun o' ho W hW => by clear hW; go_simp) SZ ?_
      simp only [Act.put, List.setIfInBounds_toArray, List.set_cons_zero, List.set_cons_succ]
      refine takeH (i := 5) rfl (.move (.tmp 15)) rfl 53 rfl (v := (.int .i64 (k : Int))) (by kernel_rfl) (by kernel_rfl) (by kernel_rfl) (fun _ _ _ h => h) (by rfl) (fun o' ho W hW => by clear hW; go_simp) SZ ?_
      simp only [Act.put, List.setIfInBounds_toArray, List.set_cons_zero, List.set_cons_succ]
      refine takeH (i := 6) rfl (.indexAddr 63 (.tmp 52) (.tmp 53)) rfl 54 rfl (v := (.pointer (some ⟨gm, 32 * k, none⟩))) (by kernel_rfl) (by kernel_rfl) (by kernel_rfl) (fun _ _ _ h => h) (by rfl) (fun o' ho W hW => by clear hW; go_simp) SZ ?_
      simp only [Act.put, List.setIfInBounds_toArray, List.set_cons_zero, List.set_cons_succ]
      refine takeH_load (i := 7) rfl 55 rfl 35 (.tmp 54) rfl (by kernel_rfl) (by kernel_rfl) (by kernel_rfl) (fun _ _ _ h => h) (by rfl) gm (32 * k) rfl (C.map byt) rfl (fun W hW => hW.2) Tryd.underlying35 rfl hsC5 SZ ?_
      simp only [Act.put, List.setIfInBounds_toArray, List.set_cons_zero, List.set_cons_succ]
      refine takeH (i := 8) rfl (.binOp .neq 45 (.tmp 51) (.tmp 55) 45) rfl 56 rfl (v := (.bool false)) (by kernel_rfl) (by kernel_rfl) (by kernel_rfl) (fun _ _ _ h => h) (by rfl) (fun o' ho W hW => by clear hW; go_simp) SZ ?_
      simp only [Act.put, List.setIfInBounds_toArray, List.set_cons_zero, List.set_cons_succ]
      refine wpAnyH_done (by kernel_rfl) (NoPanic.normal ?_) _
      clear SZ
      go_wp2
      go_roundw
      case rel => exact ⟨k + 1, by omega, by go_num, _, HZ'.out⟩
      case measure => simp [intOf]; omega
    · obtain rfl : k = n := by omega
      have hlz : ¬ (k : Int) < (k : Int) := by omega
      have BW : Below x2.heap.size x2 wr := by rw [HQ.out]; exact below_drewN (Below.refl _ _) q
      have hcall := hide (hnote.out wr g (B2x.out.trans (BW.mono B2x.out.size)) (BG2.out.below BW BG2.out.lt) XG.out)
      clear BW
      go_wp2_with (go_at_call 30; refine hcall.out.mono ?_; rintro e z ⟨rfl, hz⟩; have HZ := hide hz; clear hz)
      go_ret
      exact ⟨rfl, HZ.out⟩
theorem keyslaw_any (w x : World) (p : Nat) (L V K M : Value) (ls vs ks ms : List Value) (hB : Bc w x p L V K M ls vs ks ms) (hE : Ent 5 1 x ls vs) (hK : Ent 45 32 x ks ms) (hn : ks.length ≤ 1000) (vk va vb : Value) (key A B : List UInt8) (n : Int)
    (hk : Has x vk key) (ha : Has x va A) (hb : Has x vb B) (lk : key.length ≤ 400) (la : A.length ≤ 400) (lb : B.length ≤ 400) (cK : Kst x) (cR : Rst x) (cS : Bst x) :
    Calls Tryd.prog 14 #[.pointer (some ⟨p, 0, none⟩), vk, va, vb, .int .i64 n] x fun e z => e = .returned (.bool true) ∧ Left3 w x z p L V K M ls vs ks := by
  by_cases h0 : n < 0 ∨ 255 < n
  · exact keyslaw_bad w x p L V K M ls vs ks ms hB hE hK hn vk va vb n h0
  · obtain ⟨m, rfl⟩ : ∃ m : Nat, n = (m : Int) := ⟨n.toNat, by omega⟩
    exact keyslaw_ok w x p L V K M ls vs ks ms hB hE hK hn vk va vb key A B m (by omega) hk ha hb lk la lb cK cR cS
end Go.Proofs.YtablmkijlpoaaabDoor
