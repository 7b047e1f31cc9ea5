import Derived.Test.YtablmkijlpoaaabDoorKl
namespace Go.Proofs.YtablmkijlpoaaabDoor
open Go.RowKit

theorem own_of_tu {w z : World} {g n : Nat} {bs : List UInt8} (h : Tu w z g bs) (hn : bs.length = n) (hm : n ≤ 8160) : Own z w.heap.size (.slice (some ⟨g, 0, none⟩) n n) bs := by
  subst hn
  refine ⟨by rw [List.length_map]; omega, .inr ⟨g, bs.length, _, rfl, h.lp, h.bl, Nat.le_refl _, by unfold maxLen; omega, by rw [List.size_toArray, List.length_map]; omega, ?_⟩⟩
  rw [List.take_of_length_le (by simp)]

/-- The program's answer and the document's, of bytes. -/
def Twin (f g : FuncId) (args : Array Value) (x : World) (er : Int) (bs : List UInt8) : Prop :=
  (∀ y, Below x.heap.size x y → Calls Tryd.prog f args y fun e z => ∃ al cl, e = .returned (.tuple #[.slice al bs.length cl, .int .i64 er]) ∧ Own z y.heap.size (.slice al bs.length cl) bs ∧ Below y.heap.size y z) ∧
  (∀ y, Below x.heap.size x y → Calls Tryd.prog g args y fun e z => ∃ al cl, e = .returned (.tuple #[.slice al bs.length cl, .int .i64 er]) ∧ Has z (.slice al bs.length cl) bs ∧ Below y.heap.size y z)
theorem exp_pair (x : World) (vk va : Value) (key A : List UInt8) (n : Int) (hk : Has x vk key) (ha : Has x va A) (lk : key.length ≤ 400) (la : A.length ≤ 400) (cK : Kst x) (cR : Rst x) (cS : Bst x) :
    ∃ er bs, bs.length ≤ 8160 ∧ Twin 23 24 #[vk, va, .int .i64 n] x er bs := by
  by_cases h0 : n < 0
  · exact ⟨4, [], by simp, fun y hy => (expand_low vk va n y h0).mono fun e z ⟨h1, h2⟩ => ⟨none, 0, h1, Own.nil _ _, by rw [h2]; exact Below.refl _ _⟩, fun y hy => (rexpand_low vk va n y h0).mono fun e z ⟨h1, h2⟩ => ⟨none, 0, h1, Has.nil _, by rw [h2]; exact Below.refl _ _⟩⟩
  · by_cases h1 : 8160 < n
    · exact ⟨30, [], by simp, fun y hy => (expand_high vk va n y h1).mono fun e z ⟨h1, h2⟩ => ⟨none, 0, h1, Own.nil _ _, by rw [h2]; exact Below.refl _ _⟩, fun y hy => (rexpand_high vk va n y h1).mono fun e z ⟨h1, h2⟩ => ⟨none, 0, h1, Has.nil _, by rw [h2]; exact Below.refl _ _⟩⟩
    · obtain ⟨m, rfl⟩ : ∃ m : Nat, n = (m : Int) := ⟨n.toNat, by omega⟩
      have hl := exOut_length key A m
      refine ⟨0, exOut key A m, by rw [hl]; omega, fun y hy => ?_, fun y hy => ?_⟩
      · rw [hl]
        exact (expand_ok vk va key A m y (hk.below hy) (ha.below hy) (cK.below hy cK.lt) (by omega) (by omega) (by omega)).mono fun e z ⟨g, h1, h2⟩ => ⟨_, _, h1, own_of_tu h2 hl (by omega), h2.be⟩
      · rw [hl]
        exact (rexpand_ok vk va key A m y (hk.below hy) (ha.below hy) (by omega) (by omega) (by omega) (cR.below hy cR.lt) (cS.below hy cS.lt)).mono fun e z ⟨ao, c, h1, h2, h3⟩ => ⟨ao, c, h1, h2, h3⟩
theorem der_pair (x : World) (vk va vb : Value) (key A B : List UInt8) (n : Int) (hk : Has x vk key) (ha : Has x va A) (hb : Has x vb B) (lk : key.length ≤ 400) (la : A.length ≤ 400) (lb : B.length ≤ 400) (cK : Kst x) (cR : Rst x) (cS : Bst x) :
    ∃ er bs, bs.length ≤ 8160 ∧ Twin 25 26 #[vk, va, vb, .int .i64 n] x er bs := by
  have gen : ∀ (R : Value → Value → World → Prop) (y : World), Below x.heap.size x y → (∀ d z, Has z (.slice (some ⟨d, 0, none⟩) 32 32) (macOf key A) → Below y.heap.size y z → Calls Tryd.prog 24 #[.slice (some ⟨d, 0, none⟩) 32 32, vb, .int .i64 n] z fun e w' => ∃ u v, e = .returned (.tuple #[u, v]) ∧ R u v w') → Calls Tryd.prog 26 #[vk, va, vb, .int .i64 n] y fun e w' => ∃ u v, e = .returned (.tuple #[u, v]) ∧ R u v w' := fun R y hy hE =>
    rderive_gen vk va vb key A (macOf key A) n rfl y (hk.below hy) (ha.below hy) (by omega) (by omega) (cR.below hy cR.lt) (cS.below hy cS.lt) R hE
  by_cases h0 : n < 0
  · refine ⟨4, [], by simp, fun y hy => (derive_low vk va vb key A B n h0 y (hk.below hy) (ha.below hy) (hb.below hy) (cK.below hy cK.lt) (by omega) (by omega)).mono fun e z ⟨h1, h2⟩ => ⟨none, 0, h1, Own.nil _ _, h2⟩, fun y hy => ?_⟩
    refine (gen (fun u v w' => u = .slice none 0 0 ∧ v = .int .i64 4 ∧ Below y.heap.size y w') y hy (fun d z hz hb2 => (rexpand_low _ vb n z h0).mono fun e w' ⟨h1, h2⟩ => ⟨_, _, h1, rfl, rfl, by rw [h2]; exact hb2⟩)).mono ?_
    rintro e z ⟨u, v, h1, rfl, rfl, h2⟩
    exact ⟨none, 0, h1, Has.nil _, h2⟩
  · by_cases h1 : 8160 < n
    · refine ⟨30, [], by simp, fun y hy => (derive_high vk va vb key A B n h1 y (hk.below hy) (ha.below hy) (hb.below hy) (cK.below hy cK.lt) (by omega) (by omega)).mono fun e z ⟨h1, h2⟩ => ⟨none, 0, h1, Own.nil _ _, h2⟩, fun y hy => ?_⟩
      refine (gen (fun u v w' => u = .slice none 0 0 ∧ v = .int .i64 30 ∧ Below y.heap.size y w') y hy (fun d z hz hb2 => (rexpand_high _ vb n z h1).mono fun e w' ⟨h1, h2⟩ => ⟨_, _, h1, rfl, rfl, by rw [h2]; exact hb2⟩)).mono ?_
      rintro e z ⟨u, v, h1, rfl, rfl, h2⟩
      exact ⟨none, 0, h1, Has.nil _, h2⟩
    · obtain ⟨m, rfl⟩ : ∃ m : Nat, n = (m : Int) := ⟨n.toNat, by omega⟩
      have hl := exOut_length (macOf key A) B m
      refine ⟨0, exOut (macOf key A) B m, by rw [hl]; omega, fun y hy => ?_, fun y hy => ?_⟩
      · rw [hl]
        exact (derive_ok vk va vb key A B m y (hk.below hy) (ha.below hy) (hb.below hy) (cK.below hy cK.lt) (by omega) (by omega) (by omega) (by omega)).mono fun e z ⟨g, h1, h2⟩ => ⟨_, _, h1, own_of_tu h2 hl (by omega), h2.be⟩
      · rw [hl]
        refine (gen (fun u v w' => ∃ ao c, u = .slice ao m c ∧ v = .int .i64 0 ∧ Has w' (.slice ao m c) (exOut (macOf key A) B m) ∧ Below y.heap.size y w') y hy (fun d z hz hb2 => (rexpand_ok _ vb (macOf key A) B m z hz ((hb.below hy).below hb2) (by rw [macOf_length]; decide) (by omega) (by omega) ((cR.below hy cR.lt).below hb2 (cR.below hy cR.lt).lt) ((cS.below hy cS.lt).below hb2 (cS.below hy cS.lt).lt)).mono fun e w' ⟨ao, c, h1, h2, h3⟩ => ⟨_, _, h1, ao, c, rfl, rfl, h2, hb2.trans (h3.mono hb2.size)⟩)).mono ?_
        rintro e z ⟨u, v, h1, ao, c, rfl, rfl, h2, h3⟩
        exact ⟨ao, c, h1, h2, h3⟩

def Left2 (w x z : World) (p : Nat) (L V K M : Value) (ls ks ms : List Value) : Prop :=
  ∃ L' V' ls' vs', Bc w z p L' V' K M ls' vs' ks ms ∧ Ent 5 1 z ls' vs' ∧ Ent 45 32 z ks ms ∧ ls'.length = ls.length + 2 ∧ Fx (fun k => k = p ∨ L.ownBlock = some k ∨ V.ownBlock = some k) x z
/-- A call's five cells. -/
def opK (kind : Int) (oK oA oB : Value) (n : Int) : List Value := [.int .i64 kind, oK, oA, oB, .int .i64 n]

set_option maxRecDepth 100000 in
set_option maxHeartbeats 1000000 in
theorem lists_any (w x : World) (p : Nat) (L V K M : Value) (ls vs ks ms : List Value) (hB : Bc w x p L V K M ls vs ks ms) (hE : Ent 5 1 x ls vs) (hK : Ent 45 32 x ks ms) (hn : ls.length ≤ 1000) (kind : Int) (oK oA oB vk va vb : Value) (key A B : List UInt8) (n : Int)
    (hk : Has x vk key) (ha : Has x va A) (hb : Has x vb B) (lk : key.length ≤ 400) (la : A.length ≤ 400) (lb : B.length ≤ 400) (cK : Kst x) (cR : Rst x) (cS : Bst x) :
    Calls Tryd.prog 13 #[.pointer (some ⟨p, 0, none⟩), .agg (opK kind oK oA oB n).toArray, vk, va, vb] x fun e z => e = .returned (.bool true) ∧ Left2 w x z p L V K M ls ks ms := by
  obtain ⟨er3, bs3, l3, t3⟩ := exp_pair x vk va key A n hk ha lk la cK cR cS
  obtain ⟨er4, bs4, l4, t4⟩ := der_pair x vk va vb key A B n hk ha hb lk la lb cK cR cS
  have T3 := hide t3
  have T4 := hide t4
  obtain ⟨oc, hoc⟩ : ∃ oc, opK kind oK oA oB n = oc := ⟨_, rfl⟩
  have O0 : Lk oc[0]? (some (.int .i64 kind)) := ⟨by rw [← hoc]; rfl⟩
  have O4 : Lk oc[4]? (some (.int .i64 n)) := ⟨by rw [← hoc]; rfl⟩
  rw [hoc]
  have hnote : Hid (∀ (x1 y : World) (lv : Value) (bs : List UInt8), Below x.heap.size x x1 → Below x1.heap.size x1 y → Own y x1.heap.size lv bs → bs.length ≤ 8160 → Calls Tryd.prog 27 #[.pointer (some ⟨p, 0, none⟩), lv] y fun e z => e = .returned (.tuple #[]) ∧ Left2 w x z p L V K M ls ks ms) := hide (fun x1 y lv bs h1 h2 h3 h4 => (note_any w x1 y p L V K M lv ls vs ks ms bs (hB.below h1) (hE.below h1) (hK.below h1) h2 h3 (by omega) hn).mono fun e z ⟨q1, L', V', ls', vs', q2, q3, q4, q5, q6⟩ => ⟨q1, L', V', ls', vs', q2, q3, q4, q5, (Fx.of_below h1).trans q6 (fun _ _ s => s)⟩)
  clear hoc t3 t4 hB hE hK hk ha hb cK cR cS
  go_enter Tryd.func13, Tryd.ntmps13
  go_upto_region 1 with (refine wpList_boxAt rfl 31 _ rfl oc rfl x.heap.size rfl ?_)
  have X1 : Hid (Below x.heap.size x (x.alloc (.cells oc.toArray 31))) := hide (below_new x _)
  have OB : Hid (Blk (x.alloc (.cells oc.toArray 31)) x.heap.size oc 31) := hide (Blk.new x _ _)
  have c0 := (OB.out.cell 0).trans O0.h
  have c4 := (OB.out.cell 4).trans O4.h
  have BX : Hid (x.heap.size < (x.alloc (.cells oc.toArray 31)).heap.size) := hide OB.out.lt
  generalize x.alloc (.cells oc.toArray 31) = x1 at X1 OB c0 c4 BX ⊢
  generalize x.heap.size = bo at OB c0 c4 BX ⊢
  by_cases hk3 : kind = 3
  · subst hk3
    go_wp2_with (first
      | (go_at_call 23; refine (T3.out.1 x1 X1.out).mono ?_; rintro e y1 ⟨al, cl, rfl, hO, hb1⟩; have OO := hide hO; have B1 := hide hb1; have c4' : y1.cell? ⟨bo, 4, none⟩ = some (.int .i64 n) := (B1.out.cell (p := ⟨bo, 4, none⟩) BX.out).trans c4; clear hO hb1)
      | (go_at_call 24; refine (T3.out.2 y1 (X1.out.trans (B1.out.mono X1.out.size))).mono ?_; rintro e y2 ⟨am, cm, rfl, hH, hb2⟩; have HH := hide hH; have B2 := hide hb2; clear hH hb2)
      | (go_at_call 16; refine (eq_yes _ _ bs3 y2 (OO.out.below B2.out).has HH.out).mono ?_; rintro e y3 ⟨rfl, hy3⟩; subst hy3)
      | (go_at_call 27; refine (hnote.out x1 y3 _ bs3 X1.out (B1.out.trans (B2.out.mono B1.out.size)) (OO.out.below B2.out) l3).mono ?_; rintro e z ⟨rfl, hz⟩; have HZ := hide hz; clear hz)
      | fail)
    go_ret
    exact ⟨rfl, HZ.out⟩
  · go_wp2_with (first
      | (go_at_call 25; refine (T4.out.1 x1 X1.out).mono ?_; rintro e y1 ⟨al, cl, rfl, hO, hb1⟩; have OO := hide hO; have B1 := hide hb1; have c4' : y1.cell? ⟨bo, 4, none⟩ = some (.int .i64 n) := (B1.out.cell (p := ⟨bo, 4, none⟩) BX.out).trans c4; clear hO hb1)
      | (go_at_call 26; refine (T4.out.2 y1 (X1.out.trans (B1.out.mono X1.out.size))).mono ?_; rintro e y2 ⟨am, cm, rfl, hH, hb2⟩; have HH := hide hH; have B2 := hide hb2; clear hH hb2)
      | (go_at_call 16; refine (eq_yes _ _ bs4 y2 (OO.out.below B2.out).has HH.out).mono ?_; rintro e y3 ⟨rfl, hy3⟩; subst hy3)
      | (go_at_call 27; refine (hnote.out x1 y3 _ bs4 X1.out (B1.out.trans (B2.out.mono B1.out.size)) (OO.out.below B2.out) l4).mono ?_; rintro e z ⟨rfl, hz⟩; have HZ := hide hz; clear hz)
      | fail)
    go_ret
    exact ⟨rfl, HZ.out⟩
end Go.Proofs.YtablmkijlpoaaabDoor
