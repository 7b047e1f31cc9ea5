import Derived.Test.YtggehhlobjjmpaaSl
set_option linter.unusedVariables false
set_option linter.unusedSimpArgs false
namespace Go.Proofs.Ytggehhlobjjmpaa
open Go.RowKit

def smE (va vb : Value) (t : Nat) : List (Nat × Value) := [(0, va), (1, vb), (5, .int .i64 (t : Int))]
def SmI (w : World) (n t : Nat) (W : World) : Prop := t ≤ n ∧ Below w.heap.size w W
set_option maxRecDepth 100000 in
set_option maxHeartbeats 1000000 in
theorem sameL_any {va vb : Value} {l : List (Sk)} {w : World} (ha : Sl w va l) (hb : Sl w vb l) (hl : l.length < 9223372036854775807) : Calls Try.prog 13 #[va, vb] w fun e w' => e = .returned (.bool true) ∧ Below w.heap.size w w' := by
  refine calls_of_args [va, vb] Try.func13 rfl 26 Try.ntmps13 (by show 2 ≤ 26; decide) ?_
  refine EW.seq ?_
  refine EW.region ?_
  first | refine WL.assign rfl rfl rfl ?_
  refine WL.done ?_
  refine EW.on ?_
  refine EW.seq ?_
  refine EW.seq ?_
  refine EW.region ?_
  first | refine WL.move rfl rfl rfl ?_
  refine WL.len rfl rfl rfl (ha.len _ _) ?_
  first | refine WL.move rfl rfl rfl ?_
  refine WL.len rfl rfl rfl (hb.len _ _) ?_
  first | refine WL.bin rfl rfl rfl rfl (int_ne_f rfl _ _ _) ?_ | refine WL.bin rfl rfl rfl rfl (int_ne_t ‹_› _ _ _) ?_ | refine WL.bin rfl rfl rfl rfl (int_ne_f ‹_› _ _ _) ?_ | refine WL.bin rfl rfl rfl rfl (int_ne_t (by decide) _ _ _) ?_ | refine WL.bin rfl rfl rfl rfl (int_ne_d _ _ _ _ _) ?_
  refine WL.done ?_
  refine EW.on ?_
  refine EW.cond_f rfl ?_
  refine EW.skip ?_
  refine EW.on ?_
  refine EW.seq ?_
  refine EW.seq ?_
  refine EW.region ?_
  first | refine WL.assign rfl rfl rfl ?_
  refine WL.done ?_
  refine EW.on ?_
  refine EW.block ?_
  refine EW.loop (smE va vb) (SmI w l.length) (fun t => l.length - t) 0 [0, 1, 5] rfl ⟨Nat.zero_le _, Below.refl _ _⟩ ?_
  rintro x wi ⟨htl, be⟩
  show EW _ _ _ _ [(0, va), (1, vb), (5, .int .i64 (x : Int))] _
  refine EW.seq ?_
  refine EW.seq ?_
  refine EW.region ?_
  first | refine WL.move rfl rfl rfl ?_
  first | refine WL.move rfl rfl rfl ?_
  refine WL.len rfl rfl rfl (ha.len _ _) ?_
  refine WL.bin rfl rfl rfl rfl (int_lt_d _ _ _ _ _) ?_
  refine WL.done ?_
  refine EW.on ?_
  refine EW.cond_d rfl (fun h14 => ?_) (fun h14 => ?_)
  · refine EW.skip ?_
    refine EW.on ?_
    refine EW.seq ?_
    refine EW.block ?_
    refine EW.seq ?_
    have hlt : x < l.length := by omega
    obtain ⟨s, hs0⟩ : ∃ s, l[x]? = some s := ⟨_, List.getElem?_eq_getElem hlt⟩
    have hs := ha.ok s (List.mem_of_getElem? hs0)
    obtain ⟨aa, ixa, lda⟩ := ha.get hs0
    obtain ⟨ab, ixb, ldb⟩ := hb.get hs0
    refine EW.ordB [(0, 0, 0), (1, 0, 0), (2, 0, 0), (3, 0, 1), (4, 0, 0), (5, 0, 0), (6, 0, 0), (7, 0, 1), (8, 0, 0)] (by kernel_rfl) rfl (by kernel_rfl) ?_
    simp only [opsZ, List.getD_cons_zero, List.getD_cons_succ]
    first | refine ZE.move rfl rfl rfl rfl sz0 ?_
    first | refine ZE.move rfl rfl rfl rfl sz0 ?_
    refine ZE.index rfl rfl rfl rfl rfl sz0 (fun W => ixa W) ?_
    refine ZE.load rfl rfl rfl rfl sz1 (fun W hW => (lda W (ha.on (bt be (sb_of hW)))).1) ?_
    first | refine ZE.move rfl rfl rfl rfl sz0 ?_
    first | refine ZE.move rfl rfl rfl rfl sz0 ?_
    refine ZE.index rfl rfl rfl rfl rfl sz0 (fun W => ixb W) ?_
    refine ZE.load rfl rfl rfl rfl sz1 (fun W hW => (ldb W (hb.on (bt be (sb_of hW)))).1) ?_
    refine ZE.bin rfl rfl rfl rfl rfl sz0 (fun W => neq39_same hs W _ _) ?_
    rintro W hW
    refine EW.on ?_
    refine EW.cond_f rfl ?_
    refine EW.skip ?_
    refine pn_block ?_
    refine EW.on ?_
    refine EW.region ?_
    first | refine WL.move rfl rfl rfl ?_
    refine WL.bin rfl rfl rfl rfl (int_add (c := ((x + 1 : Nat) : Int)) (by rw [IntKind.wrap_i64]; omega) _ _ _) ?_
    first | refine WL.assign rfl rfl rfl ?_
    refine WL.done ?_
    exact EW.again (E := smE va vb) (R := SmI w l.length) (m := fun t => l.length - t) (x := x) (x + 1) [0, 1, 5] rfl ⟨by omega, bt be hW⟩ (by show l.length - (x + 1) < l.length - x; omega)
  · refine EW.exit ?_
    refine px_then ?_
    refine px_then ?_
    refine px_block ?_
    refine EW.on ?_
    refine EW.seq ?_
    refine EW.region ?_
    first | refine WL.assign rfl rfl rfl ?_
    refine WL.done ?_
    refine EW.on ?_
    refine EW.ret ?_
    exact EW.returns Try.results13 rfl ⟨rfl, be⟩
set_option maxRecDepth 100000 in
set_option maxHeartbeats 1000000 in
theorem sameK_any {va vb : Value} {l : List (List UInt8)} {w : World} (ha : Kl w va l) (hb : Kl w vb l) (hl : l.length < 9223372036854775807) : Calls Try.prog 25 #[va, vb] w fun e w' => e = .returned (.bool true) ∧ Below w.heap.size w w' := by
  refine calls_of_args [va, vb] Try.func25 rfl 26 Try.ntmps25 (by show 2 ≤ 26; decide) ?_
  refine EW.seq ?_
  refine EW.region ?_
  first | refine WL.assign rfl rfl rfl ?_
  refine WL.done ?_
  refine EW.on ?_
  refine EW.seq ?_
  refine EW.seq ?_
  refine EW.region ?_
  first | refine WL.move rfl rfl rfl ?_
  refine WL.len rfl rfl rfl (ha.len _ _) ?_
  first | refine WL.move rfl rfl rfl ?_
  refine WL.len rfl rfl rfl (hb.len _ _) ?_
  first | refine WL.bin rfl rfl rfl rfl (int_ne_f rfl _ _ _) ?_ | refine WL.bin rfl rfl rfl rfl (int_ne_t ‹_› _ _ _) ?_ | refine WL.bin rfl rfl rfl rfl (int_ne_f ‹_› _ _ _) ?_ | refine WL.bin rfl rfl rfl rfl (int_ne_t (by decide) _ _ _) ?_ | refine WL.bin rfl rfl rfl rfl (int_ne_d _ _ _ _ _) ?_
  refine WL.done ?_
  refine EW.on ?_
  refine EW.cond_f rfl ?_
  refine EW.skip ?_
  refine EW.on ?_
  refine EW.seq ?_
  refine EW.seq ?_
  refine EW.region ?_
  first | refine WL.assign rfl rfl rfl ?_
  refine WL.done ?_
  refine EW.on ?_
  refine EW.block ?_
  refine EW.loop (smE va vb) (SmI w l.length) (fun t => l.length - t) 0 [0, 1, 5] rfl ⟨Nat.zero_le _, Below.refl _ _⟩ ?_
  rintro x wi ⟨htl, be⟩
  show EW _ _ _ _ [(0, va), (1, vb), (5, .int .i64 (x : Int))] _
  refine EW.seq ?_
  refine EW.seq ?_
  refine EW.region ?_
  first | refine WL.move rfl rfl rfl ?_
  first | refine WL.move rfl rfl rfl ?_
  refine WL.len rfl rfl rfl (ha.len _ _) ?_
  refine WL.bin rfl rfl rfl rfl (int_lt_d _ _ _ _ _) ?_
  refine WL.done ?_
  refine EW.on ?_
  refine EW.cond_d rfl (fun h14 => ?_) (fun h14 => ?_)
  · refine EW.skip ?_
    refine EW.on ?_
    refine EW.seq ?_
    refine EW.block ?_
    refine EW.seq ?_
    have hlt : x < l.length := by omega
    obtain ⟨s, hs0⟩ : ∃ s, l[x]? = some s := ⟨_, List.getElem?_eq_getElem hlt⟩
    have hs := ha.at32 hs0
    obtain ⟨aa, ixa, lda⟩ := ha.get hs0
    obtain ⟨ab, ixb, ldb⟩ := hb.get hs0
    refine EW.ordB [(0, 0, 0), (1, 0, 0), (2, 0, 0), (3, 0, 1), (4, 0, 0), (5, 0, 0), (6, 0, 0), (7, 0, 1), (8, 0, 0)] (by kernel_rfl) rfl (by kernel_rfl) ?_
    simp only [opsZ, List.getD_cons_zero, List.getD_cons_succ]
    first | refine ZE.move rfl rfl rfl rfl sz0 ?_
    first | refine ZE.move rfl rfl rfl rfl sz0 ?_
    refine ZE.index rfl rfl rfl rfl rfl sz0 (fun W => ixa W) ?_
    refine ZE.load rfl rfl rfl rfl sz1 (fun W hW => (lda W (ha.on (bt be (sb_of hW))))) ?_
    first | refine ZE.move rfl rfl rfl rfl sz0 ?_
    first | refine ZE.move rfl rfl rfl rfl sz0 ?_
    refine ZE.index rfl rfl rfl rfl rfl sz0 (fun W => ixb W) ?_
    refine ZE.load rfl rfl rfl rfl sz1 (fun W hW => (ldb W (hb.on (bt be (sb_of hW))))) ?_
    refine ZE.bin rfl rfl rfl rfl rfl sz0 (fun W => neq29_same hs W _ _) ?_
    rintro W hW
    refine EW.on ?_
    refine EW.cond_f rfl ?_
    refine EW.skip ?_
    refine pn_block ?_
    refine EW.on ?_
    refine EW.region ?_
    first | refine WL.move rfl rfl rfl ?_
    refine WL.bin rfl rfl rfl rfl (int_add (c := ((x + 1 : Nat) : Int)) (by rw [IntKind.wrap_i64]; omega) _ _ _) ?_
    first | refine WL.assign rfl rfl rfl ?_
    refine WL.done ?_
    exact EW.again (E := smE va vb) (R := SmI w l.length) (m := fun t => l.length - t) (x := x) (x + 1) [0, 1, 5] rfl ⟨by omega, bt be hW⟩ (by show l.length - (x + 1) < l.length - x; omega)
  · refine EW.exit ?_
    refine px_then ?_
    refine px_then ?_
    refine px_block ?_
    refine EW.on ?_
    refine EW.seq ?_
    refine EW.region ?_
    first | refine WL.assign rfl rfl rfl ?_
    refine WL.done ?_
    refine EW.on ?_
    refine EW.ret ?_
    exact EW.returns Try.results25 rfl ⟨rfl, be⟩
theorem Ow.app_old {t e : TypeId} {k by' : Nat} (E : El t e k by') {w w' : World} {v v' u : Value} {l m : List (List Value)} (h : Ow e k w v l) (hu : Li k w u m) (h1 : ∀ x ∈ m, ∀ c ∈ x, c.oneCell' = true) (hb : (l.length + m.length) * by' ≤ 140737488355328) (ty : TypeId) (hr : (Builtin.append_ #[t, t] ty #[v, u]).run Try.prog w = .ok v' w') (ho : Ow e k w' v' (l ++ m)) : Li k w' v l := by
  obtain ⟨i, z, hi, hz, hs, hby, hzs⟩ := E.inf
  have h63 : l.length + m.length ≤ maxLen := by
    have : l.length + m.length ≤ (l.length + m.length) * by' := Nat.le_mul_of_pos_right _ E.b1
    unfold maxLen; omega
  rcases hu.sl with ⟨rfl, rfl⟩ | ⟨ad, cap, rfl, hcap⟩
  · rw [run_append_owned_none (P := Try.prog) w 0 t ty e i k E.ul hi v _ _ h.row] at hr
    simp only [Result.ok.injEq] at hr
    obtain ⟨rfl, rfl⟩ := hr
    exact h.li
  · have hnews : ∀ j c, m.flatten[j]? = some c → w.cell? (ad.add j) = some c := fun j c hj => by
      obtain ⟨i2, x, r, g1, g2, rfl⟩ := flat_of hu.sz hj
      obtain ⟨ad2, c2, e2, ha⟩ := hu.at_ i2 x g1
      cases e2
      have := ha r c g2
      rwa [Addr.add_add] at this
    have hone : ∀ c ∈ m.flatten, c.oneCell' = true := fun c hc => by
      obtain ⟨x, hx, hcx⟩ := List.mem_flatten.1 hc
      exact h1 x hx c hcx
    have hml := flat_len hu.sz
    have hown' := h.row
    obtain ⟨hx, ⟨rfl, hz0⟩ | ⟨g, cp, cur, rfl, hg, hh2, hnc, hc, hs2, htk⟩⟩ := hown'
    · have : l = [] := List.eq_nil_of_length_eq_zero hz0
      subst this
      exact Li.nil _ _
    · by_cases hroom : l.length + m.length ≤ cp
      · obtain ⟨w2, q1, _⟩ := run_append_fits (P := Try.prog) w 0 t ty e i k E.ul hi hs g l.length cp l.flatten h.row ad m.length cap m.flatten hml hnews hone hroom
        rw [hr] at q1
        simp only [Result.ok.injEq] at q1
        obtain ⟨rfl, rfl⟩ := q1
        have h2 := ho.li
        rw [← List.length_append] at h2
        have h3 := h2.cut l.length (by simp)
        rwa [List.take_left] at h3
      · have hcap2 := nextcap_le (l.length + m.length) cp (by omega)
        have hfit : Builtin.nextslicecap (l.length + m.length) cp * i.bytes ≤ 281474976710656 := by
          rw [hby]
          exact fit_num _ _ _ hb E.b2 hcap2
        have q1 := run_append_grow (P := Try.prog) w t ty e i z E.ul hi hz ⟨g, 0, none⟩ l.length cp l.flatten (by rw [hs]; exact hx) (World.ownsRow.cells h.row (g := g) rfl) ad m.length cap m.flatten (by rw [hs]; exact hml) hnews (by omega) (by unfold maxLen at h63; omega) hfit
        rw [hr] at q1
        simp only [Result.ok.injEq] at q1
        obtain ⟨rfl, rfl⟩ := q1
        exact h.li.on (bt (below_drawn w) (below_new w.drew _))
theorem So.app_old {w w' : World} {v v' u : Value} {A B : List Sk} (h : So w v A) (hu : Sl w u B) (hb : (A.length + B.length) * 40 ≤ 140737488355328) (ty : TypeId) (hr : (Builtin.append_ #[36, 36] ty #[v, u]).run Try.prog w = .ok v' w') (ho : So w' v' (A ++ B)) : Sl w' v A :=
  ⟨h.ow.app_old elS hu.li (scs_one B) (by rw [scs_len, scs_len]; exact hb) ty hr (by rw [← scs_app]; exact ho.ow), h.ok⟩
theorem So.set {w : World} {ad : Addr} {n cap : Nat} {l : List Sk} (h : So w (.slice (some ad) n cap) l) {i : Nat} (hi : i < l.length) {s : Sk} (hs : s.ok) : ∃ w', (Instr.storeAt 39 (.pointer (some (ad.add (i * 34)))) s.v).run Try.prog w = .ok () w' ∧ So w' (.slice (some ad) n cap) (l.set i s) ∧ Fx (fun b => b = ad.block) w w' := by
  obtain ⟨w', r1, r2, r3⟩ := h.ow.set (i := i) (by rw [scs_len]; exact hi) (Sk.len hs) s.one (by kernel_rfl)
  refine ⟨w', r1, ⟨?_, fun x hx => ?_⟩, r3⟩
  · unfold scs; rw [List.map_set]; exact r2
  · rcases List.mem_or_eq_of_mem_set hx with hx | rfl
    · exact h.ok x hx
    · exact hs
theorem Ko.set {w : World} {ad : Addr} {n cap : Nat} {l : List (List UInt8)} (h : Ko w (.slice (some ad) n cap) l) {i : Nat} (hi : i < l.length) {K : List UInt8} (hK : K.length = 32) : ∃ w', (Instr.storeAt 29 (.pointer (some (ad.add (i * 32)))) (kv K)).run Try.prog w = .ok () w' ∧ Ko w' (.slice (some ad) n cap) (l.set i K) ∧ Fx (fun b => b = ad.block) w w' := by
  obtain ⟨w', r1, r2, r3⟩ := h.ow.set (i := i) (by rw [kcs_len]; exact hi) (by rw [List.length_map]; exact hK) (byts_one K) (by kernel_rfl)
  refine ⟨w', r1, ⟨?_⟩, r3⟩
  unfold kcs; rw [List.map_set]; exact r2
end Go.Proofs.Ytggehhlobjjmpaa
