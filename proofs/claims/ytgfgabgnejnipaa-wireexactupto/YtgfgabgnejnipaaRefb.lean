import Derived.Test.YtgfgabgnejnipaaRefs
import Derived.Test.YtgfgabgnejnipaaReader
namespace Go.Proofs.Ytgfgabgnejnipaa
open Go.RowKit

theorem take_one (bs : List UInt8) (k : Nat) (h : k < bs.length) : bs.take (k + 1) = bs.take k ++ [bs[k]] := List.take_succ_eq_append_getElem h

/-- One byte: its address, in whatever world; what lies there. -/
theorem Has.at {w : World} {v : Value} {bs : List UInt8} (h : Has w v bs) (m : Nat) (hm : m < bs.length) :
    ∃ ad : Addr, (∀ W, (Instr.indexAt 22 v (.int .i64 (m : Int))).run Try.prog W = .ok (.pointer (some ad)) W) ∧ w.cell? ad = some (byt bs[m]) := by
  rcases h with ⟨rfl, rfl⟩ | ⟨ad, cap, rfl, g2, g3⟩
  · simp at hm
  · have hm' : (m : Int) < (bs.length : Int) := by omega
    exact ⟨ad.add m, fun W => by go_simp, g3 m bs[m] (List.getElem?_eq_getElem hm)⟩

set_option maxRecDepth 100000 in
set_option maxHeartbeats 2000000 in
theorem rjoin_some (ad : Addr) (cap : Nat) (ps : List (Value × List UInt8)) (w : World) (hn : ps.length ≤ 1000) (hl : (ps.flatMap (·.2)).length ≤ 150000000000000)
    (hc : ∀ i p, ps[i]? = some p → w.cell? (ad.add i) = some p.1 ∧ Has w p.1 p.2) :
    Calls Try.prog 65 #[.slice (some ad) ps.length cap] w fun e w' => ∃ r, e = .returned r ∧ Own w' w.heap.size r (ps.flatMap (·.2)) ∧ Below w.heap.size w w' := by
  have HC : Hid (∀ i p, ps[i]? = some p → w.cell? (ad.add i) = some p.1 ∧ Has w p.1 p.2) := hc
  have HL := hide hl
  clear hc hl
  go_enter Try.func65, Try.ntmps65
  go_wp2
  go_loopw [3, 4] (fun t i wr => ∃ k : Nat, k ≤ ps.length ∧ i = .int .i64 k ∧ Hid (Own wr w.heap.size t ((ps.take k).flatMap (·.2))) ∧ Hid (Below w.heap.size w wr)) (fun _ i _ => ps.length - (intOf i).toNat)
  case atStart => exact ⟨0, Nat.zero_le _, rfl, Own.nil _ _, Below.refl _ _⟩
  case round =>
    obtain ⟨k, hk, rfl, hown, hbel⟩ := hrel
    by_cases hlt : k < ps.length
    · obtain ⟨h1, h2⟩ := HC.out k ps[k] (List.getElem?_eq_getElem hlt)
      have HHAS := hide h2
      have HCELL := hide h1
      have hlen : Hid (((ps.take k).flatMap (·.2)).length + ps[k].2.length ≤ 150000000000000) := by
        have e1 := flat_take ps k hlt
        have e2 := flat_len ps (k + 1)
        have := HL.out
        rw [e1] at e2
        simp only [List.length_append] at e2
        show _ ≤ _
        omega
      have HF := hide (flat_take ps k hlt)
      have hpl := h2.len
      clear h1 h2
      generalize ps[k].2 = py at *
      generalize ps[k].1 = pv at *
      generalize (ps.take k).flatMap (·.2) = bk at *
      have hpn : py.length ≤ 150000000000000 := by have := hlen.out; omega
      have hi : (k : Int) < (ps.length : Int) := by omega
      go_wp2
      go_loopw [3, 5] (fun t j wx => ∃ m : Nat, m ≤ py.length ∧ j = .int .i64 m ∧ Hid (Own wx w.heap.size t (bk ++ py.take m)) ∧ Hid (Below w.heap.size w wx)) (fun _ j _ => py.length - (intOf j).toNat)
      case atStart => exact ⟨0, Nat.zero_le _, rfl, by simpa using hown, hbel⟩
      case round =>
        obtain ⟨m, hm, rfl, hown1, hbel1⟩ := hrel
        have hcell := at_below hbel1.out HCELL.out
        by_cases hltm : m < py.length
        · obtain ⟨ad2, hat, hcl2⟩ : ∃ ad2 : Addr, (∀ W, (Instr.indexAt 22 pv (.int .i64 (m : Int))).run Try.prog W = .ok (.pointer (some ad2)) W) ∧ w.cell? ad2 = some (byt py[m]) := by
            rcases HHAS.out with ⟨rfl, rfl⟩ | ⟨ad3, cap3, rfl, g2, g3⟩
            · simp at hltm
            · have hm' : (m : Int) < (py.length : Int) := by omega
              exact ⟨ad3.add m, fun W => by go_simp, g3 m py[m] (List.getElem?_eq_getElem hltm)⟩
          have hcell2 := at_below hbel1.out hcl2
          unfold byt at hcell2
          have hsum : Hid (bk.length + m + 1 ≤ 150000000000000) := by have := hlen.out; show _ ≤ _; omega
          have HT := hide (take_one py m hltm)
          clear hcl2
          generalize py[m] = b at *
          have hm' : (m : Int) < (py.length : Int) := by omega
          go_wp2_with (at_builtin; refine wpList_app rfl _ _ rfl w.heap.size _ (bk ++ py.take m) rfl (hown1.out.below (below_new _ _)) _ [b] rfl (has_new1 wr b) (by have := hsum.out; simp; omega) (by have := hbel1.out.size; simp; omega) ?_)
          intro v' w1 hown2 hg
          rw [← HT.out] at hown2
          have HO2 := hide hown2
          have HB2 := hide ((hbel1.out.alloc hbel1.out.size _).grown hg (by have := hbel1.out.size; simp; omega) hown1.out.ownBlock)
          clear hg hown2 hown1 hbel1 hcell2 hcell
          go_wp2
          go_roundw
          case rel => exact ⟨m + 1, by omega, by go_num, HO2, HB2⟩
          case measure => simp [intOf]; omega
        · have hm' : ¬ (m : Int) < (py.length : Int) := by omega
          have e : bk ++ py.take m = bk ++ py := by rw [List.take_of_length_le (by omega)]
          rw [e, ← HF.out] at hown1
          go_wp2
          go_roundw
          case rel => exact ⟨k + 1, by omega, by go_num, hown1, hbel1⟩
          case measure => simp [intOf]; omega
    · have hi : ¬ (k : Int) < (ps.length : Int) := by omega
      go_wp2
      go_ret
      have h := hown.out
      rw [List.take_of_length_le (by omega)] at h
      exact ⟨_, rfl, h, hbel.out⟩

theorem rjoin_at (X : World) (g n : Nat) (ps : List (Value × List UInt8)) (bs : List UInt8) (hg : X.heap[g]? = some (.cells (ps.map (·.1)).toArray 22)) (h : ∀ p ∈ ps, Has X p.1 p.2) (hn : ps.length ≤ 1000) (hbs : ps.flatMap (·.2) = bs) (hl : bs.length ≤ 150000000000000) (hnn : n = ps.length) :
    Calls Try.prog 65 #[.slice (some ⟨g, 0, none⟩) n n] X fun e w' => ∃ ao cap, e = .returned (.slice ao bs.length cap) ∧ Own w' X.heap.size (.slice ao bs.length cap) bs ∧ Below X.heap.size X w' := by
  subst hnn hbs
  refine (rjoin_some ⟨g, 0, none⟩ ps.length ps X hn hl fun i p hp => ⟨?_, h p (List.mem_of_getElem? hp)⟩).mono fun e w' ⟨r, h1, h2, h3⟩ => ?_
  · rw [add_plain]
    unfold World.cell?
    dsimp only
    rw [hg]
    simp [hp]
  · obtain ⟨ao, cap, rfl⟩ := h2.slice
    exact ⟨ao, cap, h1, h2, h3⟩

set_option maxRecDepth 100000 in
set_option maxHeartbeats 1000000 in
theorem rsame_any (a b : Value) (xs ys : List UInt8) (w : World) (ha : Has w a xs) (hb : Has w b ys) (hl : xs.length ≤ 150000000000000) (hl2 : ys.length ≤ 150000000000000) :
    Calls Try.prog 67 #[a, b] w fun e w' => e = .returned (.bool (xs == ys)) ∧ ∃ q, w' = w.drewN q := by
  have la := ha.len
  have lb := hb.len
  have HA := hide ha
  have HB := hide hb
  clear ha hb
  by_cases hlen : xs.length = ys.length
  · have t0 : ((xs.length : Int) == (ys.length : Int)) = true := by rw [beq_iff_eq]; omega
    go_enter Try.func67, Try.ntmps67
    go_wp2
    go_loopw [5] (fun i wr => ∃ k : Nat, k ≤ xs.length ∧ i = .int .i64 k ∧ Hid (xs.take k = ys.take k) ∧ ∃ q, wr = w.drewN q) (fun i _ => xs.length - (intOf i).toNat)
    case atStart => exact ⟨0, Nat.zero_le _, rfl, rfl, 0, rfl⟩
    case round =>
      obtain ⟨k, hk, rfl, hx, q, rfl⟩ := hrel
      by_cases hlt : k < xs.length
      · have hlt' : k < ys.length := by omega
        obtain ⟨ad, i1, c1⟩ := HA.out.at k hlt
        obtain ⟨bd, i2, c2⟩ := HB.out.at k hlt'
        unfold byt at c1 c2
        have hi : (k : Int) < (xs.length : Int) := by omega
        by_cases he : xs[k] = ys[k]
        · have t1 : ((xs[k].toNat : Int) == (ys[k].toNat : Int)) = true := by rw [he]; simp
          have HN : Hid (xs.take (k + 1) = ys.take (k + 1)) := by
            show _ = _
            rw [take_one xs k hlt, take_one ys k hlt', hx.out, he]
          clear he
          go_wp2
          go_quiet (fail)
          go_wp2
          go_roundw
          case rel => exact ⟨k + 1, by omega, by go_num, HN, _, rfl⟩
          case measure => simp [intOf]; omega
        · have t1 : ((xs[k].toNat : Int) == (ys[k].toNat : Int)) = false := by
            rw [beq_eq_false_iff_ne]
            intro h
            exact he (UInt8.toNat_inj.1 (by omega))
          have e0 : (xs == ys) = false := by
            rw [beq_eq_false_iff_ne]
            intro h; subst h; exact he rfl
          have HE := hide e0
          clear he e0
          go_wp2
          go_quiet (fail)
          go_wp2
          go_ret
          exact ⟨by rw [HE.out]; rfl, q + nq, by simp⟩
      · have hi : ¬ (k : Int) < (xs.length : Int) := by omega
        have e0 : (xs == ys) = true := by
          have := hx.out
          rw [List.take_of_length_le (by omega), List.take_of_length_le (by omega)] at this
          rw [this]; simp
        have HE := hide e0
        clear e0
        go_wp2
        go_ret
        exact ⟨by rw [HE.out]; rfl, _, rfl⟩
  · have t0 : ((xs.length : Int) == (ys.length : Int)) = false := beq_eq_false_iff_ne.2 (by omega)
    have e0 : (xs == ys) = false := by
      rw [beq_eq_false_iff_ne]
      intro h; subst h; exact hlen rfl
    rw [e0]
    clear e0 hlen
    go_enter Try.func67, Try.ntmps67
    go_wp2
    go_ret
    exact ⟨rfl, 0, rfl⟩

theorem all_one (bs : List UInt8) (k : Nat) (h : k < bs.length) (hx : (bs.take k).all (· == 0) = true) : (bs.take (k + 1)).all (· == 0) = (bs[k] == 0) := by
  rw [take_one bs k h, List.all_append, hx]; simp

theorem all_not (bs : List UInt8) (k : Nat) (h : k < bs.length) (hx : bs[k] ≠ 0) : bs.all (· == 0) = false := by
  rw [List.all_eq_false]
  exact ⟨bs[k], List.getElem_mem h, by simpa using hx⟩

set_option maxRecDepth 100000 in
set_option maxHeartbeats 1000000 in
theorem rblank_any (a : Value) (xs : List UInt8) (w : World) (ha : Has w a xs) (hl : xs.length ≤ 150000000000000) :
    Calls Try.prog 68 #[a] w fun e w' => e = .returned (.bool (xs.all (· == 0))) ∧ w = w' := by
  have la := ha.len
  have HA := hide ha
  clear ha
  go_enter Try.func68, Try.ntmps68
  go_wp2
  go_loop [3] (fun i => ∃ k : Nat, k ≤ xs.length ∧ i = .int .i64 k ∧ Hid ((xs.take k).all (· == 0) = true)) (fun i => xs.length - (intOf i).toNat)
  case atStart => exact ⟨0, Nat.zero_le _, rfl, rfl⟩
  case round =>
    obtain ⟨k, hk, rfl, hx⟩ := hrel
    by_cases hlt : k < xs.length
    · obtain ⟨ad, i1, c1⟩ := HA.out.at k hlt
      unfold byt at c1
      have hi : (k : Int) < (xs.length : Int) := by omega
      by_cases he : xs[k] = 0
      · have t1 : ((xs[k].toNat : Int) == 0) = true := by rw [he]; simp
        have HN : Hid ((xs.take (k + 1)).all (· == 0) = true) := by
          show _ = _
          rw [all_one xs k hlt hx.out, he]; rfl
        clear he
        go_wp2
        go_round
        case rel => exact ⟨k + 1, by omega, by go_num, HN⟩
        case measure => simp [intOf]; omega
      · have t1 : ((xs[k].toNat : Int) == 0) = false := by
          rw [u8_zero, beq_eq_false_iff_ne]; exact he
        have HE := hide (all_not xs k hlt he)
        clear he
        go_wp2
        go_ret
        exact ⟨by rw [HE.out]; rfl, rfl⟩
    · have hi : ¬ (k : Int) < (xs.length : Int) := by omega
      have e0 := hx.out
      rw [List.take_of_length_le (by omega)] at e0
      have HE := hide e0
      clear e0
      go_wp2
      go_ret
      exact ⟨by rw [HE.out]; rfl, rfl⟩

end Go.Proofs.Ytgfgabgnejnipaa
