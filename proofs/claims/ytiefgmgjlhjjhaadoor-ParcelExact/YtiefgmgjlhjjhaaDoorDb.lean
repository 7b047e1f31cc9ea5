import Derived.Test.YtiefgmgjlhjjhaaDoorDa
set_option linter.unusedVariables false
set_option linter.unusedSimpArgs false
namespace Go.Proofs.YtiefgmgjlhjjhaaDoor
open Go.RowKit

attribute [local irreducible] sm sumOf cnt chk partB ptB lgL
theorem el80 : El 80 114 6 96 := by
  refine ⟨Tryd.underlying80, ?_, by decide, by decide, by decide⟩
  have h : (Tryd.prog.info? 114).map (fun i => (i.zero, i.size, i.bytes)) = some (some (.agg [sv [], u32v 0, .int .i64 0, sv [], .slice none 0 0, .slice none 0 0].toArray), 6, 96) := by kernel_rfl
  obtain ⟨i, hi, h1, h2, h3⟩ := info_parts h
  exact ⟨i, _, hi, h1, h2, h3, rfl⟩
theorem el107 : El 107 4 1 1 := by
  refine ⟨Tryd.underlying107, ?_, by decide, by decide, by decide⟩
  have h : (Tryd.prog.info? 4).map (fun i => (i.zero, i.size, i.bytes)) = some (some (.bool false), 1, 1) := by kernel_rfl
  obtain ⟨i, hi, h1, h2, h3⟩ := info_parts h
  exact ⟨i, _, hi, h1, h2, h3, rfl⟩
theorem x80 (ad : Addr) (n cap m : Nat) (h : m < n) (W : World) : (Instr.indexAt 80 (.slice (some ad) n cap) (.int .i64 (m : Int))).run Tryd.prog W = .ok (.pointer (some (ad.add (m * 6)))) W := by
  have hm : (m : Int) < (n : Int) := by omega
  go_simp
theorem ldTa {W : World} {ad : Addr} {v : Value} (hc : W.cell? ad = some v) : (Instr.loadAt 9 (.pointer (some ad))).run Tryd.prog W = .ok v W := by go_simp
theorem ldUa {W : World} {ad : Addr} {v : Value} (hc : W.cell? ad = some v) : (Instr.loadAt 22 (.pointer (some ad))).run Tryd.prog W = .ok v W := by go_simp
theorem ld107a {W : World} {ad : Addr} {v : Value} (hc : W.cell? ad = some v) : (Instr.loadAt 107 (.pointer (some ad))).run Tryd.prog W = .ok v W := by go_simp
theorem ldIa {W : World} {ad : Addr} {v : Int} (hc : W.cell? ad = some (.int .i64 v)) : (Instr.loadAt 3 (.pointer (some ad))).run Tryd.prog W = .ok (.int .i64 v) W := by go_simp
/-- A parcel in the document's list. -/
theorem Rt.get {w : World} {q : Nat} {v : Value} {most : Nat} {L : List Rp} (h : Rt w q v most L) {i : Nat} {x : Rp} (hx : L[i]? = some x) : ∃ g c, v = .slice (some ⟨g, 0, none⟩) L.length c ∧ (∀ W, (Instr.indexAt 80 v (.int .i64 (i : Int))).run Tryd.prog W = .ok (.pointer (some ⟨g, i * 6, none⟩)) W) ∧ (∀ (k : Nat) u, x.cs[k]? = some u → w.cell? ⟨g, i * 6 + k, none⟩ = some u) ∧ (Instr.loadAt 114 (.pointer (some ⟨g, i * 6, none⟩))).run Tryd.prog w = .ok x.val w := by
  have hi : i < L.length := (List.getElem?_eq_some_iff.1 hx).1
  rcases h.ow.addr with ⟨_, h2⟩ | ⟨g, c, h1⟩
  · have : L.length = 0 := by rw [← List.length_map (f := Rp.cs), h2]; rfl
    omega
  rw [List.length_map] at h1
  have hc : ∀ (k : Nat) u, x.cs[k]? = some u → w.cell? ⟨g, i * 6 + k, none⟩ = some u := fun k u hk => by
    obtain ⟨ad, cap, e, ha⟩ := h.ow.li.at_ i x.cs (by rw [List.getElem?_map, hx]; rfl)
    rw [h1, List.length_map] at e
    cases e
    have := ha k u hk
    rw [addr_add, add_plain] at this
    exact this
  refine ⟨g, c, h1, fun W => ?_, hc, run_loadAt_mid w g (i * 6) 114 x.cs _ (fun j u hj => hc j u hj) Tryd.underlying114 rfl (i114 x)⟩
  rw [h1, x80 _ _ _ _ hi W, add_plain]
def isK (a : List UInt8) (id : Nat) (x : Rp) : Bool := decide (x.p = a) && decide (x.id = id)
def fiI (L : List Rp) (a : List UInt8) (id : Nat) : Int := match L.findIdx? (isK a id) with | some i => (i : Int) | none => -1
def fE (q : Nat) (a : List UInt8) (id : Nat) (i : Nat) : List (Nat × Value) := [(0, .pointer (some ⟨q, 0, none⟩)), (1, sv a), (2, u32v id), (7, .int .i64 (i : Int))]
structure FR (w : World) (L : List Rp) (a : List UInt8) (id : Nat) (i : Nat) (W : World) : Prop where
  le : i ≤ L.length
  eq : W = w
  no : ∀ j x, j < i → L[j]? = some x → isK a id x = false
theorem fi_some {L : List Rp} {a : List UInt8} {id i : Nat} {x : Rp} (hx : L[i]? = some x) (hk : isK a id x = true) (hn : ∀ j y, j < i → L[j]? = some y → isK a id y = false) : L.findIdx? (isK a id) = some i := by
  rw [List.findIdx?_eq_some_iff_getElem]
  obtain ⟨hi, e⟩ := List.getElem?_eq_some_iff.1 hx
  refine ⟨hi, by rw [e]; exact hk, fun j hj => ?_⟩
  have := hn j L[j] hj (List.getElem?_eq_getElem (by omega))
  rw [this]; decide
theorem fi_none {L : List Rp} {a : List UInt8} {id : Nat} (hn : ∀ (j : Nat) y, L[j]? = some y → isK a id y = false) : L.findIdx? (isK a id) = none := by
  rw [List.findIdx?_eq_none_iff]
  intro x hx
  obtain ⟨j, hj, e⟩ := List.getElem_of_mem hx
  exact hn j x (by rw [List.getElem?_eq_getElem hj, e])
theorem h114_0 (g o : Nat) (W : World) : (Instr.fieldAt 114 (.pointer (some ⟨g, o, none⟩)) 0).run Tryd.prog W = .ok (.pointer (some ⟨g, o + 0, none⟩)) W := by
  rw [f114_0, Addr.add_mid]
theorem h114_1 (g o : Nat) (W : World) : (Instr.fieldAt 114 (.pointer (some ⟨g, o, none⟩)) 1).run Tryd.prog W = .ok (.pointer (some ⟨g, o + 1, none⟩)) W := by
  rw [f114_1, Addr.add_mid]
theorem h114_2 (g o : Nat) (W : World) : (Instr.fieldAt 114 (.pointer (some ⟨g, o, none⟩)) 2).run Tryd.prog W = .ok (.pointer (some ⟨g, o + 2, none⟩)) W := by
  rw [f114_2, Addr.add_mid]
theorem h114_4 (g o : Nat) (W : World) : (Instr.fieldAt 114 (.pointer (some ⟨g, o, none⟩)) 4).run Tryd.prog W = .ok (.pointer (some ⟨g, o + 4, none⟩)) W := by
  rw [f114_4, Addr.add_mid]
set_option maxRecDepth 100000 in
set_option maxHeartbeats 4000000 in
theorem rfind_any (q : Nat) (v : Value) (most : Nat) (L : List Rp) (hL : L.length ≤ 1000000) (a : List UInt8) (id : Nat) (w : World) (ht : Rt w q v most L) : Calls Tryd.prog 51 #[.pointer (some ⟨q, 0, none⟩), sv a, u32v id] w fun e w' => e = .returned (.int .i64 (fiI L a id)) ∧ w' = w := by
  obtain ⟨ao, cp, hv⟩ := ht.slice
  refine calls_of_args [.pointer (some ⟨q, 0, none⟩), sv a, u32v id] Tryd.func51 rfl 40 Tryd.ntmps51 (by show 3 ≤ 40; decide) ?_
  refine EW.seq ?_
  refine EW.region ?_
  first | refine WL.assign rfl rfl rfl ?_
  refine WL.done ?_
  refine EW.on ?_
  refine EW.seq ?_
  refine EW.seq ?_
  refine EW.region ?_
  first | refine WL.assign rfl rfl rfl ?_
  refine WL.done ?_
  refine EW.on ?_
  refine EW.block ?_
  refine EW.loop (fE q a id) (FR w L a id) (fun i => L.length - i) 0 [0, 1, 2, 7] rfl ⟨Nat.zero_le _, rfl, fun j x h => by cases h⟩ ?_
  rintro i W hR
  have hWe := hR.eq
  subst hWe
  show EW _ _ _ _ [(0, .pointer (some ⟨q, 0, none⟩)), (1, sv a), (2, u32v id), (7, .int .i64 (i : Int))] _
  have hle := hR.le
  have s1 : IntKind.i64.wrap ((i : Int) + 1) = ((i + 1 : Nat) : Int) := by rw [IntKind.wrap_i64]; omega
  refine EW.seq ?_
  refine EW.seq ?_
  refine EW.region ?_
  first | refine WL.move rfl rfl rfl ?_
  first | refine WL.move rfl rfl rfl ?_
  first | refine WL.nilc rfl rfl rfl ?_
  first | refine WL.field rfl rfl rfl (g82_0 _ _) ?_ | refine WL.skip _ rfl rfl rfl ?_
  first | refine WL.load rfl rfl rfl (ld80 ht.bl rfl) ?_ | refine WL.skip _ rfl rfl rfl ?_
  rw [hv]
  refine WL.len rfl rfl rfl (len80 _ _ _ _ _) ?_
  rw [← hv]
  refine WL.bin rfl rfl rfl rfl (int_lt_d _ _ _ _ _) ?_
  refine WL.done ?_
  refine EW.on ?_
  refine EW.cond_d rfl (fun h14 => ?_) (fun h14 => ?_)
  · have ht0 : i < L.length := by omega
    obtain ⟨x, hx⟩ : ∃ x, L[i]? = some x := ⟨_, List.getElem?_eq_getElem ht0⟩
    obtain ⟨g, c, _, xi, xc, _⟩ := ht.get hx
    refine EW.skip ?_
    refine EW.on ?_
    refine EW.seq ?_
    refine EW.block ?_
    refine EW.seq ?_
    by_cases hA : x.p = a
    · refine EW.region ?_
      first | refine WL.move rfl rfl rfl ?_
      first | refine WL.nilc rfl rfl rfl ?_
      first | refine WL.field rfl rfl rfl (g82_0 _ _) ?_ | refine WL.skip _ rfl rfl rfl ?_
      first | refine WL.load rfl rfl rfl (ld80 ht.bl rfl) ?_ | refine WL.skip _ rfl rfl rfl ?_
      first | refine WL.move rfl rfl rfl ?_
      first | refine WL.index rfl rfl rfl rfl (xi _) ?_ | refine WL.skip _ rfl rfl rfl ?_
      first | refine WL.field rfl rfl rfl (h114_0 _ _ _) ?_ | refine WL.skip _ rfl rfl rfl ?_
      refine WL.load rfl rfl rfl (ldTa (xc 0 _ rfl)) ?_
      first | refine WL.move rfl rfl rfl ?_
      refine WL.bin rfl rfl rfl rfl (str_eq_s _ _ _ _ _) ?_
      first | rw [decide_eq_true hA] | rw [decide_eq_false hA]
      first | refine WL.move rfl rfl rfl ?_
      first | refine WL.move rfl rfl rfl ?_ | refine WL.skip _ rfl rfl rfl ?_
      first | refine WL.nilc rfl rfl rfl ?_ | refine WL.skip _ rfl rfl rfl ?_
      first | refine WL.field rfl rfl rfl (g82_0 _ _) ?_ | refine WL.skip _ rfl rfl rfl ?_
      first | refine WL.load rfl rfl rfl (ld80 ht.bl rfl) ?_ | refine WL.skip _ rfl rfl rfl ?_
      first | refine WL.move rfl rfl rfl ?_ | refine WL.skip _ rfl rfl rfl ?_
      first | refine WL.index rfl rfl rfl rfl (xi _) ?_ | refine WL.skip _ rfl rfl rfl ?_
      first | refine WL.field rfl rfl rfl (h114_1 _ _ _) ?_ | refine WL.skip _ rfl rfl rfl ?_
      first | refine WL.load rfl rfl rfl (ldUa (xc 1 _ rfl)) ?_ | refine WL.skip _ rfl rfl rfl ?_
      first | refine WL.move rfl rfl rfl ?_ | refine WL.skip _ rfl rfl rfl ?_
      first | refine WL.bin rfl rfl rfl rfl (eqlU _ _ _ _ _) ?_ | refine WL.skip _ rfl rfl rfl ?_
      first | refine WL.pick rfl rfl rfl rfl ?_
      refine WL.done ?_
      refine EW.on ?_
      refine EW.cond_d rfl (fun h38 => ?_) (fun h38 => ?_)
      · refine EW.seq ?_
        refine EW.region ?_
        first | refine WL.move rfl rfl rfl ?_
        first | refine WL.assign rfl rfl rfl ?_
        refine WL.done ?_
        refine EW.on ?_
        refine EW.ret ?_
        refine pr_block ?_
        refine pr_then ?_
        refine pr_then ?_
        refine pr_block ?_
        refine pr_then ?_
        exact EW.returns Tryd.results51 rfl ⟨by unfold fiI; rw [fi_some hx (by unfold isK; rw [decide_eq_true hA, decide_eq_true h38]; rfl) hR.no], rfl⟩
      · refine EW.skip ?_
        refine pn_block ?_
        refine EW.on ?_
        refine EW.region ?_
        first | refine WL.move rfl rfl rfl ?_
        first | refine WL.bin rfl rfl rfl rfl (int_add ‹_› _ _ _) ?_
        first | refine WL.assign rfl rfl rfl ?_
        refine WL.done ?_
        exact EW.again (i + 1) [0, 1, 2, 7] rfl ⟨by omega, rfl, fun j y hj hy => by
          by_cases e : j = i
          · subst e
            rw [hx] at hy
            cases hy
            unfold isK
            rw [decide_eq_false h38, Bool.and_false]
          · exact hR.no j y (by omega) hy⟩ (by show L.length - (i + 1) < L.length - i; omega)
    · refine EW.region ?_
      first | refine WL.move rfl rfl rfl ?_
      first | refine WL.nilc rfl rfl rfl ?_
      first | refine WL.field rfl rfl rfl (g82_0 _ _) ?_ | refine WL.skip _ rfl rfl rfl ?_
      first | refine WL.load rfl rfl rfl (ld80 ht.bl rfl) ?_ | refine WL.skip _ rfl rfl rfl ?_
      first | refine WL.move rfl rfl rfl ?_
      first | refine WL.index rfl rfl rfl rfl (xi _) ?_ | refine WL.skip _ rfl rfl rfl ?_
      first | refine WL.field rfl rfl rfl (h114_0 _ _ _) ?_ | refine WL.skip _ rfl rfl rfl ?_
      refine WL.load rfl rfl rfl (ldTa (xc 0 _ rfl)) ?_
      first | refine WL.move rfl rfl rfl ?_
      refine WL.bin rfl rfl rfl rfl (str_eq_s _ _ _ _ _) ?_
      first | rw [decide_eq_true hA] | rw [decide_eq_false hA]
      first | refine WL.move rfl rfl rfl ?_
      first | refine WL.move rfl rfl rfl ?_ | refine WL.skip _ rfl rfl rfl ?_
      first | refine WL.nilc rfl rfl rfl ?_ | refine WL.skip _ rfl rfl rfl ?_
      first | refine WL.field rfl rfl rfl (g82_0 _ _) ?_ | refine WL.skip _ rfl rfl rfl ?_
      first | refine WL.load rfl rfl rfl (ld80 ht.bl rfl) ?_ | refine WL.skip _ rfl rfl rfl ?_
      first | refine WL.move rfl rfl rfl ?_ | refine WL.skip _ rfl rfl rfl ?_
      first | refine WL.index rfl rfl rfl rfl (xi _) ?_ | refine WL.skip _ rfl rfl rfl ?_
      first | refine WL.field rfl rfl rfl (h114_1 _ _ _) ?_ | refine WL.skip _ rfl rfl rfl ?_
      first | refine WL.load rfl rfl rfl (ldUa (xc 1 _ rfl)) ?_ | refine WL.skip _ rfl rfl rfl ?_
      first | refine WL.move rfl rfl rfl ?_ | refine WL.skip _ rfl rfl rfl ?_
      first | refine WL.bin rfl rfl rfl rfl (eqlU _ _ _ _ _) ?_ | refine WL.skip _ rfl rfl rfl ?_
      first | refine WL.pick rfl rfl rfl rfl ?_
      refine WL.done ?_
      refine EW.on ?_
      refine EW.cond_f rfl ?_
      refine EW.skip ?_
      refine pn_block ?_
      refine EW.on ?_
      refine EW.region ?_
      first | refine WL.move rfl rfl rfl ?_
      first | refine WL.bin rfl rfl rfl rfl (int_add ‹_› _ _ _) ?_
      first | refine WL.assign rfl rfl rfl ?_
      refine WL.done ?_
      exact EW.again (i + 1) [0, 1, 2, 7] rfl ⟨by omega, rfl, fun j y hj hy => by
        by_cases e : j = i
        · subst e
          rw [hx] at hy
          cases hy
          unfold isK
          rw [decide_eq_false hA]; rfl
        · exact hR.no j y (by omega) hy⟩ (by show L.length - (i + 1) < L.length - i; omega)
  · skip
    refine EW.exit ?_
    refine px_then ?_
    refine px_then ?_
    refine px_block ?_
    refine EW.on ?_
    refine EW.seq ?_
    refine EW.region ?_
    first | refine WL.assign rfl rfl rfl ?_
    refine WL.done ?_
    refine EW.on ?_
    refine EW.ret ?_
    exact EW.returns Tryd.results51 rfl ⟨by unfold fiI; rw [fi_none (fun j y hy => hR.no j y (by have := (List.getElem?_eq_some_iff.1 hy).1; omega) hy)], rfl⟩
theorem c80H (ad : Addr) (n cap k : Nat) (hk : k ≤ n) (hc : n ≤ cap) (W : World) : (Instr.sliceAt 80 (.slice (some ad) n cap) none (some (.int .i64 (k : Int))) none).run Tryd.prog W = .ok (.slice (some ad) k cap) W := by
  have h2 : (k : Int) ≤ (cap : Int) := by omega
  go_simp
  try simp
theorem c80L (ad : Addr) (n cap k : Nat) (hk : k ≤ n) (hc : n ≤ cap) (W : World) : (Instr.sliceAt 80 (.slice (some ad) n cap) (some (.int .i64 (k : Int))) none none).run Tryd.prog W = .ok (.slice (some (if cap = k then ad else ad.add (k * 6))) (n - k) (cap - k)) W := by
  have h2 : (k : Int) ≤ (n : Int) := by omega
  go_simp
  split <;> rfl
theorem Li.cutH6 {w : World} {v : Value} {l : List (List Value)} (h : Li 6 w v l) {k : Nat} (hk : k < l.length) : ∃ v', (∀ W, (Instr.sliceAt 80 v none (some (.int .i64 (k : Int))) none).run Tryd.prog W = .ok v' W) ∧ Li 6 w v' (l.take k) := by
  obtain ⟨ad, cap, rfl, hcap⟩ : ∃ ad cap, v = .slice (some ad) l.length cap ∧ l.length ≤ cap := by
    rcases h.sl with ⟨h1, h2⟩ | ⟨ad, cap, h1, h2⟩
    · rw [h2] at hk; cases hk
    · exact ⟨ad, cap, h1, h2⟩
  have hl : (l.take k).length = k := by rw [List.length_take]; omega
  refine ⟨.slice (some ad) k cap, fun W => c80H _ _ _ _ (by omega) hcap W, .inr ⟨ad, cap, by rw [hl], by omega⟩, fun x hx => h.sz x (List.mem_of_mem_take hx), fun i x hx => ?_⟩
  rw [List.getElem?_take] at hx
  split at hx
  · obtain ⟨ad', cap', e, ha⟩ := h.at_ i x hx
    cases e
    exact ⟨ad, cap, by rw [hl], ha⟩
  · cases hx
theorem Li.cutL6 {w : World} {v : Value} {l : List (List Value)} (h : Li 6 w v l) {k : Nat} (hk : k < l.length) : ∃ v', (∀ W, (Instr.sliceAt 80 v (some (.int .i64 ((k + 1 : Nat) : Int))) none none).run Tryd.prog W = .ok v' W) ∧ Li 6 w v' (l.drop (k + 1)) := by
  obtain ⟨ad, cap, rfl, hcap⟩ : ∃ ad cap, v = .slice (some ad) l.length cap ∧ l.length ≤ cap := by
    rcases h.sl with ⟨h1, h2⟩ | ⟨ad, cap, h1, h2⟩
    · rw [h2] at hk; cases hk
    · exact ⟨ad, cap, h1, h2⟩
  refine ⟨_, fun W => c80L _ _ _ (k + 1) (by omega) hcap W, .inr ⟨_, _, by rw [List.length_drop], by rw [List.length_drop]; omega⟩, fun x hx => h.sz x (List.mem_of_mem_drop hx), fun i x hx => ?_⟩
  rw [List.getElem?_drop] at hx
  obtain ⟨ad', cap', e, ha⟩ := h.at_ (k + 1 + i) x hx
  cases e
  have hlt := (List.getElem?_eq_some_iff.1 hx).1
  refine ⟨_, _, by rw [List.length_drop], ?_⟩
  rw [if_neg (by omega), addr_add, show (k + 1) * 6 + i * 6 = (k + 1 + i) * 6 by omega]
  exact ha
theorem cs_one {w : World} {L : List Rp} (h : ∀ x ∈ L, x.hs w) : ∀ r ∈ L.map Rp.cs, ∀ c ∈ r, c.oneCell' = true := fun r hr c hc => by
  obtain ⟨x, hx, rfl⟩ := List.mem_map.1 hr
  have := Rp.one (h x hx)
  rw [Array.all_eq_true_iff_forall_mem] at this
  exact this c (by simpa using hc)
theorem st80 {w : World} {q : Nat} {x y : Value} (hb : Blk w q [x, y] 82) {v : Value} (hv : ∃ ao n c, v = Value.slice ao n c) : ∃ w', (Instr.storeAt 80 (.pointer (some ⟨q, 0, none⟩)) v).run Tryd.prog w = .ok () w' ∧ Blk w' q [v, y] 82 ∧ Fx (fun k => k = q) w w' := by
  obtain ⟨ao, n, c, rfl⟩ := hv
  have hc : w.cell? ⟨q, 0, none⟩ = some x := hb.cell 0
  have hf := hb.frozen 0
  exact ⟨w.setCell ⟨q, 0, none⟩ (.slice ao n c), by go_simp, hb.set 0 _, Fx.setCell (S := fun k => k = q) _ _ _ _ rfl⟩
theorem Rp.hs.fx {S : Nat → Prop} {w w' : World} {x : Rp} (h : x.hs w) (hf : Fx S w w') (h1 : ∀ b, x.iv.ownBlock = some b → ¬ S b) (h2 : ∀ b, x.tv.ownBlock = some b → ¬ S b) (h3 : ∀ (i : Nat) v t, x.ts[i]? = some v → x.t[i]? = some t → ∀ k, S k → v.ownBlock ≠ some k) : x.hs w' := ⟨h.bi.fx hf h1, h.pt.fx hf h2, fun i v b hv hb => (h.hx i v b hv hb).fx hf (fun k hk => h3 i v b hv hb k hk), h.lh, h.lt, h.ls, h.le, h.n2⟩
theorem Ow.neB {e : TypeId} {k : Nat} {w : World} {v : Value} {l : List (List Value)} (h : Ow e k w v l) {q : Nat} {cs : List Value} {t : TypeId} (hb : Blk w q cs t) (ht : e ≠ t) : ∀ b, v.ownBlock = some b → b ≠ q := fun b hv e' => by
  obtain ⟨hx, ⟨rfl, _⟩ | ⟨g, cp, cur, rfl, hg, hh2, _⟩⟩ := h.row
  · cases hv
  · simp only [Value.ownBlock, Option.some.injEq] at hv
    unfold Blk at hb
    rw [hv, e', hb] at hh2
    cases hh2; exact ht rfl
theorem Ob.neB {w : World} {b0 : Nat} {v : Value} {bs : List UInt8} (h : Ob w b0 v bs) {q : Nat} {cs : List Value} {t : TypeId} (hb : Blk w q cs t) (ht : t ≠ 5) : v.ownBlock ≠ some q := fun e => by
  obtain ⟨_, cur, hc⟩ := h.lt e
  unfold Blk at hb
  rw [hb] at hc
  cases hc; exact ht rfl
theorem Ob.neL {e : TypeId} {k : Nat} {w : World} {b0 : Nat} {v u : Value} {bs : List UInt8} {l : List (List Value)} (h : Ob w b0 v bs) (h' : Ow e k w u l) (ht : e ≠ 5) {j : Nat} (hj : u.ownBlock = some j) : v.ownBlock ≠ some j := fun e' => by
  obtain ⟨_, cur, hc⟩ := h.lt e'
  obtain ⟨_, ⟨rfl, _⟩ | ⟨g, cp, cur2, rfl, hg, hh, _⟩⟩ := h'.row
  · cases hj
  simp only [Value.ownBlock, Option.some.injEq] at hj
  rw [hj, hc] at hh
  cases hh; exact ht rfl
theorem Ow.neL {e e' : TypeId} {k k' : Nat} {w : World} {v v' : Value} {l l' : List (List Value)} (h : Ow e k w v l) (h' : Ow e' k' w v' l') (hne : e ≠ e') {j : Nat} (hj : v.ownBlock = some j) : v'.ownBlock ≠ some j := fun hj' => by
  obtain ⟨_, ⟨rfl, _⟩ | ⟨g, cp, cur, rfl, hg, hh, _⟩⟩ := h.row
  · cases hj
  obtain ⟨_, ⟨rfl, _⟩ | ⟨g', cp', cur', rfl, hg', hh', _⟩⟩ := h'.row
  · cases hj'
  simp only [Value.ownBlock, Option.some.injEq] at hj hj'
  rw [hj] at hh
  rw [hj', hh] at hh'
  cases hh'; exact hne rfl
/-- A parcel stays when the tray's own block turns. -/
theorem Rp.hs.fx82 {w w' : World} {x : Rp} (h : x.hs w) {q : Nat} {v : Value} {m : Int} (hv : ∃ ao n c, v = Value.slice ao n c) (hb : Blk w q [v, .int .i64 m] 82) (hf : Fx (fun k => k = q) w w') : x.hs w' :=
  h.fx hf (fun b e k => h.bi.neB hb (by decide) b e k) (fun b e k => h.pt.neB hb (by decide) b e k) (fun i u t hu ht k hk => by
    have e : k = q := hk
    rw [e]; exact (h.hx i u t hu ht).neB hb (by decide))
end Go.Proofs.YtiefgmgjlhjjhaaDoor
