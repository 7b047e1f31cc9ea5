import Derived.Test.YtiefgmgjlhjjhaaDoorOz
import Derived.Test.YtiefgmgjlhjjhaaDoorSched
set_option linter.unusedVariables false
set_option linter.unusedSimpArgs false
namespace Go.Proofs.YtiefgmgjlhjjhaaDoor
open Go.RowKit

section
variable {P : Program} {n : Nat} {Q : Exit → Act → World → Prop} {l : List Oper} {e : List (Nat × Value)}
theorem Env.cons {a : Act} (h : Env n a e) (d : Nat) {v : Value} (hv : a.tmps.getD d undef = v) : Env n a ((d, v) :: e) := ⟨h.df, h.sz, fun j u hj => by
  rw [List.lookup_cons] at hj
  by_cases hjd : j = d
  · subst hjd
    simp at hj
    rw [← hj]; exact hv
  · have h1 : (j == d) = false := by simpa using hjd
    rw [h1] at hj
    exact h.kn j u hj⟩
theorem Env.keep {a : Act} (h : Env n a e) {d : Nat} (v : Value) (hd : d < n) (he : e.lookup d = none) : Env n (a.put (some d) v) e := by
  refine (h.put d v hd).less fun i u hi => ?_
  rw [List.lookup_cons]
  by_cases hid : i = d
  · subst hid
    rw [he] at hi
    cases hi
  · have h1 : (i == d) = false := by simpa using hid
    rw [h1]
    exact hi
/-- Is the region fit for the law below? -/
def factsOk (n : Nat) (l : List Oper) (e : List (Nat × Value)) : Bool :=
  (List.range l.length).all fun i => match l[i]? with
    | some o => match o.dst with
      | some d => o.guard.isNone && decide (d < n) && (e.lookup d).isNone && o.after.all (fun x => !Region.binds .any x || decide (x.on < i)) && (List.range l.length).all (fun j => j == i || (match l[j]? with | some p => !(p.dst == some d) | none => true))
      | none => false
    | none => false
theorem factsOk_at (h : factsOk n l e = true) {i : Nat} {o : Oper} (hi : l[i]? = some o) : ∃ d, o.dst = some d ∧ o.guard = none ∧ d < n ∧ e.lookup d = none ∧ (∀ x ∈ o.after, Region.binds .any x = true → x.on < i) ∧ ∀ j p, j ≠ i → l[j]? = some p → p.dst ≠ some d := by
  unfold factsOk at h
  rw [List.all_eq_true] at h
  have hil : i < l.length := (List.getElem?_eq_some_iff.1 hi).1
  have h1 := h i (List.mem_range.2 hil)
  rw [hi] at h1
  cases hd : o.dst with
  | none => simp [hd] at h1
  | some d =>
    simp only [hd, Bool.and_eq_true, decide_eq_true_eq, Option.isNone_iff_eq_none] at h1
    obtain ⟨⟨⟨⟨g1, g2⟩, g3⟩, g4⟩, g5⟩ := h1
    refine ⟨d, rfl, g1, g2, g3, fun x hx hb => ?_, fun j p hj hp => ?_⟩
    · have := Array.all_eq_true'.1 g4 x hx
      simpa [hb] using this
    · have hjl : j < l.length := (List.getElem?_eq_some_iff.1 hp).1
      have := List.all_eq_true.1 g5 j (List.mem_range.2 hjl)
      rw [hp] at this
      simpa [hj] using this
/-- What is known of the operations that are done. -/
def LD (l : List Oper) (D : Nat → Value → World → Prop) (listed : Array Bool) (a : Act) (W : World) : Prop := ∀ i o d, l[i]? = some o → o.dst = some d → listed.getD i false = true → D i (a.tmps.getD d undef) W
def left (l : List Oper) (listed : Array Bool) : Nat := ((List.range l.length).filter fun i => !listed.getD i false).length
theorem left_set {listed : Array Bool} (hs : listed.size = l.length) {i : Nat} (hi : i < l.length) (hn : listed.getD i false = false) : left l listed = left l (listed.setIfInBounds i true) + 1 := by
  unfold left
  have key : ∀ (L : List Nat), L.Nodup → i ∈ L → (L.filter fun j => !listed.getD j false).length = (L.filter fun j => !(listed.setIfInBounds i true).getD j false).length + 1 := by
    intro L
    induction L with
    | nil => intro _ h; cases h
    | cons j L ih =>
      intro hnd hm
      have hset : ∀ k, k ≠ i → (listed.setIfInBounds i true).getD k false = listed.getD k false := fun k hk => by
        simp [Array.getD_eq_getD_getElem?, Array.getElem?_setIfInBounds, Ne.symm hk]
      have hsi : (listed.setIfInBounds i true).getD i false = true := by
        simp [Array.getD_eq_getD_getElem?, Array.getElem?_setIfInBounds, hs, hi]
      obtain ⟨hjn, hnd'⟩ := List.nodup_cons.1 hnd
      by_cases hji : j = i
      · subst hji
        have same : (L.filter fun k => !listed.getD k false) = (L.filter fun k => !(listed.setIfInBounds j true).getD k false) := by
          apply List.filter_congr
          intro k hk
          rw [hset k (fun e => hjn (e ▸ hk))]
        rw [List.filter_cons, List.filter_cons, hn, hsi, ← same]
        rfl
      · have := ih hnd' (by rcases List.mem_cons.1 hm with h | h; exact absurd h.symm hji; exact h)
        rw [List.filter_cons, List.filter_cons, hset j hji]
        split
        · rw [List.length_cons, List.length_cons, this]
        · exact this
  exact key _ List.nodup_range (List.mem_range.2 hi)
theorem wpAny_facts (hB : factsOk n l e = true) (D : Nat → Value → World → Prop) (Rl : World → World → Prop) (G : World → Prop)
    (hst : ∀ i v W W', D i v W → Rl W W' → D i v W')
    (step : ∀ i o, l[i]? = some o → ∀ a W, Env n a e → G W → (∀ j p d, l[j]? = some p → p.dst = some d → (o.after.any fun x => Region.binds .any x && x.on == j) = true → D j (a.tmps.getD d undef) W) → OpR P o a W (fun v W' => D i v W' ∧ G W' ∧ Rl W W'))
    (fin : ∀ a W, Env n a e → G W → (∀ i o d, l[i]? = some o → o.dst = some d → D i (a.tmps.getD d undef) W) → Q .normal a W) :
    ∀ (fuel : Nat) (listed : Array Bool) (a : Act) (W : World), listed.size = l.length → left l listed = fuel → Env n a e → G W → LD l D listed a W → wpAny P .any l.toArray Q fuel listed a W := by
  intro fuel
  have hready : ∀ listed : Array Bool, listed.size = l.length → Region.ready .any l.toArray listed = [] → ∀ i, i < l.length → listed.getD i false = true := by
    intro listed hs hr i
    induction i using Nat.strongRecOn with
    | ind i ih =>
      intro hi
      rcases hx : listed.getD i false with _ | _
      · exfalso
        obtain ⟨d, _, _, _, _, haf, _⟩ := factsOk_at hB (List.getElem?_eq_getElem hi)
        have : i ∈ Region.ready .any l.toArray listed := by
          unfold Region.ready
          rw [List.mem_filter]
          refine ⟨List.mem_range.2 (by simpa using hi), ?_⟩
          have h1 : listed.getD i true = false := by
            have hb : i < listed.size := by omega
            simp [Array.getD_eq_getD_getElem?, hb] at hx ⊢
            exact hx
          have h2 : l.toArray[i]? = some l[i] := by simp [hi]
          rw [h1, h2]
          simp only [Bool.not_false, Option.map_some, Option.getD_some, Bool.true_and]
          rw [Array.all_eq_true']
          intro x hxm
          cases hb : Region.binds .any x with
          | false => simp
          | true =>
            have hlt := haf x hxm hb
            simp [ih x.on hlt (by omega)]
        rw [hr] at this
        cases this
      · rfl
  induction fuel with
  | zero =>
    intro listed a W hs hl he hG hLD
    have hall : ∀ i, i < l.length → listed.getD i false = true := fun i hi => by
      unfold left at hl
      rcases hx : listed.getD i false with _ | _
      · exfalso
        have hm : i ∈ (List.range l.length).filter fun i => !listed.getD i false := by
          rw [List.mem_filter]
          exact ⟨List.mem_range.2 hi, by rw [hx]; rfl⟩
        rw [List.length_eq_zero_iff.1 hl] at hm
        cases hm
      · rfl
    refine ⟨?_, fin a W he hG fun i o d hi hd => hLD i o d hi hd (hall i (List.getElem?_eq_some_iff.1 hi).1)⟩
    rcases hr : Region.ready .any l.toArray listed with _ | ⟨j, r⟩
    · rfl
    · exfalso
      have hj : j ∈ Region.ready .any l.toArray listed := by rw [hr]; simp
      obtain ⟨hun, oj, hoj, _⟩ := mem_ready.1 hj
      have hjl : j < l.length := by
        have := (Array.getElem?_eq_some_iff.1 hoj).1
        simpa using this
      exact getD_no hun (hall j hjl)
  | succ fuel ih =>
    intro listed a W hs hl he hG hLD
    refine ⟨fun hr => fin a W he hG fun i o d hi hd => hLD i o d hi hd (hready listed hs hr i (List.getElem?_eq_some_iff.1 hi).1), fun i hi => ?_⟩
    obtain ⟨hun, o, ho, hall⟩ := mem_ready.1 hi
    have ho' : l[i]? = some o := by simpa using ho
    have hil : i < l.length := (List.getElem?_eq_some_iff.1 ho').1
    obtain ⟨d, hd, hg, hdn, hde, haf, hdis⟩ := factsOk_at hB ho'
    have hn : listed.getD i false = false := by
      rcases hx : listed.getD i false with _ | _
      · rfl
      · exact absurd hx (getD_no hun)
    have hop := step i o ho' a W he hG (fun j p dj hj hpd hany => by
      obtain ⟨x, hx, hb⟩ := Array.any_eq_true'.1 hany
      simp only [Bool.and_eq_true, beq_iff_eq] at hb
      exact hLD j p dj hj hpd (by rw [← hb.2]; exact hall x hx hb.1))
    have hw : Region.wanted o (yielded l.toArray a.tmps) = true := by simp [Region.wanted, hg]
    unfold wpOp
    simp only [ho, hw, if_true]
    refine .inl (hop.wp fun v W' hc => ?_)
    obtain ⟨hD, hG', hR⟩ := hc
    rw [hd]
    refine ih _ _ _ (by simpa using hs) (by have := left_set hs hil hn; omega) (he.keep v hdn hde) hG' ?_
    intro j p dj hj hpd hlj
    have hsz : d < a.tmps.size := by rw [he.sz]; exact hdn
    by_cases hji : j = i
    · subst hji
      obtain rfl : o = p := Option.some.inj (ho'.symm.trans hj)
      obtain rfl : d = dj := Option.some.inj (hd.symm.trans hpd)
      have e1 : (a.put (some d) v).tmps.getD d undef = v := by
        simp [Act.put, Array.getD_eq_getD_getElem?, Array.getElem?_setIfInBounds, hsz]
      rw [e1]
      exact hD
    · have hne : dj ≠ d := fun e0 => hdis j p hji hj (by rw [hpd, e0])
      have e1 : (a.put (some d) v).tmps.getD dj undef = a.tmps.getD dj undef := by
        simp [Act.put, Array.getD_eq_getD_getElem?, Array.getElem?_setIfInBounds, Ne.symm hne]
      rw [e1]
      refine hst j _ W W' (hLD j p dj hj hpd ?_) hR
      rw [getD_set_ne false (Ne.symm hji)] at hlj
      exact hlj
/-- A region that draws, of operations that make new things: whatever the order, what is known of each stays. -/
theorem EW.facts {id : Nat} {w : World} (hm : P.follows .mixedOrders = true) (hB : factsOk n l e = true) (D : Nat → Value → World → Prop) (Rl : World → World → Prop) (G : World → Prop)
    (hG : G { w with drawn := w.drawn + 1 })
    (hst : ∀ i v W W', D i v W → Rl W W' → D i v W')
    (step : ∀ i o, l[i]? = some o → ∀ a W, Env n a e → G W → (∀ j p d, l[j]? = some p → p.dst = some d → (o.after.any fun x => Region.binds .any x && x.on == j) = true → D j (a.tmps.getD d undef) W) → OpR P o a W (fun v W' => D i v W' ∧ G W' ∧ Rl W W'))
    (fin : ∀ a W, Env n a e → G W → (∀ i o d, l[i]? = some o → o.dst = some d → D i (a.tmps.getD d undef) W) → Q .normal a W) : EW P n (Code.region id l.toArray true) Q e w := fun a ha => by
  refine wp_region_any hm ?_
  have hsz : l.toArray.size = l.length := by simp
  rw [hsz]
  refine wpAny_facts hB D Rl G hst step fin l.length _ a _ (by simp) ?_ ha hG (fun i o d hi hd h => ?_)
  · unfold left
    rw [List.filter_eq_self.2 (fun i hi => ?_), List.length_range]
    simp [Array.getD_eq_getD_getElem?, Array.getElem?_replicate]
    split <;> rfl
  · exfalso
    simp [Array.getD_eq_getD_getElem?, Array.getElem?_replicate] at h
    split at h <;> simp at h
end
end Go.Proofs.YtiefgmgjlhjjhaaDoor
namespace Go.Proofs.YtiefgmgjlhjjhaaDoor
open Go.RowKit

/-! The document's turn and move: a word is a number below 2^32, halved n times. -/
theorem rot_get (n : Nat) (hn : n < 32) (x : BitVec 32) (i : Nat) (hi : i < 32) : (rot n x).getLsbD i = if i + n < 32 then x.getLsbD (i + n) else x.getLsbD (i + n - 32) := by
  unfold rot
  rw [BitVec.getLsbD_or, BitVec.getLsbD_shiftLeft, BitVec.getLsbD_ushiftRight]
  by_cases h : i + n < 32
  · have h1 : i < 32 - n := by omega
    rw [if_pos h, Nat.add_comm n i]
    simp [h1]
  · have h1 : ¬ i < 32 - n := by omega
    have h2 : i - (32 - n) = i + n - 32 := by omega
    have h3 : x.getLsbD (n + i) = false := BitVec.getLsbD_of_ge x (n + i) (by omega)
    rw [if_neg h, h3, h2]
    simp [h1, hi]
theorem rot_zero (x : BitVec 32) : rot 0 x = x := by
  apply BitVec.eq_of_getLsbD_eq
  intro i hi
  rw [rot_get 0 (by omega) x i hi, if_pos (by omega)]
  rfl
theorem rot_succ (n : Nat) (hn : n + 1 < 32) (x : BitVec 32) : rot (n + 1) x = rot 1 (rot n x) := by
  apply BitVec.eq_of_getLsbD_eq
  intro i hi
  rw [rot_get (n + 1) hn x i hi, rot_get 1 (by omega) _ i hi]
  by_cases h : i + 1 < 32
  · rw [if_pos h, rot_get n (by omega) x (i + 1) h, show i + 1 + n = i + (n + 1) by omega]
  · rw [if_neg h, rot_get n (by omega) x _ (by omega), if_neg (by omega), if_pos (by omega), show i + (n + 1) - 32 = i + 1 - 32 + n by omega]
theorem rot_one (x : BitVec 32) : wn (rot 1 x) = wn x / 2 + wn x % 2 * 2147483648 := by
  have hx := x.isLt
  unfold wn
  have : (rot 1 x).toNat = x.toNat / 2 + x.toNat % 2 * 2147483648 := by
    show ((x <<< (32 - 1)) ||| (x >>> 1)).toNat = _
    rw [BitVec.toNat_or, BitVec.toNat_shiftLeft, BitVec.toNat_ushiftRight, Nat.shiftLeft_eq, Nat.shiftRight_eq_div_pow]
    rw [nat_join 31 _ _ (by show x.toNat * 2 ^ 31 % 4294967296 % 2 ^ 31 = 0; omega) (by show x.toNat / 2 ^ 1 < 2 ^ 31; omega)]
    show x.toNat * 2 ^ 31 % 4294967296 + x.toNat / 2 ^ 1 = _
    omega
  rw [this]
  omega
theorem rot_next (n : Nat) (hn : n + 1 < 32) (x : BitVec 32) : wn (rot n x) / 2 + wn (rot n x) % 2 * 2147483648 = wn (rot (n + 1) x) := by
  rw [rot_succ n hn, rot_one]
theorem shr_next (n : Nat) (x : BitVec 32) : wn (x >>> n) / 2 = wn (x >>> (n + 1)) := by
  rw [← wshr, ← wshr, Int.pow_succ, Int.ediv_ediv_of_nonneg (by exact_mod_cast Nat.zero_le (2 ^ n))]

set_option maxRecDepth 100000 in
theorem turn_any (x : BitVec 32) (n : Nat) (hn : n < 32) (w : World) :
    Calls Tryd.prog 76 #[.int .i64 (n : Int), .int .u64 (wn x)] w fun e w' => e = .returned (.int .u64 (wn (rot n x))) ∧ w' = w := by
  go_enter Tryd.func76, Tryd.ntmps76
  go_wp2
  go_loopw [1, 5] (fun a i wr => ∃ k : Nat, k ≤ n ∧ i = .int .i64 k ∧ a = .int .u64 (wn (rot k x)) ∧ wr = w) (fun _ i _ => n - (intOf i).toNat)
  case atStart => exact ⟨0, by omega, rfl, by rw [rot_zero], rfl⟩
  case round =>
    obtain ⟨k, hk, rfl, rfl, rfl⟩ := hrel
    by_cases hlt : k < n
    · have hz : (k : Int) < (n : Int) := by omega
      have e := rot_next k (by omega) x
      have h0 := wn_nonneg (rot k x)
      have h1 := wn_lt (rot k x)
      obtain ⟨y, hy⟩ : ∃ y, y = wn (rot k x) := ⟨_, rfl⟩
      rw [← hy] at e h0 h1
      rw [← hy]
      have HE := hide e
      clear hy e
      go_wp2
      go_roundw
      case rel => exact ⟨k + 1, by omega, by go_num, by rw [← HE.out], trivial⟩
      case measure => simp [intOf]; omega
    · obtain rfl : k = n := by omega
      go_wp2
      go_ret
      exact ⟨rfl, rfl⟩

set_option maxRecDepth 100000 in
theorem move_any (x : BitVec 32) (n : Nat) (hn : n < 32) (w : World) :
    Calls Tryd.prog 78 #[.int .i64 (n : Int), .int .u64 (wn x)] w fun e w' => e = .returned (.int .u64 (wn (x >>> n))) ∧ w' = w := by
  go_enter Tryd.func78, Tryd.ntmps78
  go_wp2
  go_loopw [1, 5] (fun a i wr => ∃ k : Nat, k ≤ n ∧ i = .int .i64 k ∧ a = .int .u64 (wn (x >>> k)) ∧ wr = w) (fun _ i _ => n - (intOf i).toNat)
  case atStart => exact ⟨0, by omega, rfl, by simp, rfl⟩
  case round =>
    obtain ⟨k, hk, rfl, rfl, rfl⟩ := hrel
    by_cases hlt : k < n
    · have hz : (k : Int) < (n : Int) := by omega
      have e := shr_next k x
      have h0 := wn_nonneg (x >>> k)
      have h1 := wn_lt (x >>> k)
      obtain ⟨y, hy⟩ : ∃ y, y = wn (x >>> k) := ⟨_, rfl⟩
      rw [← hy] at e h0 h1
      rw [← hy]
      have HE := hide e
      clear hy e
      go_wp2
      go_roundw
      case rel => exact ⟨k + 1, by omega, by go_num, by rw [← HE.out], trivial⟩
      case measure => simp [intOf]; omega
    · obtain rfl : k = n := by omega
      go_wp2
      go_ret
      exact ⟨rfl, rfl⟩
end Go.Proofs.YtiefgmgjlhjjhaaDoor
