import Derived.Test.YtplfelfmkgjijaaNk
import Derived.Lib.SlBytesConst
set_option linter.unusedVariables false
set_option linter.unusedSimpArgs false
namespace Go.Proofs.Ytplfelfmkgjijaa
open Go.RowKit

theorem EW.join {P : Program} {n : Nat} {Q : Exit → Act → World → Prop} {e : List (Nat × Value)} {w : World} {α : Type} {x y : Code} (E : α → List (Nat × Value)) (R : α → World → Prop) (h : EW P n x (Exit.then (fun a w => ∃ d, Env n a (E d) ∧ R d w) Q) e w) (k : ∀ d w, R d w → EW P n y Q (E d) w) : EW P n (.seq x y) Q e w :=
  EW.seq (fun a ha => wp_mono (h a ha) (fun ex a' w' hq => by
    cases ex with
    | normal =>
      obtain ⟨d, h1, h2⟩ := hq
      exact k d w' h2 a' h1
    | _ => exact hq))
theorem EW.met {n : Nat} {Q : Exit → Act → World → Prop} {e : List (Nat × Value)} {w : World} {α : Type} {E : α → List (Nat × Value)} {R : α → World → Prop} (d : α) (l : List Nat) (he : keepE e l = E d) (hR : R d w) : ∀ a, Env n a e → Exit.then (fun a w => ∃ d, Env n a (E d) ∧ R d w) Q .normal a w := fun a ha => ⟨d, by rw [← he]; exact ha.less (keepE_sub e l), hR⟩
def SQ (q : World → Prop) (l : Nat) (W : World) : Prop := l = 0 ∨ q W
theorem sq_anti (q : World → Prop) (m n : Nat) (W : World) (h : m ≤ n) (k : SQ q n W) : SQ q m W := by
  rcases k with k | k
  · exact .inl (by omega)
  · exact .inr k
theorem sq_of {q : World → Prop} {W : World} {l : Nat} {C : World → Prop} (h : SZ (SQ q) 0 (l + 1) C W) : q W := by
  rcases h with h | h
  · cases h
  · exact h
theorem sq0 {q : World → Prop} {C : World → Prop} : ∀ W, C W → SZ (SQ q) 0 0 C W := fun _ _ => .inl rfl
theorem sq1 {q : World → Prop} {l : Nat} {C : World → Prop} : ∀ W, q W → SZ (SQ q) 0 l C W := fun _ h => .inr h
theorem Blk.neT {w : World} {a b : Nat} {cs ds : List Value} {t t' : TypeId} (h : Blk w a cs t) (k : Blk w b ds t') (ht : t ≠ t') : a ≠ b := fun e => by
  unfold Blk at h k
  rw [e, k] at h
  simp only [Option.some.injEq, Obj.cells.injEq] at h
  exact ht h.2.1.symm
theorem Own.neT {w : World} {b q : Nat} {v : Value} {bs : List UInt8} {cs : List Value} {t : TypeId} (h : Own w b v bs) (k : Blk w q cs t) (ht : t ≠ 5) : v.ownBlock ≠ some q := fun e => by
  obtain ⟨_, ⟨rfl, _⟩ | ⟨g, cp, cur, rfl, _, hh, _⟩⟩ := h
  · cases e
  · simp only [Value.ownBlock, Option.some.injEq] at e
    unfold Blk at k
    rw [← e, hh] at k
    simp only [Option.some.injEq, Obj.cells.injEq] at k
    exact ht k.2.1.symm
theorem Ow.neT {w : World} {e : TypeId} {n q : Nat} {v : Value} {l : List (List Value)} {cs : List Value} {t : TypeId} (h : Ow e n w v l) (k : Blk w q cs t) (ht : t ≠ e) : v.ownBlock ≠ some q := fun e' => by
  obtain ⟨_, ⟨rfl, _⟩ | ⟨g, cp, cur, rfl, _, hh, _⟩⟩ := h.row
  · cases e'
  · simp only [Value.ownBlock, Option.some.injEq] at e'
    unfold Blk at k
    rw [← e', hh] at k
    simp only [Option.some.injEq, Obj.cells.injEq] at k
    exact ht k.2.1.symm
theorem Ow.neM {w : World} {e : TypeId} {n q : Nat} {v : Value} {l : List (List Value)} {E : List Me} {c : Nat} (h : Ow e n w v l) (k : Mp w q E c) : v.ownBlock ≠ some q := fun e' => by
  obtain ⟨_, ⟨rfl, _⟩ | ⟨g, cp, cur, rfl, _, hh, _⟩⟩ := h.row
  · cases e'
  · simp only [Value.ownBlock, Option.some.injEq] at e'
    have := k.hp
    rw [← e', hh] at this
    cases this
/-- What was sent. -/
structure Sn where
  x : Fl
  h : Bool
def Sn.cs (s : Sn) : List Value := s.x.cs ++ [.bool s.h]
def Sn.g (s : Sn) : Value := .agg s.cs.toArray
theorem elN : El 45 44 5 56 := by
  refine ⟨Try.underlying45, ?_, by decide, by decide, by decide⟩
  have h : (Try.prog.info? 44).map (fun i => (i.zero, i.size, i.bytes)) = some (some (Sn.g ⟨Fl.z, false⟩), 5, 56) := by kernel_rfl
  obtain ⟨i, hi, h1, h2, h3⟩ := info_parts h
  exact ⟨i, _, hi, h1, h2, h3, rfl⟩
theorem scs_sz (S : List Sn) : ∀ x ∈ S.map Sn.cs, x.length = 5 := fun x hx => by
  obtain ⟨s, hs, rfl⟩ := List.mem_map.1 hx
  rfl
theorem scs_at {S : List Sn} {i : Nat} {s : Sn} (h : S[i]? = some s) : (S.map Sn.cs)[i]? = some s.cs := by rw [List.getElem?_map, h]; rfl
theorem Sn.one {s : Sn} (h : s.x.sh) : ∀ c ∈ s.cs, c.oneCell' = true := fun c hc => by
  rcases List.mem_append.1 hc with hc | hc
  · exact Fl.ones h c hc
  · rw [List.mem_singleton.1 hc]; rfl
theorem Sn.alls {s : Sn} (h : s.x.sh) : s.cs.toArray.all (·.oneCell') = true := by
  rw [List.all_toArray, List.all_eq_true]
  exact Sn.one h
theorem i44 (s : Sn) : (Try.prog.info? 44).map (·.size) = some s.cs.length := by show _ = some 5; kernel_rfl
abbrev Dt := Int × Int × Int × List UInt8
/-- Which packet a number must bring. -/
def hereD (S : List Sn) (k : Nat) : Option Dt := (S[k]?).bind fun s => if s.h then some s.x.d else none
structure Bg (w0 w : World) (p r : Nat) (N : Nat) (vl : Value) (S : List Sn) (E : List Me) (c : Nat) (H : Nat → Option Dt) : Prop where
  nt : Nt w p r 3 1000 (N : Int) E c
  sl : Ow 44 5 w vl (S.map Sn.cs)
  sn : ∀ (j : Nat) s, S[j]? = some s → s.x.n = (j : Int)
  hs : ∀ s ∈ S, Has w s.x.v s.x.b ∧ s.x.b.length ≤ 140737488355328
  rl : ∀ k : Nat, (lkE E (k : Int)).map Fl.d = H k
  lo : ∀ m ∈ E, 0 ≤ m.x.n
  le : E.length ≤ N
  aS : ∀ s ∈ S, ∀ k, vl.ownBlock = some k → Off s.x.v s.x.b k
  aE : ∀ m ∈ E, ∀ k, vl.ownBlock = some k → Off m.x.v m.x.b k
  be : Below w0.heap.size w0 w
  hp : w0.heap.size ≤ p
  hr : w0.heap.size ≤ r
  hv : ∀ k, vl.ownBlock = some k → w0.heap.size ≤ k
section
variable {w0 w w' : World} {p r N : Nat} {vl : Value} {S : List Sn} {E : List Me} {c : Nat} {H : Nat → Option Dt}
theorem Bg.on (h : Bg w0 w p r N vl S E c H) (hb : Below w.heap.size w w') : Bg w0 w' p r N vl S E c H :=
  ⟨h.nt.on hb, h.sl.on hb, h.sn, fun s hs => ⟨(h.hs s hs).1.below hb, (h.hs s hs).2⟩, h.rl, h.lo, h.le, h.aS, h.aE, h.be.trans (hb.mono h.be.size), h.hp, h.hr, h.hv⟩
theorem Bg.net {N' : Nat} {E' : List Me} {c' : Nat} {H' : Nat → Option Dt} (h : Bg w0 w p r N vl S E c H) (nt' : Nt w' p r 3 1000 (N' : Int) E' c') (f : Fx (fun k => k = p ∨ k = r) w w') (rl : ∀ k : Nat, (lkE E' (k : Int)).map Fl.d = H' k) (lo : ∀ m ∈ E', 0 ≤ m.x.n) (le : E'.length ≤ N') (aE : ∀ m ∈ E', ∀ k, vl.ownBlock = some k → Off m.x.v m.x.b k) : Bg w0 w' p r N' vl S E' c' H' := by
  refine ⟨nt', h.sl.fx f (fun b hb e => ?_), h.sn, fun s hs => ⟨(h.hs s hs).1.fxo f (fun k hk => ?_), (h.hs s hs).2⟩, rl, lo, le, h.aS, aE, h.be.trans (f.below (fun k hk e => by have := h.hp; have := h.hr; omega) h.be.size), h.hp, h.hr, h.hv⟩
  · rcases e with e | e
    · rw [e] at hb; exact h.sl.neT h.nt.bl (by decide) hb
    · rw [e] at hb; exact h.sl.neM h.nt.mp hb
  · rcases hk with e | e
    · rw [e]; exact (h.hs s hs).1.offB h.nt.bl (nob_net _ _ _ _)
    · rw [e]; exact map_off (h.hs s hs).1 h.nt.mp.hp
theorem lk_del {E : List Me} {k j : Int} (h : j ≠ k) : lkE (delE E k) j = lkE E j := by
  unfold lkE delE
  congr 1
  induction E with
  | nil => rfl
  | cons m l ih =>
    by_cases hm : k = m.x.n
    · rw [List.filter_cons_of_neg (by simpa using hm), List.find?_cons_of_neg (by simp; omega)]
      exact ih
    · rw [List.filter_cons_of_pos (by simpa using hm)]
      by_cases hj : j = m.x.n
      · rw [List.find?_cons_of_pos (by simpa using hj), List.find?_cons_of_pos (by simpa using hj)]
      · rw [List.find?_cons_of_neg (by simpa using hj), List.find?_cons_of_neg (by simpa using hj)]
        exact ih
theorem lk_del_self {E : List Me} {k : Int} : lkE (delE E k) k = none := lk_of_none fun m hm e => by
  unfold delE at hm
  have := (List.mem_filter.1 hm).2
  simp [e] at this
theorem Bg.del (h : Bg w0 w p r N vl S E c H) (k : Nat) (nt' : Nt w' p r 3 1000 (N : Int) (delE E (k : Int)) c) (f : Fx (fun j => j = r) w w') : Bg w0 w' p r N vl S (delE E (k : Int)) c (fun j => if j = k then none else H j) := by
  have hsub : (delE E (k : Int)).Sublist E := List.filter_sublist
  refine h.net nt' (f.mono (fun i _ e => .inr e)) (fun j => ?_) (fun m hm => h.lo m (hsub.subset hm)) (Nat.le_trans hsub.length_le h.le) (fun m hm => h.aE m (hsub.subset hm))
  by_cases e : j = k
  · rw [if_pos e, e, lk_del_self]; rfl
  · rw [if_neg e, lk_del (by omega), h.rl]
theorem lk_push {E : List Me} {y : Fl} {c : Nat} {k : Int} (hn : lkE E y.n = none) : lkE (E ++ [⟨y, c⟩]) k = if k = y.n then some y else lkE E k := by
  by_cases e : k = y.n
  · rw [if_pos e, e]
    unfold lkE
    rw [List.find?_append]
    have : E.find? (fun m => decide (y.n = m.x.n)) = none := by
      rw [List.find?_eq_none]
      intro m hm
      simpa using lk_none hn m hm
    rw [this]
    simp
  · rw [if_neg e]
    unfold lkE
    rw [List.find?_append]
    have : ([⟨y, c⟩] : List Me).find? (fun m => decide (k = m.x.n)) = none := by
      rw [List.find?_eq_none]
      simp [e]
    rw [this, Option.or_none]
theorem Bg.push (h : Bg w0 w p r N vl S E c H) {y : Fl} (hy : y.n = (N : Int)) (hf : Fresh w y.v) (nt' : Nt w' p r 3 1000 ((N : Int) + 1) (E ++ [⟨y, c⟩]) (c + 1)) (f : Fx (fun k => k = p ∨ k = r) w w') : Bg w0 w' p r (N + 1) vl S (E ++ [⟨y, c⟩]) (c + 1) (fun j => if j = N then some y.d else H j) := by
  have hlk : lkE E y.n = none := by rw [hy]; exact h.nt.lk
  refine h.net (by rw [Int.natCast_add]; exact nt') f (fun j => ?_) (fun m hm => ?_) (by rw [List.length_append]; have := h.le; simp; exact this) (fun m hm k hk => ?_)
  · rw [lk_push hlk]
    by_cases e : j = N
    · rw [if_pos e, if_pos (by rw [hy, e])]; rfl
    · rw [if_neg e, if_neg (by rw [hy]; omega), h.rl]
  · rcases List.mem_append.1 hm with hm | hm
    · exact h.lo m hm
    · rw [List.mem_singleton.1 hm]
      show 0 ≤ y.n
      omega
  · rcases List.mem_append.1 hm with hm | hm
    · exact h.aE m hm k hk
    · rw [List.mem_singleton.1 hm]
      exact .inr fun e => by have := hf k e; have := h.sl.lt hk; omega
theorem st4at {w : World} {ad : Addr} {u : Value} (z : Bool) (hc : w.cell? ad = some u) (hf : w.frozen? ad = false) : (Instr.storeAt 4 (.pointer (some ad)) (.bool z)).run Try.prog w = .ok () (w.setCell ad (.bool z)) := by
  go_simp
theorem idx45 (ad : Addr) (n cap m : Nat) (h : m < n) (W : World) : (Instr.indexAt 45 (.slice (some ad) n cap) (.int .i64 (m : Int))).run Try.prog W = .ok (.pointer (some (ad.add (m * 5)))) W := by
  have hm : (m : Int) < (n : Int) := by omega
  go_simp
theorem len45 (ao : Option Addr) (n c : Nat) (W : World) (ty : TypeId) : (Builtin.len_ #[45] ty #[.slice ao n c]).run Try.prog W = .ok (.int .i64 (n : Int)) W := by go_simp
theorem f44_0 (ad : Addr) (W : World) : (Instr.fieldAt 44 (.pointer (some ad)) 0).run Try.prog W = .ok (.pointer (some (ad.add 0))) W := by go_simp
theorem f44_1 (ad : Addr) (W : World) : (Instr.fieldAt 44 (.pointer (some ad)) 1).run Try.prog W = .ok (.pointer (some (ad.add 4))) W := by go_simp
theorem ldBat {w : World} {ad : Addr} {b : Bool} (h : At w ad [.bool b]) : (Instr.loadAt 4 (.pointer (some ad))).run Try.prog w = .ok (.bool b) w := by
  have h0 := h 0 _ rfl
  rw [Addr.add_zero'] at h0
  go_simp
theorem Bg.len (h : Bg w0 w p r N vl S E c H) (W : World) (ty : TypeId) : (Builtin.len_ #[45] ty #[vl]).run Try.prog W = .ok (.int .i64 (S.length : Int)) W := by
  rcases h.sl.addr with ⟨rfl, e⟩ | ⟨g, cap, rfl⟩
  · have : S = [] := by simpa using e
    rw [this]; exact len45 _ _ _ W ty
  · rw [List.length_map]; exact len45 _ _ _ W ty
theorem Bg.get (h : Bg w0 w p r N vl S E c H) {k : Nat} {s : Sn} (hk : S[k]? = some s) : ∃ ad, (∀ W, (Instr.indexAt 45 vl (.int .i64 (k : Int))).run Try.prog W = .ok (.pointer (some ad)) W) ∧ ∀ W, Ow 44 5 W vl (S.map Sn.cs) → (Instr.loadAt 4 (.pointer (some (ad.add 4)))).run Try.prog W = .ok (.bool s.h) W ∧ (Instr.loadAt 36 (.pointer (some (ad.add 0)))).run Try.prog W = .ok s.x.g W ∧ (Instr.loadAt 44 (.pointer (some ad))).run Try.prog W = .ok s.g W := by
  obtain ⟨ad, cap, e, _⟩ := h.sl.li.at_ k _ (scs_at hk)
  have hi : k < (S.map Sn.cs).length := (List.getElem?_eq_some_iff.1 (scs_at hk)).1
  refine ⟨ad.add (k * 5), fun W => by rw [e]; exact idx45 ad _ cap k hi W, fun W hW => ?_⟩
  obtain ⟨ad2, cap2, e2, ha⟩ := hW.li.at_ k _ (scs_at hk)
  rw [e] at e2
  cases e2
  exact ⟨ldBat (ha.sub (a := s.x.cs) (m := [.bool s.h]) (b := []) rfl rfl), run_loadA (ha.sub (a := []) (m := s.x.cs) (b := [.bool s.h]) rfl rfl) Try.underlying36 rfl (i36 s.x), run_loadA ha Try.underlying44 rfl (i44 s)⟩
theorem Bg.clr (h : Bg w0 w p r N vl S E c H) {k : Nat} {s : Sn} (hk : S[k]? = some s) : ∃ ad w', (∀ W, (Instr.indexAt 45 vl (.int .i64 (k : Int))).run Try.prog W = .ok (.pointer (some ad)) W) ∧ (Instr.storeAt 4 (.pointer (some (ad.add 4))) (.bool false)).run Try.prog w = .ok () w' ∧ Bg w0 w' p r N vl (S.set k { s with h := false }) E c H ∧ Fx (fun k => vl.ownBlock = some k) w w' := by
  have hi : k < S.length := (List.getElem?_eq_some_iff.1 hk).1
  have hm := List.mem_of_getElem? hk
  rcases h.sl.addr with ⟨_, e⟩ | ⟨g, cap, hvl⟩
  · have : S = [] := by simpa using e
    rw [this] at hk; cases hk
  · have hsl := h.sl
    rw [hvl] at hsl
    obtain ⟨⟨u, h1⟩, h2, h3, h4⟩ := hsl.setC (scs_at hk) (show 4 < 5 by decide) (.bool false)
    have hgl : vl.ownBlock = some g := by rw [hvl]; rfl
    have f4 : Fx (fun k => vl.ownBlock = some k) w (w.setCell (((⟨g, 0, none⟩ : Addr).add (k * 5)).add 4) (.bool false)) := h4.mono (fun b _ hb => by have hb' : b = g := hb; rw [hb']; exact hgl)
    refine ⟨_, _, fun W => by rw [hvl]; exact idx45 _ _ cap k (by rw [List.length_map]; exact hi) W, st4at false h1 h2, ⟨?_, ?_, fun j y hy => ?_, fun y hy => ?_, h.rl, h.lo, h.le, fun y hy => ?_, h.aE, ?_, h.hp, h.hr, h.hv⟩, f4⟩
    · exact h.nt.fx f4 (fun e => h.sl.neT h.nt.bl (by decide) e) (fun e => h.sl.neM h.nt.mp e) (fun m hm k hk => h.aE m hm k hk)
    · have e : (S.set k { s with h := false }).map Sn.cs = (S.map Sn.cs).set k (s.cs.set 4 (.bool false)) := by
        rw [List.map_set]
        rfl
      rw [e, hvl]
      exact h3
    · rw [List.getElem?_set] at hy
      split at hy
      · rename_i e
        first
          | (cases hy; subst e; exact h.sn k s hk)
          | (split at hy
             · cases hy; subst e; exact h.sn k s hk
             · cases hy)
      · exact h.sn j y hy
    · have hold : ∀ z ∈ S, Has (w.setCell (((⟨g, 0, none⟩ : Addr).add (k * 5)).add 4) (.bool false)) z.x.v z.x.b ∧ z.x.b.length ≤ 140737488355328 := fun z hz => ⟨(h.hs z hz).1.fxo f4 (fun k hk => h.aS z hz k hk), (h.hs z hz).2⟩
      rcases List.mem_or_eq_of_mem_set hy with hy | rfl
      · exact hold y hy
      · exact hold s hm
    · rcases List.mem_or_eq_of_mem_set hy with hy | rfl
      · exact h.aS y hy
      · exact h.aS s hm
    · exact h.be.trans (f4.below (fun b hb e => by have := h.hv b e; omega) h.be.size)
theorem Bg.app (h : Bg w0 w p r N vl S E c H) (s : Sn) (hn : s.x.n = (S.length : Int)) (hs : Has w s.x.v s.x.b) (hl : s.x.b.length ≤ 140737488355328) (hnew : ∀ k, vl.ownBlock = some k → Off s.x.v s.x.b k) (hS : S.length ≤ 10000) (ty : TypeId) : ∃ v1 w1 v2 w2, (Instr.buildSlice 45 1 [(0, s.g)].toArray).run Try.prog w = .ok v1 w1 ∧ (Builtin.append_ #[45, 45] ty #[vl, v1]).run Try.prog w1 = .ok v2 w2 ∧ Bg w0 w2 p r N v2 (S ++ [s]) E c H := by
  have r1 := run_bsN elN w ([s].map Sn.cs) (scs_sz _) (by show 0 < 1; decide) (by show 1 * 5 ≤ 2 ^ 24; decide)
  have o1 := Ow.new (e := 44) w ([s].map Sn.cs) (scs_sz _) (maxL (by show 1 ≤ 100000; decide))
  have l1 : Below w.heap.size w (w.alloc (.cells ([s].map Sn.cs).flatten.toArray 44)) := below_new _ _
  generalize w.alloc (.cells ([s].map Sn.cs).flatten.toArray 44) = w1 at r1 o1 l1
  have h1 := h.on l1
  obtain ⟨v2, w2, r2, o2, f2, n2⟩ := h1.sl.app elN o1.li (fun x hx c hc => by
    obtain ⟨s', hs', rfl⟩ := List.mem_map.1 hx
    rw [List.mem_singleton.1 hs'] at hc
    exact Sn.one (sh_of hs) c hc) (by rw [List.length_map]; simp; omega) ty
  have hsz := l1.size
  have hoff : ∀ (v : Value) (b : List UInt8), Has w v b → (∀ k, vl.ownBlock = some k → Off v b k) → ∀ k, v2.ownBlock = some k → Off v b k := fun v b hh ha k hk => by
    rcases n2 k hk with e | e
    · exact ha k e
    · by_cases e2 : v.ownBlock = some k
      · rcases hh.blk e2 with e3 | e3
        · exact .inl e3
        · omega
      · exact .inr e2
  refine ⟨_, w1, v2, w2, r1, r2, ⟨?_, by rw [List.map_append]; exact o2, fun j y hy => ?_, fun y hy => ?_, h.rl, h.lo, h.le, fun y hy => ?_, fun m hm => hoff _ _ (h.nt.hs m hm) (h.aE m hm), ?_, h.hp, h.hr, fun k hk => ?_⟩⟩
  · exact h1.nt.fx f2 (fun e => h1.sl.neT h1.nt.bl (by decide) e) (fun e => h1.sl.neM h1.nt.mp e) (fun m hm k hk => h.aE m hm k hk)
  · rcases Nat.lt_or_ge j S.length with hj | hj
    · rw [List.getElem?_append_left hj] at hy
      exact h.sn j y hy
    · rw [List.getElem?_append_right hj] at hy
      have hj0 : j - S.length = 0 := by
        have := (List.getElem?_eq_some_iff.1 hy).1
        simp at this
        omega
      rw [hj0] at hy
      cases hy
      rw [hn]
      omega
  · have hold : ∀ z : Sn, Has w z.x.v z.x.b → (∀ k, vl.ownBlock = some k → Off z.x.v z.x.b k) → Has w2 z.x.v z.x.b := fun z hz ha => (hz.below l1).fxo f2 (fun k hk => ha k hk)
    rcases List.mem_append.1 hy with hy | hy
    · exact ⟨hold y (h.hs y hy).1 (h.aS y hy), (h.hs y hy).2⟩
    · rw [List.mem_singleton.1 hy]
      exact ⟨hold s hs hnew, hl⟩
  · rcases List.mem_append.1 hy with hy | hy
    · exact hoff _ _ (h.hs y hy).1 (h.aS y hy)
    · rw [List.mem_singleton.1 hy]
      exact hoff _ _ hs hnew
  · exact h1.be.trans (f2.below (fun b hb e => by have := h.hv b e; omega) h1.be.size)
  · rcases n2 k hk with e | e
    · exact h.hv k e
    · have := h1.be.size; omega
end
end Go.Proofs.Ytplfelfmkgjijaa
