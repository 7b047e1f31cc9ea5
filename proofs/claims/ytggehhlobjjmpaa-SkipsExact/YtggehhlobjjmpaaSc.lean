import Derived.Test.YtggehhlobjjmpaaSb
import Derived.Laws.Tables
set_option linter.unusedVariables false
set_option linter.unusedSimpArgs false
namespace Go.Proofs.Ytggehhlobjjmpaa
open Go.RowKit

theorem elK : El 22 29 32 32 := by
  refine ⟨Try.underlying22, ?_, by decide, by decide, by decide⟩
  have h : (Try.prog.info? 29).map (fun i => (i.zero, i.size, i.bytes)) = some (some (kv z32), 32, 32) := by kernel_rfl
  obtain ⟨i, hi, h1, h2, h3⟩ := info_parts h
  exact ⟨i, _, hi, h1, h2, h3, rfl⟩
theorem elS : El 36 39 34 40 := by
  refine ⟨Try.underlying36, ?_, by decide, by decide, by decide⟩
  have h : (Try.prog.info? 39).map (fun i => (i.zero, i.size, i.bytes)) = some (some (Sk.z.v), 34, 40) := by kernel_rfl
  obtain ⟨i, hi, h1, h2, h3⟩ := info_parts h
  exact ⟨i, _, hi, h1, h2, h3, rfl⟩
def kcs (Ks : List (List UInt8)) : List (List Value) := Ks.map (·.map byt)
def scs (l : List Sk) : List (List Value) := l.map Sk.cs
theorem kcs_len (Ks : List (List UInt8)) : (kcs Ks).length = Ks.length := List.length_map ..
theorem scs_len (l : List Sk) : (scs l).length = l.length := List.length_map ..
theorem kcs_at {Ks : List (List UInt8)} {i : Nat} {K : List UInt8} (h : Ks[i]? = some K) : (kcs Ks)[i]? = some (K.map byt) := by unfold kcs; rw [List.getElem?_map, h]; rfl
theorem scs_at {l : List Sk} {i : Nat} {s : Sk} (h : l[i]? = some s) : (scs l)[i]? = some s.cs := by unfold scs; rw [List.getElem?_map, h]; rfl
theorem kcs_one (Ks : List (List UInt8)) : ∀ x ∈ kcs Ks, ∀ c ∈ x, c.oneCell' = true := fun x hx c hc => by
  obtain ⟨K, _, rfl⟩ := List.mem_map.1 hx
  exact byt_one K c hc
theorem scs_one (l : List Sk) : ∀ x ∈ scs l, ∀ c ∈ x, c.oneCell' = true := fun x hx c hc => by
  obtain ⟨s, _, rfl⟩ := List.mem_map.1 hx
  have := s.one
  rw [List.all_toArray, List.all_eq_true] at this
  exact this c hc
theorem scs_sz {l : List Sk} (h : ∀ s ∈ l, s.ok) : ∀ x ∈ scs l, x.length = 34 := fun x hx => by
  obtain ⟨s, hs, rfl⟩ := List.mem_map.1 hx
  exact Sk.len (h s hs)
theorem kcs_sz {Ks : List (List UInt8)} (h : ∀ K ∈ Ks, K.length = 32) : ∀ x ∈ kcs Ks, x.length = 32 := fun x hx => by
  obtain ⟨s, hs, rfl⟩ := List.mem_map.1 hx
  rw [List.length_map]; exact h s hs
theorem kcs_app (a b : List (List UInt8)) : kcs (a ++ b) = kcs a ++ kcs b := List.map_append ..
theorem scs_app (a b : List Sk) : scs (a ++ b) = scs a ++ scs b := List.map_append ..
/-- Keys in a slice. -/
structure Kl (w : World) (v : Value) (Ks : List (List UInt8)) : Prop where
  li : Li 32 w v (kcs Ks)
/-- Skipped keys in a slice. -/
structure Sl (w : World) (v : Value) (l : List Sk) : Prop where
  li : Li 34 w v (scs l)
  ok : ∀ s ∈ l, s.ok
/-- In a block of one's own. -/
structure Ko (w : World) (v : Value) (Ks : List (List UInt8)) : Prop where
  ow : Ow 29 32 w v (kcs Ks)
structure So (w : World) (v : Value) (l : List Sk) : Prop where
  ow : Ow 39 34 w v (scs l)
  ok : ∀ s ∈ l, s.ok
theorem Ko.kl {w : World} {v : Value} {Ks : List (List UInt8)} (h : Ko w v Ks) : Kl w v Ks := ⟨h.ow.li⟩
theorem So.sl {w : World} {v : Value} {l : List Sk} (h : So w v l) : Sl w v l := ⟨h.ow.li, h.ok⟩
theorem Kl.k32 {w : World} {v : Value} {Ks : List (List UInt8)} (h : Kl w v Ks) : ∀ K ∈ Ks, K.length = 32 := fun K hK => by
  have := h.li.sz (K.map byt) (List.mem_map.2 ⟨K, hK, rfl⟩)
  rwa [List.length_map] at this
theorem Kl.at32 {w : World} {v : Value} {Ks : List (List UInt8)} (h : Kl w v Ks) {i : Nat} {K : List UInt8} (hK : Ks[i]? = some K) : K.length = 32 := h.k32 K (List.mem_of_getElem? hK)
theorem Kl.on {w w' : World} {v : Value} {Ks : List (List UInt8)} (h : Kl w v Ks) (hb : Below w.heap.size w w') : Kl w' v Ks := ⟨h.li.on hb⟩
theorem Sl.on {w w' : World} {v : Value} {l : List Sk} (h : Sl w v l) (hb : Below w.heap.size w w') : Sl w' v l := ⟨h.li.on hb, h.ok⟩
theorem Ko.on {w w' : World} {v : Value} {Ks : List (List UInt8)} (h : Ko w v Ks) (hb : Below w.heap.size w w') : Ko w' v Ks := ⟨h.ow.on hb⟩
theorem So.on {w w' : World} {v : Value} {l : List Sk} (h : So w v l) (hb : Below w.heap.size w w') : So w' v l := ⟨h.ow.on hb, h.ok⟩
theorem Ko.fx {S : Nat → Prop} {w w' : World} {v : Value} {Ks : List (List UInt8)} (h : Ko w v Ks) (hf : Fx S w w') (ho : ∀ b, v.ownBlock = some b → ¬ S b) : Ko w' v Ks := ⟨h.ow.fx hf ho⟩
theorem So.fx {S : Nat → Prop} {w w' : World} {v : Value} {l : List Sk} (h : So w v l) (hf : Fx S w w') (ho : ∀ b, v.ownBlock = some b → ¬ S b) : So w' v l := ⟨h.ow.fx hf ho, h.ok⟩
theorem Kl.fx {S : Nat → Prop} {w w' : World} {v : Value} {Ks : List (List UInt8)} (h : Kl w v Ks) (hf : Fx S w w') (ho : ∀ b, v.ownBlock = some b → ¬ S b ∨ Ks = []) : Kl w' v Ks := ⟨h.li.fx hf (fun b hb => (ho b hb).imp id (fun e => by rw [e]; rfl))⟩
theorem Sl.fx {S : Nat → Prop} {w w' : World} {v : Value} {l : List Sk} (h : Sl w v l) (hf : Fx S w w') (ho : ∀ b, v.ownBlock = some b → ¬ S b ∨ l = []) : Sl w' v l := ⟨h.li.fx hf (fun b hb => (ho b hb).imp id (fun e => by rw [e]; rfl)), h.ok⟩
theorem Kl.lt {w : World} {v : Value} {Ks : List (List UInt8)} (h : Kl w v Ks) {b : Nat} (hb : v.ownBlock = some b) : b < w.heap.size ∨ Ks = [] := (h.li.lt (by decide) hb).elim (fun e => .inr (by unfold kcs at e; simpa using e)) .inl
theorem Sl.lt {w : World} {v : Value} {l : List Sk} (h : Sl w v l) {b : Nat} (hb : v.ownBlock = some b) : b < w.heap.size ∨ l = [] := (h.li.lt (by decide) hb).elim (fun e => .inr (by unfold scs at e; simpa using e)) .inl
theorem Kl.sl {w : World} {v : Value} {Ks : List (List UInt8)} (h : Kl w v Ks) : ∃ ao c, v = .slice ao Ks.length c := by
  rcases h.li.sl with ⟨rfl, e⟩ | ⟨ad, cap, rfl, _⟩
  · have : Ks.length = 0 := by rw [← kcs_len, e]; rfl
    rw [this]; exact ⟨_, _, rfl⟩
  · rw [kcs_len]; exact ⟨_, _, rfl⟩
theorem Sl.sl {w : World} {v : Value} {l : List Sk} (h : Sl w v l) : ∃ ao c, v = .slice ao l.length c := by
  rcases h.li.sl with ⟨rfl, e⟩ | ⟨ad, cap, rfl, _⟩
  · have : l.length = 0 := by rw [← scs_len, e]; rfl
    rw [this]; exact ⟨_, _, rfl⟩
  · rw [scs_len]; exact ⟨_, _, rfl⟩
theorem Kl.len {w : World} {v : Value} {Ks : List (List UInt8)} (h : Kl w v Ks) (W : World) (ty : TypeId) : (Builtin.len_ #[22] ty #[v]).run Try.prog W = .ok (.int .i64 (Ks.length : Int)) W := by
  obtain ⟨ao, c, rfl⟩ := h.sl
  exact len22 _ _ _ W ty
theorem Sl.len {w : World} {v : Value} {l : List Sk} (h : Sl w v l) (W : World) (ty : TypeId) : (Builtin.len_ #[36] ty #[v]).run Try.prog W = .ok (.int .i64 (l.length : Int)) W := by
  obtain ⟨ao, c, rfl⟩ := h.sl
  exact len36 _ _ _ W ty
theorem Kl.get {w : World} {v : Value} {Ks : List (List UInt8)} (h : Kl w v Ks) {i : Nat} {K : List UInt8} (hK : Ks[i]? = some K) : ∃ ad, (∀ W, (Instr.indexAt 22 v (.int .i64 (i : Int))).run Try.prog W = .ok (.pointer (some ad)) W) ∧ ∀ W, Kl W v Ks → (Instr.loadAt 29 (.pointer (some ad))).run Try.prog W = .ok (kv K) W := by
  obtain ⟨ad, cap, e, _⟩ := h.li.at_ i _ (kcs_at hK)
  have hi : i < (kcs Ks).length := (List.getElem?_eq_some_iff.1 (kcs_at hK)).1
  refine ⟨ad.add (i * 32), fun W => by rw [e]; exact idx22 ad _ cap i hi W, fun W hW => ?_⟩
  obtain ⟨ad2, cap2, e2, ha⟩ := hW.li.at_ i _ (kcs_at hK)
  rw [e] at e2
  cases e2
  exact run_loadA ha u29 rfl (i29 (h.at32 hK))
theorem At.sub {w : World} {ad : Addr} {cs a m b : List Value} {o : Nat} (h : At w ad cs) (hc : cs = a ++ (m ++ b)) (ho : a.length = o) : At w (ad.add o) m := fun j v hj => by
  have hl := (List.getElem?_eq_some_iff.1 hj).1
  rw [Addr.add_add]
  refine h _ _ ?_
  rw [hc, List.getElem?_append_right (by omega), ho, Nat.add_sub_cancel_left, List.getElem?_append_left hl]
  exact hj
theorem ldUat {w : World} {ad : Addr} {n : Nat} (h : At w ad [u32v n]) : (Instr.loadAt 31 (.pointer (some ad))).run Try.prog w = .ok (u32v n) w := by
  have h0 := h 0 _ rfl
  rw [Addr.add_zero'] at h0
  unfold u32v at *
  go_simp
theorem Sl.get {w : World} {v : Value} {l : List Sk} (h : Sl w v l) {i : Nat} {s : Sk} (hs : l[i]? = some s) : ∃ ad, (∀ W, (Instr.indexAt 36 v (.int .i64 (i : Int))).run Try.prog W = .ok (.pointer (some ad)) W) ∧ ∀ W, Sl W v l → (Instr.loadAt 39 (.pointer (some ad))).run Try.prog W = .ok s.v W ∧ (Instr.loadAt 31 (.pointer (some (ad.add 0)))).run Try.prog W = .ok (u32v s.t) W ∧ (Instr.loadAt 31 (.pointer (some (ad.add 1)))).run Try.prog W = .ok (u32v s.n) W ∧ (Instr.loadAt 29 (.pointer (some (ad.add 2)))).run Try.prog W = .ok (kv s.k) W := by
  obtain ⟨ad, cap, e, _⟩ := h.li.at_ i _ (scs_at hs)
  have hi : i < (scs l).length := (List.getElem?_eq_some_iff.1 (scs_at hs)).1
  have hok := h.ok s (List.mem_of_getElem? hs)
  refine ⟨ad.add (i * 34), fun W => by rw [e]; exact idx36 ad _ cap i hi W, fun W hW => ?_⟩
  obtain ⟨ad2, cap2, e2, ha⟩ := hW.li.at_ i _ (scs_at hs)
  rw [e] at e2
  cases e2
  exact ⟨run_loadA ha Try.underlying39 rfl (i39 hok), ldUat (ha.sub (a := []) (m := [u32v s.t]) rfl rfl), ldUat (ha.sub (a := [u32v s.t]) (m := [u32v s.n]) rfl rfl), run_loadA (ha.sub (a := [u32v s.t] ++ [u32v s.n]) (m := s.k.map byt) (b := []) (by simp [Sk.cs]) rfl) u29 rfl (i29 hok.k)⟩
theorem Ko.app {w : World} {v u : Value} {A B : List (List UInt8)} (h : Ko w v A) (hu : Kl w u B) (hb : (A.length + B.length) * 32 ≤ 140737488355328) (ty : TypeId) : ∃ v' w', (Builtin.append_ #[22, 22] ty #[v, u]).run Try.prog w = .ok v' w' ∧ Ko w' v' (A ++ B) ∧ Fx (fun b => v.ownBlock = some b) w w' ∧ Nw w v v' := by
  obtain ⟨v', w', r1, r2, r3⟩ := h.ow.app elK hu.li (kcs_one B) (by rw [kcs_len, kcs_len]; exact hb) ty
  exact ⟨v', w', r1, ⟨by rw [kcs_app]; exact r2⟩, r3⟩
theorem So.app {w : World} {v u : Value} {A B : List Sk} (h : So w v A) (hu : Sl w u B) (hb : (A.length + B.length) * 40 ≤ 140737488355328) (ty : TypeId) : ∃ v' w', (Builtin.append_ #[36, 36] ty #[v, u]).run Try.prog w = .ok v' w' ∧ So w' v' (A ++ B) ∧ Fx (fun b => v.ownBlock = some b) w w' ∧ Nw w v v' := by
  obtain ⟨v', w', r1, r2, r3⟩ := h.ow.app elS hu.li (scs_one B) (by rw [scs_len, scs_len]; exact hb) ty
  exact ⟨v', w', r1, ⟨by rw [scs_app]; exact r2, fun s hs => (List.mem_append.1 hs).elim (h.ok s) (hu.ok s)⟩, r3⟩
theorem Ko.nil (w : World) : Ko w (.slice none 0 0) [] := ⟨Ow.nil _ _ _⟩
theorem So.nil (w : World) : So w (.slice none 0 0) [] := ⟨Ow.nil _ _ _, fun s hs => by cases hs⟩
theorem maxL {n : Nat} (h : n ≤ 1000) : n ≤ maxLen := by unfold maxLen; omega
theorem bslK {w : World} (Ks : List (List UInt8)) (hk : ∀ K ∈ Ks, K.length = 32) (h0 : 0 < Ks.length) (h1 : Ks.length ≤ 1000) : ∃ v w', (Instr.buildSlice 22 Ks.length ((Ks.map kv).zipIdx 0 |>.map fun x => (x.2, x.1)).toArray).run Try.prog w = .ok v w' ∧ Ko w' v Ks ∧ Below w.heap.size w w' ∧ (∃ c, v = .slice (some ⟨w.heap.size, 0, none⟩) Ks.length c) := by
  have h := run_bsN elK w (kcs Ks) (kcs_sz hk) (by rw [kcs_len]; exact h0) (by rw [kcs_len]; omega)
  rw [kcs_len] at h
  have e : (kcs Ks).map (fun x => Value.agg x.toArray) = Ks.map kv := by unfold kcs kv; rw [List.map_map]; rfl
  rw [e] at h
  have ho := Ow.new (e := 29) w (kcs Ks) (kcs_sz hk) (by rw [kcs_len]; exact maxL h1)
  rw [kcs_len] at ho
  exact ⟨_, _, h, ⟨ho⟩, below_new _ _, _, rfl⟩
theorem bslS {w : World} (l : List Sk) (hk : ∀ s ∈ l, s.ok) (h0 : 0 < l.length) (h1 : l.length ≤ 1000) : ∃ v w', (Instr.buildSlice 36 l.length ((l.map Sk.v).zipIdx 0 |>.map fun x => (x.2, x.1)).toArray).run Try.prog w = .ok v w' ∧ So w' v l ∧ Below w.heap.size w w' ∧ (∃ c, v = .slice (some ⟨w.heap.size, 0, none⟩) l.length c) := by
  have h := run_bsN elS w (scs l) (scs_sz hk) (by rw [scs_len]; exact h0) (by rw [scs_len]; omega)
  rw [scs_len] at h
  have e : (scs l).map (fun x => Value.agg x.toArray) = l.map Sk.v := by unfold scs Sk.v; rw [List.map_map]; rfl
  rw [e] at h
  have ho := Ow.new (e := 39) w (scs l) (scs_sz hk) (by rw [scs_len]; exact maxL h1)
  rw [scs_len] at ho
  exact ⟨_, _, h, ⟨ho, hk⟩, below_new _ _, _, rfl⟩
theorem bslK1 (K : List UInt8) (hK : K.length = 32) (w : World) : ∃ v w', (Instr.buildSlice 22 1 [(0, kv K)].toArray).run Try.prog w = .ok v w' ∧ Ko w' v [K] ∧ Below w.heap.size w w' ∧ (∃ c, v = .slice (some ⟨w.heap.size, 0, none⟩) 1 c) := bslK [K] (by simpa using hK) (Nat.le_refl _) (by simp)
theorem bslK2 (K L : List UInt8) (hK : K.length = 32) (hL : L.length = 32) (w : World) : ∃ v w', (Instr.buildSlice 22 2 [(0, kv K), (1, kv L)].toArray).run Try.prog w = .ok v w' ∧ Ko w' v [K, L] ∧ Below w.heap.size w w' ∧ (∃ c, v = .slice (some ⟨w.heap.size, 0, none⟩) 2 c) := bslK [K, L] (by simp [hK, hL]) (by simp) (by simp)
theorem bslS1 (s : Sk) (hs : s.ok) (w : World) : ∃ v w', (Instr.buildSlice 36 1 [(0, s.v)].toArray).run Try.prog w = .ok v w' ∧ So w' v [s] ∧ Below w.heap.size w w' ∧ (∃ c, v = .slice (some ⟨w.heap.size, 0, none⟩) 1 c) := bslS [s] (by simpa using hs) (Nat.le_refl _) (by simp)
theorem bslS2 (s r : Sk) (hs : s.ok) (hr : r.ok) (w : World) : ∃ v w', (Instr.buildSlice 36 2 [(0, s.v), (1, r.v)].toArray).run Try.prog w = .ok v w' ∧ So w' v [s, r] ∧ Below w.heap.size w w' ∧ (∃ c, v = .slice (some ⟨w.heap.size, 0, none⟩) 2 c) := bslS [s, r] (by simp [hs, hr]) (by simp) (by simp)
theorem bslK0 (w : World) : ∃ v w', (Instr.buildSlice 22 0 ([] : List (Nat × Value)).toArray).run Try.prog w = .ok v w' ∧ Ko w' v [] ∧ Below w.heap.size w w' ∧ (∃ c, v = .slice (some ⟨w.heap.size, 0, none⟩) 0 c) := by
  have h : (Instr.buildSlice 22 0 ([] : List (Nat × Value)).toArray).run Try.prog w = .ok (.slice (some ⟨w.heap.size, 0, none⟩) 0 0) (w.alloc (.cells #[] 29)) := by
    go_simp
  exact ⟨_, _, h, ⟨Ow.new (e := 29) (k := 32) w [] (fun x hx => by cases hx) (maxL (by decide))⟩, below_new _ _, _, rfl⟩
theorem bslS0 (w : World) : ∃ v w', (Instr.buildSlice 36 0 ([] : List (Nat × Value)).toArray).run Try.prog w = .ok v w' ∧ So w' v [] ∧ Below w.heap.size w w' ∧ (∃ c, v = .slice (some ⟨w.heap.size, 0, none⟩) 0 c) := by
  have h : (Instr.buildSlice 36 0 ([] : List (Nat × Value)).toArray).run Try.prog w = .ok (.slice (some ⟨w.heap.size, 0, none⟩) 0 0) (w.alloc (.cells #[] 39)) := by
    go_simp
  exact ⟨_, _, h, ⟨Ow.new (e := 39) (k := 34) w [] (fun x hx => by cases hx) (maxL (by decide)), fun s hs => by cases hs⟩, below_new _ _, _, rfl⟩
theorem mkS (w : World) (c : Nat) (hc : c ≤ 1000) : ∃ v w', (Instr.makeSlice 36 (.int .i64 0) (.int .i64 (c : Int))).run Try.prog w = .ok v w' ∧ So w' v [] ∧ Below w.heap.size w w' ∧ (∃ c', v = .slice (some ⟨w.heap.size, 0, none⟩) 0 c') := by
  obtain ⟨i, z, hi, hz, hs, hby, hzs⟩ := elS.inf
  obtain ⟨w', r1, r2, r3⟩ := run_make_own (P := Try.prog) w 0 36 39 i z 34 elS.ul hi hz hs .i64 .i64 c (by rw [hby]; omega) (maxL hc) (Nat.zero_le _)
  exact ⟨_, w', r1, ⟨⟨r2, fun x hx => by cases hx⟩, fun s hs => by cases hs⟩, (grown_fx (v := .slice none 0 0) r3).below (fun k hk h => by cases h) (Nat.le_refl _), _, rfl⟩
theorem box39 (s : Sk) (w : World) : ∃ w1 q, (Instr.box 39 s.v).run Try.prog w = .ok (.pointer (some ⟨q, 0, none⟩)) w1 ∧ Blk w1 q s.cs 39 ∧ Below w.heap.size w w1 ∧ q = w.heap.size := ⟨_, _, run_boxR 39 _ w _ rfl, Blk.new _ _ _, below_new _ _, rfl⟩
theorem new29 (w : World) : ∃ w1 q, (Instr.alloc 29 true (.tuple #[])).run Try.prog w = .ok (.pointer (some ⟨q, 0, none⟩)) w1 ∧ Blk w1 q (z32.map byt) 29 ∧ Below w.heap.size w w1 ∧ q = w.heap.size :=
  ⟨_, _, run_newR 29 _ (fun w => (zero_of_info (show (Try.prog.info? 29).map (fun i => (i.zero, i.size)) = some (some (kv z32), 32) by kernel_rfl)).1 w) w _ rfl, Blk.new _ _ _, below_new _ _, rfl⟩
theorem st29 {w : World} {q : Nat} {old K : List UInt8} {t : TypeId} (hb : Blk w q (old.map byt) t) (ho : old.length = 32) (hK : K.length = 32) : ∃ w', (Instr.storeAt 29 (.pointer (some ⟨q, 0, none⟩)) (kv K)).run Try.prog w = .ok () w' ∧ Blk w' q (K.map byt) t ∧ Fx (fun k => k = q) w w' := by
  obtain ⟨w', r1, r2, r3⟩ := hb.stA (ty := 29) (vs := K.map byt) (o := 0) (a := []) (m := old.map byt) (b := []) (i29 hK) (byts_one K) (by simp) rfl (by simp [ho, hK])
  exact ⟨w', r1, by simpa using r2, r3⟩
theorem ld29 {w : World} {q : Nat} {K : List UInt8} {t : TypeId} (hb : Blk w q (K.map byt) t) (hK : K.length = 32) : (Instr.loadAt 29 (.pointer (some ⟨q, 0, none⟩))).run Try.prog w = .ok (kv K) w :=
  hb.ldA (a := []) (m := K.map byt) (b := []) u29 rfl (i29 hK) (by simp) rfl
theorem ld39 {w : World} {q : Nat} {s : Sk} {t : TypeId} (hb : Blk w q s.cs t) (hs : s.ok) : (Instr.loadAt 39 (.pointer (some ⟨q, 0, none⟩))).run Try.prog w = .ok s.v w :=
  hb.ldA (a := []) (m := s.cs) (b := []) Try.underlying39 rfl (i39 hs) (by simp) rfl
theorem newK (w : World) (K : List UInt8) (hK : K.length = 32) : ∃ q w1 w2, (Instr.alloc 29 true (.tuple #[])).run Try.prog w = .ok (.pointer (some ⟨q, 0, none⟩)) w1 ∧ (Instr.storeAt 29 (.pointer (some ⟨q, 0, none⟩)) (kv K)).run Try.prog w1 = .ok () w2 ∧ Blk w2 q (K.map byt) 29 ∧ Below w.heap.size w w2 ∧ q = w.heap.size := by
  obtain ⟨w1, q, r1, b1, l1, hq⟩ := new29 w
  obtain ⟨w2, r2, b2, f2⟩ := st29 b1 z32l hK
  exact ⟨q, w1, w2, r1, r2, b2, l1.trans (f2.below (fun k hk h => by omega) l1.size), hq⟩
theorem b29 (w : World) : (Instr.build 29 ([] : List (Nat × Value)).toArray).run Try.prog w = .ok (kv z32) w := by
  unfold kv z32
  go_simp
  rfl
theorem fold_set : ∀ (vs : List Value) (off k : Nat) (cs : List Value), off + k + vs.length ≤ cs.length → (vs.zipIdx k).foldl (fun (cs : Array Value) (x : Value × Nat) => cs.setIfInBounds (off + x.2) x.1) cs.toArray = (cs.take (off + k) ++ vs ++ cs.drop (off + k + vs.length)).toArray
  | [], off, k, cs, _ => by simp
  | v :: r, off, k, cs, h => by
    rw [List.zipIdx_cons, List.foldl_cons]
    simp only [List.length_cons] at h
    have e : (cs.toArray.setIfInBounds (off + k) v) = (cs.set (off + k) v).toArray := by simp
    show (r.zipIdx (k + 1)).foldl _ (cs.toArray.setIfInBounds (off + k) v) = _
    rw [e, fold_set r off (k + 1) (cs.set (off + k) v) (by rw [List.length_set]; omega), ← Nat.add_assoc, splice_one cs (off + k) v r (by simp only [List.length_cons]; omega)]
theorem fill_one {place : Nat → Option (Nat × Nat)} {a m b vs : List Value} {i off n : Nat} {v : Value} {rest : List (Nat × Value)} (hp : place i = some (off, n)) (hv : v.cells = vs.toArray) (hn : vs.length = n) (hm : m.length = n) (ho : a.length = off) : Instr.fill place (a ++ (m ++ b)).toArray ((i, v) :: rest) = Instr.fill place (a ++ (vs ++ b)).toArray rest := by
  have h1 : ¬ (off + n > (a ++ (m ++ b)).length) := by simp; omega
  have hf := fold_set vs off 0 (a ++ (m ++ b)) (by simp; omega)
  have e : (a ++ (m ++ b)).take (off + 0) ++ vs ++ (a ++ (m ++ b)).drop (off + 0 + vs.length) = a ++ (vs ++ b) := by
    rw [Nat.add_zero, ← ho, List.take_left, hn, ← hm, ← List.drop_drop, List.drop_left, List.drop_left, List.append_assoc]
  rw [e] at hf
  have hz : v.cells.zipIdx.foldl (fun (cs : Array Value) (x : Value × Nat) => cs.setIfInBounds (off + x.2) x.1) (a ++ (m ++ b)).toArray = (a ++ (vs ++ b)).toArray := by
    rw [hv, ← hf, ← Array.foldl_toList]
    simp
  rw [Instr.fill, hp]
  simp only [hv, List.size_toArray, hn, h1, decide_false, ne_eq, not_true_eq_false, Bool.or_self, Bool.false_eq_true, if_false]
  rw [← hv]
  exact congrArg (fun x => Instr.fill place x rest) hz
theorem fill_nil (place : Nat → Option (Nat × Nat)) (cs : Array Value) : Instr.fill place cs [] = some cs := rfl
theorem built_of {t : TypeId} {fields : Array Field} {zs : List Value} {places : List (Nat × Nat)} (hz : (Try.prog.info? t).map (·.zero) = some (some (.agg zs.toArray))) (hu : Try.prog.underlying t = some (.struct fields)) (hp : fields.toList.mapM (fun f => (Try.prog.info? f.type).map fun i => (f.offset, i.size)) = some places) (parts : List (Nat × Value)) : Try.prog.built t parts = Instr.fill (places.toArray[·]?) zs.toArray parts := by
  cases hit : Try.prog.info? t with
  | none => simp [hit] at hz
  | some it =>
    simp [hit] at hz
    simp only [Program.built, hit, hu, hz, hp]
    rfl
theorem kv_cells (K : List UInt8) : (kv K).cells = (K.map byt).toArray := rfl
def P39 : List (Nat × Nat) := [(0, 1), (1, 1), (2, 32)]
theorem b39 (t n : Nat) (K : List UInt8) (hK : K.length = 32) (w : World) : (Instr.build 39 [(0, u32v t), (1, u32v n), (2, kv K)].toArray).run Try.prog w = .ok (Sk.v ⟨t, n, K⟩) w := by
  refine run_build w 39 _ _ ?_
  rw [built_of (zs := Sk.z.cs) (by kernel_rfl) Try.underlying39 (show _ = some P39 by kernel_rfl)]
  show Instr.fill _ (Sk.cs Sk.z).toArray [(0, u32v t), (1, u32v n), (2, kv K)] = some (Sk.cs ⟨t, n, K⟩).toArray
  rw [show Sk.cs Sk.z = [] ++ ([u32v 0] ++ ([u32v 0] ++ z32.map byt)) from rfl, fill_one (vs := [u32v t]) (off := 0) (n := 1) rfl rfl rfl rfl rfl]
  rw [show ([] : List Value) ++ ([u32v t] ++ ([u32v 0] ++ z32.map byt)) = [u32v t] ++ ([u32v 0] ++ z32.map byt) from rfl, fill_one (vs := [u32v n]) (off := 1) (n := 1) rfl rfl rfl rfl rfl]
  rw [show [u32v t] ++ ([u32v n] ++ z32.map byt) = ([u32v t] ++ [u32v n]) ++ (z32.map byt ++ []) from by simp, fill_one (off := 2) (n := 32) rfl (kv_cells K) (by simp [hK]) rfl rfl, fill_nil]
  simp [Sk.cs]
theorem b39_2 (t n : Nat) (w : World) : (Instr.build 39 [(0, u32v t), (1, u32v n)].toArray).run Try.prog w = .ok (Sk.v ⟨t, n, z32⟩) w := by
  refine run_build w 39 _ _ ?_
  rw [built_of (zs := Sk.z.cs) (by kernel_rfl) Try.underlying39 (show _ = some P39 by kernel_rfl)]
  show Instr.fill _ (Sk.cs Sk.z).toArray [(0, u32v t), (1, u32v n)] = some (Sk.cs ⟨t, n, z32⟩).toArray
  rw [show Sk.cs Sk.z = [] ++ ([u32v 0] ++ ([u32v 0] ++ z32.map byt)) from rfl, fill_one (vs := [u32v t]) (off := 0) (n := 1) rfl rfl rfl rfl rfl]
  rw [show ([] : List Value) ++ ([u32v t] ++ ([u32v 0] ++ z32.map byt)) = [u32v t] ++ ([u32v 0] ++ z32.map byt) from rfl, fill_one (vs := [u32v n]) (off := 1) (n := 1) rfl rfl rfl rfl rfl, fill_nil]
  rfl
theorem b39_1 (t : Nat) (w : World) : (Instr.build 39 [(0, u32v t)].toArray).run Try.prog w = .ok (Sk.v ⟨t, 0, z32⟩) w := by
  refine run_build w 39 _ _ ?_
  rw [built_of (zs := Sk.z.cs) (by kernel_rfl) Try.underlying39 (show _ = some P39 by kernel_rfl)]
  show Instr.fill _ (Sk.cs Sk.z).toArray [(0, u32v t)] = some (Sk.cs ⟨t, 0, z32⟩).toArray
  rw [show Sk.cs Sk.z = [] ++ ([u32v 0] ++ ([u32v 0] ++ z32.map byt)) from rfl, fill_one (vs := [u32v t]) (off := 0) (n := 1) rfl rfl rfl rfl rfl, fill_nil]
  rfl
theorem b63 (t n : Nat) (w : World) : (Instr.build 63 [(0, u32v t), (1, u32v n)].toArray).run Try.prog w = .ok (plV t n) w := by
  show _ = Result.ok (Value.agg #[.int .u32 (t : Int), .int .u32 (n : Int)]) w
  unfold u32v
  go_simp
theorem b29_7 (w : World) : (Instr.build 29 [(0, .int .u8 7)].toArray).run Try.prog w = .ok (kv (7 :: List.replicate 31 0)) w := by
  unfold kv
  go_simp
  exact ⟨rfl, rfl⟩
theorem b29_8 (w : World) : (Instr.build 29 [(0, .int .u8 8)].toArray).run Try.prog w = .ok (kv (8 :: List.replicate 31 0)) w := by
  unfold kv
  go_simp
  exact ⟨rfl, rfl⟩
theorem b29_1 (w : World) : (Instr.build 29 [(0, .int .u8 1)].toArray).run Try.prog w = .ok (kv (1 :: List.replicate 31 0)) w := by
  unfold kv
  go_simp
  exact ⟨rfl, rfl⟩
theorem b29_2 (w : World) : (Instr.build 29 [(0, .int .u8 2)].toArray).run Try.prog w = .ok (kv (2 :: List.replicate 31 0)) w := by
  unfold kv
  go_simp
  exact ⟨rfl, rfl⟩
theorem b29_9 (w : World) : (Instr.build 29 [(0, .int .u8 9)].toArray).run Try.prog w = .ok (kv (9 :: List.replicate 31 0)) w := by
  unfold kv
  go_simp
  exact ⟨rfl, rfl⟩
theorem b29_238 (w : World) : (Instr.build 29 [(0, .int .u8 238)].toArray).run Try.prog w = .ok (kv (238 :: List.replicate 31 0)) w := by
  unfold kv
  go_simp
  exact ⟨rfl, rfl⟩
end Go.Proofs.Ytggehhlobjjmpaa
