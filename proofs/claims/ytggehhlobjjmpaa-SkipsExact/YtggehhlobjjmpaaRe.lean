import Derived.Test.YtggehhlobjjmpaaRd1
set_option linter.unusedVariables false
set_option linter.unusedSimpArgs false
namespace Go.Proofs.Ytggehhlobjjmpaa
open Go.RowKit

theorem adj_pair : ∀ {l : List Sk}, (∀ i a b, i + 1 < l.length → l[i]? = some a → l[i + 1]? = some b → Lt a b) → l.Pairwise Lt
  | [], _ => List.Pairwise.nil
  | a :: r, h => by
    have ih := adj_pair (l := r) (fun i x y hi hx hy => h (i + 1) x y (by simp; omega) (by simpa using hx) (by simpa using hy))
    refine List.pairwise_cons.2 ⟨fun x hx => ?_, ih⟩
    cases r with
    | nil => cases hx
    | cons b r' =>
      have hab := h 0 a b (by simp) rfl rfl
      rcases List.mem_cons.1 hx with e | e
      · rw [e]; exact hab
      · exact hab.trans ((List.pairwise_cons.1 ih).1 x e)
theorem pair_adj {l : List Sk} (h : l.Pairwise Lt) {i : Nat} {a b : Sk} (ha : l[i]? = some a) (hb : l[i + 1]? = some b) : Lt a b := by
  have h1 := (List.getElem?_eq_some_iff.1 ha)
  have h2 := (List.getElem?_eq_some_iff.1 hb)
  obtain ⟨i1, rfl⟩ := h1
  obtain ⟨i2, rfl⟩ := h2
  exact (List.pairwise_iff_getElem.1 h) i (i + 1) i1 i2 (by omega)
instance (l : List Sk) : Decidable (l.Pairwise Lt) := inferInstance
def riE (v : Value) (x : Nat) : List (Nat × Value) := [(0, v), (3, .int .i64 ((x + 1 : Nat) : Int))]
def RiR (w : World) (l : List Sk) (x : Nat) (W : World) : Prop := (x = 0 ∨ x + 1 ≤ l.length) ∧ (∀ i a b, i < x → l[i]? = some a → l[i + 1]? = some b → Lt a b) ∧ Below w.heap.size w W
set_option maxRecDepth 100000 in
set_option maxHeartbeats 1000000 in
theorem rises_any {v : Value} {l : List Sk} {w : World} (hl : Sl w v l) (hll : l.length < 4611686018427387904) : Calls Try.prog 22 #[v] w fun e w' => e = .returned (.bool (decide (l.Pairwise Lt))) ∧ Below w.heap.size w w' := by
  refine calls_of_args [v] Try.func22 rfl 21 Try.ntmps22 (by show 1 ≤ 21; decide) ?_
  refine EW.seq ?_
  refine EW.region ?_
  first | refine WL.assign rfl rfl rfl ?_
  refine WL.done ?_
  refine EW.on ?_
  refine EW.seq ?_
  refine EW.seq ?_
  refine EW.region ?_
  first | refine WL.assign rfl rfl rfl ?_
  refine WL.done ?_
  refine EW.on ?_
  refine EW.block ?_
  refine EW.loop (riE v) (RiR w l) (fun x => l.length - x) 0 [0, 3] rfl ⟨.inl rfl, fun i a b hi => absurd hi (Nat.not_lt_zero _), Below.refl _ _⟩ ?_
  rintro x wi ⟨hxl, hno, be⟩
  show EW _ _ _ _ [(0, v), (3, .int .i64 ((x + 1 : Nat) : Int))] _
  refine EW.seq ?_
  refine EW.seq ?_
  refine EW.region ?_
  first | refine WL.move rfl rfl rfl ?_
  first | refine WL.move rfl rfl rfl ?_
  refine WL.len rfl rfl rfl (hl.len _ _) ?_
  refine WL.bin rfl rfl rfl rfl (int_lt_d _ _ _ _ _) ?_
  refine WL.done ?_
  refine EW.on ?_
  refine EW.cond_d rfl (fun h7 => ?_) (fun h7 => ?_)
  · refine EW.skip ?_
    refine EW.on ?_
    refine EW.seq ?_
    refine EW.block ?_
    refine EW.seq ?_
    have hlt : x + 1 < l.length := by omega
    obtain ⟨a, ha⟩ : ∃ a, l[x]? = some a := ⟨_, List.getElem?_eq_getElem (by omega)⟩
    obtain ⟨b, hb⟩ : ∃ b, l[x + 1]? = some b := ⟨_, List.getElem?_eq_getElem hlt⟩
    obtain ⟨ada, ixa, lda⟩ := hl.get ha
    obtain ⟨adb, ixb, ldb⟩ := hl.get hb
    by_cases hab : Lt a b
    · refine EW.ordB [(0, 0, 0), (1, 0, 0), (2, 0, 0), (3, 0, 0), (4, 0, 1), (5, 0, 0), (6, 0, 0), (7, 0, 0), (8, 0, 1), (9, 1, 1), (10, 0, 0)] (by kernel_rfl) rfl (by kernel_rfl) ?_
      simp only [opsZ, List.getD_cons_zero, List.getD_cons_succ]
      first | refine ZE.move rfl rfl rfl rfl sz0 ?_
      first | refine ZE.move rfl rfl rfl rfl sz0 ?_
      refine ZE.bin rfl rfl rfl rfl rfl sz0 (fun W => int_sub (c := ((x : Nat) : Int)) (by rw [IntKind.wrap_i64]; omega) W _ _) ?_
      refine ZE.index rfl rfl rfl rfl rfl sz0 (fun W => ixa W) ?_
      refine ZE.load rfl rfl rfl rfl sz1 (fun W hW => (lda W (hl.on (bt be (sb_of hW)))).1) ?_
      first | refine ZE.move rfl rfl rfl rfl sz0 ?_
      first | refine ZE.move rfl rfl rfl rfl sz0 ?_
      refine ZE.index rfl rfl rfl rfl rfl sz0 (fun W => ixb W) ?_
      refine ZE.load rfl rfl rfl rfl sz1 (fun W hW => (ldb W (hl.on (bt be (sb_of hW)))).1) ?_
      refine ZE.callB [a.v, b.v] enter20 rfl rfl rfl (fun _ h => .inr h) (fun W hW => (compare_any a b W).mono fun e w' ⟨h1, h2⟩ => ⟨h1, h2.below⟩) ?_
      refine ZE.bin rfl rfl rfl rfl rfl sz0 (fun W => int_ge_f (by have := (cmpS_neg a b).2 hab; omega) W _ _) ?_
      rintro W hW
      refine EW.on ?_
      refine EW.cond_f rfl ?_
      refine EW.skip ?_
      refine pn_block ?_
      refine EW.on ?_
      refine EW.region ?_
      first | refine WL.move rfl rfl rfl ?_
      refine WL.bin rfl rfl rfl rfl (int_add (c := ((x + 1 + 1 : Nat) : Int)) (by rw [IntKind.wrap_i64]; omega) _ _ _) ?_
      first | refine WL.assign rfl rfl rfl ?_
      refine WL.done ?_
      exact EW.again (E := riE v) (R := RiR w l) (m := fun x => l.length - x) (x := x) (x + 1) [0, 3] rfl ⟨.inr (by omega), fun i a' b' hi ha' hb' => (by rcases Nat.lt_or_ge i x with e | e; exact hno i a' b' e ha' hb'; rw [show i = x by omega] at ha' hb'; rw [ha] at ha'; rw [hb] at hb'; cases ha'; cases hb'; exact hab), bt be hW⟩ (by show l.length - (x + 1) < l.length - x; omega)
    · refine EW.ordB [(0, 0, 0), (1, 0, 0), (2, 0, 0), (3, 0, 0), (4, 0, 1), (5, 0, 0), (6, 0, 0), (7, 0, 0), (8, 0, 1), (9, 1, 1), (10, 0, 0)] (by kernel_rfl) rfl (by kernel_rfl) ?_
      simp only [opsZ, List.getD_cons_zero, List.getD_cons_succ]
      first | refine ZE.move rfl rfl rfl rfl sz0 ?_
      first | refine ZE.move rfl rfl rfl rfl sz0 ?_
      refine ZE.bin rfl rfl rfl rfl rfl sz0 (fun W => int_sub (c := ((x : Nat) : Int)) (by rw [IntKind.wrap_i64]; omega) W _ _) ?_
      refine ZE.index rfl rfl rfl rfl rfl sz0 (fun W => ixa W) ?_
      refine ZE.load rfl rfl rfl rfl sz1 (fun W hW => (lda W (hl.on (bt be (sb_of hW)))).1) ?_
      first | refine ZE.move rfl rfl rfl rfl sz0 ?_
      first | refine ZE.move rfl rfl rfl rfl sz0 ?_
      refine ZE.index rfl rfl rfl rfl rfl sz0 (fun W => ixb W) ?_
      refine ZE.load rfl rfl rfl rfl sz1 (fun W hW => (ldb W (hl.on (bt be (sb_of hW)))).1) ?_
      refine ZE.callB [a.v, b.v] enter20 rfl rfl rfl (fun _ h => .inr h) (fun W hW => (compare_any a b W).mono fun e w' ⟨h1, h2⟩ => ⟨h1, h2.below⟩) ?_
      refine ZE.bin rfl rfl rfl rfl rfl sz0 (fun W => int_ge_t (by have h9 : ¬ cmpS a b < 0 := fun e => hab ((cmpS_neg a b).1 e); omega) W _ _) ?_
      rintro W hW
      refine EW.on ?_
      refine EW.cond_t rfl ?_
      refine EW.seq ?_
      refine EW.region ?_
      first | refine WL.assign rfl rfl rfl ?_
      refine WL.done ?_
      refine EW.on ?_
      refine EW.ret ?_
      refine pr_block ?_
      refine pr_then ?_
      refine pr_then ?_
      refine pr_block ?_
      refine pr_then ?_
      exact EW.returns Try.results22 rfl ⟨by rw [decide_eq_false (fun h => hab (pair_adj h ha hb))], bt be hW⟩
  · refine EW.exit ?_
    refine px_then ?_
    refine px_then ?_
    refine px_block ?_
    refine EW.on ?_
    refine EW.seq ?_
    refine EW.region ?_
    first | refine WL.assign rfl rfl rfl ?_
    refine WL.done ?_
    refine EW.on ?_
    refine EW.ret ?_
    exact EW.returns Try.results22 rfl ⟨by rw [decide_eq_true (adj_pair (fun i a b hi ha hb => hno i a b (by omega) ha hb))], be⟩
def ldN (m : Int) (l : List Sk) : Int := if m < 0 ∨ 256 < m then 2 else if m < (l.length : Int) then 150 else if l.Pairwise Lt then 0 else 111
def lodE (l : List Sk) : List Me := (l.zipIdx 0).map fun x => ⟨x.1.t, x.1.n, x.1.k, x.2⟩
theorem lodE_sk (l : List Sk) : (lodE l).map Me.sk = l := by
  unfold lodE
  rw [List.map_map]
  show (l.zipIdx 0).map (fun x => x.1) = l
  exact List.zipIdx_map_fst 0 l
theorem lodE_len (l : List Sk) : (lodE l).length = l.length := by simp [lodE]
theorem lodE_snoc (l : List Sk) (i : Nat) (s : Sk) (h : l[i]? = some s) : lodE (l.take (i + 1)) = lodE (l.take i) ++ [⟨s.t, s.n, s.k, i⟩] := by
  have hi : i < l.length := (List.getElem?_eq_some_iff.1 h).1
  unfold lodE
  rw [List.take_add_one, h, List.zipIdx_append, List.map_append]
  congr 1
  simp [Nat.min_eq_left (Nat.le_of_lt hi)]
theorem lodE_no {l : List Sk} (hP : l.Pairwise Lt) {i : Nat} {s : Sk} (h : l[i]? = some s) : lkE (lodE (l.take i)) s.t s.n = none := by
  refine lk_of_none fun m hm hh => ?_
  have hm2 : m.sk ∈ l.take i := by
    have : m.sk ∈ (lodE (l.take i)).map Me.sk := List.mem_map.2 ⟨m, hm, rfl⟩
    rw [lodE_sk] at this
    exact this
  obtain ⟨j, hj, he⟩ := List.mem_iff_getElem.1 hm2
  obtain ⟨hi, rfl⟩ := List.getElem?_eq_some_iff.1 h
  rw [List.length_take] at hj
  rw [List.getElem_take] at he
  have := (List.pairwise_iff_getElem.1 hP) j i (by omega) hi (by omega)
  rw [he] at this
  unfold Lt at this
  have h1 : m.sk.t = m.t := rfl
  have h2 : m.sk.n = m.n := rfl
  omega
theorem new39 (w : World) : ∃ w1 q, (Instr.alloc 39 true (.tuple #[])).run Try.prog w = .ok (.pointer (some ⟨q, 0, none⟩)) w1 ∧ Blk w1 q Sk.z.cs 39 ∧ Below w.heap.size w w1 ∧ q = w.heap.size :=
  ⟨_, _, run_newR 39 _ (fun w => (zero_of_info (show (Try.prog.info? 39).map (fun i => (i.zero, i.size)) = some (some Sk.z.v, 34) by kernel_rfl)).1 w) w _ rfl, Blk.new _ _ _, below_new _ _, rfl⟩
theorem newS (w : World) (s : Sk) (hs : s.ok) : ∃ q w1 w2, (Instr.alloc 39 true (.tuple #[])).run Try.prog w = .ok (.pointer (some ⟨q, 0, none⟩)) w1 ∧ (Instr.storeAt 39 (.pointer (some ⟨q, 0, none⟩)) s.v).run Try.prog w1 = .ok () w2 ∧ Blk w2 q s.cs 39 ∧ Below w.heap.size w w2 ∧ q = w.heap.size := by
  obtain ⟨w1, q, r1, b1, l1, hq⟩ := new39 w
  obtain ⟨w2, r2, b2, f2⟩ := b1.stA (ty := 39) (vs := s.cs) (o := 0) (a := []) (m := Sk.z.cs) (b := []) (i39 hs) s.one (by simp) rfl (by rw [Sk.len hs, Sk.len Sk.z_ok])
  exact ⟨q, w1, w2, r1, r2, by simpa using b2, l1.trans (f2.below (fun k hk h => by omega) l1.size), hq⟩
def loE (p : Nat) (v : Value) (m : Nat) (x : Nat) : List (Nat × Value) := [(6, .pointer (some ⟨p, 0, none⟩)), (25, v), (26, .int .i64 (m : Int)), (27, .int .i64 (x : Int))]
def LoR (w : World) (p r most : Nat) (l : List Sk) (x : Nat) (W : World) : Prop := x ≤ l.length ∧ Tb W p r most (lodE (l.take x)) x ∧ Below w.heap.size w W
set_option maxRecDepth 100000 in
set_option maxHeartbeats 4000000 in
theorem load_any (m : Int) {v : Value} {l : List Sk} {w : World} (hl : Sl w v l) (hll : l.length < 4611686018427387904) : Calls Try.prog 15 #[.int .i64 m, v] w fun e w' => Below w.heap.size w w' ∧ ((ldN m l ≠ 0 ∧ e = .returned (.tuple #[.pointer none, .int .i64 (ldN m l)])) ∨ (ldN m l = 0 ∧ ∃ p r, e = .returned (.tuple #[.pointer (some ⟨p, 0, none⟩), .int .i64 0]) ∧ Tb w' p r m.toNat (lodE l) l.length ∧ w.heap.size ≤ p ∧ w.heap.size ≤ r)) := by
  by_cases hm : m < 0 ∨ 256 < m
  · have e0 : ldN m l = 2 := by unfold ldN; rw [if_pos hm]
    refine calls_of_args [.int .i64 m, v] Try.func15 rfl 44 Try.ntmps15 (by show 2 ≤ 44; decide) ?_
    refine EW.seq ?_
    refine EW.region ?_
    first | refine WL.assign rfl rfl rfl ?_
    first | refine WL.assign rfl rfl rfl ?_
    refine WL.done ?_
    refine EW.on ?_
    refine EW.seq ?_
    refine EW.region ?_
    first | refine WL.move rfl rfl rfl ?_
    refine WL.call [.int .i64 m] enter6 rfl rfl rfl (new_no m hm _) ?_
    rintro x1 w1 ⟨rfl, hw1⟩
    refine ⟨_, rfl, ?_⟩
    rw [hw1]
    first | refine WL.move rfl rfl rfl ?_
    first | refine WL.extract rfl rfl rfl (ext_2 _ _ _).1 ?_
    first | refine WL.extract rfl rfl rfl (ext_2 _ _ _).2 ?_
    first | refine WL.assign rfl rfl rfl ?_
    first | refine WL.assign rfl rfl rfl ?_
    refine WL.done ?_
    refine EW.on ?_
    refine EW.seq ?_
    refine EW.seq ?_
    refine EW.region ?_
    first | refine WL.move rfl rfl rfl ?_
    first | refine WL.bin rfl rfl rfl rfl (int_ne_f rfl _ _ _) ?_ | refine WL.bin rfl rfl rfl rfl (int_ne_t ‹_› _ _ _) ?_ | refine WL.bin rfl rfl rfl rfl (int_ne_f ‹_› _ _ _) ?_ | refine WL.bin rfl rfl rfl rfl (int_ne_t (by decide) _ _ _) ?_ | refine WL.bin rfl rfl rfl rfl (int_ne_d _ _ _ _ _) ?_
    refine WL.done ?_
    refine EW.on ?_
    refine EW.cond_t rfl ?_
    refine EW.seq ?_
    refine EW.region ?_
    first | refine WL.move rfl rfl rfl ?_
    first | refine WL.assign rfl rfl rfl ?_
    first | refine WL.assign rfl rfl rfl ?_
    refine WL.done ?_
    refine EW.on ?_
    refine EW.ret ?_
    refine pr_then ?_
    exact EW.returns2 Try.results15 rfl rfl ⟨Below.refl _ _, .inl ⟨by rw [e0]; decide, by rw [e0]⟩⟩
  · replace hm : 0 ≤ m ∧ m ≤ 256 := by omega
    refine calls_of_args [.int .i64 m, v] Try.func15 rfl 44 Try.ntmps15 (by show 2 ≤ 44; decide) ?_
    refine EW.seq ?_
    refine EW.region ?_
    first | refine WL.assign rfl rfl rfl ?_
    first | refine WL.assign rfl rfl rfl ?_
    refine WL.done ?_
    refine EW.on ?_
    refine EW.seq ?_
    refine EW.region ?_
    first | refine WL.move rfl rfl rfl ?_
    refine WL.call [.int .i64 m] enter6 rfl rfl rfl (new_ok m hm _) ?_
    rintro x1 w1 ⟨p, r, rfl, tb1, hp, hr, l1⟩
    refine ⟨_, rfl, ?_⟩
    first | refine WL.move rfl rfl rfl ?_
    first | refine WL.extract rfl rfl rfl (ext_2 _ _ _).1 ?_
    first | refine WL.extract rfl rfl rfl (ext_2 _ _ _).2 ?_
    first | refine WL.assign rfl rfl rfl ?_
    first | refine WL.assign rfl rfl rfl ?_
    refine WL.done ?_
    refine EW.on ?_
    refine EW.seq ?_
    refine EW.seq ?_
    refine EW.region ?_
    first | refine WL.move rfl rfl rfl ?_
    first | refine WL.bin rfl rfl rfl rfl (int_ne_f rfl _ _ _) ?_ | refine WL.bin rfl rfl rfl rfl (int_ne_t ‹_› _ _ _) ?_ | refine WL.bin rfl rfl rfl rfl (int_ne_f ‹_› _ _ _) ?_ | refine WL.bin rfl rfl rfl rfl (int_ne_t (by decide) _ _ _) ?_ | refine WL.bin rfl rfl rfl rfl (int_ne_d _ _ _ _ _) ?_
    refine WL.done ?_
    refine EW.on ?_
    refine EW.cond_f rfl ?_
    refine EW.skip ?_
    refine EW.on ?_
    refine EW.seq ?_
    refine EW.seq ?_
    refine EW.region ?_
    first | refine WL.move rfl rfl rfl ?_
    refine WL.len rfl rfl rfl (hl.len _ _) ?_
    first | refine WL.move rfl rfl rfl ?_
    refine WL.bin rfl rfl rfl rfl (int_gt_d _ _ _ _ _) ?_
    refine WL.done ?_
    refine EW.on ?_
    refine EW.cond_d rfl (fun h21 => ?_) (fun h21 => ?_)
    · refine EW.seq ?_
      refine EW.region ?_
      first | refine WL.assign rfl rfl rfl ?_
      first | refine WL.assign rfl rfl rfl ?_
      refine WL.done ?_
      refine EW.on ?_
      refine EW.ret ?_
      refine pr_then ?_
      exact EW.returns2 Try.results15 rfl rfl ⟨l1, .inl ⟨by unfold ldN; rw [if_neg (by omega), if_pos (by omega)]; decide, by unfold ldN; rw [if_neg (by omega), if_pos (by omega)]⟩⟩
    · refine EW.skip ?_
      refine EW.on ?_
      refine EW.seq ?_
      refine EW.seq ?_
      refine EW.region ?_
      first | refine WL.move rfl rfl rfl ?_
      refine WL.call [v] enter22 rfl rfl rfl (rises_any (hl.on l1) hll) ?_
      rintro x2 w2 ⟨rfl, l2⟩
      refine ⟨_, rfl, ?_⟩
      refine WL.un rfl rfl rfl (not_d _) ?_
      refine WL.done ?_
      refine EW.on ?_
      refine EW.cond_d rfl (fun h24 => ?_) (fun h24 => ?_)
      · refine EW.seq ?_
        refine EW.region ?_
        first | refine WL.assign rfl rfl rfl ?_
        first | refine WL.assign rfl rfl rfl ?_
        refine WL.done ?_
        refine EW.on ?_
        refine EW.ret ?_
        refine pr_then ?_
        exact EW.returns2 Try.results15 rfl rfl ⟨bt l1 l2, .inl ⟨by unfold ldN; rw [if_neg (by omega), if_neg (by omega), if_neg h24]; decide, by unfold ldN; rw [if_neg (by omega), if_neg (by omega), if_neg h24]⟩⟩
      · refine EW.skip ?_
        refine EW.on ?_
        refine EW.seq ?_
        refine EW.seq ?_
        have hPw : l.Pairwise Lt := Classical.not_not.1 h24
        refine EW.region ?_
        first | refine WL.move rfl rfl rfl ?_
        refine WL.len rfl rfl rfl (hl.len _ _) ?_
        first | refine WL.move rfl rfl rfl ?_
        refine WL.done ?_
        refine EW.on ?_
        refine EW.block ?_
        refine EW.loop (loE p v l.length) (LoR w p r m.toNat l) (fun x => l.length - x) 0 [6, 25, 26, 27] rfl ⟨Nat.zero_le _, by simpa [lodE] using tb1.on l2, bt l1 l2⟩ ?_
        rintro x wi ⟨hxl, tbx, be⟩
        show EW _ _ _ _ [(6, .pointer (some ⟨p, 0, none⟩)), (25, v), (26, .int .i64 (l.length : Int)), (27, .int .i64 (x : Int))] _
        refine EW.seq ?_
        refine EW.region ?_
        refine WL.bin rfl rfl rfl rfl (int_lt_d _ _ _ _ _) ?_
        refine WL.done ?_
        refine EW.on ?_
        refine EW.seq ?_
        refine EW.cond_d rfl (fun h28 => ?_) (fun h28 => ?_)
        · refine EW.skip ?_
          refine EW.on ?_
          refine EW.seq ?_
          refine EW.block ?_
          refine EW.seq ?_
          have hlt : x < l.length := by omega
          obtain ⟨s, hs⟩ : ∃ s, l[x]? = some s := ⟨_, List.getElem?_eq_getElem hlt⟩
          obtain ⟨ads, ixs, lds⟩ := hl.get hs
          have hso := hl.ok s (List.mem_of_getElem? hs)
          obtain ⟨q9, w8, w9, a9, s9, b9, l9, hq9⟩ := newS wi s hso
          have tb9 := tbx.on l9
          refine EW.region ?_
          refine WL.index rfl rfl rfl rfl (ixs _) ?_
          refine WL.load rfl rfl rfl (lds _ (hl.on be)).1 ?_
          refine WL.new rfl rfl a9 ?_
          refine WL.store rfl rfl rfl s9 ?_
          refine WL.done ?_
          refine EW.on ?_
          refine EW.ordB [(0, 0, 0), (1, 0, 0), (2, 0, 0), (3, 0, 1), (4, 0, 0), (5, 0, 1), (6, 0, 0), (7, 0, 1), (8, 0, 0), (9, 0, 0), (10, 0, 1), (11, 1, 0)] (by kernel_rfl) rfl (by kernel_rfl) ?_
          simp only [opsZ, List.getD_cons_zero, List.getD_cons_succ]
          first | refine ZE.move rfl rfl rfl rfl sz0 ?_
          first | refine ZE.nilc rfl rfl rfl rfl sz0 ?_
          refine ZE.field rfl rfl rfl rfl sz0 (fun W => g59_1 p W) ?_
          refine ZE.load rfl rfl rfl rfl sz1 (fun W hW => ld57 (tb9.on (sb_of hW))) ?_
          refine ZE.field rfl rfl rfl rfl sz0 (fun W => g39_0 q9 W) ?_
          refine ZE.load rfl rfl rfl rfl sz1 (fun W hW => (b9.on (sb_of hW)).ldU (a := []) rfl rfl) ?_
          refine ZE.field rfl rfl rfl rfl sz0 (fun W => g39_1 q9 W) ?_
          refine ZE.load rfl rfl rfl rfl sz1 (fun W hW => (b9.on (sb_of hW)).ldU (a := [u32v s.t]) rfl rfl) ?_
          refine ZE.buildN [(0, u32v s.t), (1, u32v s.n)] rfl rfl rfl rfl sz0 (fun W => b63 _ _ W) ?_
          refine ZE.field rfl rfl rfl rfl sz0 (fun W => g39_2 q9 W) ?_
          refine ZE.load rfl rfl rfl rfl sz1 (fun W hW => (b9.on (sb_of hW)).ldA (a := [u32v s.t] ++ [u32v s.n]) (m := s.k.map byt) (b := []) u29 rfl (i29 hso.k) (by simp [Sk.cs]) rfl) ?_
          refine ZE.mup (fun W => Tb W p r m.toNat (lodE (l.take (x + 1))) (x + 1) ∧ Fx (fun k => k = r) w9 W) rfl rfl rfl rfl (fun _ _ => .inl rfl) (fun W hW => ?_) ?_
          · obtain ⟨w', u1, u2, u3⟩ := run_up (tb9.on hW).mp s.t s.n s.k hso (lodE_no hPw hs)
            rw [← lodE_snoc l x s hs] at u2
            exact ⟨w', u1, ⟨(tb9.on hW).bl.fx u3 tb1.ne, u2⟩, (Fx.of_below hW).trans u3 (fun _ _ e => e)⟩
          rintro W ⟨hT, hF⟩
          refine pn_block ?_
          refine EW.on ?_
          refine EW.region ?_
          refine WL.bin rfl rfl rfl rfl (int_add (c := ((x + 1 : Nat) : Int)) (by rw [IntKind.wrap_i64]; omega) _ _ _) ?_
          first | refine WL.move rfl rfl rfl ?_
          refine WL.done ?_
          exact EW.again (E := loE p v l.length) (R := LoR w p r m.toNat l) (m := fun x => l.length - x) (x := x) (x + 1) [6, 25, 26, 27] rfl ⟨by omega, hT, bfx (bt be l9) hF hr⟩ (by show l.length - (x + 1) < l.length - x; omega)
        · refine EW.exit ?_
          refine px_then ?_
          refine px_then ?_
          refine px_block ?_
          refine EW.on ?_
          refine EW.seq ?_
          refine EW.region ?_
          first | refine WL.move rfl rfl rfl ?_
          first | refine WL.assign rfl rfl rfl ?_
          first | refine WL.assign rfl rfl rfl ?_
          refine WL.done ?_
          refine EW.on ?_
          refine EW.ret ?_
          exact EW.returns2 Try.results15 rfl rfl ⟨be, .inr ⟨by unfold ldN; rw [if_neg (by omega), if_neg (by omega), if_pos hPw], p, r, rfl, by have := tbx; rw [show x = l.length by omega, List.take_length] at this; exact this, hp, hr⟩⟩
def rlE (m : Int) (v : Value) (q : Nat) (x : Nat) : List (Nat × Value) := [(1, v), (6, .pointer (some ⟨q, 0, none⟩)), (8, .int .i64 ((x + 1 : Nat) : Int))]
set_option maxRecDepth 100000 in
set_option maxHeartbeats 4000000 in
theorem rload_any (m : Int) {v : Value} {l : List Sk} {w : World} (hl : Sl w v l) (hll : l.length < 4611686018427387904) : Calls Try.prog 16 #[.int .i64 m, v] w fun e w' => Below w.heap.size w w' ∧ ((ldN m l ≠ 0 ∧ e = .returned (.tuple #[.pointer none, .int .i64 (ldN m l)])) ∨ (ldN m l = 0 ∧ ∃ q u, e = .returned (.tuple #[.pointer (some ⟨q, 0, none⟩), .int .i64 0]) ∧ Rt w' q u m.toNat l ∧ w.heap.size ≤ q ∧ (∀ b, u.ownBlock = some b → w.heap.size ≤ b ∧ b ≠ q))) := by
  by_cases hm : m < 0 ∨ 256 < m
  · have e0 : ldN m l = 2 := by unfold ldN; rw [if_pos hm]
    refine calls_of_args [.int .i64 m, v] Try.func16 rfl 48 Try.ntmps16 (by show 2 ≤ 48; decide) ?_
    refine EW.seq ?_
    refine EW.region ?_
    first | refine WL.assign rfl rfl rfl ?_
    first | refine WL.assign rfl rfl rfl ?_
    refine WL.done ?_
    refine EW.on ?_
    refine EW.seq ?_
    refine EW.region ?_
    first | refine WL.move rfl rfl rfl ?_
    refine WL.call [.int .i64 m] enter14 rfl rfl rfl (rnew_no m hm _) ?_
    rintro x1 w1 ⟨rfl, hw1⟩
    refine ⟨_, rfl, ?_⟩
    rw [hw1]
    first | refine WL.move rfl rfl rfl ?_
    first | refine WL.extract rfl rfl rfl (ext_2 _ _ _).1 ?_
    first | refine WL.extract rfl rfl rfl (ext_2 _ _ _).2 ?_
    first | refine WL.assign rfl rfl rfl ?_
    first | refine WL.assign rfl rfl rfl ?_
    refine WL.done ?_
    refine EW.on ?_
    refine EW.seq ?_
    refine EW.seq ?_
    refine EW.region ?_
    first | refine WL.move rfl rfl rfl ?_
    first | refine WL.bin rfl rfl rfl rfl (int_ne_f rfl _ _ _) ?_ | refine WL.bin rfl rfl rfl rfl (int_ne_t ‹_› _ _ _) ?_ | refine WL.bin rfl rfl rfl rfl (int_ne_f ‹_› _ _ _) ?_ | refine WL.bin rfl rfl rfl rfl (int_ne_t (by decide) _ _ _) ?_ | refine WL.bin rfl rfl rfl rfl (int_ne_d _ _ _ _ _) ?_
    refine WL.done ?_
    refine EW.on ?_
    refine EW.cond_t rfl ?_
    refine EW.seq ?_
    refine EW.region ?_
    first | refine WL.move rfl rfl rfl ?_
    first | refine WL.assign rfl rfl rfl ?_
    first | refine WL.assign rfl rfl rfl ?_
    refine WL.done ?_
    refine EW.on ?_
    refine EW.ret ?_
    refine pr_then ?_
    exact EW.returns2 Try.results16 rfl rfl ⟨Below.refl _ _, .inl ⟨by rw [e0]; decide, by rw [e0]⟩⟩
  · replace hm : 0 ≤ m ∧ m ≤ 256 := by omega
    refine calls_of_args [.int .i64 m, v] Try.func16 rfl 48 Try.ntmps16 (by show 2 ≤ 48; decide) ?_
    refine EW.seq ?_
    refine EW.region ?_
    first | refine WL.assign rfl rfl rfl ?_
    first | refine WL.assign rfl rfl rfl ?_
    refine WL.done ?_
    refine EW.on ?_
    refine EW.seq ?_
    refine EW.region ?_
    first | refine WL.move rfl rfl rfl ?_
    refine WL.call [.int .i64 m] enter14 rfl rfl rfl (rnew_ok m hm _) ?_
    rintro x1 w1 ⟨q, rfl, rt1, hq, l1⟩
    refine ⟨_, rfl, ?_⟩
    first | refine WL.move rfl rfl rfl ?_
    first | refine WL.extract rfl rfl rfl (ext_2 _ _ _).1 ?_
    first | refine WL.extract rfl rfl rfl (ext_2 _ _ _).2 ?_
    first | refine WL.assign rfl rfl rfl ?_
    first | refine WL.assign rfl rfl rfl ?_
    refine WL.done ?_
    refine EW.on ?_
    refine EW.seq ?_
    refine EW.seq ?_
    refine EW.region ?_
    first | refine WL.move rfl rfl rfl ?_
    first | refine WL.bin rfl rfl rfl rfl (int_ne_f rfl _ _ _) ?_ | refine WL.bin rfl rfl rfl rfl (int_ne_t ‹_› _ _ _) ?_ | refine WL.bin rfl rfl rfl rfl (int_ne_f ‹_› _ _ _) ?_ | refine WL.bin rfl rfl rfl rfl (int_ne_t (by decide) _ _ _) ?_ | refine WL.bin rfl rfl rfl rfl (int_ne_d _ _ _ _ _) ?_
    refine WL.done ?_
    refine EW.on ?_
    refine EW.cond_f rfl ?_
    refine EW.skip ?_
    refine EW.on ?_
    refine EW.seq ?_
    refine EW.seq ?_
    refine EW.region ?_
    first | refine WL.move rfl rfl rfl ?_
    refine WL.len rfl rfl rfl (hl.len _ _) ?_
    first | refine WL.move rfl rfl rfl ?_
    refine WL.bin rfl rfl rfl rfl (int_gt_d _ _ _ _ _) ?_
    refine WL.done ?_
    refine EW.on ?_
    refine EW.cond_d rfl (fun h20 => ?_) (fun h20 => ?_)
    · refine EW.seq ?_
      refine EW.region ?_
      first | refine WL.assign rfl rfl rfl ?_
      first | refine WL.assign rfl rfl rfl ?_
      refine WL.done ?_
      refine EW.on ?_
      refine EW.ret ?_
      refine pr_then ?_
      exact EW.returns2 Try.results16 rfl rfl ⟨l1, .inl ⟨by unfold ldN; rw [if_neg (by omega), if_pos (by omega)]; decide, by unfold ldN; rw [if_neg (by omega), if_pos (by omega)]⟩⟩
    · refine EW.skip ?_
      refine EW.on ?_
      refine EW.seq ?_
      refine EW.seq ?_
      refine EW.region ?_
      first | refine WL.assign rfl rfl rfl ?_
      refine WL.done ?_
      refine EW.on ?_
      refine EW.block ?_
      refine EW.loop (rlE m v q) (RiR w1 l) (fun x => l.length - x) 0 [1, 6, 8] rfl ⟨.inl rfl, fun i a b hi => absurd hi (Nat.not_lt_zero _), Below.refl _ _⟩ ?_
      rintro x wi ⟨hxl, hno, be⟩
      show EW _ _ _ _ [(1, v), (6, .pointer (some ⟨q, 0, none⟩)), (8, .int .i64 ((x + 1 : Nat) : Int))] _
      refine EW.seq ?_
      refine EW.seq ?_
      refine EW.region ?_
      first | refine WL.move rfl rfl rfl ?_
      first | refine WL.move rfl rfl rfl ?_
      refine WL.len rfl rfl rfl (hl.len _ _) ?_
      refine WL.bin rfl rfl rfl rfl (int_lt_d _ _ _ _ _) ?_
      refine WL.done ?_
      refine EW.on ?_
      refine EW.cond_d rfl (fun h24 => ?_) (fun h24 => ?_)
      · refine EW.skip ?_
        refine EW.on ?_
        refine EW.seq ?_
        refine EW.block ?_
        refine EW.seq ?_
        have hlt : x + 1 < l.length := by omega
        obtain ⟨a, ha⟩ : ∃ a, l[x]? = some a := ⟨_, List.getElem?_eq_getElem (by omega)⟩
        obtain ⟨b, hb⟩ : ∃ b, l[x + 1]? = some b := ⟨_, List.getElem?_eq_getElem hlt⟩
        obtain ⟨ada, ixa, lda⟩ := hl.get ha
        obtain ⟨adb, ixb, ldb⟩ := hl.get hb
        by_cases hab : Lt a b
        · refine EW.ordB [(0, 0, 0), (1, 0, 0), (2, 0, 0), (3, 0, 0), (4, 0, 1), (5, 0, 0), (6, 0, 0), (7, 0, 0), (8, 0, 1), (9, 1, 1), (10, 0, 0)] (by kernel_rfl) rfl (by kernel_rfl) ?_
          simp only [opsZ, List.getD_cons_zero, List.getD_cons_succ]
          first | refine ZE.move rfl rfl rfl rfl sz0 ?_
          first | refine ZE.move rfl rfl rfl rfl sz0 ?_
          refine ZE.bin rfl rfl rfl rfl rfl sz0 (fun W => int_sub (c := ((x : Nat) : Int)) (by rw [IntKind.wrap_i64]; omega) W _ _) ?_
          refine ZE.index rfl rfl rfl rfl rfl sz0 (fun W => ixa W) ?_
          refine ZE.load rfl rfl rfl rfl sz1 (fun W hW => (lda W (hl.on (bt (bt l1 be) (sb_of hW)))).1) ?_
          first | refine ZE.move rfl rfl rfl rfl sz0 ?_
          first | refine ZE.move rfl rfl rfl rfl sz0 ?_
          refine ZE.index rfl rfl rfl rfl rfl sz0 (fun W => ixb W) ?_
          refine ZE.load rfl rfl rfl rfl sz1 (fun W hW => (ldb W (hl.on (bt (bt l1 be) (sb_of hW)))).1) ?_
          refine ZE.callB (v := .bool true) [a.v, b.v] enter23 rfl rfl rfl (fun _ h => .inr h) (fun W hW => by have := ahead_any a b W; rw [decide_eq_true hab] at this; exact this) ?_
          refine ZE.un rfl rfl rfl rfl sz0 (fun W => not_b _ W) ?_
          rintro W hW
          refine EW.on ?_
          refine EW.cond_f rfl ?_
          refine EW.skip ?_
          refine pn_block ?_
          refine EW.on ?_
          refine EW.region ?_
          first | refine WL.move rfl rfl rfl ?_
          refine WL.bin rfl rfl rfl rfl (int_add (c := ((x + 1 + 1 : Nat) : Int)) (by rw [IntKind.wrap_i64]; omega) _ _ _) ?_
          first | refine WL.assign rfl rfl rfl ?_
          refine WL.done ?_
          exact EW.again (E := rlE m v q) (R := RiR w1 l) (m := fun x => l.length - x) (x := x) (x + 1) [1, 6, 8] rfl ⟨.inr (by omega), fun i a' b' hi ha' hb' => (by rcases Nat.lt_or_ge i x with e | e; exact hno i a' b' e ha' hb'; rw [show i = x by omega] at ha' hb'; rw [ha] at ha'; rw [hb] at hb'; cases ha'; cases hb'; exact hab), bt be hW⟩ (by show l.length - (x + 1) < l.length - x; omega)
        · refine EW.ordB [(0, 0, 0), (1, 0, 0), (2, 0, 0), (3, 0, 0), (4, 0, 1), (5, 0, 0), (6, 0, 0), (7, 0, 0), (8, 0, 1), (9, 1, 1), (10, 0, 0)] (by kernel_rfl) rfl (by kernel_rfl) ?_
          simp only [opsZ, List.getD_cons_zero, List.getD_cons_succ]
          first | refine ZE.move rfl rfl rfl rfl sz0 ?_
          first | refine ZE.move rfl rfl rfl rfl sz0 ?_
          refine ZE.bin rfl rfl rfl rfl rfl sz0 (fun W => int_sub (c := ((x : Nat) : Int)) (by rw [IntKind.wrap_i64]; omega) W _ _) ?_
          refine ZE.index rfl rfl rfl rfl rfl sz0 (fun W => ixa W) ?_
          refine ZE.load rfl rfl rfl rfl sz1 (fun W hW => (lda W (hl.on (bt (bt l1 be) (sb_of hW)))).1) ?_
          first | refine ZE.move rfl rfl rfl rfl sz0 ?_
          first | refine ZE.move rfl rfl rfl rfl sz0 ?_
          refine ZE.index rfl rfl rfl rfl rfl sz0 (fun W => ixb W) ?_
          refine ZE.load rfl rfl rfl rfl sz1 (fun W hW => (ldb W (hl.on (bt (bt l1 be) (sb_of hW)))).1) ?_
          refine ZE.callB (v := .bool false) [a.v, b.v] enter23 rfl rfl rfl (fun _ h => .inr h) (fun W hW => by have := ahead_any a b W; rw [decide_eq_false hab] at this; exact this) ?_
          refine ZE.un rfl rfl rfl rfl sz0 (fun W => not_b _ W) ?_
          rintro W hW
          refine EW.on ?_
          refine EW.cond_t rfl ?_
          refine EW.seq ?_
          refine EW.region ?_
          first | refine WL.assign rfl rfl rfl ?_
          first | refine WL.assign rfl rfl rfl ?_
          refine WL.done ?_
          refine EW.on ?_
          refine EW.ret ?_
          refine pr_block ?_
          refine pr_then ?_
          refine pr_then ?_
          refine pr_block ?_
          refine pr_then ?_
          exact EW.returns2 Try.results16 rfl rfl ⟨bt l1 (bt be hW), .inl ⟨by unfold ldN; rw [if_neg (by omega), if_neg (by omega), if_neg (fun h => hab (pair_adj h ha hb))]; decide, by unfold ldN; rw [if_neg (by omega), if_neg (by omega), if_neg (fun h => hab (pair_adj h ha hb))]⟩⟩
      · refine EW.exit ?_
        refine px_then ?_
        refine px_then ?_
        refine px_block ?_
        refine EW.on ?_
        refine EW.seq ?_
        have hPw : l.Pairwise Lt := adj_pair (fun i a b hi ha hb => hno i a b (by omega) ha hb)
        have rtx := rt1.on be
        obtain ⟨u, wa, ra, soa, fa, na⟩ := (So.nil wi).app (hl.on (bt l1 be)) (by simp only [List.length_nil]; omega) 36
        rw [List.nil_append] at soa
        have la : Below wi.heap.size wi wa := fa.below (fun k hk e => by cases e) (Nat.le_refl _)
        have hu : ∀ b, u.ownBlock = some b → wi.heap.size ≤ b := fun b hb => by
          rcases na b hb with e | e
          · cases e
          · exact e
        have hqi := rtx.bl.lt
        obtain ⟨ws, rs, bs, fs⟩ := stL (rtx.bl.on la) soa.shape
        have b1i := (bt l1 be).size
        refine EW.region ?_
        first | refine WL.move rfl rfl rfl ?_
        first | refine WL.move rfl rfl rfl ?_
        first | refine WL.nilc rfl rfl rfl ?_
        refine WL.field rfl rfl rfl (g68_0 q _) ?_
        refine WL.load rfl rfl rfl (ldL (rt1.on be)) ?_
        first | refine WL.move rfl rfl rfl ?_
        refine WL.app rfl rfl rfl rfl ra ?_
        first | refine WL.nilc rfl rfl rfl ?_
        refine WL.field rfl rfl rfl (g68_0 q _) ?_
        refine WL.store rfl rfl rfl rs ?_
        refine WL.done ?_
        refine EW.on ?_
        refine EW.seq ?_
        refine EW.region ?_
        first | refine WL.move rfl rfl rfl ?_
        first | refine WL.assign rfl rfl rfl ?_
        first | refine WL.assign rfl rfl rfl ?_
        refine WL.done ?_
        refine EW.on ?_
        refine EW.ret ?_
        exact EW.returns2 Try.results16 rfl rfl ⟨bfx (bt (bt l1 be) la) fs hq, .inr ⟨by unfold ldN; rw [if_neg (by omega), if_neg (by omega), if_pos hPw], q, u, rfl, ⟨bs, soa.fx fs (fun b hb e => by have := hu b hb; omega)⟩, hq, fun b hb => (by have := hu b hb; exact ⟨by omega, by omega⟩)⟩⟩
end Go.Proofs.Ytggehhlobjjmpaa
