import Derived.Test.YtgfgabgnejnipaaReads
namespace Go.Proofs.Ytgfgabgnejnipaa
open Go.RowKit

/-- What 'got' answers, and where the reader stands then. -/
def rgot (all : List UInt8) (a : Nat) (f : Int) (kind n : Int) (ts : List UInt8) : Bool × Nat × Int :=
  if kind % 5 = 0 then ((beval (rfix all a f 1).1 : Int) == n % 256, (rfix all a f 1).2)
  else if kind % 5 = 1 then ((beval (rfix all a f 2).1 : Int) == n % 65536, (rfix all a f 2).2)
  else if kind % 5 = 2 then ((beval (rfix all a f 4).1 : Int) == n % 4294967296, (rfix all a f 4).2)
  else if kind % 5 = 3 then ((rfix all a f ts.length).1 == ts, (rfix all a f ts.length).2)
  else ((rrun all a f 300).1 == ts, (rrun all a f 300).2)

theorem Frm.cell {p : Nat} {w w' : World} (h : Frm p w w') {x : Addr} {u : Value} (hc : w.cell? x = some u) (hne : x.block ≠ p) : w'.cell? x = some u := by
  rw [← hc]
  unfold World.cell?
  rw [h.block _ (cell_lt hc) hne]

theorem cell_lik {w w' : World} {x : Addr} {u : Value} (hc : w.cell? x = some u) (h : Lik w w') : w'.cell? x = some u := (h.cell x).trans hc
theorem Rd.lik {w w' : World} {p : Nat} {v : Value} {all : List UInt8} {a : Nat} {f : Int} (h : Rd w p v all a f) (hl : Lik w w') : Rd w' p v all a f := h.below (hl.below _)
theorem Frm.lik {w0 w w' : World} {p : Nat} (h : Frm p w0 w) (hl : Lik w w') : Frm p w0 w' := h.trans (Frm.of_below (hl.below _))

set_option maxRecDepth 100000 in
set_option maxHeartbeats 1000000 in
theorem got_0 (p : Nat) (v : Value) (all : List UInt8) (a : Nat) (f : Int) (kind n : Int) (fo : Option Addr) (fc fl : Nat) (w : World) (h : Rd w p v all a f) (hl : all.length ≤ 150000000000000) (hk : kind % 5 = 0) :
    Calls Try.prog 33 #[.pointer (some ⟨p, 0, none⟩), .agg #[.int .i64 kind, .int .i64 n, .slice fo fl fc]] w fun e w' => e = .returned (.bool ((beval (rfix all a f 1).1 : Int) == n % 256)) ∧ Rd w' p v all (rfix all a f 1).2.1 (rfix all a f 1).2.2 ∧ Frm p w w' := by
  have hb0 := below_new w (.cells #[.int .i64 kind, .int .i64 n, .slice fo fl fc] 42)
  have HF0 := hide (Frm.of_below (q := p) hb0)
  have HX := hide (h.below hb0)
  have HNE := hide (Nat.ne_of_gt h.lt)
  have hbit := mask8 n
  have HK := hide hk
  have c1 : (w.alloc (.cells #[.int .i64 kind, .int .i64 n, .slice fo fl fc] 42)).cell? ⟨w.heap.size, 1, none⟩ = some (.int .i64 n) := by
    unfold World.cell?
    dsimp only
    rw [at_new w _ _ ⟨rfl, rfl, rfl, rfl⟩]; rfl
  have C1 := hide c1
  clear hk hb0 h c1
  generalize hr : rfix all a f 1 = r at *
  have HR := hide hr
  clear hr
  obtain ⟨rb, ra, rf⟩ := r
  dsimp only at *
  go_enter Try.func33, Try.ntmps33
  go_wp2_with fail
  refine (rest_any _ _ _ (by omega) (by omega)).mono ?_
  rintro e w1 ⟨rfl, rfl⟩
  rw [HK.out]
  go_wp2_with fail
  have c1 := C1.out
  go_region_held3 (fun w' => w'.cell? ⟨w.heap.size, 1, none⟩ = some (.int .i64 n)) (first | go_keep | exact c2) ((go_at_call 28; go_must (refine (ru8_any p v all a f _ ?_ hl).mono ?_; exact Rd.lik HX.out ⟨rfl, rfl, rfl, rfl⟩; (rw [HR.out]); rintro e w2 ⟨rfl, h2, h3⟩; have c2 := h3.cell (cell_lik c1 (by exact ⟨rfl, rfl, rfl, rfl⟩)) HNE.out; have HF2 := hide (Frm.trans (Frm.lik HF0.out (by exact ⟨rfl, rfl, rfl, rfl⟩)) h3); have HR2 := hide h2; clear h2 h3)))
  all_goals
    clear c1 c2 C1
    go_wp2
    go_ret
    exact ⟨rfl, HR2.out, HF2.out⟩

set_option maxRecDepth 100000 in
set_option maxHeartbeats 1000000 in
theorem got_1 (p : Nat) (v : Value) (all : List UInt8) (a : Nat) (f : Int) (kind n : Int) (fo : Option Addr) (fc fl : Nat) (w : World) (h : Rd w p v all a f) (hl : all.length ≤ 150000000000000) (hk : kind % 5 = 1) :
    Calls Try.prog 33 #[.pointer (some ⟨p, 0, none⟩), .agg #[.int .i64 kind, .int .i64 n, .slice fo fl fc]] w fun e w' => e = .returned (.bool ((beval (rfix all a f 2).1 : Int) == n % 65536)) ∧ Rd w' p v all (rfix all a f 2).2.1 (rfix all a f 2).2.2 ∧ Frm p w w' := by
  have hb0 := below_new w (.cells #[.int .i64 kind, .int .i64 n, .slice fo fl fc] 42)
  have HF0 := hide (Frm.of_below (q := p) hb0)
  have HX := hide (h.below hb0)
  have HNE := hide (Nat.ne_of_gt h.lt)
  have hbit := mask16 n
  have HK := hide hk
  have c1 : (w.alloc (.cells #[.int .i64 kind, .int .i64 n, .slice fo fl fc] 42)).cell? ⟨w.heap.size, 1, none⟩ = some (.int .i64 n) := by
    unfold World.cell?
    dsimp only
    rw [at_new w _ _ ⟨rfl, rfl, rfl, rfl⟩]; rfl
  have C1 := hide c1
  clear hk hb0 h c1
  generalize hr : rfix all a f 2 = r at *
  have HR := hide hr
  clear hr
  obtain ⟨rb, ra, rf⟩ := r
  dsimp only at *
  go_enter Try.func33, Try.ntmps33
  go_wp2_with fail
  refine (rest_any _ _ _ (by omega) (by omega)).mono ?_
  rintro e w1 ⟨rfl, rfl⟩
  rw [HK.out]
  go_wp2_with fail
  have c1 := C1.out
  go_region_held3 (fun w' => w'.cell? ⟨w.heap.size, 1, none⟩ = some (.int .i64 n)) (first | go_keep | exact c2) ((go_at_call 29; go_must (refine (ru16_any p v all a f _ ?_ hl).mono ?_; exact Rd.lik HX.out ⟨rfl, rfl, rfl, rfl⟩; (rw [HR.out]); rintro e w2 ⟨rfl, h2, h3⟩; have c2 := h3.cell (cell_lik c1 (by exact ⟨rfl, rfl, rfl, rfl⟩)) HNE.out; have HF2 := hide (Frm.trans (Frm.lik HF0.out (by exact ⟨rfl, rfl, rfl, rfl⟩)) h3); have HR2 := hide h2; clear h2 h3)))
  all_goals
    clear c1 c2 C1
    go_wp2
    go_ret
    exact ⟨rfl, HR2.out, HF2.out⟩

set_option maxRecDepth 100000 in
set_option maxHeartbeats 1000000 in
theorem got_2 (p : Nat) (v : Value) (all : List UInt8) (a : Nat) (f : Int) (kind n : Int) (fo : Option Addr) (fc fl : Nat) (w : World) (h : Rd w p v all a f) (hl : all.length ≤ 150000000000000) (hk : kind % 5 = 2) :
    Calls Try.prog 33 #[.pointer (some ⟨p, 0, none⟩), .agg #[.int .i64 kind, .int .i64 n, .slice fo fl fc]] w fun e w' => e = .returned (.bool ((beval (rfix all a f 4).1 : Int) == n % 4294967296)) ∧ Rd w' p v all (rfix all a f 4).2.1 (rfix all a f 4).2.2 ∧ Frm p w w' := by
  have hb0 := below_new w (.cells #[.int .i64 kind, .int .i64 n, .slice fo fl fc] 42)
  have HF0 := hide (Frm.of_below (q := p) hb0)
  have HX := hide (h.below hb0)
  have HNE := hide (Nat.ne_of_gt h.lt)
  have hbit := mask32 n
  have HK := hide hk
  have c1 : (w.alloc (.cells #[.int .i64 kind, .int .i64 n, .slice fo fl fc] 42)).cell? ⟨w.heap.size, 1, none⟩ = some (.int .i64 n) := by
    unfold World.cell?
    dsimp only
    rw [at_new w _ _ ⟨rfl, rfl, rfl, rfl⟩]; rfl
  have C1 := hide c1
  clear hk hb0 h c1
  generalize hr : rfix all a f 4 = r at *
  have HR := hide hr
  clear hr
  obtain ⟨rb, ra, rf⟩ := r
  dsimp only at *
  go_enter Try.func33, Try.ntmps33
  go_wp2_with fail
  refine (rest_any _ _ _ (by omega) (by omega)).mono ?_
  rintro e w1 ⟨rfl, rfl⟩
  rw [HK.out]
  go_wp2_with fail
  have c1 := C1.out
  go_region_held3 (fun w' => w'.cell? ⟨w.heap.size, 1, none⟩ = some (.int .i64 n)) (first | go_keep | exact c2) ((go_at_call 30; go_must (refine (ru32_any p v all a f _ ?_ hl).mono ?_; exact Rd.lik HX.out ⟨rfl, rfl, rfl, rfl⟩; (rw [HR.out]); rintro e w2 ⟨rfl, h2, h3⟩; have c2 := h3.cell (cell_lik c1 (by exact ⟨rfl, rfl, rfl, rfl⟩)) HNE.out; have HF2 := hide (Frm.trans (Frm.lik HF0.out (by exact ⟨rfl, rfl, rfl, rfl⟩)) h3); have HR2 := hide h2; clear h2 h3)))
  all_goals
    clear c1 c2 C1
    go_wp2
    go_ret
    exact ⟨by rw [show IntKind.u32.wrap (n % 4294967296) = n % 4294967296 by rw [IntKind.wrap_u32]; omega]; rfl, HR2.out, HF2.out⟩

set_option maxRecDepth 100000 in
set_option maxHeartbeats 1000000 in
theorem got_4 (p : Nat) (v : Value) (all : List UInt8) (a : Nat) (f : Int) (kind n : Int) (fo : Option Addr) (fc fl : Nat) (ys ts : List UInt8) (w : World) (h : Rd w p v all a f) (hl : all.length ≤ 150000000000000) (hy : Has w (.slice fo fl fc) ys) (hyl : ys.length ≤ 9223372036854775807) (ht : ys.take 300 = ts) (hk : kind % 5 = 4) :
    Calls Try.prog 33 #[.pointer (some ⟨p, 0, none⟩), .agg #[.int .i64 kind, .int .i64 n, .slice fo fl fc]] w fun e w' => e = .returned (.bool ((rrun all a f 300).1 == ts)) ∧ Rd w' p v all (rrun all a f 300).2.1 (rrun all a f 300).2.2 ∧ Frm p w w' := by
  have hb0 := below_new w (.cells #[.int .i64 kind, .int .i64 n, .slice fo fl fc] 42)
  have HF0 := hide (Frm.of_below (q := p) hb0)
  have HX := hide (h.below hb0)
  have HY := hide (hy.below hb0)
  have HNE := hide (Nat.ne_of_gt h.lt)
  have HK := hide hk
  have HT := hide ht
  have c1 : (w.alloc (.cells #[.int .i64 kind, .int .i64 n, .slice fo fl fc] 42)).cell? ⟨w.heap.size, 2, none⟩ = some (.slice fo fl fc) := by
    unfold World.cell?
    dsimp only
    rw [at_new w _ _ ⟨rfl, rfl, rfl, rfl⟩]; rfl
  have C1 := hide c1
  clear hk hb0 h c1 hy ht
  generalize hr : rrun all a f 300 = r at *
  have HR := hide hr
  clear hr
  obtain ⟨rb, ra, rf⟩ := r
  dsimp only at *
  go_enter Try.func33, Try.ntmps33
  go_wp2_with fail
  refine (rest_any _ _ _ (by omega) (by omega)).mono ?_
  rintro e w1 ⟨rfl, rfl⟩
  rw [HK.out]
  go_wp2_with fail
  have c1 := C1.out
  go_region_held3 (fun w' => w'.cell? ⟨w.heap.size, 2, none⟩ = some (.slice fo fl fc)) (first | go_keep | exact c2) ((first
    | (go_at_call 26; go_must (refine (rrun_any p v all a f 300 _ ?_ hl).mono ?_; exact Rd.lik HX.out ⟨rfl, rfl, rfl, rfl⟩; (rw [HR.out]); rintro e w2 ⟨ro, rc, rfl, h1, h2, h3⟩; have c2 := h3.cell (cell_lik c1 (by exact ⟨rfl, rfl, rfl, rfl⟩)) HNE.out; have HF2 := hide (Frm.trans (Frm.lik HF0.out (by exact ⟨rfl, rfl, rfl, rfl⟩)) h3); have HR2 := hide h2; have HH2 := hide h1.has; have HY2 := hide (Rd.keeps (Rd.lik HX.out (by exact ⟨rfl, rfl, rfl, rfl⟩)) h3 (Lik.has ⟨rfl, rfl, rfl, rfl⟩ HY.out)); clear h1 h2 h3))
    | (go_at_call 41; go_must (refine (short_is _ ys ts _ HY2.out hyl HT.out).mono ?_; rintro e w3 ⟨so, sc, rfl, hs, rfl⟩; have HS := hide hs; clear hs))
    | (go_at_call 10; go_must (refine (eq_any _ _ rb ts _ HH2.out (HS.out _ HY2.out)).mono ?_; rintro e w4 ⟨rfl, rfl⟩))))
  all_goals
    clear c1 c2 C1
    go_wp2
    go_ret
    exact ⟨rfl, HR2.out, HF2.out⟩

set_option maxRecDepth 100000 in
set_option maxHeartbeats 1000000 in
theorem got_3 (p : Nat) (v : Value) (all : List UInt8) (a : Nat) (f : Int) (kind n : Int) (fo : Option Addr) (fc fl : Nat) (ys ts : List UInt8) (w : World) (h : Rd w p v all a f) (hl : all.length ≤ 150000000000000) (hy : Has w (.slice fo fl fc) ys) (hyl : ys.length ≤ 9223372036854775807) (ht : ys.take 300 = ts) (hk : kind % 5 = 3) :
    Calls Try.prog 33 #[.pointer (some ⟨p, 0, none⟩), .agg #[.int .i64 kind, .int .i64 n, .slice fo fl fc]] w fun e w' => e = .returned (.bool ((rfix all a f ts.length).1 == ts)) ∧ Rd w' p v all (rfix all a f ts.length).2.1 (rfix all a f ts.length).2.2 ∧ Frm p w w' := by
  have hb0 := below_new w (.cells #[.int .i64 kind, .int .i64 n, .slice fo fl fc] 42)
  have HF0 := hide (Frm.of_below (q := p) hb0)
  have HX := hide (h.below hb0)
  have HY := hide (hy.below hb0)
  have HNE := hide (Nat.ne_of_gt h.lt)
  have HK := hide hk
  have HT := hide ht
  have c1 : (w.alloc (.cells #[.int .i64 kind, .int .i64 n, .slice fo fl fc] 42)).cell? ⟨w.heap.size, 2, none⟩ = some (.slice fo fl fc) := by
    unfold World.cell?
    dsimp only
    rw [at_new w _ _ ⟨rfl, rfl, rfl, rfl⟩]; rfl
  have C1 := hide c1
  clear hk hb0 h c1 hy ht
  generalize hr : rfix all a f ts.length = r at *
  have HR := hide hr
  clear hr
  obtain ⟨rb, ra, rf⟩ := r
  dsimp only at *
  go_enter Try.func33, Try.ntmps33
  go_wp2_with fail
  refine (rest_any _ _ _ (by omega) (by omega)).mono ?_
  rintro e w1 ⟨rfl, rfl⟩
  rw [HK.out]
  go_wp2_with fail
  have c1 := C1.out
  go_region_held3 (fun w' => w'.cell? ⟨w.heap.size, 2, none⟩ = some (.slice fo fl fc)) (first | go_keep | exact c2) ((first
    | (go_at_call 25; go_must (refine (rfixed_any p v all a f _ _ ?_ hl).mono ?_; exact Rd.lik HX.out ⟨rfl, rfl, rfl, rfl⟩; (rw [HR.out]); rintro e w2 ⟨ro, rc, rfl, h1, h2, h3⟩; have c2 := h3.cell (cell_lik c1 (by exact ⟨rfl, rfl, rfl, rfl⟩)) HNE.out; have HF2 := hide (Frm.trans (Frm.lik HF0.out (by exact ⟨rfl, rfl, rfl, rfl⟩)) h3); have HR2 := hide h2; have HH2 := hide h1.has; have HY2 := hide (Rd.keeps (Rd.lik HX.out (by exact ⟨rfl, rfl, rfl, rfl⟩)) h3 (Lik.has ⟨rfl, rfl, rfl, rfl⟩ HY.out)); clear h1 h2 h3))
    | (go_at_call 41; refine (short_is _ ys ts _ HY2.out hyl HT.out).mono ?_; rintro e w3 ⟨so, sc, rfl, hs, rfl⟩; have HS2 := hide hs; clear hs)
    | (go_at_call 41; go_must (refine (short_is _ ys ts _ ?_ hyl HT.out).mono ?_; exact Lik.has ⟨rfl, rfl, rfl, rfl⟩ HY.out; rintro e w3 ⟨so, sc, rfl, hs, rfl⟩; have HS := hide hs; clear hs))
    | (go_at_call 10; go_must (refine (eq_any _ _ rb ts _ HH2.out (HS2.out _ HY2.out)).mono ?_; rintro e w4 ⟨rfl, rfl⟩))))
  all_goals
    clear c1 c2 C1
    go_wp2
    go_ret
    exact ⟨rfl, HR2.out, HF2.out⟩

theorem got_any (p : Nat) (v fv : Value) (all : List UInt8) (a : Nat) (f : Int) (kind n : Int) (ys : List UInt8) (w : World) (h : Rd w p v all a f) (hl : all.length ≤ 150000000000000) (hy : Has w fv ys) (hyl : ys.length ≤ 9223372036854775807) :
    Calls Try.prog 33 #[.pointer (some ⟨p, 0, none⟩), fieldV kind n fv] w fun e w' => e = .returned (.bool (rgot all a f kind n (ys.take 300)).1) ∧ Rd w' p v all (rgot all a f kind n (ys.take 300)).2.1 (rgot all a f kind n (ys.take 300)).2.2 ∧ Frm p w w' := by
  obtain ⟨fo, fc, rfl⟩ := hy.slice
  unfold rgot fieldV
  have h5 : kind % 5 = 0 ∨ kind % 5 = 1 ∨ kind % 5 = 2 ∨ kind % 5 = 3 ∨ kind % 5 = 4 := by omega
  rcases h5 with hk | hk | hk | hk | hk
  · rw [if_pos hk]; exact got_0 p v all a f kind n fo fc _ w h hl hk
  · rw [if_neg (by omega), if_pos hk]; exact got_1 p v all a f kind n fo fc _ w h hl hk
  · rw [if_neg (by omega), if_neg (by omega), if_pos hk]; exact got_2 p v all a f kind n fo fc _ w h hl hk
  · rw [if_neg (by omega), if_neg (by omega), if_neg (by omega), if_pos hk]; exact got_3 p v all a f kind n fo fc _ ys _ w h hl hy hyl rfl hk
  · rw [if_neg (by omega), if_neg (by omega), if_neg (by omega), if_neg (by omega)]; exact got_4 p v all a f kind n fo fc _ ys _ w h hl hy hyl rfl hk

/-! The plain part: what 'got' comes to. -/

theorem rfix_pre (all : List UInt8) (a : Nat) (ts R : List UInt8) (h : all.drop a = ts ++ R) (ha : a ≤ all.length) (n : Nat) (hn : ts.length = n) : rfix all a 0 n = (ts, a + n, 0) := by
  have hl := congrArg List.length h
  simp only [List.length_drop, List.length_append] at hl
  unfold rfix
  rw [if_neg (by simp), if_neg (by omega), if_neg (by omega), Int.toNat_natCast, h, ← hn, List.take_left]

theorem rfix_cut (all : List UInt8) (a : Nat) (n : Nat) (hn : all.length - a < n) : rfix all a 0 n = ([], a, 10) := by
  unfold rfix
  rw [if_neg (by simp), if_neg (by omega), if_pos (by omega)]

theorem beval16 (m : Nat) (h : m < 65536) : beval (be16 m) = m := by
  simp only [be16, beval, List.foldl_cons, List.foldl_nil, UInt8.toNat_ofNat']
  omega
theorem beval32 (m : Nat) (h : m < 4294967296) : beval (be32 m) = m := by
  simp only [be32, beval, List.foldl_cons, List.foldl_nil, UInt8.toNat_ofNat']
  omega
theorem beval8 (m : Nat) (h : m < 256) : beval [UInt8.ofNat m] = m := by
  simp only [beval, List.foldl_cons, List.foldl_nil, UInt8.toNat_ofNat']
  omega

/-- A field that is whole. -/
theorem rgot_whole (all : List UInt8) (a : Nat) (kind n : Int) (ys R : List UInt8) (h : all.drop a = enc kind n ys ++ R) (ha : a ≤ all.length) : rgot all a 0 kind n (ys.take 300) = (true, a + (enc kind n ys).length, 0) := by
  unfold rgot enc at *
  by_cases h0 : kind % 5 = 0
  · rw [if_pos h0] at h ⊢
    have e : rfix all a 0 (1 : Int) = ([UInt8.ofNat (n % 256).toNat], a + 1, 0) := rfix_pre all a _ R h ha 1 rfl
    rw [if_pos h0, e]
    simp only [beval8 _ (show (n % 256).toNat < 256 by omega), List.length_cons, List.length_nil]
    rw [Prod.mk.injEq]
    exact ⟨by rw [beq_iff_eq]; omega, rfl⟩
  · rw [if_neg h0] at h ⊢
    rw [if_neg h0]
    by_cases h1 : kind % 5 = 1
    · rw [if_pos h1] at h ⊢
      have e : rfix all a 0 (2 : Int) = (be16 (n % 65536).toNat, a + 2, 0) := rfix_pre all a _ R h ha 2 rfl
      rw [if_pos h1, e]
      simp only [beval16 _ (show (n % 65536).toNat < 65536 by omega), be16_length]
      rw [Prod.mk.injEq]
      exact ⟨by rw [beq_iff_eq]; omega, rfl⟩
    · rw [if_neg h1] at h ⊢
      rw [if_neg h1]
      by_cases h2 : kind % 5 = 2
      · rw [if_pos h2] at h ⊢
        have e : rfix all a 0 (4 : Int) = (be32 (n % 4294967296).toNat, a + 4, 0) := rfix_pre all a _ R h ha 4 rfl
        rw [if_pos h2, e]
        simp only [beval32 _ (show (n % 4294967296).toNat < 4294967296 by omega), be32_length]
        rw [Prod.mk.injEq]
        exact ⟨by rw [beq_iff_eq]; omega, rfl⟩
      · rw [if_neg h2] at h ⊢
        rw [if_neg h2]
        by_cases h3 : kind % 5 = 3
        · rw [if_pos h3] at h ⊢
          rw [if_pos h3, rfix_pre all a _ R h ha _ rfl]
          simp
        · rw [if_neg h3] at h ⊢
          rw [if_neg h3]
          generalize ht : ys.take 300 = ts at *
          have htl : ts.length ≤ 300 := by rw [← ht]; simp; omega
          have hl := congrArg List.length h
          simp only [List.length_drop, List.length_append, be16_length] at hl
          have e1 : (all.drop a).take 2 = be16 ts.length := by rw [h, List.append_assoc]; rfl
          have e2 : all.drop (a + 2) = ts ++ R := by
            rw [← List.drop_drop, h, List.append_assoc]; rfl
          unfold rrun
          rw [e1, beval16 _ (by omega), if_neg (by simp), if_neg (by omega), if_neg (by omega), if_neg (by omega), e2, List.take_left]
          simp [be16_length]
          omega

/-- A field that is cut. -/
theorem rgot_cut (all : List UInt8) (a : Nat) (kind n : Int) (ys T : List UInt8) (h : enc kind n ys = all.drop a ++ T) (ha : a ≤ all.length) (hc : all.length - a < (enc kind n ys).length) : (rgot all a 0 kind n (ys.take 300)).2 = (a, 10) := by
  unfold rgot
  unfold enc at h hc
  by_cases h0 : kind % 5 = 0
  · rw [if_pos h0] at h hc ⊢
    have e : rfix all a 0 (1 : Int) = ([], a, 10) := rfix_cut all a 1 (by simpa using hc)
    rw [e]
  · rw [if_neg h0] at h hc ⊢
    by_cases h1 : kind % 5 = 1
    · rw [if_pos h1] at h hc ⊢
      have e : rfix all a 0 (2 : Int) = ([], a, 10) := rfix_cut all a 2 (by rw [be16_length] at hc; exact hc)
      rw [e]
    · rw [if_neg h1] at h hc ⊢
      by_cases h2 : kind % 5 = 2
      · rw [if_pos h2] at h hc ⊢
        have e : rfix all a 0 (4 : Int) = ([], a, 10) := rfix_cut all a 4 (by rw [be32_length] at hc; exact hc)
        rw [e]
      · rw [if_neg h2] at h hc ⊢
        by_cases h3 : kind % 5 = 3
        · rw [if_pos h3] at h hc ⊢
          rw [rfix_cut all a _ hc]
        · rw [if_neg h3] at h hc ⊢
          generalize ht : ys.take 300 = ts at *
          have htl : ts.length ≤ 300 := by rw [← ht]; simp; omega
          rw [List.length_append, be16_length] at hc
          unfold rrun
          rw [if_neg (by simp)]
          by_cases hs : all.length - a < 2
          · rw [if_pos (by omega)]
          · have e1 : (all.drop a).take 2 = be16 ts.length := by
              have e0 : (all.drop a ++ T).take 2 = (be16 ts.length ++ ts).take 2 := by rw [h]
              rw [List.take_append_of_le_length (by simp; omega)] at e0
              rw [e0]; rfl
            rw [e1, beval16 _ (by omega), if_neg (by omega), if_neg (by omega), if_pos (by omega)]

theorem rgot_keep (all : List UInt8) (a : Nat) {j : Int} (kind n : Int) (ts : List UInt8) (h : (j == 0) = false) : (rgot all a j kind n ts).2 = (a, j) := by
  have k1 : ∀ n, rfix all a j n = ([], a, j) := fun n => by unfold rfix; rw [if_pos (by simpa using h)]
  have k2 : rrun all a j 300 = ([], a, j) := by unfold rrun; rw [if_pos (by simpa using h)]
  unfold rgot
  rw [k1, k1, k1, k1, k2]
  split
  · rfl
  · split
    · rfl
    · split
      · rfl
      · split <;> rfl

end Go.Proofs.Ytgfgabgnejnipaa
