import Derived.Test.YtobfebpinkikdaaHt
set_option linter.unusedVariables false
set_option linter.unusedSimpArgs false
namespace Go.Proofs.Ytobfebpinkikdaa
open Go.RowKit

def ofD (c : List UInt8) : Of := ⟨cutB c 2 32, numB (cutB c 34 4), cutB c 38 32⟩
def ofE (c : List UInt8) : Int := if begE c = 0 then (if kdD c = 3 then (if c.length < 70 then 10 else if 70 < c.length then 11 else if rightO (ofD c) then 0 else 170) else 103) else begE c
def ofV (c : List UInt8) : Of := if ofE c = 0 then ofD c else Of.z
theorem ofS_lo {c : List UInt8} (h2 : 2 ≤ c.length) (h : c.length < 70) : (ofS c (s2R c (0, 0))).2 = 10 := by
  unfold ofS
  have : (rSs c [32, 4, 32] (s2R c (0, 0))).2 = 10 := by
    rw [s2_ok h2]
    exact rSs_no h2 (by simp; omega)
  unfold eS
  rw [if_neg (fun e => by rw [this] at e; exact absurd e.1 (by decide))]
  exact this
theorem ofS_hi {c : List UInt8} (h : 70 ≤ c.length) : (ofS c (s2R c (0, 0))).2 = if 70 < c.length then 11 else 0 := by
  unfold ofS
  rw [s2_ok (by omega), rSs_ok (by simp; omega)]
  unfold eS
  by_cases h7 : 70 < c.length
  · rw [if_pos ⟨rfl, by simpa using h7⟩, if_pos h7]
  · rw [if_neg (fun e => h7 (by simpa using e.2)), if_neg h7]
theorem ofR_is {c : List UInt8} (h : 70 ≤ c.length) : ofR c (s2R c (0, 0)) = ofD c := by
  unfold ofR ofD
  rw [s2_ok (by omega), rS_ok (by omega), rS_ok (by omega), keyR_ok (by omega), rB_ok (by omega), keyR_ok (by omega)]
theorem roffer_any (vb : Value) (c : List UInt8) (w : World) (hb : Has w vb c) (hl : c.length ≤ 140737488355328) : Calls Try.prog 12 #[vb] w fun e w' => e = .returned (.tuple #[(ofV c).v, .int .i64 (ofE c)]) ∧ Below w.heap.size w w' := by
  unfold ofV
  by_cases hE : begE c = 0
  · have hK := stK_is hE
    have hE' : stE c (0, 0) = 0 := by rw [stE_is]; exact hE
    have h2 := (beg_ok hE).1
    by_cases hk : kdD c = 3
    · have hK3 : stK c (0, 0) = 3 := hK.trans hk
      by_cases h70 : c.length < 70
      · have hu : ofE c = 10 := by unfold ofE; rw [if_pos hE, if_pos hk, if_pos h70]
        have hs := ofS_lo h2 h70
        rw [hu, if_neg (by decide), ← hs]
        exact rof_E vb c w hb hl hE' hK3 (by rw [hs]; decide)
      · have hs := ofS_hi (c := c) (by omega)
        have hi := ofR_is (c := c) (by omega)
        by_cases h71 : 70 < c.length
        · have hu : ofE c = 11 := by unfold ofE; rw [if_pos hE, if_pos hk, if_neg h70, if_pos h71]
          rw [if_pos h71] at hs
          rw [hu, if_neg (by decide), ← hs]
          exact rof_E vb c w hb hl hE' hK3 (by rw [hs]; decide)
        · rw [if_neg h71] at hs
          by_cases hR : rightO (ofD c)
          · have hu : ofE c = 0 := by unfold ofE; rw [if_pos hE, if_pos hk, if_neg h70, if_neg h71, if_pos hR]
            rw [hu, if_pos rfl, ← hi]
            exact rof_ok vb c w hb hl hE' hK3 hs (by rw [hi]; exact decide_eq_true hR)
          · have hu : ofE c = 170 := by unfold ofE; rw [if_pos hE, if_pos hk, if_neg h70, if_neg h71, if_neg hR]
            rw [hu, if_neg (by decide)]
            exact rof_R vb c w hb hl hE' hK3 hs (by rw [hi]; exact decide_eq_false hR)
    · have hu : ofE c = 103 := by unfold ofE; rw [if_pos hE, if_neg hk]
      rw [hu, if_neg (by decide)]
      refine rof_B vb c w hb hl hE' ?_
      rw [show stK c (0, 0) = kdD c from hK]; omega
  · have hu : ofE c = begE c := by unfold ofE; rw [if_neg hE]
    rw [hu, if_neg hE, ← stE_is]
    exact rof_A vb c w hb hl (by rw [show stE c (0, 0) = begE c from stE_is c]; exact hE)
theorem cutB_mid {c a m b : List UInt8} {o n : Nat} (hc : c = a ++ (m ++ b)) (ho : a.length = o) (hn : m.length = n) : cutB c o n = m := by
  unfold cutB
  rw [hc, ← ho, List.drop_left, ← hn, List.take_left]
theorem cutB_add (c : List UInt8) (a m n : Nat) : cutB c a m ++ cutB c (a + m) n = cutB c a (m + n) := by
  unfold cutB
  rw [← List.drop_drop, List.take_add]
theorem numB_be32 {n : Nat} (h : n < 4294967296) : numB (be32 n) = n := by
  have e : ∀ x, (UInt8.ofNat (x % 256)).toNat = x % 256 := fun x => by rw [UInt8.toNat_ofNat', Nat.mod_eq_of_lt (by omega)]
  simp only [numB, be32, shB, List.foldl_cons, List.foldl_nil, e]
  omega
theorem numB_lenB {n : Nat} (h : n < 65536) : numB (lenB n) = n := by
  have e : ∀ x, x < 256 → (UInt8.ofNat x).toNat = x := fun x hx => by rw [UInt8.toNat_ofNat', Nat.mod_eq_of_lt (by omega)]
  simp only [numB, lenB, List.foldl_cons, List.foldl_nil, e (n / 256) (by omega), e (n % 256) (by omega)]
  omega
theorem be32_numB {bs : List UInt8} (h : bs.length = 4) : be32 (numB bs) = bs := by
  match bs, h with
  | [a, b, c, d], _ =>
    have ha := a.toNat_lt
    have hb := b.toNat_lt
    have hc := c.toNat_lt
    have hd := d.toNat_lt
    have e : ∀ (x : Nat) (u : UInt8), x = u.toNat → UInt8.ofNat x = u := fun x u hx => by rw [hx]; exact UInt8.ofNat_toNat
    simp only [numB, be32, shB, List.foldl_cons, List.foldl_nil]
    rw [e _ a (by omega), e _ b (by omega), e _ c (by omega), e _ d (by omega)]
theorem lenB_numB {bs : List UInt8} (h : bs.length = 2) : lenB (numB bs) = bs := by
  match bs, h with
  | [a, b], _ =>
    have ha := a.toNat_lt
    have hb := b.toNat_lt
    have e : ∀ (x : Nat) (u : UInt8), x = u.toNat → UInt8.ofNat x = u := fun x u hx => by rw [hx]; exact UInt8.ofNat_toNat
    simp only [numB, lenB, List.foldl_cons, List.foldl_nil]
    rw [e _ a (by omega), e _ b (by omega)]
theorem one_numB {bs : List UInt8} (h : bs.length = 1) : [UInt8.ofNat (numB bs)] = bs := by
  match bs, h with
  | [a], _ => simp [numB]
/-- A packet's parts in its bytes. -/
theorem packB_1 (h : Hl) (d : Hd) (body : List UInt8) : packB 1 h d body = [1] ++ ([1] ++ (h.id ++ (h.once ++ (be32 h.pre ++ (d.sid ++ (be32 d.turn ++ (d.key ++ (be32 d.prev ++ (be32 d.n ++ (lenB body.length ++ body)))))))))) := by simp [packB, encL, encH]
theorem packB_2 (h : Hl) (d : Hd) (body : List UInt8) : packB 2 h d body = [1] ++ ([2] ++ (d.sid ++ (be32 d.turn ++ (d.key ++ (be32 d.prev ++ (be32 d.n ++ (lenB body.length ++ body))))))) := by simp [packB, encH]
theorem packB_len {k : Nat} (hk : k = 1 ∨ k = 2) {h : Hl} (kh : h.ok) {d : Hd} (kd : d.ok) (body : List UInt8) : (packB k h d body).length = atD k + 62 + body.length := by
  rcases hk with rfl | rfl
  · simp [packB, encL_len kh, encH_len kd, lenB, atD]; omega
  · simp [packB, encH_len kd, lenB, atD]; omega
theorem hdD_mid {c a b : List UInt8} {o : Nat} {d : Hd} (kd : d.ok) (hc : c = a ++ (encH d ++ b)) (ho : a.length = o) : hdD c o = d := by
  unfold hdD
  have e1 : cutB c o 16 = d.sid := cutB_mid (a := a) (b := be32 d.turn ++ (d.key ++ (be32 d.prev ++ (be32 d.n ++ b)))) (by rw [hc]; simp [encH]) ho kd.s
  have e2 : cutB c (o + 16) 4 = be32 d.turn := cutB_mid (a := a ++ d.sid) (b := d.key ++ (be32 d.prev ++ (be32 d.n ++ b))) (by rw [hc]; simp [encH]) (by simp [ho, kd.s]) rfl
  have e3 : cutB c (o + 20) 32 = d.key := cutB_mid (a := a ++ (d.sid ++ be32 d.turn)) (b := be32 d.prev ++ (be32 d.n ++ b)) (by rw [hc]; simp [encH]) (by simp [ho, kd.s, be32_len]) kd.k
  have e4 : cutB c (o + 52) 4 = be32 d.prev := cutB_mid (a := a ++ (d.sid ++ (be32 d.turn ++ d.key))) (b := be32 d.n ++ b) (by rw [hc]; simp [encH]) (by simp [ho, kd.s, kd.k, be32_len]) rfl
  have e5 : cutB c (o + 56) 4 = be32 d.n := cutB_mid (a := a ++ (d.sid ++ (be32 d.turn ++ (d.key ++ be32 d.prev)))) (b := b) (by rw [hc]; simp [encH]) (by simp [ho, kd.s, kd.k, be32_len]) rfl
  rw [e1, e2, e3, e4, e5, numB_be32 kd.t, numB_be32 kd.p, numB_be32 kd.n]
theorem pack_beg {k : Nat} (hk : k = 1 ∨ k = 2) {h : Hl} (kh : h.ok) {d : Hd} (kd : d.ok) (body : List UInt8) : begE (packB k h d body) = 0 := by
  have hl := packB_len hk kh kd body
  have hat : 2 ≤ atD k := by unfold atD; split <;> omega
  unfold begE
  rw [if_neg (by omega), if_pos]
  rw [cutB_mid (o := 0) (n := 1) (a := []) (m := [1]) (b := [UInt8.ofNat k] ++ ((if k = 1 then encL h else []) ++ (encH d ++ (lenB body.length ++ body)))) (by simp [packB]) rfl rfl]
  rfl
theorem pack_kd {k : Nat} (hk : k = 1 ∨ k = 2) {h : Hl} (kh : h.ok) {d : Hd} (kd : d.ok) (body : List UInt8) : kdD (packB k h d body) = k := by
  unfold kdD
  rw [cutB_mid (o := 1) (n := 1) (a := [1]) (m := [UInt8.ofNat k]) (b := (if k = 1 then encL h else []) ++ (encH d ++ (lenB body.length ++ body))) (by simp [packB]) rfl rfl]
  rcases hk with rfl | rfl <;> rfl
theorem pack_hd {k : Nat} (hk : k = 1 ∨ k = 2) {h : Hl} (kh : h.ok) {d : Hd} (kd : d.ok) (body : List UInt8) : hdD (packB k h d body) (atD k) = d := by
  refine hdD_mid kd (a := [1, UInt8.ofNat k] ++ (if k = 1 then encL h else [])) (b := lenB body.length ++ body) (by simp [packB]) ?_
  rcases hk with rfl | rfl
  · simp [encL_len kh, atD]
  · simp [atD]
theorem pack_hl {k : Nat} (hk : k = 1 ∨ k = 2) {h : Hl} (kh : h.ok) {d : Hd} (kd : d.ok) (body : List UInt8) (hs : suitD k h) : hlD (packB k h d body) k = h := by
  rcases hk with rfl | rfl
  · unfold hlD
    rw [if_pos rfl]
    have e1 : cutB (packB 1 h d body) 2 32 = h.id := cutB_mid (a := [1, 1]) (by rw [packB_1]; simp; rfl) rfl kh.i
    have e2 : cutB (packB 1 h d body) 34 32 = h.once := cutB_mid (a := [1, 1] ++ h.id) (by rw [packB_1]; simp; rfl) (by simp [kh.i]) kh.o
    have e3 : cutB (packB 1 h d body) 66 4 = be32 h.pre := cutB_mid (a := [1, 1] ++ (h.id ++ h.once)) (by rw [packB_1]; simp; rfl) (by simp [kh.i, kh.o]) rfl
    rw [e1, e2, e3, numB_be32 kh.p]
  · unfold hlD
    rw [if_neg (by decide)]
    exact (hs.1 rfl).symm
theorem pack_n {k : Nat} (hk : k = 1 ∨ k = 2) {h : Hl} (kh : h.ok) {d : Hd} (kd : d.ok) (body : List UInt8) (hb : body.length < 65536) : nD (packB k h d body) k = body.length := by
  unfold nD
  rw [cutB_mid (o := atD k + 60) (n := 2) (a := [1, UInt8.ofNat k] ++ ((if k = 1 then encL h else []) ++ encH d)) (m := lenB body.length) (b := body) (by simp [packB]) ?_ rfl, numB_lenB hb]
  rcases hk with rfl | rfl
  · simp [encL_len kh, encH_len kd, atD]
  · simp [encH_len kd, atD]
theorem pack_bo {k : Nat} (hk : k = 1 ∨ k = 2) {h : Hl} (kh : h.ok) {d : Hd} (kd : d.ok) (body : List UInt8) : boD (packB k h d body) = body := by
  unfold boD
  rw [pack_kd hk kh kd body]
  have e : packB k h d body = ([1, UInt8.ofNat k] ++ ((if k = 1 then encL h else []) ++ (encH d ++ lenB body.length))) ++ body := by simp [packB]
  have hl : atD k + 62 = ([1, UInt8.ofNat k] ++ ((if k = 1 then encL h else []) ++ (encH d ++ lenB body.length))).length := by
    rcases hk with rfl | rfl
    · simp [encL_len kh, encH_len kd, atD, lenB]
    · simp [encH_len kd, atD, lenB]
  rw [e, hl, List.drop_left]
theorem pack_un {k : Nat} (hk : k = 1 ∨ k = 2) {h : Hl} (kh : h.ok) {d : Hd} (kd : d.ok) (body : List UInt8) (hf : fltD k h body.length = 0) : unE (packB k h d body) = 0 := by
  obtain ⟨_, hs, hb1, hb2⟩ := flt_ok hf
  unfold unE
  rw [if_pos (pack_beg hk kh kd body), pack_kd hk kh kd body, if_pos hk, packB_len hk kh kd body, if_neg (by omega), pack_hl hk kh kd body hs, pack_n hk kh kd body (by omega), if_pos hf]
  unfold tailE
  rw [packB_len hk kh kd body, if_neg (by omega), if_neg (by omega)]
theorem pack_pk {k : Nat} (hk : k = 1 ∨ k = 2) {h : Hl} (kh : h.ok) {d : Hd} (kd : d.ok) (body : List UInt8) (hf : fltD k h body.length = 0) (v : Value) : pkD (packB k h d body) v = ⟨(k : Int), h, d, v⟩ := by
  obtain ⟨_, hs, hb1, hb2⟩ := flt_ok hf
  unfold pkD
  rw [pack_kd hk kh kd body, pack_hl hk kh kd body hs, pack_hd hk kh kd body]
theorem pack_of {k : Nat} (hk : k = 1 ∨ k = 2) {h : Hl} (kh : h.ok) {d : Hd} (kd : d.ok) (body : List UInt8) : ofE (packB k h d body) = 103 := by
  unfold ofE
  rw [if_pos (pack_beg hk kh kd body), pack_kd hk kh kd body, if_neg (by rcases hk with rfl | rfl <;> decide)]
theorem off_beg {o : Of} (ko : o.ok) : begE (offB o) = 0 := by
  unfold begE
  rw [offB_len ko, if_neg (by decide), if_pos]
  rw [cutB_mid (o := 0) (n := 1) (a := []) (m := [1]) (b := [3] ++ (o.id ++ (be32 o.pre ++ o.key))) (by simp [offB]) rfl rfl]
  rfl
theorem off_kd {o : Of} (ko : o.ok) : kdD (offB o) = 3 := by
  unfold kdD
  rw [cutB_mid (o := 1) (n := 1) (a := [1]) (m := [3]) (b := o.id ++ (be32 o.pre ++ o.key)) (by simp [offB]) rfl rfl]
  rfl
theorem off_of {o : Of} (ko : o.ok) : ofD (offB o) = o := by
  unfold ofD
  have e1 : cutB (offB o) 2 32 = o.id := cutB_mid (a := [1, 3]) rfl rfl ko.i
  have e2 : cutB (offB o) 34 4 = be32 o.pre := cutB_mid (a := [1, 3] ++ o.id) (b := o.key) (by simp [offB]) (by simp [ko.i]) rfl
  have e3 : cutB (offB o) 38 32 = o.key := cutB_mid (a := [1, 3] ++ (o.id ++ be32 o.pre)) (b := []) (by simp [offB]) (by simp [ko.i, be32_len]) ko.k
  rw [e1, e2, e3, numB_be32 ko.p]
theorem off_E {o : Of} (ko : o.ok) (hr : rightO o) : ofE (offB o) = 0 := by
  unfold ofE
  rw [if_pos (off_beg ko), off_kd ko, if_pos rfl, offB_len ko, if_neg (by decide), if_neg (by decide), off_of ko, if_pos hr]
theorem off_un {o : Of} (ko : o.ok) : unE (offB o) = 103 := by
  unfold unE
  rw [if_pos (off_beg ko), off_kd ko, if_neg (by decide)]
theorem encH_is {c : List UInt8} {a : Nat} (h : a + 60 ≤ c.length) : encH (hdD c a) = cutB c a 60 := by
  unfold encH hdD
  dsimp only
  rw [be32_numB (cutB_len (by omega)), be32_numB (cutB_len (by omega)), be32_numB (cutB_len (by omega))]
  have e4 := cutB_add c (a + 52) 4 4
  have e3 := cutB_add c (a + 20) 32 8
  have e2 := cutB_add c (a + 16) 4 40
  have e1 := cutB_add c a 16 44
  rw [Nat.add_assoc] at e4 e3 e2
  rw [e4, e3, e2, e1]
/-- The bytes that are taken are the packet's own. -/
theorem pack_back {c : List UInt8} (hu : unE c = 0) : packB (kdD c) (hlD c (kdD c)) (hdD c (atD (kdD c))) (boD c) = c ∧ (kdD c = 1 ∨ kdD c = 2) ∧ fltD (kdD c : Int) (hlD c (kdD c)) (boD c).length = 0 ∧ (hlD c (kdD c)).ok ∧ (hdD c (atD (kdD c))).ok := by
  unfold unE at hu
  by_cases hE : begE c = 0
  · rw [if_pos hE] at hu
    by_cases hk : kdD c = 1 ∨ kdD c = 2
    · rw [if_pos hk] at hu
      by_cases h62 : c.length < atD (kdD c) + 62
      · rw [if_pos h62] at hu; omega
      · rw [if_neg h62] at hu
        by_cases hF : fltD (kdD c : Int) (hlD c (kdD c)) (nD c (kdD c)) = 0
        · rw [if_pos hF] at hu
          have ht := tail_ok hu
          obtain ⟨h2, hv⟩ := beg_ok hE
          have hbl : (boD c).length = nD c (kdD c) := by unfold boD; rw [List.length_drop]; omega
          have hln : lenB (boD c).length = cutB c (atD (kdD c) + 60) 2 := by rw [hbl]; exact lenB_numB (cutB_len (by omega))
          have hst : [1, UInt8.ofNat (kdD c)] = cutB c 0 2 := by
            have e1 := one_numB (bs := cutB c 0 1) (cutB_len (by omega))
            have e2 := one_numB (bs := cutB c 1 1) (cutB_len (by omega))
            rw [hv] at e1
            have := cutB_add c 0 1 1
            rw [← this, ← e1, show cutB c (0 + 1) 1 = cutB c 1 1 from rfl, ← e2]
            rfl
          have hmid : (if kdD c = 1 then encL (hlD c (kdD c)) else []) = cutB c 2 (atD (kdD c) - 2) := by
            rcases hk with e | e
            · rw [e, if_pos rfl]
              rw [e] at h62
              have h62' : 132 ≤ c.length := by simpa [atD] using h62
              unfold encL hlD
              rw [if_pos rfl]
              dsimp only
              rw [be32_numB (cutB_len (by omega))]
              have e2 := cutB_add c 34 32 4
              have e1 := cutB_add c 2 32 36
              rw [e2, e1]; rfl
            · rw [e, if_neg (by decide)]; rfl
          have hat : 2 + (atD (kdD c) - 2) = atD (kdD c) := by unfold atD; split <;> rfl
          refine ⟨?_, hk, by rw [hbl]; exact hF, ?_, ?_⟩
          · unfold packB
            rw [hst, hmid, encH_is (by omega), hln]
            have e0 : boD c = cutB c (atD (kdD c) + 62) (nD c (kdD c)) := by
              unfold boD cutB
              exact (List.take_of_length_le (by rw [List.length_drop]; omega)).symm
            rw [e0]
            have e1 := cutB_add c (atD (kdD c) + 60) 2 (nD c (kdD c))
            have e2 := cutB_add c (atD (kdD c)) 60 (2 + nD c (kdD c))
            have e3 := cutB_add c 2 (atD (kdD c) - 2) (60 + (2 + nD c (kdD c)))
            have e4 := cutB_add c 0 2 (atD (kdD c) - 2 + (60 + (2 + nD c (kdD c))))
            rw [Nat.add_assoc] at e1
            rw [hat] at e3
            rw [Nat.zero_add] at e4
            rw [e1, e2, e3, e4]
            unfold cutB
            rw [List.drop_zero]
            exact List.take_of_length_le (by omega)
          · rcases hk with e | e
            · rw [e] at h62 ⊢
              have h62' : 132 ≤ c.length := by simpa [atD] using h62
              unfold hlD
              rw [if_pos rfl]
              exact ⟨cutB_len (by omega), cutB_len (by omega), numB_32 _ (by rw [cutB_len (by omega)]; exact Nat.le_refl _)⟩
            · rw [e]; exact Hl.z_ok
          · unfold hdD
            exact ⟨cutB_len (by omega), numB_32 _ (by rw [cutB_len (by omega)]; exact Nat.le_refl _), cutB_len (by omega), numB_32 _ (by rw [cutB_len (by omega)]; exact Nat.le_refl _), numB_32 _ (by rw [cutB_len (by omega)]; exact Nat.le_refl _)⟩
        · rw [if_neg hF] at hu
          exact absurd hu hF
    · rw [if_neg hk] at hu; omega
  · rw [if_neg hE] at hu
    exact absurd hu hE
theorem off_back {c : List UInt8} (hu : ofE c = 0) : offB (ofD c) = c ∧ (ofD c).ok ∧ rightO (ofD c) ∧ kdD c = 3 ∧ begE c = 0 := by
  unfold ofE at hu
  by_cases hE : begE c = 0
  · rw [if_pos hE] at hu
    by_cases hk : kdD c = 3
    · rw [if_pos hk] at hu
      by_cases h1 : c.length < 70
      · rw [if_pos h1] at hu; omega
      · rw [if_neg h1] at hu
        by_cases h2 : 70 < c.length
        · rw [if_pos h2] at hu; omega
        · rw [if_neg h2] at hu
          by_cases hR : rightO (ofD c)
          · obtain ⟨_, hv⟩ := beg_ok hE
            refine ⟨?_, ⟨cutB_len (by omega), numB_32 _ (by rw [cutB_len (by omega)]; exact Nat.le_refl _), cutB_len (by omega)⟩, hR, hk, hE⟩
            have hst : [1, 3] = cutB c 0 2 := by
              have e1 := one_numB (bs := cutB c 0 1) (cutB_len (by omega))
              have e2 := one_numB (bs := cutB c 1 1) (cutB_len (by omega))
              rw [hv] at e1
              have h3 : numB (cutB c 1 1) = 3 := hk
              rw [h3] at e2
              have := cutB_add c 0 1 1
              rw [← this, ← e1, show cutB c (0 + 1) 1 = cutB c 1 1 from rfl, ← e2]
              rfl
            unfold offB ofD
            dsimp only
            rw [hst, be32_numB (cutB_len (by omega))]
            have e1 := cutB_add c 34 4 32
            have e2 := cutB_add c 2 32 36
            have e3 := cutB_add c 0 2 68
            rw [e1, e2, e3]
            unfold cutB
            rw [List.drop_zero]
            exact List.take_of_length_le (by omega)
          · rw [if_neg hR] at hu; omega
    · rw [if_neg hk] at hu; omega
  · rw [if_neg hE] at hu
    exact absurd hu hE
end Go.Proofs.Ytobfebpinkikdaa
