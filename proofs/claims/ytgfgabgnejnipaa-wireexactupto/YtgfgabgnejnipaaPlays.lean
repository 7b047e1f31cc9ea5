import Derived.Test.YtgfgabgnejnipaaWp2
import Derived.Test.YtgfgabgnejnipaaWp3
import Derived.Test.YtgfgabgnejnipaaWp4
import Derived.Test.YtgfgabgnejnipaaRp1
import Derived.Test.YtgfgabgnejnipaaRp2
import Derived.Test.YtgfgabgnejnipaaRp3
import Derived.Test.YtgfgabgnejnipaaPp2
namespace Go.Proofs.Ytgfgabgnejnipaa
open Go.RowKit

def full : Nat → Prop := fun _ => True

theorem Tab.mono {w : World} {T : Nat} {X : Nat → Thing} {n n' : Nat} {fw fr fw' fr' : Nat → Prop} (h : Tab w T X n fw fr) (hn : n ≤ n') (h1 : ∀ j, j < 2 → fw' j → fw j) (h2 : ∀ j, j < 2 → fr' j → fr j) : Tab w T X n' fw' fr' := by
  obtain ⟨cs, L, V, ls, vs, a, b, c, d⟩ := h.bk
  exact ⟨h.fam, ⟨cs, L, V, ls, vs, a, Nat.le_trans b hn, fun k hk hf => c k hk (h1 k hk hf), fun k hk hf => d k hk (h2 k hk hf)⟩, h.tmp⟩
theorem Tab.below {w w' : World} {T : Nat} {X : Nat → Thing} {n : Nat} {fw fr : Nat → Prop} (h : Tab w T X n fw fr) (hb : Below w.heap.size w w') : Tab w' T X n fw fr := ⟨h.fam.below hb, h.bk, h.tmp⟩
theorem Left.mono {w : World} {T : Nat} {X : Nat → Thing} {n n' : Nat} {fw fr fw' fr' : Nat → Prop} (h : Left w T X n fw fr) (hn : n ≤ n') (h1 : ∀ j, j < 2 → fw' j → fw j) (h2 : ∀ j, j < 2 → fr' j → fr j) : Left w T X n' fw' fr' := by
  obtain ⟨X', h, o⟩ := h
  exact ⟨X', h.mono hn h1 h2, o⟩
theorem Left.up {w : World} {T : Nat} {X : Nat → Thing} {n : Nat} {fw fr : Nat → Prop} (h : Left w T X n fw fr) : Left w T X (n + 2) fw fr := h.mono (by omega) (fun _ _ h => h) (fun _ _ h => h)

theorem plain_any (T n : Nat) (X : Nat → Thing) (K which N : Int) (B C : Value) (S : ByteArray) (bB bC : List UInt8) (w : World) (ht : Tab w T X n full full) (hA : Args (X 9) B C bB bC) (hn9 : n ≤ 900) (hSz : S.size ≤ 1048576) (h1 : 1 ≤ K) (h2 : K ≤ 4) :
    Calls Try.prog 61 #[.pointer (some ⟨T, 0, none⟩), .agg #[.int .i64 K, .int .i64 which, .int .i64 N, B, C, .string S]] w fun e w' => e = .returned (.bool true) ∧ Left w' T X (n + 2) full full := by
  obtain rfl | rfl | rfl | rfl : K = 1 ∨ K = 2 ∨ K = 3 ∨ K = 4 := by omega
  · exact plain1 T n X which N B C S bB bC w _ _ ht hA hn9
  · exact plain2 T n X which N B C S bB bC w _ _ ht hA hn9
  · exact plain3 T n X which N B C S bB bC w _ _ ht hA hn9
  · exact plain4 T n X which N B C S bB bC w _ _ ht hA hn9 hSz

theorem writes_any (T n : Nat) (X : Nat → Thing) (K which N : Int) (B C : Value) (S : ByteArray) (bB bC : List UInt8) (w : World) (ht : Tab w T X n full full) (hA : Args (X 9) B C bB bC) (hn9 : n ≤ 900) (h1 : 5 ≤ K) (h2 : K ≤ 11) :
    Calls Try.prog 35 #[.pointer (some ⟨T, 0, none⟩), .agg #[.int .i64 K, .int .i64 which, .int .i64 N, B, C, .string S]] w fun e w' => e = .returned (.bool true) ∧ Left w' T X (n + 2) full full := by
  obtain rfl | rfl | rfl | rfl | rfl | rfl | rfl : K = 5 ∨ K = 6 ∨ K = 7 ∨ K = 8 ∨ K = 9 ∨ K = 10 ∨ K = 11 := by omega
  · obtain ⟨k, hk, hkk⟩ := and1 which
    by_cases hN : N < 0 ∨ 1048576 < N
    · exact (writes5_bad T n X which k hk hkk N B C S bB bC w _ _ ht hA hN).mono fun e w' ⟨h1, h2⟩ => ⟨h1, h2.up⟩
    · obtain ⟨m, rfl⟩ := Int.eq_ofNat_of_zero_le (show 0 ≤ N by omega)
      exact (writes5_ok T n X which k hk hkk m B C S bB bC w _ _ ht hA (by omega)).mono fun e w' ⟨h1, h2⟩ => ⟨h1, (h2.mono (Nat.le_refl _) (fun _ _ h => .inl h) (fun _ _ h => h)).up⟩
  · exact (writes6 T n X which N B C S bB bC w _ _ ht (fun _ _ => trivial) hA).mono fun e w' ⟨h1, h2⟩ => ⟨h1, h2.up⟩
  · exact (writes7 T n X which N B C S bB bC w _ _ ht (fun _ _ => trivial) hA).mono fun e w' ⟨h1, h2⟩ => ⟨h1, h2.up⟩
  · exact (writes8 T n X which N B C S bB bC w _ _ ht (fun _ _ => trivial) hA).mono fun e w' ⟨h1, h2⟩ => ⟨h1, h2.up⟩
  · exact (writes9 T n X which N B C S bB bC w _ _ ht (fun _ _ => trivial) hA).mono fun e w' ⟨h1, h2⟩ => ⟨h1, h2.up⟩
  · exact (writes10 T n X which N B C S bB bC w _ _ ht (fun _ _ => trivial) hA).mono fun e w' ⟨h1, h2⟩ => ⟨h1, h2.up⟩
  · exact writes11 T n X which N B C S bB bC w _ _ ht (fun _ _ => trivial) hA hn9

theorem reads_any (T n : Nat) (X : Nat → Thing) (K which N : Int) (B C : Value) (S : ByteArray) (bB bC : List UInt8) (w : World) (ht : Tab w T X n full full) (hA : Args (X 9) B C bB bC) (hn9 : n ≤ 900) (h1 : 12 ≤ K) (h2 : K ≤ 19) :
    Calls Try.prog 36 #[.pointer (some ⟨T, 0, none⟩), .agg #[.int .i64 K, .int .i64 which, .int .i64 N, B, C, .string S]] w fun e w' => e = .returned (.bool true) ∧ Left w' T X (n + 2) full full := by
  obtain rfl | rfl | rfl | rfl | rfl | rfl | rfl | rfl : K = 12 ∨ K = 13 ∨ K = 14 ∨ K = 15 ∨ K = 16 ∨ K = 17 ∨ K = 18 ∨ K = 19 := by omega
  · obtain ⟨k, hk, hkk⟩ := and1 which
    exact (reads12 T n X which k hk hkk N B C S bB bC w _ _ ht hA).mono fun e w' ⟨h1, h2⟩ => ⟨h1, (h2.mono (Nat.le_refl _) (fun _ _ h => h) (fun _ _ h => .inl h)).up⟩
  · exact (reads13 T n X which N B C S w _ _ ht (fun _ _ => trivial)).mono fun e w' ⟨h1, h2⟩ => ⟨h1, h2.up⟩
  · exact (reads14 T n X which N B C S w _ _ ht (fun _ _ => trivial)).mono fun e w' ⟨h1, h2⟩ => ⟨h1, h2.up⟩
  · exact (reads15 T n X which N B C S w _ _ ht (fun _ _ => trivial)).mono fun e w' ⟨h1, h2⟩ => ⟨h1, h2.up⟩
  · exact reads16 T n X which N B C S w _ _ ht (fun _ _ => trivial) hn9
  · exact reads17 T n X which N B C S w _ _ ht (fun _ _ => trivial) hn9
  · exact (reads18 T n X which N B C S w _ _ ht (fun _ _ => trivial)).mono fun e w' ⟨h1, h2⟩ => ⟨h1, h2.up⟩
  · exact (reads19 T n X which N B C S w _ _ ht (fun _ _ => trivial)).mono fun e w' ⟨h1, h2⟩ => ⟨h1, h2.up⟩
set_option maxRecDepth 100000 in
set_option maxHeartbeats 4000000 in
theorem plays_any (T n : Nat) (X : Nat → Thing) (K which N : Int) (B C : Value) (S : ByteArray) (bB bC : List UInt8) (w : World) (ht : Tab w T X n full full) (hA : Args (X 9) B C bB bC) (hSz : S.size ≤ 1048576) (hn9 : n ≤ 900) :
    Calls Try.prog 37 #[.pointer (some ⟨T, 0, none⟩), .agg #[.int .i64 K, .int .i64 which, .int .i64 N, B, C, .string S]] w fun e w' => e = .returned (.bool true) ∧ Left w' T X (n + 2) full full := by
  have H1 := hide (ht.below (below_new w (.cells #[.int .i64 K, .int .i64 which, .int .i64 N, B, C, .string S] 73)))
  have HA := hide hA
  have HSz := hide hSz
  clear ht hA hSz
  by_cases k1 : 1 ≤ K
  · by_cases k2 : K ≤ 4
    · go_enter Try.func37, Try.ntmps37
      go_wp2_with fail
      refine (plain_any T n X K which N B C S bB bC _ H1.out HA.out hn9 HSz.out k1 k2).mono ?_
      rintro e w2 ⟨rfl, h2⟩
      have H2 := hide h2
      clear h2
      go_wp2_with fail
      go_ret
      exact ⟨rfl, H2.out⟩
    · by_cases k3 : 5 ≤ K
      · by_cases k4 : K ≤ 11
        · go_enter Try.func37, Try.ntmps37
          go_wp2_with fail
          refine (writes_any T n X K which N B C S bB bC _ H1.out HA.out hn9 k3 k4).mono ?_
          rintro e w2 ⟨rfl, h2⟩
          have H2 := hide h2
          clear h2
          go_wp2_with fail
          go_ret
          exact ⟨rfl, H2.out⟩
        · by_cases k5 : 12 ≤ K
          · by_cases k6 : K ≤ 19
            · go_enter Try.func37, Try.ntmps37
              go_wp2_with fail
              refine (reads_any T n X K which N B C S bB bC _ H1.out HA.out hn9 k5 k6).mono ?_
              rintro e w2 ⟨rfl, h2⟩
              have H2 := hide h2
              clear h2
              go_wp2_with fail
              go_ret
              exact ⟨rfl, H2.out⟩
            · go_enter Try.func37, Try.ntmps37
              go_wp2_with fail
              go_ret
              exact ⟨rfl, (show Left _ T X n full full from ⟨X, H1.out, fun _ _ => rfl⟩).up⟩
          · omega
      · omega
  · have k3 : ¬ 5 ≤ K := by omega
    have k5 : ¬ 12 ≤ K := by omega
    go_enter Try.func37, Try.ntmps37
    go_wp2_with fail
    go_ret
    exact ⟨rfl, (show Left _ T X n full full from ⟨X, H1.out, fun _ _ => rfl⟩).up⟩

end Go.Proofs.Ytgfgabgnejnipaa
