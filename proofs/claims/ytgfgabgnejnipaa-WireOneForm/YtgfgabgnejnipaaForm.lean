import Derived.Test.YtgfgabgnejnipaaUnhex
import Derived.Lib.ConvBytes
namespace Go.Proofs.Ytgfgabgnejnipaa
open Go.RowKit

theorem list_str (l : List UInt8) : (⟨l.toArray⟩ : ByteArray).data.toList = l := by simp

theorem unhex_hex (bs : List UInt8) (h : ByteArray) (w : World) (hh : h.data.toList = hexOf bs) (hn : bs.length ≤ 140737488351232) :
    Calls Try.prog 9 #[.string h] w fun e w' => ∃ ao cap, e = .returned (.tuple #[.slice ao bs.length cap, .int .i64 0]) ∧ Has w' (.slice ao bs.length cap) bs ∧ Below w.heap.size w w' := by
  have hs : h.size = 2 * bs.length := by
    have := congrArg List.length hh
    rw [hexOf_length, Array.length_toList] at this
    exact this
  refine (unhex_any h w (by omega)).mono fun e w' ⟨h1, h2⟩ => ?_
  rcases h2 with ⟨bs', v, e1, e2, e3⟩ | ⟨h2, _⟩
  · have : bs' = bs := hexOf_inj _ _ (e1.symm.trans hh)
    subst this
    obtain ⟨ao, cap, rfl⟩ := e3.slice
    exact ⟨ao, cap, e2, e3.has, h1⟩
  · exact absurd hh (h2 bs)

theorem bytes_has (W : World) (s : ByteArray) : Has (Lib.bytesWorld W 5 s) (.slice (some ⟨W.heap.size, 0, none⟩) s.size (grownCap W s.size 0 5)) s.data.toList := by
  have hl : s.data.toList.length = s.size := by rw [Array.length_toList]; rfl
  refine .inr ⟨_, _, by rw [hl], ?_, fun i u hu => ?_⟩
  · rw [hl]; exact grownCap_ge ..
  · rw [add_plain]
    have hi : i < s.size := by
      rcases Nat.lt_or_ge i s.size with h | h
      · exact h
      · rw [List.getElem?_eq_none (by omega)] at hu; cases hu
    rw [Lib.bytesWorld_cell W 5 s i hi]
    simp only [List.getD_eq_getElem?_getD, hu, Option.getD_some, byt]

theorem bytes_below (W : World) (s : ByteArray) : Below W.heap.size W (Lib.bytesWorld W 5 s) :=
  ⟨rfl, rfl, rfl, by rw [Lib.bytesWorld_size]; omega, fun k hk => Lib.bytesWorld_at_old W 5 s k hk⟩

set_option maxRecDepth 100000 in
set_option maxHeartbeats 2000000 in
theorem oneForm_any (s : ByteArray) (v : Value) (bs : List UInt8) (w : World) (hs : s.size ≤ 140737488351232) (hv : Has w v bs) (hn : bs.length ≤ 140737488351232) :
    Calls Try.prog 3 #[.string s, v] w fun e w' => e = .returned (.bool true) ∧ Below w.heap.size w w' := by
  have hlen := hv.len
  have HV := hide hv
  clear hv
  obtain ⟨h, hh⟩ : ∃ h : ByteArray, h = ⟨(hexOf bs).toArray⟩ := ⟨_, rfl⟩
  have hh1 : Hid (h.data.toList = hexOf bs) := by rw [hh]; exact list_str _
  have hsz : (h.size : Int) = 2 * (bs.length : Int) := by
    have := congrArg List.length hh1.out
    rw [hexOf_length, Array.length_toList] at this
    have e : h.data.size = h.size := rfl
    omega
  have hcv := fun W => Lib.run_convert_string_bytes (P := Try.prog) W 9 22 5 s Try.underlying9 Try.underlying22 Try.underlying5
  have HH := hide hh
  clear hh
  go_enter Try.func3, Try.ntmps3
  go_wp2_with fail
  refine (hex_any _ bs _ HV.out hn).mono ?_
  rintro e w1 ⟨rfl, hb1⟩
  rw [← HH.out]
  have HB1 := hide hb1
  clear hb1
  go_wp2_with fail
  refine (unhex_hex bs h _ hh1.out hn).mono ?_
  rintro e w2 ⟨ao, cap, rfl, hh2, hb2⟩
  have HB2 := hide (bel_chain HB1.out hb2)
  have HH2 := hide hh2
  clear hh2 hb2 HB1
  go_wp2_with fail
  refine (eq_yes _ _ bs _ HH2.out (HV.out.below HB2.out)).mono ?_
  rintro e w3 ⟨rfl, rfl⟩
  go_wp2_with fail
  refine (unhex_any s _ (by omega)).mono ?_
  rintro e w3 ⟨hb3, ⟨ds, r, e1, rfl, ho⟩ | ⟨hno, rfl⟩⟩
  · obtain ⟨ao3, cap3, rfl⟩ := ho.slice
    have HB3 := hide (bel_chain HB2.out hb3)
    have HO := hide ho
    have E1 := hide e1
    clear ho hb3 e1
    go_wp2_with fail
    refine (hex_any _ ds _ HO.out.has ?_).mono ?_
    · have := congrArg List.length E1.out
      rw [hexOf_length, Array.length_toList] at this
      have e : s.data.size = s.size := rfl
      omega
    rintro e w4 ⟨rfl, hb4⟩
    rw [← E1.out]
    go_wp2_with fail
    go_ret
    exact ⟨rfl, bel_chain HB3.out hb4⟩
  · have HB3 := hide (bel_chain HB2.out hb3)
    have NO := hide hno
    clear hno hb3
    go_wp2_with fail
    refine (hex_any _ s.data.toList _ (bytes_has w3 s) (by rw [Array.length_toList]; exact hs)).mono ?_
    rintro e w4 ⟨rfl, hb4⟩
    have HB4 := hide (bel_chain (bel_chain HB3.out (bytes_below w3 s)) hb4)
    clear hb4
    obtain ⟨t, u, ht⟩ : ∃ t u, hexOf s.data.toList = t :: u := by
      cases hl : s.data.toList with
      | nil => exact absurd hl (NO.out [])
      | cons a r => exact ⟨_, _, hexOf_cons a r⟩
    rw [ht]
    clear ht
    go_wp2_with fail
    go_ret
    exact ⟨rfl, HB4.out⟩

end Go.Proofs.Ytgfgabgnejnipaa
