import Derived.Test.YtnfikgnploockaaDoorSa
import Derived.Shelf.Strconv.Itoa2
import Derived.Shelf.Strconv.Itoa1
import Derived.Lib.ItoaMem
import Derived.Shelf.Strings.OnBuilder
import Derived.WalkSmall
set_option linter.unusedVariables false
set_option linter.unusedSimpArgs false
namespace Go.Proofs.YtnfikgnploockaaDoor
open Go.RowKit

def lays284_ren : Go.Shelf.Ren := ⟨fun | 284 => 58 | 129 => 65 | 317 => 64 | 318 => 66 | n => n, fun | 53 => 78 | 3 => 3 | 212 => 108 | 0 => 0 | 4 => 4 | 46 => 70 | 5 => 5 | 9 => 9 | n => n, fun | 17 => 3 | n => n⟩
theorem lays284 : Go.Proofs.LaysM.n284 Tryd.prog lays284_ren := {
  mixed := by kernel_rfl,
  f129 := Tryd.func65.trans (congrArg some (by kernel_rfl)),
  f284 := Tryd.func58.trans (congrArg some (by kernel_rfl)),
  f317 := Tryd.func64.trans (congrArg some (by kernel_rfl)),
  f318 := Tryd.func66.trans (congrArg some (by kernel_rfl)),
  t0 := Tryd.underlying0,
  a0 := Tryd.isAgg0,
  z0 := Tryd.sizeOf0,
  v0 := Tryd.zeroValue0,
  t3 := Tryd.underlying3,
  a3 := Tryd.isAgg3,
  z3 := Tryd.sizeOf3,
  v3 := Tryd.zeroValue3,
  t4 := Tryd.underlying4,
  a4 := Tryd.isAgg4,
  z4 := Tryd.sizeOf4,
  v4 := Tryd.zeroValue4,
  t5 := Tryd.underlying5,
  a5 := Tryd.isAgg5,
  z5 := Tryd.sizeOf5,
  v5 := Tryd.zeroValue5,
  t9 := Tryd.underlying9,
  a9 := Tryd.isAgg9,
  z9 := Tryd.sizeOf9,
  v9 := Tryd.zeroValue9,
  t46 := Tryd.underlying70,
  a46 := Tryd.isAgg70,
  z46 := Tryd.sizeOf70,
  v46 := Tryd.zeroValue70,
  t53 := Tryd.underlying78,
  a53 := Tryd.isAgg78,
  z53 := Tryd.sizeOf78,
  v53 := Tryd.zeroValue78,
  t212 := Tryd.underlying108,
  a212 := Tryd.isAgg108,
  z212 := Tryd.sizeOf108,
  v212 := Tryd.zeroValue108,
  g17 := by kernel_rfl,
  i0 := by kernel_rfl,
  i3 := by kernel_rfl,
  i4 := by kernel_rfl,
  i5 := by kernel_rfl,
  i9 := by kernel_rfl,
  i46 := by kernel_rfl,
  i53 := by kernel_rfl,
  i212 := by kernel_rfl,
  m17 := by kernel_rfl }

def lays285_ren : Go.Shelf.Ren := ⟨fun | 285 => 59 | n => n, fun | 37 => 27 | 53 => 78 | 3 => 3 | 4 => 4 | 51 => 62 | 9 => 9 | 5 => 5 | 0 => 0 | n => n, fun | n => n⟩
theorem lays285 : Go.Proofs.Lays.n285 Tryd.prog lays285_ren := {
  mixed := by kernel_rfl,
  f285 := Tryd.func59.trans (congrArg some (by kernel_rfl)),
  t0 := Tryd.underlying0,
  a0 := Tryd.isAgg0,
  z0 := Tryd.sizeOf0,
  v0 := Tryd.zeroValue0,
  t3 := Tryd.underlying3,
  a3 := Tryd.isAgg3,
  z3 := Tryd.sizeOf3,
  v3 := Tryd.zeroValue3,
  t4 := Tryd.underlying4,
  a4 := Tryd.isAgg4,
  z4 := Tryd.sizeOf4,
  v4 := Tryd.zeroValue4,
  t5 := Tryd.underlying5,
  a5 := Tryd.isAgg5,
  z5 := Tryd.sizeOf5,
  v5 := Tryd.zeroValue5,
  t9 := Tryd.underlying9,
  a9 := Tryd.isAgg9,
  z9 := Tryd.sizeOf9,
  v9 := Tryd.zeroValue9,
  t37 := Tryd.underlying27,
  a37 := Tryd.isAgg27,
  z37 := Tryd.sizeOf27,
  v37 := Tryd.zeroValue27,
  t51 := Tryd.underlying62,
  a51 := Tryd.isAgg62,
  z51 := Tryd.sizeOf62,
  v51 := Tryd.zeroValue62,
  t53 := Tryd.underlying78,
  a53 := Tryd.isAgg78,
  z53 := Tryd.sizeOf78,
  v53 := Tryd.zeroValue78 }

def lays156_ren : Go.Shelf.Ren := ⟨fun | 156 => 36 | 165 => 43 | 166 => 44 | 169 => 45 | 240 => 53 | 241 => 54 | 276 => 61 | 277 => 62 | n => n, fun | 31 => 41 | 9 => 9 | 3 => 3 | 4 => 4 | 0 => 0 | 20 => 20 | 72 => 82 | 76 => 86 | 70 => 80 | 37 => 27 | 75 => 85 | 127 => 92 | 164 => 104 | 5 => 5 | 80 => 88 | n => n, fun | n => n⟩
theorem lays156 : Go.Proofs.Lays.n156 Tryd.prog lays156_ren := {
  mixed := by kernel_rfl,
  f156 := Tryd.func36.trans (congrArg some (by kernel_rfl)),
  f165 := Tryd.func43.trans (congrArg some (by kernel_rfl)),
  f166 := Tryd.func44.trans (congrArg some (by kernel_rfl)),
  f169 := Tryd.func45.trans (congrArg some (by kernel_rfl)),
  f240 := Tryd.func53.trans (congrArg some (by kernel_rfl)),
  f241 := Tryd.func54.trans (congrArg some (by kernel_rfl)),
  f276 := Tryd.func61.trans (congrArg some (by kernel_rfl)),
  f277 := Tryd.func62.trans (congrArg some (by kernel_rfl)),
  t0 := Tryd.underlying0,
  a0 := Tryd.isAgg0,
  z0 := Tryd.sizeOf0,
  v0 := Tryd.zeroValue0,
  t3 := Tryd.underlying3,
  a3 := Tryd.isAgg3,
  z3 := Tryd.sizeOf3,
  v3 := Tryd.zeroValue3,
  t4 := Tryd.underlying4,
  a4 := Tryd.isAgg4,
  z4 := Tryd.sizeOf4,
  v4 := Tryd.zeroValue4,
  t9 := Tryd.underlying9,
  a9 := Tryd.isAgg9,
  z9 := Tryd.sizeOf9,
  v9 := Tryd.zeroValue9,
  t20 := Tryd.underlying20,
  a20 := Tryd.isAgg20,
  z20 := Tryd.sizeOf20,
  v20 := Tryd.zeroValue20,
  t31 := Tryd.underlying41,
  a31 := Tryd.isAgg41,
  z31 := Tryd.sizeOf41,
  v31 := Tryd.zeroValue41,
  t37 := Tryd.underlying27,
  a37 := Tryd.isAgg27,
  z37 := Tryd.sizeOf27,
  v37 := Tryd.zeroValue27,
  t70 := Tryd.underlying80,
  a70 := Tryd.isAgg80,
  z70 := Tryd.sizeOf80,
  v70 := Tryd.zeroValue80,
  t72 := Tryd.underlying82,
  a72 := Tryd.isAgg82,
  z72 := Tryd.sizeOf82,
  v72 := Tryd.zeroValue82,
  t75 := Tryd.underlying85,
  a75 := Tryd.isAgg85,
  z75 := Tryd.sizeOf85,
  v75 := Tryd.zeroValue85,
  t76 := Tryd.underlying86,
  a76 := Tryd.isAgg86,
  z76 := Tryd.sizeOf86,
  v76 := Tryd.zeroValue86,
  t127 := Tryd.underlying92,
  a127 := Tryd.isAgg92,
  z127 := Tryd.sizeOf92,
  v127 := Tryd.zeroValue92,
  t164 := Tryd.underlying104,
  a164 := Tryd.isAgg104,
  z164 := Tryd.sizeOf104,
  v164 := Tryd.zeroValue104 }

theorem bx156 : Builder.Extra Tryd.prog lays156_ren := {
  sizeBuilder := by kernel_rfl,
  liesBuilder := by kernel_rfl,
  t5 := Tryd.underlying5,
  a5 := Tryd.isAgg5,
  z5 := Tryd.sizeOf5,
  v5 := Tryd.zeroValue5,
  infoByte := by kernel_rfl,
  cellsByte := by kernel_rfl,
  sizeByte := by kernel_rfl,
  neB5 := by decide }
/-- The name of the table of powers. -/
def pnm : String := Rows.safetyIsHashRow.named.getD 1 default
theorem pg : Tryd.prog.globalNamed pnm = some 3 := by kernel_rfl
/-- The table of powers lies there. -/
structure Pst (w : World) : Prop where
  tb : Lib.TabIs Tryd.prog w pnm .u64 Lib.pow10Tab
  lt : 3 < w.heap.size
theorem Pst.on {w w' : World} (h : Pst w) (hb : Below w.heap.size w w') : Pst w' := ⟨var?_below hb pg h.lt h.tb, Nat.lt_of_lt_of_le h.lt hb.size⟩
theorem nd_any (u : Nat) (h1 : 1 ≤ u) (h2 : u < 18446744073709551616) (w : World) (h : Pst w) : Calls Tryd.prog 58 #[.int .u64 u] w fun e w' => e = .returned (.int .i64 (Lib.nDigits u)) ∧ w' = w := Any.internal_strconv_numDigits lays284 u h1 h2 w h.tb
theorem fb_any (blk off cap u : Nat) (d : Array UInt8) (w : World) (hH : Sort.Holds (fun (b : UInt8) => Value.int .u8 (b.toNat : Int)) w blk off d) (hu : u < 10 ^ d.size) (hu64 : u < 18446744073709551616) (hsz : d.size < 4611686018427387904) :
    Calls Tryd.prog 59 #[.slice (some ⟨blk, off, none⟩) d.size cap, .int .u64 u] w fun e w' =>
      e = .returned (.tuple #[]) ∧ ∃ (n v' : Nat) (dk : Array UInt8), w' = (Sort.putRow (fun (b : UInt8) => Value.int .u8 (b.toNat : Int)) w blk off dk).drewN n ∧ Lib.FmtInv d.size u 0 v' dk := Any.internal_strconv_formatBase10 lays285 blk off cap u d w hH hu hu64 hsz
theorem join_any (bk o c : Nat) (xs : List ByteArray) (sep : ByteArray) (w : World)
    (hcells : ∀ (j : Nat) x, xs[j]? = some x → w.cell? ⟨bk, o + j, none⟩ = some (.string x))
    (hbk : bk < w.heap.size) (hN : xs.length ≤ 140737488355328) (hcap : xs.length ≤ c)
    (hlen : (Lib.join (xs.map (·.data.toList)) sep.data.toList).length ≤ 140737488355328) :
    Calls Tryd.prog 36 #[.slice (some ⟨bk, o, none⟩) xs.length c, .string sep] w fun e w' => e = .returned (.string ⟨(Lib.join (xs.map (·.data.toList)) sep.data.toList).toArray⟩) ∧ Below w.heap.size w w' := Any.strings_Join lays156 bx156 bk o c xs sep w hcells hbk hN hcap hlen
/-- The last five digits of a number. -/
def d5 (n : Nat) : List UInt8 := [Lib.dg n 4, Lib.dg n 3, Lib.dg n 2, Lib.dg n 1, Lib.dg n 0]
theorem d5_len (n : Nat) : (d5 n).length = 5 := rfl
theorem dg_up (r j : Nat) (hj : j < 5) : Lib.dg (100000 + r) j = Lib.dg r j := by
  unfold Lib.dg
  have : j = 0 ∨ j = 1 ∨ j = 2 ∨ j = 3 ∨ j = 4 := by omega
  rcases this with rfl | rfl | rfl | rfl | rfl <;> congr 2 <;> simp only [Nat.reducePow] <;> omega
theorem dg_one (r : Nat) (hr : r < 100000) : Lib.dg (100000 + r) 5 = 49 := by
  unfold Lib.dg
  have : (100000 + r) / 10 ^ 5 % 10 = 1 := by
    show (100000 + r) / 100000 % 10 = 1
    omega
  rw [this]
  rfl
end Go.Proofs.YtnfikgnploockaaDoor
