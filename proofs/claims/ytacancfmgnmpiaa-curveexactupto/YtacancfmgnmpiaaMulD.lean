import Derived.Test.YtacancfmgnmpiaaAdd
set_option linter.unusedVariables false
set_option linter.unusedSimpArgs false
namespace Go.Proofs.Ytacancfmgnmpiaa
open Go.RowKit

/-- A number of 128 bits. -/
structure W2 where
  h : BitVec 64
  l : BitVec 64
def W2.cs (s : W2) : List Value := [.int .u64 (wn s.h), .int .u64 (wn s.l)]
def W2.v (s : W2) : Value := .agg s.cs.toArray
def plW (s : W2) (x y : BitVec 64) : W2 := ⟨plh s.h s.l x y, pll s.l x y⟩
def W2.up (s : W2) : BitVec 64 := abv s.h s.l
def w20 : W2 := ⟨0, 0⟩
theorem w2_one (s : W2) : s.cs.toArray.all (·.oneCell') = true := by simp [W2.cs, Value.oneCell']

def ms0 (x y : L5) : W2 := plW (plW (plW (plW (plW w20 x.a y.a) x.b (19#64 * y.e)) x.c (19#64 * y.d)) x.d (19#64 * y.c)) x.e (19#64 * y.b)
def ms1 (x y : L5) : W2 := plW (plW (plW (plW (plW w20 x.a y.b) x.b y.a) x.c (19#64 * y.e)) x.d (19#64 * y.d)) x.e (19#64 * y.c)
def ms2 (x y : L5) : W2 := plW (plW (plW (plW (plW w20 x.a y.c) x.b y.b) x.c y.a) x.d (19#64 * y.e)) x.e (19#64 * y.d)
def ms3 (x y : L5) : W2 := plW (plW (plW (plW (plW w20 x.a y.d) x.b y.c) x.c y.b) x.d y.a) x.e (19#64 * y.e)
def ms4 (x y : L5) : W2 := plW (plW (plW (plW (plW w20 x.a y.e) x.b y.d) x.c y.c) x.d y.b) x.e y.a
def joinW (s0 s1 s2 s3 s4 : W2) : L5 := ⟨(s0.l &&& mk51) + 19#64 * s4.up, (s1.l &&& mk51) + s0.up, (s2.l &&& mk51) + s1.up, (s3.l &&& mk51) + s2.up, (s4.l &&& mk51) + s3.up⟩
def mulE (x y : L5) : L5 := carr (joinW (ms0 x y) (ms1 x y) (ms2 x y) (ms3 x y) (ms4 x y))

end Go.Proofs.Ytacancfmgnmpiaa
