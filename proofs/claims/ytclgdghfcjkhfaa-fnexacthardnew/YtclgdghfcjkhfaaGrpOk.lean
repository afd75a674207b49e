/-
  GroupOk of the program at this seat. No condition but that its lists have at most 1048576 numbers.
-/
import Derived.Test.YtclgdghfcjkhfaaGroups
import Derived.Test.YtclgdghfcjkhfaaInB
namespace Go.Proofs.Ytclgdghfcjkhfaa.Gen
open Go.ChangeShapes Go.WideShapes Go.ChangeAt Go.RowKit Go.Joins Go.Deep Base
set_option linter.unusedVariables false
set_option linter.unusedSimpArgs false

/-- All numbers up to place n are in 0 .. 100000. -/
def numTo (l : List Int) (n : Nat) : Bool := (l.take n).all fun x => inB x 0 100000
theorem numTo_succ {l : List Int} {n : Nat} (h : n < l.length) : numTo l (n + 1) = (numTo l n && inB l[n] 0 100000) := by
  unfold numTo; rw [List.take_succ_eq_append_getElem h, List.all_append]; simp
theorem numTo_no {l : List Int} {n : Nat} (h : n < l.length) (hx : inB l[n] 0 100000 = false) : numTo l l.length = false := by
  unfold numTo; rw [List.take_length, List.all_eq_false]; exact ⟨l[n], List.getElem_mem h, by simp [hx]⟩
/-- Members up to place n are clients, each above the one ahead. -/
def memAt (m : List Int) (j : Nat) : Bool := inB (m.getD j 0) 0 3 && (decide (j = 0) || decide (m.getD (j - 1) 0 < m.getD j 0))
def memTo (m : List Int) (n : Nat) : Bool := (List.range n).all (memAt m)
theorem memTo_succ (m : List Int) (n : Nat) : memTo m (n + 1) = (memTo m n && memAt m n) := by simp [memTo, List.range_succ]
theorem memTo_no {m : List Int} {n : Nat} (h : n < m.length) (hx : memAt m n = false) : memTo m m.length = false := by
  unfold memTo; rw [List.all_eq_false]; exact ⟨n, by simpa using h, by simp [hx]⟩
theorem memAt_is {m : List Int} {n : Nat} (h : n < m.length) : memAt m n = (inB m[n] 0 3 && (decide (n = 0) || decide (m.getD (n - 1) 0 < m[n]))) := by simp [memAt, h]

def gokB (gen rows : Int) (m b o : List Int) : Bool :=
  inB gen 0 100000 && memTo m m.length && decide ((b.length : Int) = (m.length : Int)) && numTo b b.length && decide ((o.length : Int) = rows) && numTo o o.length

end Go.Proofs.Ytclgdghfcjkhfaa.Gen
