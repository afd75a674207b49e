/-
  What is packed.
-/
import Derived.Test.YtnmbbkagjpmhdaaTrimPure
namespace Go.Proofs.Ytnmbbkagjpmhdaa.Items
open Go.ChangeShapes Go.WideShapes Go.ChangeAt Go.RowKit Go.Shelf Base
set_option linter.unusedVariables false

theorem wrapq (x : Int) : IntKind.i64.wrap x = wrap64 x := by rw [IntKind.wrap_i64]; unfold wrap64; rfl
/-- Whether an item of a key is among these. -/
def hasKey (key : List UInt8) (l : List It) : Bool := l.any fun y => y.key.toList == key
/-- Whether an item stays, what stands behind it at hand. -/
def staysB (nb length : Int) (x : It) (t : List It) : Bool := x.key.toList == [] || !hasKey x.key.toList t || (dv x.off length == dv nb length)
/-- What stays. -/
def packF (nb length : Int) : List It → List It
  | [] => []
  | x :: t => if staysB nb length x t then x :: packF nb length t else packF nb length t
theorem packF_yes {nb length : Int} {l : List It} {n : Nat} (h : n < l.length) (hs : staysB nb length l[n] (l.drop (n + 1)) = true) : packF nb length (l.drop n) = l[n] :: packF nb length (l.drop (n + 1)) := by
  rw [List.drop_eq_getElem_cons h, packF, if_pos hs]
theorem packF_no {nb length : Int} {l : List It} {n : Nat} (h : n < l.length) (hs : staysB nb length l[n] (l.drop (n + 1)) = false) : packF nb length (l.drop n) = packF nb length (l.drop (n + 1)) := by
  rw [List.drop_eq_getElem_cons h, packF, if_neg (by simp [hs])]
theorem packF_sub (nb length : Int) : ∀ l : List It, (packF nb length l).Sublist l
  | [] => List.Sublist.slnil
  | x :: t => by
    unfold packF
    split
    · exact (packF_sub nb length t).cons_cons x
    · exact (packF_sub nb length t).cons x
def packB (start next length : Int) (l : List It) : Bool := decide (1 ≤ length) && rowB start next l
def packL (start next length : Int) (l : List It) : List It := if packB start next length l then packF (IntKind.i64.wrap (next - 1)) length l else l
theorem packL_le (start next length : Int) (l : List It) : (packL start next length l).length ≤ l.length := by
  unfold packL; split
  · exact (packF_sub _ _ _).length_le
  · exact Nat.le_refl _
theorem hasKey_step {key : List UInt8} {l : List It} {k : Nat} (h : k < l.length) : hasKey key (l.drop k) = (l[k].key.toList == key || hasKey key (l.drop (k + 1))) := by
  unfold hasKey
  rw [List.drop_eq_getElem_cons h, List.any_cons]
end Go.Proofs.Ytnmbbkagjpmhdaa.Items
