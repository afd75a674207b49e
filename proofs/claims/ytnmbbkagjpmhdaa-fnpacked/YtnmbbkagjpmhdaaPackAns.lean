/-
  What RowPack answers: the specification's and the program's are one.
-/
import Derived.Test.YtnmbbkagjpmhdaaSpecPack
import Derived.Test.YtnmbbkagjpmhdaaImplRowPack
namespace Go.Proofs.Ytnmbbkagjpmhdaa.Items
open Go.ChangeShapes Go.WideShapes Go.ChangeAt Go.RowKit Go.Shelf Base
set_option linter.unusedVariables false

theorem specRowPack_any (start next length : Int) (A : Option Addr) (cap : Nat) (l : List It) (hl : l.length ≤ 1048576) (hs : ∀ x ∈ l, x.key.size ≤ 9223372036854775807 ∧ x.text.size ≤ 9223372036854775807) (hn : I64 next)
    (w : World) (hA : At w A l) :
    Calls Try.prog 26 #[.agg #[.int .i64 start, .int .i64 next, .slice A l.length cap], .int .i64 length] w fun e w' => ∃ v, e = .returned (.agg #[.int .i64 start, .int .i64 next, v]) ∧ Fresh w.heap.size w' v (packL start next length l) ∧ Below w.heap.size w w' := by
  cases hb : packB start next length l
  · refine (specPack_no start next length A cap l hl hs hn hb w hA).mono ?_
    rintro _ w' ⟨v, rfl, hown, g⟩
    exact ⟨v, rfl, by simp only [packL, hb]; exact fresh_owns hown, g⟩
  · refine (specPack_yes start next length A cap l hl hs hn hb w hA).mono ?_
    rintro _ w' ⟨v, rfl, hown, g⟩
    exact ⟨v, rfl, by simp only [packL, hb]; exact fresh_owns hown, g⟩
end Go.Proofs.Ytnmbbkagjpmhdaa.Items
