/-
  What RowTrim answers: the specification's and the program's are one.
-/
import Derived.Test.YtdkdhecmhlchkaaSpecRowTrim2
import Derived.Test.YtdkdhecmhlchkaaImplRowTrim
namespace Go.Proofs.Ytdkdhecmhlchkaa.Items
open Go.ChangeShapes Go.WideShapes Go.ChangeAt Go.RowKit Go.Shelf Base
set_option linter.unusedVariables false

theorem specRowTrim_any (start next length keep : Int) (h2 : length ≤ 9223372036854775807) (A : Option Addr) (cap : Nat) (l : List It) (hl : l.length ≤ 1048576) (hs : ∀ x ∈ l, x.key.size ≤ 9223372036854775807 ∧ x.text.size ≤ 9223372036854775807) (hn : I64 next)
    (w : World) (hA : At w A l) :
    Calls Try.prog 23 #[.agg #[.int .i64 start, .int .i64 next, .slice A l.length cap], .int .i64 length, .int .i64 keep] w fun e w' => ∃ v, e = .returned (.agg #[.int .i64 (trimS start next length keep l), .int .i64 next, v]) ∧ Fresh w.heap.size w' v (trimL start next length keep l) ∧ Below w.heap.size w w' := by
  cases hb : trimB start next length keep l
  · refine (specRowTrim_no start next length keep A cap l hl hs hn hb w hA).mono ?_
    rintro _ w' ⟨v, rfl, hown, g⟩
    exact ⟨v, by simp [trimS, hb], by simp only [trimL, hb]; exact fresh_owns hown, g⟩
  · have hb' := hb
    simp only [trimB, Bool.and_eq_true, decide_eq_true_eq] at hb'
    refine (specRowTrim_yes start next length keep hb'.1.1 h2 hb'.1.2 A cap l hl hs hn hb'.2 w hA).mono ?_
    rintro _ w' ⟨v, rfl, hown, g⟩
    exact ⟨v, by simp [trimS, hb], by simp only [trimL, hb]; exact fresh_owns hown, g⟩
end Go.Proofs.Ytdkdhecmhlchkaa.Items
