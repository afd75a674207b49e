/-
  What is written down of what a node must keep, as lists alone. No condition.
-/
import Derived.Test.YtaefjifcnoiplaaGreatHb0
import Derived.Test.YtaefjifcnoiplaaGreatHOk
import Derived.Test.YtaefjifcnoiplaaGreatKBr
namespace Go.Proofs.YtaefjifcnoiplaaGreat.Gen
open Go.ChangeShapes Go.WideShapes Go.ChangeAt Go.RowKit Go.Joins Go.Deep Base
set_option linter.unusedVariables false
set_option linter.unusedSimpArgs false
def hardN (te vo base bt : Int) (l : List En) (kb : ByteArray) : List HP := ⟨1, te, vo, 0, [], ⟨#[]⟩⟩ :: ((if 0 < base then [⟨3, bt, 0, base, [], kb⟩] else []) ++ restN base bt l l.length 0)
def hardO (ro wi le ke te vo base bt : Int) (l : List En) (x : KC) : List UInt8 := if hardB ro wi le ke te vo base bt l x = true then (hardN te vo base bt l ⟨(kB x).toArray⟩).flatMap HP.b else []
theorem flat_b_le (l : List HP) : (l.flatMap HP.b).length <= 41000 * l.length := by
  induction l with
  | nil => simp
  | cons x l ih =>
    have h := noteO_le x.kind x.term x.vote x.prev x.l x.snap
    have e : (x.b).length = (noteO x.kind x.term x.vote x.prev x.l x.snap).length := rfl
    simp only [List.flatMap_cons, List.length_append, List.length_cons]
    omega
theorem hardN_le (te vo base bt : Int) (l : List En) (kb : ByteArray) : (hardN te vo base bt l kb).length <= 2 + l.length := by
  have := restN_le base bt l l.length 0
  unfold hardN
  split<;>simp<;>omega
theorem hard_parts {ro wi le ke te vo base bt : Int} {l : List En} {x : KC} (h : hardB ro wi le ke te vo base bt l x = true) : (0 <= te /\ te <= 300) /\ (-1 <= vo /\ vo <= 4) /\ (0 <= base /\ base <= 300) /\ (0 <= bt /\ bt <= 300) /\ (l.length : Int) <= 300 - base /\ keepB ro wi le ke x = true := by
  simp only [hardB, logB, Bool.and_eq_true, decide_eq_true_eq] at h
  obtain ⟨⟨⟨⟨h1, h2⟩, ⟨⟨⟨h3, h4⟩, h5⟩, h6⟩, h7⟩, h8⟩, h9⟩ := h
  exact ⟨in_le h1, in_le h2, in_le h3, in_le h4, h5, h9⟩
theorem hardO_le (ro wi le ke te vo base bt : Int) (l : List En) (x : KC) : (hardO ro wi le ke te vo base bt l x).length <= 20000000 := by
  unfold hardO
  split
  . rename_i h
    obtain ⟨_, _, h3, _, h5, _⟩ := hard_parts h
    have h1 := flat_b_le (hardN te vo base bt l ⟨(kB x).toArray⟩)
    have h2 := hardN_le te vo base bt l ⟨(kB x).toArray⟩
    omega
  . simp
end Go.Proofs.YtaefjifcnoiplaaGreat.Gen
