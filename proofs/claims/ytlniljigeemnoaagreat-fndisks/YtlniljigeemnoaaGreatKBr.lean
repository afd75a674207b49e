/-
  What a right keeper's numbers are, and how many bytes it has, as lists alone. No condition but the sizes (KFit).
-/
import Derived.Test.YtlniljigeemnoaaGreatKBp
import Derived.Test.YtlniljigeemnoaaGreatKDo1
set_option linter.unusedVariables false
set_option linter.unusedSimpArgs false
set_option maxRecDepth 100000
set_option maxHeartbeats 8000000
namespace Go.Proofs.YtlniljigeemnoaaGreat.Gen
open ChangeShapes WideShapes ChangeAt RowKit Joins Deep Base
open Items (It)
theorem rcB_le {y : RC} (h : RcR y) : (rcB y).length <= 8100 := by
 have h1 := Qb3 [y.start, y.next]
 have h2 := Qc4 itB 100 y.its (fun z hz => itB_le (h.its z hz))
 have h3 := Qbc (y.its.length : Int)
 have := h.len
 simp only [rcB, itsB, List.length_append, List.length_cons, List.length_nil] at h1 ⊢
 omega
theorem mcB_le {y : MC} (h : McR y) : (mcB y).length <= 80 := by
 have h1 := Qb3 [y.row, y.who, y.epoch, y.last + 1]
 have h2 := Qc4 mkB 10 y.ms (fun z _ => mkB_le z)
 have h3 := Qbc (y.ms.length : Int)
 have := h.len
 simp only [mcB, mksB, List.length_append, List.length_cons, List.length_nil] at h1 ⊢
 omega
theorem anB_le {y : An} (h : AnR y) : (anB y).length <= 80 := by
 have a1 := Qb3 [y.code, y.n + 1]
 have a2 := Qgh h.key
 have a3 := Qgh h.text
 simp only [anB, List.length_append, List.length_cons, List.length_nil] at a1 ⊢
 omega
end Go.Proofs.YtlniljigeemnoaaGreat.Gen
