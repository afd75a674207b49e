/-
  The specification's KeepBytes; a keeper's bytes hang on its content alone. No condition but that its lists have at most 1048576 records in all.
-/
import Derived.Test.YtaefjifcnoiplaaGreatKS2
import Derived.Test.YtaefjifcnoiplaaGreatKBw5
import Derived.Test.YtaefjifcnoiplaaGreatKOk
import Derived.Test.YtaefjifcnoiplaaGreatKeepP
namespace Go.Proofs.YtaefjifcnoiplaaGreat.Gen
open Go.ChangeShapes Go.WideShapes Go.ChangeAt Go.RowKit Go.Joins Go.Deep Base
set_option linter.unusedVariables false
set_option linter.unusedSimpArgs false
theorem rcs_p (l : List RC) : l.flatMap rcB = (l.map RC.p).flatMap (fun p => numsB [p.start, p.next] ++ itsB p.its) := by rw [List.flatMap_map]; rfl
theorem mcs_p (l : List MC) : l.flatMap mcB = (l.map MC.p).flatMap (fun p => numsB [p.row, p.who, p.epoch, p.last + 1] ++ mksB p.ms) := by rw [List.flatMap_map]; rfl
theorem gcs_p (l : List GC) : l.flatMap gcB = (l.map GC.p).flatMap (fun p => numsB [p.gen, (p.m.length : Int)] ++ (memB p.m p.b ++ numsB p.o)) := by rw [List.flatMap_map]; rfl
theorem kB_p {x y : KC} (h : y.p = x.p) : kB y = kB x := by
  obtain ⟨l1, l2, l3, l4, l5, l6⟩ := KC.p_len h
  simp only [KC.p, PK.mk.injEq] at h
  simp only [kB, rcsB, mcsB, gcsB, rcs_p, mcs_p, gcs_p, h.1, h.2.1, h.2.2.1, l1, l2, l3, l4, l5, l6]
end Go.Proofs.YtaefjifcnoiplaaGreat.Gen
