/-
  PutNum and PutText, the program's and the specification's: the bytes, in memory of their own. Condition: at most 1048576 bytes of text.
-/
import Derived.Test.YtlniljigeemnoaaGreatAnsList
import Derived.WalkSmall
set_option linter.unusedVariables false
set_option linter.unusedSimpArgs false
set_option maxRecDepth 100000
set_option maxHeartbeats 8000000
namespace Go.Proofs.YtlniljigeemnoaaGreat.Gen
open ChangeShapes WideShapes ChangeAt RowKit Joins Deep Base
def txtB (s : ByteArray) : List UInt8 := numB s.size ++ s.data.toList
theorem Qbv (s : ByteArray) : (txtB s).length = (numB s.size).length + s.size := by unfold txtB; rw [List.length_append, Array.length_toList]; rfl
theorem Qbf (s : ByteArray) (hs : s.size <= 1048576) (w : World) :
 Calls Tryz.prog 63 #[.string s] w fun e w' => ∃ a c, e = .returned (.slice a (txtB s).length c) /\ Below w.heap.size w w' /\ w'.ownsRow w.heap.size 5 1 (.slice a (txtB s).length c) (txtB s).length (flat (txtB s)) := by
 go_enter Tryz.func63, Tryz.ntmps63
 go_wp2_with fail
 refine (Qa1 (s.size : Int) _).mono ?_
 rintro e w1 ⟨a, c, rfl, hb, ho⟩
 rw [Qef (show s.size <= 2147483647 by omega)] at ho
 rw [Qef (show s.size <= 2147483647 by omega)]
 have hl0 := Qcv (n := s.size) (by omega)
 have hcv := Go.Lib.run_convert_string_bytes (P := Tryz.prog) w1 9 22 5 s Tryz.underlying9 Tryz.underlying22 Tryz.underlying5
 have hbb := Qiu w1 5 s
 have hat := bytes_at w1 5 s
 generalize Go.Lib.bytesWorld w1 5 s = w2 at *
 have hlen : s.data.toList.length = s.size := by rw [Array.length_toList]; rfl
 obtain ⟨v', w3, hr, hown3, hgrow, _⟩ := Qbr w.heap.size (.slice a (numB s.size).length c) (numB s.size) s.data.toList (some ⟨w1.heap.size, 0, none⟩) (grownCap w1 s.size 0 5) w2 (by have := hb.size; have := hbb.size; omega) (Qaq ho hbb) hat (by rw [hlen]; omega)
 obtain ⟨a', c', rfl, _⟩ := Qao hown3
 rw [hlen] at hr
 have HB := hidP ((via0 hbb hb).grown hgrow (via0 hbb hb).size (fun j e => Nat.le_of_not_lt fun q => Qay ho q e.symm))
 have HO := hidP hown3
 clear hown3 hgrow hat hbb hb ho
 go_wp2_with (at_builtin; refine Qae rfl _ _ _ rfl _ _ _ rfl rfl hr ?_)
 go_ret
 have e1 : (txtB s).length = (numB s.size).length + s.data.toList.length := by rw [hlen, Qbv]
 rw [e1]
 exact ⟨a', c', rfl, HB.out, HO.out⟩
end Go.Proofs.YtlniljigeemnoaaGreat.Gen
