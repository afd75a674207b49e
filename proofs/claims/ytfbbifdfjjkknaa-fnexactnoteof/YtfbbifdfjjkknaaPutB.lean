/-
  PutNum and PutText, the program's and the specification's: the bytes, in memory of their own. Condition: at most 1048576 bytes of text.
-/
import Derived.Test.YtfbbifdfjjkknaaWritn
import Derived.Lib.ConvBytes
namespace Go.Proofs.Ytfbbifdfjjkknaa.Gen
open Go.ChangeShapes Go.WideShapes Go.ChangeAt Go.RowKit Go.Joins Go.Deep Base
set_option linter.unusedVariables false

/-- What is written of a text. -/
def txtB (s : ByteArray) : List UInt8 := numB s.size ++ s.data.toList
theorem txtB_length (s : ByteArray) : (txtB s).length = (numB s.size).length + s.size := by unfold txtB; rw [List.length_append, Array.length_toList]; rfl



theorem bytes_below (w : World) (t : TypeId) (s : ByteArray) : Below w.heap.size w (Go.Lib.bytesWorld w t s) :=
  ⟨rfl, rfl, rfl, by rw [Go.Lib.bytesWorld_size]; omega, fun i hi => Go.Lib.bytesWorld_at_old w t s i hi⟩
theorem bytes_at (w : World) (t : TypeId) (s : ByteArray) : At (Go.Lib.bytesWorld w t s) (some ⟨w.heap.size, 0, none⟩) s.data.toList := by
  refine .inr ⟨_, _, rfl, by rw [Go.Lib.bytesWorld_size]; omega, ?_⟩
  intro j v hv
  rw [flat_map1] at hv
  have hj : j < s.size := by have := (List.getElem?_eq_some_iff.1 hv).1; rwa [List.length_map, Array.length_toList] at this
  rw [Nat.zero_add, Go.Lib.bytesWorld_cell w t s j hj]
  rw [← hv, List.getElem?_map, List.getD_eq_getElem?_getD]
  have : j < s.data.toList.length := by rw [Array.length_toList]; exact hj
  simp [List.getElem?_eq_getElem this]

set_option maxRecDepth 100000 in
set_option maxHeartbeats 1000000 in
theorem specPutText_any (s : ByteArray) (hs : s.size ≤ 1048576) (w : World) :
    Calls Try.prog 53 #[.string s] w fun e w' => ∃ a c, e = .returned (.slice a (txtB s).length c) ∧ Below w.heap.size w w' ∧ w'.ownsRow w.heap.size 5 1 (.slice a (txtB s).length c) (txtB s).length (flat (txtB s)) := by
  go_enter Try.func53, Try.ntmps53
  go_wp2_with fail
  refine (specPutNum_any (s.size : Int) _).mono ?_
  rintro e w1 ⟨a, c, rfl, hb, ho⟩
  rw [numI_nat (show s.size ≤ 2147483647 by omega)] at ho
  rw [numI_nat (show s.size ≤ 2147483647 by omega)]
  have hl0 := numB_le (n := s.size) (by omega)
  have hcv := Go.Lib.run_convert_string_bytes (P := Try.prog) w1 9 33 5 s Try.underlying9 Try.underlying33 Try.underlying5
  have hbb := bytes_below w1 5 s
  have hat := bytes_at w1 5 s
  generalize Go.Lib.bytesWorld w1 5 s = w2 at *
  have hlen : s.data.toList.length = s.size := by rw [Array.length_toList]; rfl
  obtain ⟨v', w3, hr, hown3, hgrow, _⟩ := append_els8 w.heap.size (.slice a (numB s.size).length c) (numB s.size) s.data.toList (some ⟨w1.heap.size, 0, none⟩) (grownCap w1 s.size 0 5) w2 (by have := hb.size; have := hbb.size; omega) (owns_below ho hbb) hat (by rw [hlen]; omega)
  obtain ⟨a', c', rfl, _⟩ := owns_form hown3
  rw [hlen] at hr
  have HB := hidP ((via0 hbb hb).grown hgrow (via0 hbb hb).size (fun j e => Nat.le_of_not_lt fun q => owns_far ho q e.symm))
  have HO := hidP hown3
  clear hown3 hgrow hat hbb hb ho
  go_wp2_with (at_builtin; refine wpList_append_is rfl _ _ _ rfl _ _ _ rfl rfl hr ?_)
  go_ret
  have e1 : (txtB s).length = (numB s.size).length + s.data.toList.length := by rw [hlen, txtB_length]
  rw [e1]
  exact ⟨a', c', rfl, HB.out, HO.out⟩
end Go.Proofs.Ytfbbifdfjjkknaa.Gen
