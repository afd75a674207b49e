/-
  PutNum and PutText, the program's and the specification's: the bytes, in memory of their own. Condition: at most 1048576 bytes of text.
-/
import Derived.Test.YtjmaifmcoepfdaaWritn
import Derived.Lib.ConvBytes
namespace Go.Proofs.Ytjmaifmcoepfdaa.Gen
open Go.ChangeShapes Go.WideShapes Go.ChangeAt Go.RowKit Go.Joins Go.Deep Base
set_option linter.unusedVariables false

/-- What is written of a text. -/
def txtB (s : ByteArray) : List UInt8 := numB s.size ++ s.data.toList
theorem txtB_length (s : ByteArray) : (txtB s).length = (numB s.size).length + s.size := by unfold txtB; rw [List.length_append, Array.length_toList]; rfl

theorem putNum1_any (n : Int) (z : Nat) (P : Nat → Prop) (b : Nat) (W : World) (hz : Blk W z 3 #[.int .i64 n]) (h : Wr P b W []) : Writes 37 #[.pointer (some ⟨z, 0, none⟩)] (if 0 ≤ n ∧ n ≤ 2147483647 then some (numB n.toNat) else none) P b W := by
  unfold Writes
  have c0 := hz.row1
  have HW := hidP h
  show Calls Try.prog 37 #[.pointer (some ⟨b, 0, none⟩), .pointer (some ⟨z, 0, none⟩)] W _
  by_cases hn : 0 ≤ n ∧ n ≤ 2147483647
  · rw [if_pos hn]
    obtain ⟨m, rfl⟩ : ∃ m : Nat, n = (m : Int) := ⟨n.toNat, by omega⟩
    clear h hz
    go_enter Try.func37, Try.ntmps37
    go_wp2_with fail
    refine (number_any P b m (by omega) [] (by simp) _ HW.out).mono ?_
    rintro e w' ⟨rfl, t1, h1⟩
    go_wp2
    go_end0
    exact ⟨t1, rfl, by simpa using h1⟩
  · rw [if_neg hn]
    have HN := hidP hn
    clear h hz hn
    go_enter Try.func37, Try.ntmps37
    go_wp2_with fail
    refine (number_bad b n HN.out _).mono ?_
    rintro e w' ⟨rfl, rfl⟩
    exact ⟨rfl, Turn.refl _ _, _, _, rfl⟩

theorem implPutNum_any (n : Int) (w : World) :
    Calls Try.prog 11 #[.int .i64 n] w fun e w' => ∃ a c, e = .returned (.slice a (numI n).length c) ∧ Below w.heap.size w w' ∧ w'.ownsRow w.heap.size 5 1 (.slice a (numI n).length c) (numI n).length (flat (numI n)) := by
  have hmf : ∀ (fn : Fn) (first cap : Array Value) (w : World), (Instr.makeFunc fn first cap).run Try.prog w = .ok (.func fn first cap) w := fun _ _ _ _ => rfl
  have p := Blk.new w 3 #[.int .i64 n]
  have hwr := written_any 37 #[.pointer (some ⟨w.heap.size, 0, none⟩)] (if 0 ≤ n ∧ n ≤ 2147483647 then some (numB n.toNat) else none) (w.alloc (.cells #[.int .i64 n] 3)) (fun p W => by simp [go_sem])
    (fun W hb P b _ h => putNum1_any n w.heap.size P b W (p.below hb p.lt) h)
  have e : (if 0 ≤ n ∧ n ≤ 2147483647 then some (numB n.toNat) else none).getD [] = numI n := by unfold numI; split <;> rfl
  rw [e] at hwr
  have HW := hidP hwr
  clear hwr e p
  go_enter Try.func11, Try.ntmps11
  go_wp2_with fail
  refine HW.out.mono ?_
  rintro e w' ⟨a, c, rfl, hb, ho⟩
  have hb' := via0 hb (alloc0 (Below.refl _ w) _)
  go_wp2
  go_ret
  exact ⟨a, c, rfl, hb', owns_mono ho (by simp)⟩

theorem putText1_any (s : ByteArray) (hs : s.size ≤ 1048576) (z : Nat) (P : Nat → Prop) (b : Nat) (W : World) (hz : Blk W z 9 #[.string s]) (h : Wr P b W []) : Writes 40 #[.pointer (some ⟨z, 0, none⟩)] (some (txtB s)) P b W := by
  unfold Writes
  have c0 := hz.row1
  have HW := hidP h
  show Calls Try.prog 40 #[.pointer (some ⟨b, 0, none⟩), .pointer (some ⟨z, 0, none⟩)] W _
  clear h hz
  go_enter Try.func40, Try.ntmps40
  go_wp2_with fail
  refine (wtext_any P b s [] (by simp; omega) _ HW.out).mono ?_
  rintro e w' ⟨rfl, t1, h1⟩
  go_wp2
  go_end0
  exact ⟨t1, rfl, by simpa [txtB] using h1⟩

theorem implPutText_any (s : ByteArray) (hs : s.size ≤ 1048576) (w : World) :
    Calls Try.prog 13 #[.string s] w fun e w' => ∃ a c, e = .returned (.slice a (txtB s).length c) ∧ Below w.heap.size w w' ∧ w'.ownsRow w.heap.size 5 1 (.slice a (txtB s).length c) (txtB s).length (flat (txtB s)) := by
  have hmf : ∀ (fn : Fn) (first cap : Array Value) (w : World), (Instr.makeFunc fn first cap).run Try.prog w = .ok (.func fn first cap) w := fun _ _ _ _ => rfl
  have p := Blk.new w 9 #[.string s]
  have hwr := written_any 40 #[.pointer (some ⟨w.heap.size, 0, none⟩)] (some (txtB s)) (w.alloc (.cells #[.string s] 9)) (fun p W => by simp [go_sem])
    (fun W hb P b _ h => putText1_any s hs w.heap.size P b W (p.below hb p.lt) h)
  have HW := hidP hwr
  clear hwr p
  go_enter Try.func13, Try.ntmps13
  go_wp2_with fail
  refine HW.out.mono ?_
  rintro e w' ⟨a, c, rfl, hb, ho⟩
  have hb' := via0 hb (alloc0 (Below.refl _ w) _)
  go_wp2
  go_ret
  exact ⟨a, c, rfl, hb', owns_mono ho (by simp)⟩

theorem bytes_below (w : World) (t : TypeId) (s : ByteArray) : Below w.heap.size w (Go.Lib.bytesWorld w t s) :=
  ⟨rfl, rfl, rfl, by rw [Go.Lib.bytesWorld_size]; omega, fun i hi => Go.Lib.bytesWorld_at_old w t s i hi⟩
theorem bytes_at (w : World) (t : TypeId) (s : ByteArray) : At (Go.Lib.bytesWorld w t s) (some ⟨w.heap.size, 0, none⟩) s.data.toList := by
  refine .inr ⟨_, _, rfl, by rw [Go.Lib.bytesWorld_size]; omega, ?_⟩
  intro j v hv
  rw [flat_map1] at hv
  have hj : j < s.size := by have := (List.getElem?_eq_some_iff.1 hv).1; rwa [List.length_map, Array.length_toList] at this
  rw [Nat.zero_add, Go.Lib.bytesWorld_cell w t s j hj]
  rw [← hv, List.getElem?_map, List.getD_eq_getElem?_getD]
  have : j < s.data.toList.length := by rw [Array.length_toList]; exact hj
  simp [List.getElem?_eq_getElem this]

set_option maxRecDepth 100000 in
set_option maxHeartbeats 1000000 in
theorem specPutText_any (s : ByteArray) (hs : s.size ≤ 1048576) (w : World) :
    Calls Try.prog 15 #[.string s] w fun e w' => ∃ a c, e = .returned (.slice a (txtB s).length c) ∧ Below w.heap.size w w' ∧ w'.ownsRow w.heap.size 5 1 (.slice a (txtB s).length c) (txtB s).length (flat (txtB s)) := by
  go_enter Try.func15, Try.ntmps15
  go_wp2_with fail
  refine (specPutNum_any (s.size : Int) _).mono ?_
  rintro e w1 ⟨a, c, rfl, hb, ho⟩
  rw [numI_nat (show s.size ≤ 2147483647 by omega)] at ho
  rw [numI_nat (show s.size ≤ 2147483647 by omega)]
  have hl0 := numB_le (n := s.size) (by omega)
  have hcv := Go.Lib.run_convert_string_bytes (P := Try.prog) w1 9 22 5 s Try.underlying9 Try.underlying22 Try.underlying5
  have hbb := bytes_below w1 5 s
  have hat := bytes_at w1 5 s
  generalize Go.Lib.bytesWorld w1 5 s = w2 at *
  have hlen : s.data.toList.length = s.size := by rw [Array.length_toList]; rfl
  obtain ⟨v', w3, hr, hown3, hgrow, _⟩ := append_els8 w.heap.size (.slice a (numB s.size).length c) (numB s.size) s.data.toList (some ⟨w1.heap.size, 0, none⟩) (grownCap w1 s.size 0 5) w2 (by have := hb.size; have := hbb.size; omega) (owns_below ho hbb) hat (by rw [hlen]; omega)
  obtain ⟨a', c', rfl, _⟩ := owns_form hown3
  rw [hlen] at hr
  have HB := hidP ((via0 hbb hb).grown hgrow (via0 hbb hb).size (fun j e => Nat.le_of_not_lt fun q => owns_far ho q e.symm))
  have HO := hidP hown3
  clear hown3 hgrow hat hbb hb ho
  go_wp2_with (at_builtin; refine wpList_append_is rfl _ _ _ rfl _ _ _ rfl rfl hr ?_)
  go_ret
  have e1 : (txtB s).length = (numB s.size).length + s.data.toList.length := by rw [hlen, txtB_length]
  rw [e1]
  exact ⟨a', c', rfl, HB.out, HO.out⟩
end Go.Proofs.Ytjmaifmcoepfdaa.Gen
