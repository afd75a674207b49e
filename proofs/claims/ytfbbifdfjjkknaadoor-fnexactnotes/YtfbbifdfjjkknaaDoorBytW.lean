/-
  Bytes as a text, a text as bytes; a list in a new block. No condition.
-/
import Derived.Test.YtfbbifdfjjkknaaDoorByts
import Derived.Lib.ConvBytes
import Derived.Laws.IdiomStrings
namespace Go.Proofs.YtfbbifdfjjkknaaDoor.Gen
open Go.ChangeShapes Go.WideShapes Go.ChangeAt Go.RowKit Go.Joins Go.Deep Base
set_option linter.unusedVariables false
set_option linter.unusedSimpArgs false

theorem flat_map1 (l : List UInt8) : flat l = l.map fun b => Value.int .u8 (b.toNat : Int) := by
  induction l with
  | nil => rfl
  | cons x l ih => rw [flat_cons, ih]; rfl
theorem bytes_below (w : World) (t : TypeId) (s : ByteArray) : Below w.heap.size w (Go.Lib.bytesWorld w t s) :=
  ⟨rfl, rfl, rfl, by rw [Go.Lib.bytesWorld_size]; omega, fun i hi => Go.Lib.bytesWorld_at_old w t s i hi⟩
theorem bytes_at (w : World) (t : TypeId) (s : ByteArray) : At (Go.Lib.bytesWorld w t s) (some ⟨w.heap.size, 0, none⟩) s.data.toList := by
  refine .inr ⟨_, _, rfl, by rw [Go.Lib.bytesWorld_size]; omega, ?_⟩
  intro j v hv
  rw [flat_map1] at hv
  have hj : j < s.size := by have := (List.getElem?_eq_some_iff.1 hv).1; rwa [List.length_map, Array.length_toList] at this
  rw [Nat.zero_add, Go.Lib.bytesWorld_cell w t s j hj]
  rw [← hv, List.getElem?_map, List.getD_eq_getElem?_getD]
  have : j < s.data.toList.length := by rw [Array.length_toList]; exact hj
  simp [List.getElem?_eq_getElem this]

/-- Bytes as a text. -/
theorem conv_bytes {A : Option Addr} {cap : Nat} {L : List UInt8} {w : World} (hA : At w A L) : (convert 22 9 (.slice A L.length cap)).run Tryd.prog w = .ok (.string ⟨L.toArray⟩) w := by
  rcases hA with h | ⟨b, o, rfl, hb, hin⟩
  · subst h
    cases A with
    | none => rw [List.length_nil, run_convert_bytes_string w 22 9 5 none 0 cap Tryd.underlying22 Tryd.underlying5 Tryd.underlying9]; simp [Conv.bytesToString, go_sem]; rfl
    | some a =>
      have h := run_convert_bytes_back (P := Tryd.prog) w 22 9 5 a cap [] Tryd.underlying22 Tryd.underlying5 Tryd.underlying9 (fun j hj => by simp at hj)
      simpa using h
  · exact run_convert_bytes_back (P := Tryd.prog) w 22 9 5 ⟨b, o, none⟩ cap L Tryd.underlying22 Tryd.underlying5 Tryd.underlying9 (fun j hj => by rw [Addr.add_mid]; simpa using hin.getB j hj)

theorem newL {α : Type} [Cel α] (W : World) (L : List α) (cs : Array Value) (tt : TypeId) (h : cs.toList = flat L) : At (W.alloc (.cells cs tt)) (some ⟨W.heap.size, 0, none⟩) L := by
  refine .inr ⟨_, _, rfl, by simp, ?_⟩
  intro j v hv
  rw [← h] at hv
  exact (Blk.new W tt cs).cell (i := 0 + j) (by simpa using hv)
end Go.Proofs.YtfbbifdfjjkknaaDoor.Gen
