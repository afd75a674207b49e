/-
  The laws' toItem, toItemS and toRow: a row in new memory that holds the same items. No condition but that the items are at most 1048576.
-/
import Derived.Test.YtclgdghfcjkhfaaRowSz
import Derived.Laws.MakeOwn
namespace Go.Proofs.Ytclgdghfcjkhfaa.Items
open Go.ChangeShapes Go.WideShapes Go.ChangeAt Go.RowKit Base
set_option linter.unusedVariables false

def zeroItem : Value := .agg #[.int .i64 0, .string ⟨#[]⟩, .string ⟨#[]⟩, .int .i64 0, .int .i64 0]
def zeros (n : Nat) : Array Value := madeCells zeroItem.cells (n * 5)

theorem infoItem : (Try.prog.info? 91).map (fun i => (i.zero, i.size, i.bytes)) = some (some zeroItem, 5, 56) := by kernel_rfl

theorem make_items (n : Nat) (hn : n ≤ 1048576) (w : World) :
    (Instr.makeSlice 72 (.int .i64 (n : Int)) (.int .i64 (n : Int))).run Try.prog w = .ok (.slice (some ⟨w.heap.size, 0, none⟩) n n) (w.alloc (.cells (zeros n) 91)) := by
  have h := infoItem
  cases hi : Try.prog.info? 91 with
  | none => rw [hi] at h; simp at h
  | some i =>
    rw [hi] at h
    simp only [Option.map_some, Option.some.injEq, Prod.mk.injEq] at h
    obtain ⟨hz, hs, hb⟩ := h
    have r := run_make (P := Try.prog) w 72 91 i zeroItem Try.underlying72 hi hz .i64 .i64 n n (by omega) (Int.le_refl _) (by rw [hb]; omega) (by omega)
    rw [r, hs]
    simp [zeros]

theorem zeros_size (n : Nat) : (zeros n).size = n * 5 := size_madeCells _ _

theorem rangeAt_append {w : World} {b o : Nat} {xs ys : List Value} (h1 : w.rangeAt b o xs) (h2 : w.rangeAt b (o + xs.length) ys) : w.rangeAt b o (xs ++ ys) := fun j v hv => by
  by_cases hj : j < xs.length
  · exact h1 j v (by rwa [List.getElem?_append_left hj] at hv)
  · rw [List.getElem?_append_right (by omega)] at hv
    have := h2 (j - xs.length) v hv
    have e : o + xs.length + (j - xs.length) = o + j := by omega
    rwa [e] at this

theorem there_below {w w' : World} {b o n : Nat} (h : w.there b o n) (hb : b < w.heap.size) (hw : Below w.heap.size w w') : w'.there b o n := fun j hj => by
  rw [hw.cell (p := ⟨b, o + j, none⟩) hb, hw.frozen (p := ⟨b, o + j, none⟩) hb]
  exact h j hj

/-- An item stored behind those that are there. -/
theorem store_item {w : World} {b : Nat} {l : List It} {n : Nat} (hin : In w b 0 (l.take n)) (hth : w.there b 0 (l.length * 5)) (hn : n < l.length) :
    In (w.setCells b (n * 5) l[n].cs) b 0 (l.take (n + 1)) ∧ (w.setCells b (n * 5) l[n].cs).there b 0 (l.length * 5) := by
  have hlen : (flat (l.take n)).length = n * 5 := by rw [flat_length, List.length_take]; omega
  refine ⟨?_, World.there_setCells hth _ _ _⟩
  unfold In
  rw [List.take_succ_eq_append_getElem hn, flat_append, flat_one]
  refine rangeAt_append (World.rangeAt_setCells_apart hin _ _ _ (.inr (.inl (by rw [hlen]; omega)))) ?_
  rw [hlen, Nat.zero_add]
  refine World.rangeAt_setCells_same _ _ _ _ fun j hj => ?_
  have hj' : j < 5 := hj
  have := hth (n * 5 + j) (by omega)
  rwa [Nat.zero_add] at this

theorem made_there (w : World) (n : Nat) : (w.alloc (.cells (zeros n) 91)).there w.heap.size 0 (n * 5) := fun j hj => by
  have : j < (zeros n).size := by rw [zeros_size]; exact hj
  simp [this]

theorem In.set {w : World} {b o : Nat} {l : List It} (h : In w b o l) (p : Addr) (v : Value) (hp : p.block ≠ b) : In (w.setCell p v) b o l := fun j u hu => by
  rw [World.cell?_setCell_other (h := fun e => hp (by rw [e]))]; exact h j u hu
theorem there_set {w : World} {b o n : Nat} (h : w.there b o n) (b' o' : Nat) (v : Value) : (w.setCell ⟨b', o', none⟩ v).there b o n := World.there_setCells h b' o' [v]

/-- What new memory holds: the slice value of the items l in a block that is not below B, and may be written. -/
def Fresh (B : Nat) (w : World) (v : Value) (l : List It) : Prop :=
  ∃ (A : Option Addr) (c : Nat), v = .slice A l.length c ∧ l.length ≤ c ∧ (l = [] ∨ ∃ b o, A = some ⟨b, o, none⟩ ∧ B ≤ b ∧ b < w.heap.size ∧ In w b o l ∧ w.there b o (l.length * 5))

theorem Fresh.below {B : Nat} {w w' : World} {v : Value} {l : List It} (h : Fresh B w v l) (hw : Below w.heap.size w w') : Fresh B w' v l := by
  obtain ⟨A, c, rfl, hc, h⟩ := h
  refine ⟨A, c, rfl, hc, ?_⟩
  rcases h with h | ⟨b, o, rfl, hB, hb, hi, ht⟩
  · exact .inl h
  · exact .inr ⟨b, o, rfl, hB, Nat.lt_of_lt_of_le hb hw.size, hi.below hb hw, there_below ht hb hw⟩

theorem Fresh.holds {B : Nat} {w : World} {v : Value} {l : List It} (h : Fresh B w v l) : Holds w v l := by
  obtain ⟨A, c, rfl, hc, h⟩ := h
  refine ⟨A, c, rfl, hc, ?_⟩
  rcases h with h | ⟨b, o, rfl, hB, hb, hi, ht⟩
  · exact .inl h
  · exact .inr ⟨b, o, rfl, hb, hi⟩

end Go.Proofs.Ytclgdghfcjkhfaa.Items
