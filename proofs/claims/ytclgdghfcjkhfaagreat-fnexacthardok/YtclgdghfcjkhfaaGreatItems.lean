/-
  Items in memory: a list of items lies in a block, five cells an item; a slice value that holds a list of items. No condition.
-/
import Derived.Test.YtclgdghfcjkhfaaGreatBase
import Derived.Deep.MidRow
namespace Go.Proofs.YtclgdghfcjkhfaaGreat.Items
open Go.ChangeShapes Go.WideShapes Go.ChangeAt Go.RowKit Base
set_option linter.unusedVariables false

/-- An item as it is read. -/
structure It where
  off : Int
  key : ByteArray
  text : ByteArray
  who : Int
  time : Int

def It.cs (x : It) : List Value := [.int .i64 x.off, .string x.key, .string x.text, .int .i64 x.who, .int .i64 x.time]
def flat (l : List It) : List Value := l.flatMap It.cs

theorem It.cs_length (x : It) : x.cs.length = 5 := rfl
theorem flat_length (l : List It) : (flat l).length = l.length * 5 := by
  induction l with
  | nil => rfl
  | cons a l ih => simp only [flat, List.flatMap_cons, List.length_append, List.length_cons] at ih ⊢; rw [ih, It.cs_length]; omega
theorem flat_append (l m : List It) : flat (l ++ m) = flat l ++ flat m := by simp [flat]
theorem flat_one (x : It) : flat [x] = x.cs := by simp [flat]
theorem flat_cons (x : It) (l : List It) : flat (x :: l) = x.cs ++ flat l := by simp [flat]

theorem flat_get (l : List It) : ∀ (i : Nat) (h : i < l.length) (f : Nat), f < 5 → (flat l)[i * 5 + f]? = (l[i].cs)[f]? := by
  induction l with
  | nil => intro i h; simp at h
  | cons a l ih =>
    intro i h f hf
    rw [flat_cons]
    cases i with
    | zero => rw [List.getElem?_append_left (by rw [It.cs_length]; omega)]; simp
    | succ i =>
      rw [List.getElem?_append_right (by rw [It.cs_length]; omega), It.cs_length]
      have e : (i + 1) * 5 + f - 5 = i * 5 + f := by omega
      rw [e, ih i (by simpa using h) f hf]; simp

/-- The items l lie in block b from offset o on. -/
def In (w : World) (b o : Nat) (l : List It) : Prop := w.rangeAt b o (flat l)

theorem In.get {w : World} {b o : Nat} {l : List It} (h : In w b o l) (i : Nat) (hi : i < l.length) :
    w.cell? ⟨b, o + i * 5, none⟩ = some (.int .i64 l[i].off) ∧ w.cell? ⟨b, o + i * 5 + 1, none⟩ = some (.string l[i].key) ∧ w.cell? ⟨b, o + i * 5 + 2, none⟩ = some (.string l[i].text) ∧
    w.cell? ⟨b, o + i * 5 + 3, none⟩ = some (.int .i64 l[i].who) ∧ w.cell? ⟨b, o + i * 5 + 4, none⟩ = some (.int .i64 l[i].time) := by
  have g : ∀ f v, f < 5 → (l[i].cs)[f]? = some v → w.cell? ⟨b, o + (i * 5 + f), none⟩ = some v := fun f v hf hv => h (i * 5 + f) v (by rw [flat_get l i hi f hf]; exact hv)
  exact ⟨g 0 _ (by omega) rfl, g 1 _ (by omega) rfl, g 2 _ (by omega) rfl, g 3 _ (by omega) rfl, g 4 _ (by omega) rfl⟩

theorem In.below {w w' : World} {b o : Nat} {l : List It} (h : In w b o l) (hb : b < w.heap.size) (hw : Below w.heap.size w w') : In w' b o l :=
  fun j v hv => (hw.cell (p := ⟨b, o + j, none⟩) hb).trans (h j v hv)

/-- The slice value v holds the items l. -/
def Holds (w : World) (v : Value) (l : List It) : Prop :=
  ∃ (A : Option Addr) (c : Nat), v = .slice A l.length c ∧ l.length ≤ c ∧ (l = [] ∨ ∃ b o, A = some ⟨b, o, none⟩ ∧ b < w.heap.size ∧ In w b o l)

theorem Holds.below {w w' : World} {v : Value} {l : List It} (h : Holds w v l) (hw : Below w.heap.size w w') : Holds w' v l := by
  obtain ⟨A, c, rfl, hc, h⟩ := h
  refine ⟨A, c, rfl, hc, ?_⟩
  rcases h with h | ⟨b, o, rfl, hb, hi⟩
  · exact .inl h
  · exact .inr ⟨b, o, rfl, Nat.lt_of_lt_of_le hb hw.size, hi.below hb hw⟩
end Go.Proofs.YtclgdghfcjkhfaaGreat.Items
