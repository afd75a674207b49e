/-
  What a law that marks what it was handed and what it got holds from call to call, whatever the records are.
-/
import Derived.Test.YtpbbpjckkccjaaaGen
namespace Go.Proofs.Ytpbbpjckkccjaaa.Gen
open Go.ChangeShapes Go.WideShapes Go.ChangeAt Go.RowKit Base
set_option linter.unusedVariables false

section
variable {α : Type} [Cel α]
/-- The handed struct's box, the wanted one's box i, the got one's box j, the wanted list below i; nothing that was there has turned. -/
structure Bag (tl ti : TypeId) (w W : World) (i j : Nat) (rc ri rj : Array Value) (aS : Option Addr) (L : List α) : Prop where
  box : Blk W w.heap.size tl rc
  boxI : Blk W i ti ri
  boxJ : Blk W j ti rj
  low : w.heap.size < i
  mid : i < j
  bel : Below w.heap.size w W
  lst : L = [] ∨ ∃ b o, aS = some ⟨b, o, none⟩ ∧ b < i ∧ In W b o L
variable {tl ti : TypeId} {w W W' : World} {i j : Nat} {rc ri rj : Array Value} {aS a : Option Addr} {L : List α}
theorem Bag.below (h : Bag tl ti w W i j rc ri rj aS L) (g : Below W.heap.size W W') : Bag tl ti w W' i j rc ri rj aS L :=
  ⟨h.box.below g h.box.lt, h.boxI.below g h.boxI.lt, h.boxJ.below g h.boxJ.lt, h.low, h.mid, via0 g h.bel,
    h.lst.imp id fun ⟨b, o, e, hb, hi⟩ => ⟨b, o, e, hb, hi.below (Nat.lt_trans hb h.boxI.lt) g⟩⟩
theorem Bag.only {b : Nat} (h : Bag tl ti w W i j rc ri rj aS L) (k : Only b W W') (hi : i < b) (hj : b ≠ j) : Bag tl ti w W' i j rc ri rj aS L :=
  ⟨h.box.only k (by have := h.low; omega), h.boxI.only k (by omega), h.boxJ.only k (by omega), h.low, h.mid, h.bel.trans (k.toBelow (by have := h.low; omega) h.bel.size),
    h.lst.imp id fun ⟨c, o, e, hc, hin⟩ => ⟨c, o, e, hc, hin.only k (Nat.lt_trans hc h.boxI.lt) (by omega)⟩⟩
theorem Bag.alloc (h : Bag tl ti w W i j rc ri rj aS L) (o : Obj) : Bag tl ti w (W.alloc o) i j rc ri rj aS L := h.below (alloc0 (Below.refl _ _) o)
theorem Bag.drew (h : Bag tl ti w W i j rc ri rj aS L) : Bag tl ti w W.drew i j rc ri rj aS L := h.below (Below.drew (Below.refl _ _))
theorem Bag.at (h : Bag tl ti w W i j rc ri rj aS L) : At W aS L :=
  h.lst.imp id fun ⟨b, o, e, hb, hi⟩ => ⟨b, o, e, Nat.lt_trans hb h.boxI.lt, hi⟩

/-- The got list lies in a block between. -/
def Got (W : World) (i j : Nat) (a : Option Addr) (L : List α) : Prop := L = [] ∨ ∃ b o, a = some ⟨b, o, none⟩ ∧ i < b ∧ b < j ∧ In W b o L ∧ W.there b o (L.length * Cel.k α)
theorem Got.below (h : Got W i j a L) (hj : j < W.heap.size) (g : Below W.heap.size W W') : Got W' i j a L :=
  h.imp id fun ⟨b, o, e, h1, h2, h3, h4⟩ => ⟨b, o, e, h1, h2, h3.below (by omega) g, there_below h4 (by omega) g⟩
theorem Got.only {c : Nat} (h : Got W i j a L) (hj : j < W.heap.size) (k : Only c W W') (hc : c ≤ i) : Got W' i j a L :=
  h.imp id fun ⟨b, o, e, h1, h2, h3, h4⟩ => ⟨b, o, e, h1, h2, h3.only k (by omega) (by omega), there_only h4 k (by omega) (by omega)⟩
theorem Got.at (h : Got W i j a L) (hj : j < W.heap.size) : At W a L :=
  h.imp id fun ⟨b, o, e, h1, h2, h3, h4⟩ => ⟨b, o, e, by omega, h3⟩

/-- The marks M stand in the got list. -/
def Marked (W : World) (i j : Nat) (a : Option Addr) (m : Nat) (M : List α) : Prop := m = 0 ∨ ∃ b o, a = some ⟨b, o, none⟩ ∧ i < b ∧ b < j ∧ In W b o M
theorem Marked.below {m : Nat} (h : Marked W i j a m L) (hj : j < W.heap.size) (g : Below W.heap.size W W') : Marked W' i j a m L :=
  h.imp id fun ⟨b, o, e, h1, h2, h3⟩ => ⟨b, o, e, h1, h2, h3.below (by omega) g⟩
theorem Marked.at {m : Nat} (h : Marked W i j a m L) (hj : j < W.heap.size) : m = 0 ∨ ∃ b o, a = some ⟨b, o, none⟩ ∧ b < W.heap.size ∧ In W b o L :=
  h.imp id fun ⟨b, o, e, h1, h2, h3⟩ => ⟨b, o, e, by omega, h3⟩
end
end Go.Proofs.Ytpbbpjckkccjaaa.Gen
