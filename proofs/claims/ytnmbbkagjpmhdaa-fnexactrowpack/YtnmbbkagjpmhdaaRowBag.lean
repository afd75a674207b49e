/-
  What a law that marks rows holds from call to call.
-/
import Derived.Test.YtnmbbkagjpmhdaaRowHeld
import Derived.Test.YtnmbbkagjpmhdaaRowEq
import Derived.Test.YtnmbbkagjpmhdaaBlks
import Derived.Test.YtnmbbkagjpmhdaaOpenRow
namespace Go.Proofs.Ytnmbbkagjpmhdaa.Items
open Go.ChangeShapes Go.WideShapes Go.ChangeAt Go.RowKit Base
set_option linter.unusedVariables false

theorem hidden {p : Prop} (h : p) : Hid p := h
theorem Blk.only {W W' : World} {b B : Nat} {t : TypeId} {vs : Array Value} (h : Blk W B t vs) (k : Only b W W') (hne : B ≠ b) : Blk W' B t vs := (k.block B h.lt hne).trans h

/-- The handed row's box, the wanted row's box i, the got row's box j, the wanted row's list below i; nothing that was there has turned. -/
structure Bag (w W : World) (i j : Nat) (rc ri rj : Array Value) (aS : Option Addr) (L : List It) : Prop where
  box : Blk W w.heap.size 49 rc
  boxI : Blk W i 26 ri
  boxJ : Blk W j 26 rj
  low : w.heap.size < i
  mid : i < j
  bel : Below w.heap.size w W
  lst : L = [] ∨ ∃ b o, aS = some ⟨b, o, none⟩ ∧ b < i ∧ In W b o L

theorem Bag.below {w W W' : World} {i j : Nat} {rc ri rj : Array Value} {aS : Option Addr} {L : List It} (h : Bag w W i j rc ri rj aS L) (g : Below W.heap.size W W') : Bag w W' i j rc ri rj aS L :=
  ⟨h.box.below g h.box.lt, h.boxI.below g h.boxI.lt, h.boxJ.below g h.boxJ.lt, h.low, h.mid, via0 g h.bel,
    h.lst.imp id fun ⟨b, o, e, hb, hi⟩ => ⟨b, o, e, hb, hi.below (Nat.lt_trans hb h.boxI.lt) g⟩⟩
theorem Bag.only {w W W' : World} {b i j : Nat} {rc ri rj : Array Value} {aS : Option Addr} {L : List It} (h : Bag w W i j rc ri rj aS L) (k : Only b W W') (hi : i < b) (hj : b ≠ j) : Bag w W' i j rc ri rj aS L :=
  ⟨h.box.only k (by have := h.low; omega), h.boxI.only k (by omega), h.boxJ.only k (by omega), h.low, h.mid, h.bel.trans (k.toBelow (by have := h.low; omega) h.bel.size),
    h.lst.imp id fun ⟨c, o, e, hc, hin⟩ => ⟨c, o, e, hc, hin.only k (Nat.lt_trans hc h.boxI.lt) (by omega)⟩⟩
theorem Bag.alloc {w W : World} {i j : Nat} {rc ri rj : Array Value} {aS : Option Addr} {L : List It} (h : Bag w W i j rc ri rj aS L) (o : Obj) : Bag w (W.alloc o) i j rc ri rj aS L := h.below (alloc0 (Below.refl _ _) o)
theorem Bag.drew {w W : World} {i j : Nat} {rc ri rj : Array Value} {aS : Option Addr} {L : List It} (h : Bag w W i j rc ri rj aS L) : Bag w W.drew i j rc ri rj aS L := h.below (Below.drew (Below.refl _ _))
theorem Bag.at {w W : World} {i j : Nat} {rc ri rj : Array Value} {aS : Option Addr} {L : List It} (h : Bag w W i j rc ri rj aS L) : At W aS L :=
  h.lst.imp id fun ⟨b, o, e, hb, hi⟩ => ⟨b, o, e, Nat.lt_trans hb h.boxI.lt, hi⟩

/-- The got row's list lies in a block between. -/
def Got (W : World) (i j : Nat) (a : Option Addr) (L : List It) : Prop := L = [] ∨ ∃ b o, a = some ⟨b, o, none⟩ ∧ i < b ∧ b < j ∧ In W b o L ∧ W.there b o (L.length * 5)
theorem Got.below {W W' : World} {i j : Nat} {a : Option Addr} {L : List It} (h : Got W i j a L) (hj : j < W.heap.size) (g : Below W.heap.size W W') : Got W' i j a L :=
  h.imp id fun ⟨b, o, e, h1, h2, h3, h4⟩ => ⟨b, o, e, h1, h2, h3.below (by omega) g, there_below h4 (by omega) g⟩
theorem Got.only {W W' : World} {i j c : Nat} {a : Option Addr} {L : List It} (h : Got W i j a L) (hj : j < W.heap.size) (k : Only c W W') (hc : c ≤ i) : Got W' i j a L :=
  h.imp id fun ⟨b, o, e, h1, h2, h3, h4⟩ => ⟨b, o, e, h1, h2, h3.only k (by omega) (by omega), there_only h4 k (by omega) (by omega)⟩
theorem Got.at {W : World} {i j : Nat} {a : Option Addr} {L : List It} (h : Got W i j a L) (hj : j < W.heap.size) : At W a L :=
  h.imp id fun ⟨b, o, e, h1, h2, h3, h4⟩ => ⟨b, o, e, by omega, h3⟩

/-- The marks stand in the got row's list. -/
def Marked (W : World) (i j : Nat) (a : Option Addr) (m : Nat) : Prop := m = 0 ∨ ∃ b o, a = some ⟨b, o, none⟩ ∧ i < b ∧ b < j ∧ In W b o (marks m 1)
theorem Marked.below {W W' : World} {i j m : Nat} {a : Option Addr} (h : Marked W i j a m) (hj : j < W.heap.size) (g : Below W.heap.size W W') : Marked W' i j a m :=
  h.imp id fun ⟨b, o, e, h1, h2, h3⟩ => ⟨b, o, e, h1, h2, h3.below (by omega) g⟩
theorem Marked.at {W : World} {i j m : Nat} {a : Option Addr} (h : Marked W i j a m) (hj : j < W.heap.size) : m = 0 ∨ ∃ b o, a = some ⟨b, o, none⟩ ∧ b < W.heap.size ∧ In W b o (marks m 1) :=
  h.imp id fun ⟨b, o, e, h1, h2, h3⟩ => ⟨b, o, e, by omega, h3⟩

theorem mark_got (start next : Int) (a : Option Addr) (cap i j : Nat) (L : List It) (hL : L.length ≤ 1048576) (W : World) (hj : j < W.heap.size) (hij : i < j) (h : Got W i j a L) :
    Calls Try.prog 30 #[.agg #[.int .i64 start, .int .i64 next, .slice a L.length cap], .int .i64 1] W
      fun e W' => e = .returned (.int .i64 (1 + (L.length : Int) * 5)) ∧ (∃ b, i < b ∧ b ≠ j ∧ Only b W W') ∧ Marked W' i j a L.length := by
  rcases h with rfl | ⟨b, o, rfl, h1, h2, h3, h4⟩
  · refine (markRow_none start next a cap 1 (by omega) (by omega) W).mono ?_
    rintro e W' ⟨rfl, g⟩
    exact ⟨rfl, ⟨j + 1, by omega, by omega, (Only.refl _ _).below g⟩, .inl rfl⟩
  · refine (markRow_any start next b o cap L.length 1 (by omega) (by omega) hL W (by omega) h4).mono ?_
    rintro e W' ⟨rfl, k, hin, _⟩
    exact ⟨rfl, ⟨b, h1, by omega, k⟩, .inr ⟨b, o, rfl, h1, h2, hin⟩⟩
end Go.Proofs.Ytnmbbkagjpmhdaa.Items
