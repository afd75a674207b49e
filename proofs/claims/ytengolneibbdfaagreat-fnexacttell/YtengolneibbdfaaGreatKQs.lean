/-
  A keeper of one's own: four of its lists are written in place, no other list lies in their blocks; a keeper under way, list by list. No condition.
-/
import Derived.Test.YtengolneibbdfaaGreatKeepV
import Derived.Test.YtengolneibbdfaaGreatAnsList
namespace Go.Proofs.YtengolneibbdfaaGreat.Gen
open Go.ChangeShapes Go.WideShapes Go.ChangeAt Go.RowKit Go.Joins Go.Deep Base
open Items (It)
set_option linter.unusedVariables false
set_option linter.unusedSimpArgs false
section
variable {α : Type} [Cel α] {W W' : World} {A : Option Addr} {l : List α} {S T : Nat -> Prop}
end
structure Pl {α : Type} [Cel α] (W : World) (A : Option Addr) (l : List α) (b : Nat) : Prop where
  a : A = some ⟨b, 0, none⟩
  lt : b < W.heap.size
  i : In W b 0 l
  th : W.there b 0 (l.length * Cel.k α)
section
variable {α : Type} [Cel α] {W W' : World} {A : Option Addr} {l : List α} {b : Nat} {T : Nat -> Prop}
theorem Pl.of_own {B : Nat} {t : TypeId} {c : Nat} (h : W.ownsRow B t (Cel.k α) (.slice A l.length c) l.length (flat l)) (hl : 0 < l.length) : ∃ b, Pl W A l b /\ B <= b /\ (Value.slice A l.length c).ownBlock = some b := by
  rcases h.2 with ⟨e, h0⟩ | ⟨g, c', cur, e, hB, hg, hc, hm, hsz, ht⟩
  . omega
  . cases e
    obtain ⟨A', c2, e2, _, h1⟩ := fresh_of (α := α) (t := t) hg hB hc hsz ht
    cases e2
    rcases h1 with h1 | ⟨b, o, e3, hB', hb, hi, hth⟩
    . subst h1; simp at hl
    . cases e3
      exact ⟨g, ⟨rfl, hb, hi, hth⟩, hB, rfl⟩
end
section
variable {W W' : World} {x : KC} {S S' T : Nat -> Prop} {br bg bd bl : Nat}
end
def Stay2 (P B : Nat) (Pk : World -> Prop) : Prop := ∀ (W W' : World) (T : Nat -> Prop), Pk W -> Offp T W W' -> (∀ x, T x -> x = P ∨ B <= x) -> Pk W'
end Go.Proofs.YtengolneibbdfaaGreat.Gen
