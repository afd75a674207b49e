/-
  Notes: what the laws' sz, to and eq functions of them do; a note opened. No condition but that there are at most 1048576 entries, and the length that every text has.
-/
import Derived.Test.YtfbbifdfjjkknaaDoorEnt
namespace Go.Proofs.YtfbbifdfjjkknaaDoor.Gen
open Go.ChangeShapes Go.WideShapes Go.ChangeAt Go.RowKit Go.Joins Go.Deep Base
set_option linter.unusedVariables false

theorem At.hidN {α : Type} [Cel α] {w : World} {A : Option Addr} {l : List α} (hA : At w A l) : Hid (∀ W : World, Below w.heap.size w W → At W A l) := fun W hW => hA.below hW
theorem Blk.row6n {W : World} {B : Nat} {t : TypeId} {a b c d e f : Value} (h : Blk W B t #[a, b, c, d, e, f]) : W.cell? ⟨B, 0, none⟩ = some a ∧ W.cell? ⟨B, 1, none⟩ = some b ∧ W.cell? ⟨B, 2, none⟩ = some c ∧ W.cell? ⟨B, 3, none⟩ = some d ∧ W.cell? ⟨B, 4, none⟩ = some e ∧ W.cell? ⟨B, 5, none⟩ = some f :=
  ⟨h.cell (by rfl), h.cell (by rfl), h.cell (by rfl), h.cell (by rfl), h.cell (by rfl), h.cell (by rfl)⟩

theorem eqNote_same (kind term vote prev : Int) (snap : ByteArray) (A A' : Option Addr) (cap cap' : Nat) (l : List En) (hl : l.length ≤ 9223372036854775807) (w : World) (hA : At w A l) (hA' : At w A' l) :
    Calls Tryd.prog 15 #[.agg #[.int .i64 kind, .int .i64 term, .int .i64 vote, .int .i64 prev, .slice A l.length cap, .string snap], .agg #[.int .i64 kind, .int .i64 term, .int .i64 vote, .int .i64 prev, .slice A' l.length cap', .string snap]] w fun e w' => e = .returned (.bool true) ∧ Below w.heap.size w w' := by
  have HA := hA.hidN
  have HA' := hA'.hidN
  clear hA hA'
  have p0 : Blk ((w.alloc (.cells #[.int .i64 kind, .int .i64 term, .int .i64 vote, .int .i64 prev, .slice A l.length cap, .string snap] 34)).alloc (.cells #[.int .i64 kind, .int .i64 term, .int .i64 vote, .int .i64 prev, .slice A' l.length cap', .string snap] 34)) w.heap.size 34 #[.int .i64 kind, .int .i64 term, .int .i64 vote, .int .i64 prev, .slice A l.length cap, .string snap] := (Blk.new w _ _).alloc _
  have r0 : Blk ((w.alloc (.cells #[.int .i64 kind, .int .i64 term, .int .i64 vote, .int .i64 prev, .slice A l.length cap, .string snap] 34)).alloc (.cells #[.int .i64 kind, .int .i64 term, .int .i64 vote, .int .i64 prev, .slice A' l.length cap', .string snap] 34)) (w.heap.size + 1) 34 #[.int .i64 kind, .int .i64 term, .int .i64 vote, .int .i64 prev, .slice A' l.length cap', .string snap] := by
    have := Blk.new (w.alloc (.cells #[.int .i64 kind, .int .i64 term, .int .i64 vote, .int .i64 prev, .slice A l.length cap, .string snap] 34)) 34 #[.int .i64 kind, .int .i64 term, .int .i64 vote, .int .i64 prev, .slice A' l.length cap', .string snap]
    rwa [World.size_alloc] at this
  go_enter Tryd.func15, Tryd.ntmps15
  go_wp2_with fail
  refine (eqEntryS_same A A' cap cap' l hl _ (HA.out _ (by repeat (first | exact Below.refl _ _ | assumption | refine via0 (by assumption) ?_ | refine Below.drew ?_ | refine alloc0 ?_ _))) (HA'.out _ (by repeat (first | exact Below.refl _ _ | assumption | refine via0 (by assumption) ?_ | refine Below.drew ?_ | refine alloc0 ?_ _)))).mono ?_
  rintro e w1 ⟨rfl, g1⟩
  have B1 : Below w.heap.size w w1 := by repeat (first | exact Below.refl _ _ | assumption | refine via0 (by assumption) ?_ | refine Below.drew ?_ | refine alloc0 ?_ _)
  have p1 := p0.below g1 p0.lt
  have r1 := r0.below g1 r0.lt
  obtain ⟨d0, d1, d2, d3, d4, d5⟩ := p1.row6n
  obtain ⟨e0, e1, e2, e3, e4, e5⟩ := r1.row6n
  have q1 := p1.lt
  have q2 := r1.lt
  clear g1
  go_wp2
  go_ret
  exact ⟨rfl, B1⟩

end Go.Proofs.YtfbbifdfjjkknaaDoor.Gen
