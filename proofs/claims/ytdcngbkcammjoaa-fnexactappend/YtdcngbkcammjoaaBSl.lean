/-
  Bytes in a block of their own: marked and found marked. Condition: at most 500000000.
-/
import Derived.Test.YtdcngbkcammjoaaByts
namespace Go.Proofs.Ytdcngbkcammjoaa.Gen
open Go.ChangeShapes Go.WideShapes Go.ChangeAt Go.RowKit Go.Joins Go.Deep Base
set_option linter.unusedVariables false

theorem sl_ownB {B : Nat} {w : World} {a : Option Addr} {c : Nat} {L : List UInt8} {t : TypeId} (h : w.ownsRow B t 1 (.slice a L.length c) L.length (flat L)) : ∃ F, Sl w a L F ∧ ∀ x ∈ F, B ≤ x :=
  (Sl.of_fresh (fresh_owns (α := UInt8) h)).2
theorem markSl_any (a : Option Addr) (c : Nat) (L : List UInt8) (F : List Nat) (hL : L.length ≤ 500000000) (w : World) (h : Sl w a L F) :
    Calls Try.prog 17 #[.slice a L.length c, .int .i64 1] w fun e w' => e = .returned (.int .i64 (1 + (L.length : Int))) ∧ Off F w w' ∧ Sl w' a (marksB L.length 1) F := by
  rcases h with ⟨rfl, rfl⟩ | ⟨b, o, rfl, rfl, hb, hi, ht⟩
  · refine (markB_none a c 1 w).mono ?_
    rintro e w' ⟨rfl, rfl⟩
    exact ⟨rfl, Off.refl _ _, .inl ⟨rfl, rfl⟩⟩
  · refine (markB_any b o c L.length 1 (by omega) (by omega) hL w hb ht).mono ?_
    rintro e w' ⟨rfl, h1, h2, h3⟩
    refine ⟨rfl, Off.of_only h1, .inr ⟨b, o, rfl, rfl, Nat.lt_of_lt_of_le hb h1.size, h2, ?_⟩⟩
    rw [marksB_length]
    exact h3
theorem heldSl_any (a : Option Addr) (c n : Nat) (F : List Nat) (hL : n ≤ 500000000) (w : World) (h : Sl w a (marksB n 1) F) :
    Calls Try.prog 30 #[.slice a n c, .int .i64 1] w fun e w' => e = .returned (.int .i64 (1 + (n : Int))) ∧ Below w.heap.size w w' := by
  refine heldB_any a c n 1 (by omega) (by omega) hL w ?_
  rcases h with ⟨h, _⟩ | ⟨b, o, rfl, _, hb, hi, _⟩
  · left; have := congrArg List.length h; rwa [marksB_length] at this
  · exact .inr ⟨b, o, rfl, hb, hi⟩
end Go.Proofs.Ytdcngbkcammjoaa.Gen
