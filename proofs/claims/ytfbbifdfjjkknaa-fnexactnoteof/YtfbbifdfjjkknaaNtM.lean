/-
  Notes whose entries lie in memory of their own: marked, and held to be so marked. No condition but that there are at most 3000000 entries.
-/
import Derived.Test.YtfbbifdfjjkknaaLogM
namespace Go.Proofs.Ytfbbifdfjjkknaa.Gen
open Go.ChangeShapes Go.WideShapes Go.ChangeAt Go.RowKit Go.Joins Go.Deep Base
set_option linter.unusedVariables false

theorem markNote_any (kind term vote prev : Int) (snap : ByteArray) (a : Option Addr) (cap : Nat) (l : List En) (hl : l.length ≤ 3000000) (k : Int) (hk : 1 ≤ k) (hk' : k ≤ 100000000) (F : List Nat) (w : World) (hs : Sl w a l F) :
    Calls Try.prog 18 #[.agg #[.int .i64 kind, .int .i64 term, .int .i64 vote, .int .i64 prev, .slice a l.length cap, .string snap], .int .i64 k] w fun e w' => e = .returned (.int .i64 (k + (l.length : Int) * 9)) ∧ Off F w w' ∧ Sl w' a (marksEn l.length k) F := by
  have HC : Hid (∀ ob : Obj, Calls Try.prog 42 #[.slice a l.length cap, .int .i64 k] (w.alloc ob) fun e w' => e = .returned (.int .i64 (k + (l.length : Int) * 9)) ∧ Off F (w.alloc ob) w' ∧ Sl w' a (marksEn l.length k) F) := fun ob => markE_any a cap l hl k hk hk' F _ (hs.below (alloc0 (Below.refl _ _) ob))
  clear hs
  generalize hz : k + (l.length : Int) * 9 = z at HC ⊢
  clear hz
  go_enter Try.func18, Try.ntmps18
  go_wp2_with fail
  refine (HC.out _).mono ?_
  rintro e w1 ⟨rfl, o1, s1⟩
  have O1 := hidP o1
  have S1 := hidP s1
  clear o1 s1
  go_wp2
  go_ret
  exact ⟨rfl, by simpa using (Off.of_below (alloc0 (Below.refl _ _) _)).trans O1.out, S1.out⟩

theorem heldNote_any (kind term vote prev : Int) (snap : ByteArray) (a : Option Addr) (cap n : Nat) (hl : n ≤ 3000000) (k : Int) (hk : 1 ≤ k) (hk' : k ≤ 100000000) (F : List Nat) (w : World) (hs : Sl w a (marksEn n k) F) :
    Calls Try.prog 23 #[.agg #[.int .i64 kind, .int .i64 term, .int .i64 vote, .int .i64 prev, .slice a n cap, .string snap], .int .i64 k] w fun e w' => e = .returned (.int .i64 (k + (n : Int) * 9)) ∧ Below w.heap.size w w' := by
  have HC : Hid (∀ ob : Obj, Calls Try.prog 46 #[.slice a n cap, .int .i64 k] (w.alloc ob) fun e w' => e = .returned (.int .i64 (k + (n : Int) * 9)) ∧ Below (w.alloc ob).heap.size (w.alloc ob) w') := fun ob => heldE_any a cap n hl k hk hk' F _ (hs.below (alloc0 (Below.refl _ _) ob))
  clear hs
  have hp : ¬ k + (n : Int) * 9 < 0 := by omega
  generalize hz : k + (n : Int) * 9 = z at HC hp ⊢
  clear hz
  go_enter Try.func23, Try.ntmps23
  go_wp2_with fail
  refine (HC.out _).mono ?_
  rintro e w1 ⟨rfl, g1⟩
  go_wp2
  go_ret
  exact ⟨rfl, by repeat (first | exact Below.refl _ _ | assumption | refine via0 (by assumption) ?_ | refine Below.drew ?_ | refine alloc0 ?_ _)⟩
end Go.Proofs.Ytfbbifdfjjkknaa.Gen
