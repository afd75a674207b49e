/-
  Logs and lists of entries in memory of their own: marked, and held to be so marked. No condition but that there are at most 3000000 entries.
-/
import Derived.Test.YtfbbifdfjjkknaaDoorEntMark
namespace Go.Proofs.YtfbbifdfjjkknaaDoor.Gen
open Go.ChangeShapes Go.WideShapes Go.ChangeAt Go.RowKit Go.Joins Go.Deep Base
set_option linter.unusedVariables false

set_option maxRecDepth 100000 in
theorem markNone_any (a : Option Addr) (cap : Nat) (k : Int) (w : World) :
    Calls Tryd.prog 16 #[.slice a 0 cap, .int .i64 k] w fun e w' => e = .returned (.int .i64 k) ∧ w' = w := by
  go_enter Tryd.func16, Tryd.ntmps16
  go_wp2
  go_loopw [1, 5] (fun kk i w' => kk = .int .i64 k ∧ i = .int .i64 0 ∧ w' = w) (fun _ _ _ => 0)
  case atStart => exact ⟨rfl, rfl, rfl⟩
  case round =>
    obtain ⟨rfl, rfl, rfl⟩ := hrel
    go_wp2
    go_ret
    exact ⟨rfl, rfl⟩

theorem markE_any (a : Option Addr) (cap : Nat) (l : List En) (hl : l.length ≤ 3000000) (k : Int) (hk : 1 ≤ k) (hk' : k ≤ 100000000) (F : List Nat) (w : World) (hs : Sl w a l F) :
    Calls Tryd.prog 16 #[.slice a l.length cap, .int .i64 k] w fun e w' => e = .returned (.int .i64 (k + (l.length : Int) * 9)) ∧ Off F w w' ∧ Sl w' a (marksEn l.length k) F := by
  rcases hs with ⟨rfl, rfl⟩ | ⟨b, o, rfl, rfl, hb, hi, ht⟩
  · refine (markNone_any a cap k w).mono ?_
    rintro e w' ⟨rfl, rfl⟩
    exact ⟨by simp, Off.refl _ _, .inl ⟨rfl, rfl⟩⟩
  · refine (markEntryS_any b o cap l.length k hk hk' hl w hb ht).mono ?_
    rintro e w' ⟨rfl, ho, hi', ht'⟩
    exact ⟨rfl, Off.of_only ho, .inr ⟨b, o, rfl, rfl, Nat.lt_of_lt_of_le hb ho.size, hi', by rw [marksEn_length]; exact ht'⟩⟩

theorem heldE_any (a : Option Addr) (cap n : Nat) (hl : n ≤ 3000000) (k : Int) (hk : 1 ≤ k) (hk' : k ≤ 100000000) (F : List Nat) (w : World) (hs : Sl w a (marksEn n k) F) :
    Calls Tryd.prog 18 #[.slice a n cap, .int .i64 k] w fun e w' => e = .returned (.int .i64 (k + (n : Int) * 9)) ∧ Below w.heap.size w w' := by
  refine heldEntryS_any a cap n k hk hk' hl w ?_
  rcases hs with ⟨h, _⟩ | ⟨b, o, rfl, _, hb, hi, _⟩
  · left
    have := congrArg List.length h
    rwa [marksEn_length] at this
  · exact .inr ⟨b, o, rfl, hb, hi⟩


end Go.Proofs.YtfbbifdfjjkknaaDoor.Gen
