/-
  Logs and lists of entries in memory of their own: marked, and held to be so marked. No condition but that there are at most 3000000 entries.
-/
import Derived.Test.YteccgpakhbogpaaEntMark
namespace Go.Proofs.Yteccgpakhbogpaa.Gen
open Go.ChangeShapes Go.WideShapes Go.ChangeAt Go.RowKit Go.Joins Go.Deep Base
set_option linter.unusedVariables false

set_option maxRecDepth 100000 in
theorem markNone_any (a : Option Addr) (cap : Nat) (k : Int) (w : World) :
    Calls Try.prog 13 #[.slice a 0 cap, .int .i64 k] w fun e w' => e = .returned (.int .i64 k) ∧ w' = w := by
  go_enter Try.func13, Try.ntmps13
  go_wp2
  go_loopw [1, 5] (fun kk i w' => kk = .int .i64 k ∧ i = .int .i64 0 ∧ w' = w) (fun _ _ _ => 0)
  case atStart => exact ⟨rfl, rfl, rfl⟩
  case round =>
    obtain ⟨rfl, rfl, rfl⟩ := hrel
    go_wp2
    go_ret
    exact ⟨rfl, rfl⟩

theorem markE_any (a : Option Addr) (cap : Nat) (l : List En) (hl : l.length ≤ 3000000) (k : Int) (hk : 1 ≤ k) (hk' : k ≤ 100000000) (F : List Nat) (w : World) (hs : Sl w a l F) :
    Calls Try.prog 13 #[.slice a l.length cap, .int .i64 k] w fun e w' => e = .returned (.int .i64 (k + (l.length : Int) * 9)) ∧ Off F w w' ∧ Sl w' a (marksEn l.length k) F := by
  rcases hs with ⟨rfl, rfl⟩ | ⟨b, o, rfl, rfl, hb, hi, ht⟩
  · refine (markNone_any a cap k w).mono ?_
    rintro e w' ⟨rfl, rfl⟩
    exact ⟨by simp, Off.refl _ _, .inl ⟨rfl, rfl⟩⟩
  · refine (markEntryS_any b o cap l.length k hk hk' hl w hb ht).mono ?_
    rintro e w' ⟨rfl, ho, hi', ht'⟩
    exact ⟨rfl, Off.of_only ho, .inr ⟨b, o, rfl, rfl, Nat.lt_of_lt_of_le hb ho.size, hi', by rw [marksEn_length]; exact ht'⟩⟩

theorem heldE_any (a : Option Addr) (cap n : Nat) (hl : n ≤ 3000000) (k : Int) (hk : 1 ≤ k) (hk' : k ≤ 100000000) (F : List Nat) (w : World) (hs : Sl w a (marksEn n k) F) :
    Calls Try.prog 26 #[.slice a n cap, .int .i64 k] w fun e w' => e = .returned (.int .i64 (k + (n : Int) * 9)) ∧ Below w.heap.size w w' := by
  refine heldEntryS_any a cap n k hk hk' hl w ?_
  rcases hs with ⟨h, _⟩ | ⟨b, o, rfl, _, hb, hi, _⟩
  · left
    have := congrArg List.length h
    rwa [marksEn_length] at this
  · exact .inr ⟨b, o, rfl, hb, hi⟩

theorem markLog_any (base bt : Int) (a : Option Addr) (cap : Nat) (l : List En) (hl : l.length ≤ 3000000) (k : Int) (hk : 1 ≤ k) (hk' : k ≤ 100000000) (F : List Nat) (w : World) (hs : Sl w a l F) :
    Calls Try.prog 12 #[.agg #[.int .i64 base, .int .i64 bt, .slice a l.length cap], .int .i64 k] w fun e w' => e = .returned (.int .i64 (k + (l.length : Int) * 9)) ∧ Off F w w' ∧ Sl w' a (marksEn l.length k) F := by
  have HC : Hid (∀ ob : Obj, Calls Try.prog 13 #[.slice a l.length cap, .int .i64 k] (w.alloc ob) fun e w' => e = .returned (.int .i64 (k + (l.length : Int) * 9)) ∧ Off F (w.alloc ob) w' ∧ Sl w' a (marksEn l.length k) F) := fun ob => markE_any a cap l hl k hk hk' F _ (hs.below (alloc0 (Below.refl _ _) ob))
  clear hs
  generalize hz : k + (l.length : Int) * 9 = z at HC ⊢
  clear hz
  go_enter Try.func12, Try.ntmps12
  go_wp2_with fail
  refine (HC.out _).mono ?_
  rintro e w1 ⟨rfl, o1, s1⟩
  have O1 := hidP o1
  have S1 := hidP s1
  clear o1 s1
  go_wp2
  go_ret
  exact ⟨rfl, by simpa using (Off.of_below (alloc0 (Below.refl _ _) _)).trans O1.out, S1.out⟩

theorem heldLog_any (base bt : Int) (a : Option Addr) (cap n : Nat) (hl : n ≤ 3000000) (k : Int) (hk : 1 ≤ k) (hk' : k ≤ 100000000) (F : List Nat) (w : World) (hs : Sl w a (marksEn n k) F) :
    Calls Try.prog 14 #[.agg #[.int .i64 base, .int .i64 bt, .slice a n cap], .int .i64 k] w fun e w' => e = .returned (.int .i64 (k + (n : Int) * 9)) ∧ Below w.heap.size w w' := by
  have HC : Hid (∀ ob : Obj, Calls Try.prog 26 #[.slice a n cap, .int .i64 k] (w.alloc ob) fun e w' => e = .returned (.int .i64 (k + (n : Int) * 9)) ∧ Below (w.alloc ob).heap.size (w.alloc ob) w') := fun ob => heldE_any a cap n hl k hk hk' F _ (hs.below (alloc0 (Below.refl _ _) ob))
  clear hs
  have hp : ¬ k + (n : Int) * 9 < 0 := by omega
  generalize hz : k + (n : Int) * 9 = z at HC hp ⊢
  clear hz
  go_enter Try.func14, Try.ntmps14
  go_wp2_with fail
  refine (HC.out _).mono ?_
  rintro e w1 ⟨rfl, g1⟩
  go_wp2
  go_ret
  exact ⟨rfl, by repeat (first | exact Below.refl _ _ | assumption | refine via0 (by assumption) ?_ | refine Below.drew ?_ | refine alloc0 ?_ _)⟩
end Go.Proofs.Yteccgpakhbogpaa.Gen
