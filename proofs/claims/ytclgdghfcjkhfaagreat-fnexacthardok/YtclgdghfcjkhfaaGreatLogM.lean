/-
  Logs and lists of entries in memory of their own: marked, and held to be so marked. No condition but that there are at most 3000000 entries.
-/
import Derived.Test.YtclgdghfcjkhfaaGreatEntMark
namespace Go.Proofs.YtclgdghfcjkhfaaGreat.Gen
open Go.ChangeShapes Go.WideShapes Go.ChangeAt Go.RowKit Go.Joins Go.Deep Base
set_option linter.unusedVariables false

set_option maxRecDepth 100000 in
theorem markNone_any (a : Option Addr) (cap : Nat) (k : Int) (w : World) :
    Calls Tryz.prog 89 #[.slice a 0 cap, .int .i64 k] w fun e w' => e = .returned (.int .i64 k) ∧ w' = w := by
  go_enter Tryz.func89, Tryz.ntmps89
  go_wp2
  go_loopw [1, 5] (fun kk i w' => kk = .int .i64 k ∧ i = .int .i64 0 ∧ w' = w) (fun _ _ _ => 0)
  case atStart => exact ⟨rfl, rfl, rfl⟩
  case round =>
    obtain ⟨rfl, rfl, rfl⟩ := hrel
    go_wp2
    go_ret
    exact ⟨rfl, rfl⟩

theorem markE_any (a : Option Addr) (cap : Nat) (l : List En) (hl : l.length ≤ 3000000) (k : Int) (hk : 1 ≤ k) (hk' : k ≤ 100000000) (F : List Nat) (w : World) (hs : Sl w a l F) :
    Calls Tryz.prog 89 #[.slice a l.length cap, .int .i64 k] w fun e w' => e = .returned (.int .i64 (k + (l.length : Int) * 9)) ∧ Off F w w' ∧ Sl w' a (marksEn l.length k) F := by
  rcases hs with ⟨rfl, rfl⟩ | ⟨b, o, rfl, rfl, hb, hi, ht⟩
  · refine (markNone_any a cap k w).mono ?_
    rintro e w' ⟨rfl, rfl⟩
    exact ⟨by simp, Off.refl _ _, .inl ⟨rfl, rfl⟩⟩
  · refine (markEntryS_any b o cap l.length k hk hk' hl w hb ht).mono ?_
    rintro e w' ⟨rfl, ho, hi', ht'⟩
    exact ⟨rfl, Off.of_only ho, .inr ⟨b, o, rfl, rfl, Nat.lt_of_lt_of_le hb ho.size, hi', by rw [marksEn_length]; exact ht'⟩⟩

theorem markLog_any (base bt : Int) (a : Option Addr) (cap : Nat) (l : List En) (hl : l.length ≤ 3000000) (k : Int) (hk : 1 ≤ k) (hk' : k ≤ 100000000) (F : List Nat) (w : World) (hs : Sl w a l F) :
    Calls Tryz.prog 35 #[.agg #[.int .i64 base, .int .i64 bt, .slice a l.length cap], .int .i64 k] w fun e w' => e = .returned (.int .i64 (k + (l.length : Int) * 9)) ∧ Off F w w' ∧ Sl w' a (marksEn l.length k) F := by
  have HC : Hid (∀ ob : Obj, Calls Tryz.prog 89 #[.slice a l.length cap, .int .i64 k] (w.alloc ob) fun e w' => e = .returned (.int .i64 (k + (l.length : Int) * 9)) ∧ Off F (w.alloc ob) w' ∧ Sl w' a (marksEn l.length k) F) := fun ob => markE_any a cap l hl k hk hk' F _ (hs.below (alloc0 (Below.refl _ _) ob))
  clear hs
  generalize hz : k + (l.length : Int) * 9 = z at HC ⊢
  clear hz
  go_enter Tryz.func35, Tryz.ntmps35
  go_wp2_with fail
  refine (HC.out _).mono ?_
  rintro e w1 ⟨rfl, o1, s1⟩
  have O1 := hidP o1
  have S1 := hidP s1
  clear o1 s1
  go_wp2
  go_ret
  exact ⟨rfl, by simpa using (Off.of_below (alloc0 (Below.refl _ _) _)).trans O1.out, S1.out⟩

end Go.Proofs.YtclgdghfcjkhfaaGreat.Gen
