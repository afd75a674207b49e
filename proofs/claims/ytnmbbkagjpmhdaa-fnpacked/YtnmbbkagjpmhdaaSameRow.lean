/-
  The laws' sameRow: what holds the same is told alike. No condition.
-/
import Derived.Test.YtnmbbkagjpmhdaaRowEq
import Derived.Test.YtnmbbkagjpmhdaaOpenRow
import Derived.Test.YtnmbbkagjpmhdaaGen
namespace Go.Proofs.Ytnmbbkagjpmhdaa.Items
open Go.ChangeShapes Go.WideShapes Go.ChangeAt Go.RowKit Base
set_option linter.unusedVariables false
set_option linter.unusedSimpArgs false

set_option maxRecDepth 100000 in
set_option maxHeartbeats 1000000 in
theorem same_row (start next : Int) (A A' : Option Addr) (cap cap' : Nat) (l : List It) (hl : l.length ≤ 2000000) (w : World) (hA : At w A l) (hA' : At w A' l) :
    Calls Try.prog 18 #[.agg #[.int .i64 start, .int .i64 next, .slice A l.length cap], .agg #[.int .i64 start, .int .i64 next, .slice A' l.length cap']] w fun e w' => e = .returned (.bool true) ∧ Below w.heap.size w w' := by
  have HA : Hid (At w A l) := hA
  have HA' : Hid (At w A' l) := hA'
  clear hA hA'
  go_enter Try.func18, Try.ntmps18
  go_wp2
  have P0 := (Gen.Blk.new w 26 #[.int .i64 start, .int .i64 next, .slice A l.length cap]).alloc (.cells #[.int .i64 start, .int .i64 next, .slice A' l.length cap'] 26)
  have P1 := Gen.Blk.new (w.alloc (.cells #[.int .i64 start, .int .i64 next, .slice A l.length cap] 26)) 26 #[.int .i64 start, .int .i64 next, .slice A' l.length cap']
  rw [World.size_alloc] at P1
  go_loopw [5] (fun i w' => ∃ (n : Nat), i = .int .i64 (n : Int) ∧ n ≤ l.length ∧ Hid (Gen.Blk w' w.heap.size 26 #[.int .i64 start, .int .i64 next, .slice A l.length cap]) ∧ Hid (Gen.Blk w' (w.heap.size + 1) 26 #[.int .i64 start, .int .i64 next, .slice A' l.length cap']) ∧ Below w.heap.size w w') (fun i _ => l.length - (intOf i).toNat)
  case atStart => exact ⟨0, rfl, by omega, P0, P1, by repeat (first | exact Below.refl _ _ | refine via0 (by assumption) ?_ | refine Below.drew ?_ | refine alloc0 ?_ _)⟩
  case round =>
    obtain ⟨n, rfl, hn, b0, b1, hbl⟩ := hrel
    obtain ⟨x0, x1, x2⟩ := b0.out.row3
    obtain ⟨y0, y1, y2⟩ := b1.out.row3
    by_cases hlt : n < l.length
    · obtain ⟨b, o, rfl, hbs, hin⟩ : ∃ b o, A = some ⟨b, o, none⟩ ∧ b < w.heap.size ∧ In w b o l := by
        rcases HA.out with h | h
        · subst h; simp at hlt
        · exact h
      obtain ⟨b', o', rfl, hbs', hin'⟩ : ∃ b o, A' = some ⟨b, o, none⟩ ∧ b < w.heap.size ∧ In w b o l := by
        rcases HA'.out with h | h
        · subst h; simp at hlt
        · exact h
      obtain ⟨c0, c1, c2, c3, c4⟩ := (hin.below hbs hbl).get n hlt
      obtain ⟨d0, d1, d2, d3, d4⟩ := (hin'.below hbs' hbl).get n hlt
      have hi0 : (0 : Int) ≤ (n : Int) := by omega
      have hi1 : (n : Int) < (l.length : Int) := by omega
      go_wp2
      go_region_held3 (fun w' => w'.cell? ⟨w.heap.size, 2, none⟩ = some (.slice (some ⟨b, o, none⟩) l.length cap) ∧ w'.cell? ⟨w.heap.size + 1, 2, none⟩ = some (.slice (some ⟨b', o', none⟩) l.length cap') ∧
          w'.cell? ⟨b, o + n * 5, none⟩ = some (.int .i64 l[n].off) ∧ w'.cell? ⟨b, o + n * 5 + 1, none⟩ = some (.string l[n].key) ∧ w'.cell? ⟨b, o + n * 5 + 2, none⟩ = some (.string l[n].text) ∧ w'.cell? ⟨b, o + n * 5 + 3, none⟩ = some (.int .i64 l[n].who) ∧ w'.cell? ⟨b, o + n * 5 + 4, none⟩ = some (.int .i64 l[n].time) ∧
          w'.cell? ⟨b', o' + n * 5, none⟩ = some (.int .i64 l[n].off) ∧ w'.cell? ⟨b', o' + n * 5 + 1, none⟩ = some (.string l[n].key) ∧ w'.cell? ⟨b', o' + n * 5 + 2, none⟩ = some (.string l[n].text) ∧ w'.cell? ⟨b', o' + n * 5 + 3, none⟩ = some (.int .i64 l[n].who) ∧ w'.cell? ⟨b', o' + n * 5 + 4, none⟩ = some (.int .i64 l[n].time))
        (first | exact ⟨x2, y2, c0, c1, c2, c3, c4, d0, d1, d2, d3, d4⟩ | go_keep) (fail)
      all_goals
        go_wp2
        exact ⟨⟨n + 1, by go_num, by omega, b0.out.drew, b1.out.drew, hbl.drew⟩, by simp [intOf]; omega⟩
    · go_wp2
      go_ret
      exact ⟨rfl, hbl⟩
end Go.Proofs.Ytnmbbkagjpmhdaa.Items
