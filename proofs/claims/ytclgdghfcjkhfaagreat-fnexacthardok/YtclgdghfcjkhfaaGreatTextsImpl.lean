/-
  Numbers within limits and plain texts, as the program tells them. No condition but the length that every text has.
-/
import Derived.Test.YtclgdghfcjkhfaaGreatTexts
namespace Go.Proofs.YtclgdghfcjkhfaaGreat.Items
open Go.ChangeShapes Go.WideShapes Go.ChangeAt Go.RowKit Base
set_option linter.unusedVariables false

theorem within_any (x lo hi : Int) (w : World) :
    Calls Tryz.prog 27 #[.int .i64 x, .int .i64 lo, .int .i64 hi] w fun e w' => e = .returned (.bool (inB x lo hi)) ∧ w' = w := by
  by_cases h1 : lo ≤ x <;> by_cases h2 : x ≤ hi <;>
  · go_enter Tryz.func27, Tryz.ntmps27
    go_wp2
    go_ret
    exact ⟨by simp [inB, h1, h2], rfl⟩

theorem plain_any (x : Nat) (w : World) :
    Calls Tryz.prog 153 #[.int .u8 (x : Int)] w fun e w' => e = .returned (.bool (plainN x)) ∧ w' = w := by
  rcases plain_ways x with ⟨h1, h2, hp⟩ | ⟨h1, h2, h3, h4, h5, hp⟩ | ⟨h1, h2, h3, hp⟩ | ⟨h1, h2, h3, h4, hp⟩ | ⟨h1, h2, h3, hp⟩ | ⟨h1, h2, h3, hp⟩ <;>
  · rw [hp]
    go_enter Tryz.func153, Tryz.ntmps153
    go_wp2
    go_ret
    exact ⟨rfl, rfl⟩

theorem implText_any (s : ByteArray) (hs : s.size ≤ 9223372036854775807) (w : World) :
    Calls Tryz.prog 109 #[.string s] w fun e w' => e = .returned (.bool (textB s)) ∧ Below w.heap.size w w' := by
  by_cases hl : (s.size : Int) > 30
  · have e1 : textB s = false := by simp [textB]; omega
    rw [e1]
    go_enter Tryz.func109, Tryz.ntmps109
    go_wp2
    go_ret
    exact ⟨rfl, Below.refl _ _⟩
  · have e1 : textB s = allFrom s 0 := by simp [textB]; omega
    rw [e1]
    go_enter Tryz.func109, Tryz.ntmps109
    go_wp2
    go_loopw [3] (fun i w' => ∃ n : Nat, i = .int .i64 (n : Int) ∧ n ≤ s.size ∧ allFrom s n = allFrom s 0 ∧ Below w.heap.size w w') (fun i _ => s.size - (intOf i).toNat)
    case atStart => exact ⟨0, rfl, by omega, rfl, Below.refl _ _⟩
    case round =>
      obtain ⟨n, rfl, hn, hE, hb⟩ := hrel
      by_cases hlt : n < s.size
      · have hst := allFrom_step hlt
        cases hp : plainN s[n].toNat
        · have hE' : allFrom s 0 = false := by rw [← hE, hst, hp]; rfl
          clear hE hst
          go_wp2_with (go_at_call 153; refine (plain_any _ _).mono ?_; rintro e w' ⟨rfl, rfl⟩)
          go_ret
          exact ⟨by first | rfl | (rw [hE']; rfl), hb⟩
        · have hE' : allFrom s (n + 1) = allFrom s 0 := by rw [← hE, hst, hp]; rfl
          clear hE hst
          go_wp2_with (go_at_call 153; refine (plain_any _ _).mono ?_; rintro e w' ⟨rfl, rfl⟩)
          exact ⟨⟨n + 1, by go_num, by omega, hE', hb⟩, by simp [intOf]; omega⟩
      · have hE' : allFrom s 0 = true := by rw [← hE, allFrom_end (by omega)]
        go_wp2
        go_ret
        exact ⟨by first | rfl | (rw [hE']; rfl), hb⟩

end Go.Proofs.YtclgdghfcjkhfaaGreat.Items
