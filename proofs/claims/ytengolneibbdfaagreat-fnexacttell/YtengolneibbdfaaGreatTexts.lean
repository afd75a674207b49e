/-
  Numbers within limits and plain texts, as the specification tells them. No condition but the length that every text has.
-/
import Derived.Test.YtengolneibbdfaaGreatRows
import Derived.Test.YtengolneibbdfaaGreatBase
namespace Go.Proofs.YtengolneibbdfaaGreat.Items
open Go.ChangeShapes Go.WideShapes Go.ChangeAt Go.RowKit Base
set_option linter.unusedVariables false
def inB (x lo hi : Int) : Bool := decide (lo <= x /\ x <= hi)
theorem in_any (x lo hi : Int) (w : World) :
    Calls Tryz.prog 25 #[.int .i64 x, .int .i64 lo, .int .i64 hi] w fun e w' => e = .returned (.bool (inB x lo hi)) /\ w' = w := by
  by_cases h1 : lo <= x<;>by_cases h2 : x <= hi <;>
  . go_enter Tryz.func25, Tryz.ntmps25
    go_wp2
    go_ret
    exact ⟨by simp [inB, h1, h2], rfl⟩
def plainN (x : Nat) : Bool := decide ((97 <= x /\ x <= 122) ∨ (48 <= x /\ x <= 57) ∨ x = 32)
theorem plain_ways (x : Nat) :
    ((97 : Int) <= x /\ (x : Int) <= 122 /\ plainN x = true) ∨ ((97 : Int) <= x /\ ¬ (x : Int) <= 122 /\ (48 : Int) <= x /\ ¬ (x : Int) <= 57 /\ ((x : Int) == 32) = false /\ plainN x = false) ∨
    (¬ (97 : Int) <= x /\ (48 : Int) <= x /\ (x : Int) <= 57 /\ plainN x = true) ∨ (¬ (97 : Int) <= x /\ (48 : Int) <= x /\ ¬ (x : Int) <= 57 /\ ((x : Int) == 32) = false /\ plainN x = false) ∨
    (¬ (97 : Int) <= x /\ ¬ (48 : Int) <= x /\ ((x : Int) == 32) = true /\ plainN x = true) ∨ (¬ (97 : Int) <= x /\ ¬ (48 : Int) <= x /\ ((x : Int) == 32) = false /\ plainN x = false) := by
  simp only [beq_eq_false_iff_ne, beq_iff_eq, ne_eq, plainN, decide_eq_true_eq, decide_eq_false_iff_not]
  omega
def allFrom (s : ByteArray) (i : Nat) : Bool := (s.data.toList.drop i).all (fun x => plainN x.toNat)
def textB (s : ByteArray) : Bool := allFrom s 0 && decide (s.size <= 30)
theorem allFrom_end {s : ByteArray} {i : Nat} (h : s.size <= i) : allFrom s i = true := by
  have : s.data.toList.drop i = [] := List.drop_eq_nil_of_le (by simpa using h)
  simp [allFrom, this]
theorem allFrom_step {s : ByteArray} {i : Nat} (h : i < s.size) : allFrom s i = (plainN (s[i]'h).toNat && allFrom s (i + 1)) := by
  have h' : i < s.data.toList.length := by simpa using h
  unfold allFrom
  rw [List.drop_eq_getElem_cons h', List.all_cons]
  rfl
theorem specText_any (s : ByteArray) (hs : s.size <= 9223372036854775807) (w : World) :
    Calls Tryz.prog 135 #[.string s] w fun e w' => e = .returned (.bool (textB s)) /\ Below w.heap.size w w' := by
  go_enter Tryz.func135, Tryz.ntmps135
  go_wp2
  go_loopw [3] (fun i w' => ∃ n : Nat, i = .int .i64 (n : Int) /\ n <= s.size /\ allFrom s n = allFrom s 0 /\ Below w.heap.size w w') (fun i _ => s.size - (intOf i).toNat)
  case atStart => exact ⟨0, rfl, by omega, rfl, Below.refl _ _⟩
  case round =>
    obtain ⟨n, rfl, hn, hE, hb⟩ := hrel
    by_cases hlt : n < s.size
    . have hst := allFrom_step hlt
      rcases plain_ways s[n].toNat with ⟨h1, h2, hp⟩ | ⟨h1, h2, h3, h4, h5, hp⟩ | ⟨h1, h2, h3, hp⟩ | ⟨h1, h2, h3, h4, hp⟩ | ⟨h1, h2, h3, hp⟩ | ⟨h1, h2, h3, hp⟩
      . have hE' : allFrom s (n + 1) = allFrom s 0 := by rw [← hE, hst, hp]; rfl
        clear hE hst hp
        go_wp2
        exact ⟨⟨n + 1, by go_num, by omega, hE', hb⟩, by simp [intOf]; omega⟩
      . have hE' : textB s = false := by
          have h0 : allFrom s 0 = false := by rw [← hE, hst, hp]; rfl
          simp [textB, h0]
        clear hE hst hp
        go_wp2
        go_ret
        exact ⟨by first | rfl | (rw [hE']; rfl), hb⟩
      . have hE' : allFrom s (n + 1) = allFrom s 0 := by rw [← hE, hst, hp]; rfl
        clear hE hst hp
        go_wp2
        exact ⟨⟨n + 1, by go_num, by omega, hE', hb⟩, by simp [intOf]; omega⟩
      . have hE' : textB s = false := by
          have h0 : allFrom s 0 = false := by rw [← hE, hst, hp]; rfl
          simp [textB, h0]
        clear hE hst hp
        go_wp2
        go_ret
        exact ⟨by first | rfl | (rw [hE']; rfl), hb⟩
      . have hE' : allFrom s (n + 1) = allFrom s 0 := by rw [← hE, hst, hp]; rfl
        clear hE hst hp
        go_wp2
        exact ⟨⟨n + 1, by go_num, by omega, hE', hb⟩, by simp [intOf]; omega⟩
      . have hE' : textB s = false := by
          have h0 : allFrom s 0 = false := by rw [← hE, hst, hp]; rfl
          simp [textB, h0]
        clear hE hst hp
        go_wp2
        go_ret
        exact ⟨by first | rfl | (rw [hE']; rfl), hb⟩
    . have hE' : allFrom s 0 = true := by rw [← hE, allFrom_end (by omega)]
      have hE2 : textB s = decide (s.size <= 30) := by simp [textB, hE']
      by_cases hl : (s.size : Int) <= 30
      . have : s.size <= 30 := by omega
        go_wp2
        go_ret
        exact ⟨by first | (rw [hE2]; simp [this]; done) | simp, hb⟩
      . have : ¬ s.size <= 30 := by omega
        go_wp2
        go_ret
        exact ⟨by first | (rw [hE2]; simp [this]; done) | simp, hb⟩
end Go.Proofs.YtengolneibbdfaaGreat.Items
