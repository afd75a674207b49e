/-
  The laws' heldItemS, markRow and heldRow: marks are found again where they were laid. No condition but that the items are at most 1048576.
-/
import Derived.Test.YtclgdghfcjkhfaaRowMark
namespace Go.Proofs.Ytclgdghfcjkhfaa.Items
open Go.ChangeShapes Go.WideShapes Go.ChangeAt Go.RowKit Base
set_option linter.unusedVariables false

set_option maxHeartbeats 1000000 in
theorem heldItemS_any (A : Option Addr) (cap m : Nat) (k : Int) (hk : 1 ≤ k) (hk' : k ≤ 100000000) (hm : m ≤ 1048576) (w : World)
    (hA : m = 0 ∨ ∃ b o, A = some ⟨b, o, none⟩ ∧ b < w.heap.size ∧ In w b o (marks m k)) :
    Calls Try.prog 50 #[.slice A m cap, .int .i64 k] w fun e w' => e = .returned (.int .i64 (k + (m : Int) * 5)) ∧ Below w.heap.size w w' := by
  have HA : Hid (m = 0 ∨ ∃ b o, A = some ⟨b, o, none⟩ ∧ b < w.heap.size ∧ In w b o (marks m k)) := hA
  clear hA
  go_enter Try.func50, Try.ntmps50
  go_wp2
  go_loopw [1, 5] (fun kk i w' => ∃ (n : Nat) (z : Int), i = .int .i64 (n : Int) ∧ kk = .int .i64 z ∧ n ≤ m ∧ 1 ≤ z ∧ z ≤ 900000000 ∧ Hid (z = k + (n : Int) * 5) ∧ Below w.heap.size w w') (fun _ i _ => m - (intOf i).toNat)
  case atStart => exact ⟨0, k, rfl, rfl, by omega, hk, by omega, by simp [Hid], Below.refl _ _⟩
  case round =>
    obtain ⟨n, z, rfl, rfl, hn, hz1, hz2, hz, hbl⟩ := hrel
    by_cases hlt : n < m
    · obtain ⟨b, o, rfl, hbs, hin⟩ : ∃ b o, A = some ⟨b, o, none⟩ ∧ b < w.heap.size ∧ In w b o (marks m k) := by
        rcases HA.out with h | h
        · omega
        · exact h
      have hb1 : b < wr.heap.size := Nat.lt_of_lt_of_le hbs hbl.size
      obtain ⟨c0, c1, c2, c3, c4⟩ : wr.cell? ⟨b, o + n * 5, none⟩ = some (.int .i64 z) ∧ wr.cell? ⟨b, o + n * 5 + 1, none⟩ = some (.string (markZ (z + 1))) ∧ wr.cell? ⟨b, o + n * 5 + 2, none⟩ = some (.string (markZ (z + 1 + 1))) ∧
          wr.cell? ⟨b, o + n * 5 + 3, none⟩ = some (.int .i64 (z + 1 + 1 + 1)) ∧ wr.cell? ⟨b, o + n * 5 + 4, none⟩ = some (.int .i64 (z + 1 + 1 + 1 + 1)) := by
        have h := (hin.below hbs hbl).get n (by rw [marks_length]; exact hlt)
        rw [marks_get] at h
        have e2 : z + 1 + 1 = z + 2 := by omega
        have e3 : z + 1 + 1 + 1 = z + 3 := by omega
        have e4 : z + 1 + 1 + 1 + 1 = z + 4 := by omega
        rw [e4, e3, e2, hz.out]
        exact h
      have hi0 : (0 : Int) ≤ (n : Int) := by omega
      have hi1 : (n : Int) < (m : Int) := by omega
      go_wp2
      go_region_held3 (fun w' => w'.cell? ⟨b, o + n * 5 + 1, none⟩ = some (.string (markZ (z + 1))) ∧ w'.cell? ⟨b, o + n * 5 + 2, none⟩ = some (.string (markZ (z + 1 + 1))) ∧ w'.cell? ⟨b, o + n * 5 + 3, none⟩ = some (.int .i64 (z + 1 + 1 + 1)) ∧ w'.cell? ⟨b, o + n * 5 + 4, none⟩ = some (.int .i64 (z + 1 + 1 + 1 + 1)) ∧ b < w'.heap.size)
        (first | (go_split_ands; refine ⟨?_, ?_, ?_, ?_, ?_⟩ <;> first | assumption | exact (k1 _ _ (by assumption)).trans (by assumption) | exact Nat.lt_of_lt_of_le (by assumption) s1 | (simp; done)) | go_keep)
        (first
          | (go_at_call 47; refine (markText_at _ ?_ ?_ _).mono ?_; omega; omega; rintro e w1 ⟨rfl, g1⟩; obtain ⟨k1, m1⟩ := bcell g1; have s1 := g1.size))
      go_split_ands
      go_wp2
      go_region_held3 (fun w' => w'.cell? ⟨b, o + n * 5 + 2, none⟩ = some (.string (markZ (z + 1 + 1))) ∧ w'.cell? ⟨b, o + n * 5 + 3, none⟩ = some (.int .i64 (z + 1 + 1 + 1)) ∧ w'.cell? ⟨b, o + n * 5 + 4, none⟩ = some (.int .i64 (z + 1 + 1 + 1 + 1)) ∧ b < w'.heap.size)
        (first | (go_split_ands; refine ⟨?_, ?_, ?_, ?_⟩ <;> first | assumption | exact (k2 _ _ (by assumption)).trans (by assumption) | exact Nat.lt_of_lt_of_le (by assumption) s2 | (simp; done)) | go_keep)
        (first
          | (go_at_call 47; refine (markText_at _ ?_ ?_ _).mono ?_; omega; omega; rintro e w2 ⟨rfl, g2⟩; obtain ⟨k2, m2⟩ := bcell g2; have s2 := g2.size))
      go_split_ands
      go_wp2
      have hz' := hz.out
      exact ⟨⟨n + 1, z + 1 + 1 + 1 + 1 + 1, by go_num, rfl, by omega, by omega, by omega, by show z + 1 + 1 + 1 + 1 + 1 = _; omega, via0 g2 (via0 g1 hbl.drew).drew⟩, by simp [intOf]; omega⟩
    · obtain rfl : n = m := by omega
      go_wp2
      go_ret
      have e := hz.out
      subst e
      exact ⟨rfl, hbl⟩

end Go.Proofs.Ytclgdghfcjkhfaa.Items
