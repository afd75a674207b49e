/-
  OwnerOf of the specification and of the program at this seat: they answer alike. No condition but that there are at most 1048576 members.
-/
import Derived.Test.YtnjefllameilbaaGroups
namespace Go.Proofs.Ytnjefllameilbaa.Gen
open Go.ChangeShapes Go.WideShapes Go.ChangeAt Go.RowKit Go.Joins Go.Deep Base
set_option linter.unusedVariables false
set_option linter.unusedSimpArgs false

/-- Who owns a row. -/
def ownF (m : List Int) (row : Int) : Int := if m.length = 0 ∨ row < 0 then -1 else m.getD (row % (m.length : Int)).toNat 0
theorem ownF_none {m : List Int} {row : Int} (h : m.length = 0 ∨ row < 0) : ownF m row = -1 := by rw [ownF, if_pos h]
theorem ownF_some {m : List Int} {row : Int} (h : ¬ (m.length = 0 ∨ row < 0)) {n : Nat} (hn : (row % (m.length : Int)) = n) (hlt : n < m.length) : ownF m row = m[n] := by
  unfold ownF
  rw [if_neg h, hn]
  simp [hlt]

set_option maxRecDepth 100000 in
set_option maxHeartbeats 1000000 in
theorem specOwner_any (gen row : Int) (A B C : Option Addr) (ca cb cc : Nat) (m b o : List Int) (hm : m.length ≤ 1048576) (hr : ∀ x ∈ m, I64 x) (w : World) (hA : At w A m) (hB : At w B b) (hC : At w C o) :
    Calls Try.prog 29 #[.agg #[.int .i64 gen, .slice A m.length ca, .slice B b.length cb, .slice C o.length cc], .int .i64 row] w fun e w' => e = .returned (.int .i64 (ownF m row)) ∧ Below w.heap.size w w' := by
  have HA := hidP hA
  clear hA hB hC
  by_cases h0 : m.length = 0
  · have hF : Hid (ownF m row = -1) := ownF_none (.inl h0)
    have h0' : (m.length : Int) = 0 := by omega
    go_enter Try.func29, Try.ntmps29
    go_wp2
    go_ret
    exact ⟨by rw [hF.out]; rfl, by repeat (first | exact Below.refl _ _ | assumption | refine via0 (by assumption) ?_ | refine Below.drew ?_ | refine alloc0 ?_ _)⟩
  have h0' : ((m.length : Int) == 0) = false := by simp only [beq_eq_false_iff_ne]; omega
  have h0c : decide ((m.length : Int) = 0) = false := decide_eq_false (by omega)
  by_cases h1 : row < 0
  · have hF : Hid (ownF m row = -1) := ownF_none (.inr h1)
    go_enter Try.func29, Try.ntmps29
    go_wp2
    go_ret
    exact ⟨by rw [hF.out]; rfl, by repeat (first | exact Below.refl _ _ | assumption | refine via0 (by assumption) ?_ | refine Below.drew ?_ | refine alloc0 ?_ _)⟩
  have h1' : decide (row < 0) = false := decide_eq_false h1
  obtain ⟨n, hn⟩ : ∃ n : Nat, row % (m.length : Int) = n := ⟨(row % (m.length : Int)).toNat, by rw [Int.toNat_of_nonneg (Int.emod_nonneg _ (by omega))]⟩
  have hlt : n < m.length := by have := Int.emod_lt_of_pos row (show (0 : Int) < (m.length : Int) by omega); omega
  have hF : Hid (ownF m row = m[n]) := ownF_some (by omega) hn hlt
  obtain ⟨b', o', rfl, hbs, hin⟩ : ∃ b o, A = some ⟨b, o, none⟩ ∧ b < w.heap.size ∧ In w b o m := by
    rcases HA.out with h | h
    · subst h; simp at hlt
    · exact h
  have c0 := hin.getInt n hlt
  have hi0 : (0 : Int) ≤ (n : Int) := by omega
  have hi1 : (n : Int) < (m.length : Int) := by omega
  have ht : row.tmod (m.length : Int) = n := by rw [Int.tmod_eq_emod_of_nonneg (by omega)]; exact hn
  go_enter Try.func29, Try.ntmps29
  go_wp2
  go_region
  all_goals
    go_wp2
    go_ret
    exact ⟨by rw [hF.out]; rfl, by repeat (first | exact Below.refl _ _ | assumption | refine via0 (by assumption) ?_ | refine Below.drew ?_ | refine alloc0 ?_ _)⟩

set_option maxRecDepth 100000 in
set_option maxHeartbeats 1000000 in
theorem implOwner_any (gen row : Int) (A B C : Option Addr) (ca cb cc : Nat) (m b o : List Int) (hm : m.length ≤ 1048576) (hr : ∀ x ∈ m, I64 x) (w : World) (hA : At w A m) (hB : At w B b) (hC : At w C o) :
    Calls Try.prog 31 #[.agg #[.int .i64 gen, .slice A m.length ca, .slice B b.length cb, .slice C o.length cc], .int .i64 row] w fun e w' => e = .returned (.int .i64 (ownF m row)) ∧ Below w.heap.size w w' := by
  have HA := hidP hA
  clear hA hB hC
  by_cases h1 : row < 0
  · have hF : Hid (ownF m row = -1) := ownF_none (.inr h1)
    go_enter Try.func31, Try.ntmps31
    go_wp2
    go_ret
    exact ⟨by rw [hF.out]; rfl, by repeat (first | exact Below.refl _ _ | assumption | refine via0 (by assumption) ?_ | refine Below.drew ?_ | refine alloc0 ?_ _)⟩
  have h1' : decide (row < 0) = false := decide_eq_false h1
  by_cases h0 : m.length = 0
  · have hF : Hid (ownF m row = -1) := ownF_none (.inl h0)
    have h0' : (m.length : Int) = 0 := by omega
    go_enter Try.func31, Try.ntmps31
    go_wp2
    go_ret
    exact ⟨by rw [hF.out]; rfl, by repeat (first | exact Below.refl _ _ | assumption | refine via0 (by assumption) ?_ | refine Below.drew ?_ | refine alloc0 ?_ _)⟩
  have h0' : ((m.length : Int) == 0) = false := by simp only [beq_eq_false_iff_ne]; omega
  have h0c : decide ((m.length : Int) = 0) = false := decide_eq_false (by omega)
  obtain ⟨n, hn⟩ : ∃ n : Nat, row % (m.length : Int) = n := ⟨(row % (m.length : Int)).toNat, by rw [Int.toNat_of_nonneg (Int.emod_nonneg _ (by omega))]⟩
  have hlt : n < m.length := by have := Int.emod_lt_of_pos row (show (0 : Int) < (m.length : Int) by omega); omega
  have hF : Hid (ownF m row = m[n]) := ownF_some (by omega) hn hlt
  obtain ⟨b', o', rfl, hbs, hin⟩ : ∃ b o, A = some ⟨b, o, none⟩ ∧ b < w.heap.size ∧ In w b o m := by
    rcases HA.out with h | h
    · subst h; simp at hlt
    · exact h
  have c0 := hin.getInt n hlt
  have hi0 : (0 : Int) ≤ (n : Int) := by omega
  have hi1 : (n : Int) < (m.length : Int) := by omega
  have ht : row.tmod (m.length : Int) = n := by rw [Int.tmod_eq_emod_of_nonneg (by omega)]; exact hn
  go_enter Try.func31, Try.ntmps31
  go_wp2
  go_region
  all_goals
    go_wp2
    go_ret
    exact ⟨by rw [hF.out]; rfl, by repeat (first | exact Below.refl _ _ | assumption | refine via0 (by assumption) ?_ | refine Below.drew ?_ | refine alloc0 ?_ _)⟩

end Go.Proofs.Ytnjefllameilbaa.Gen
