/-
  The laws' heldItemS, markRow and heldRow: marks are found again where they were laid. No condition but that the items are at most 1048576.
-/
import Derived.Test.YtnmbbkagjpmhdaaRowMark
namespace Go.Proofs.Ytnmbbkagjpmhdaa.Items
open Go.ChangeShapes Go.WideShapes Go.ChangeAt Go.RowKit Base
set_option linter.unusedVariables false

set_option maxHeartbeats 1000000 in
theorem heldItemS_any (A : Option Addr) (cap m : Nat) (k : Int) (hk : 1 ≤ k) (hk' : k ≤ 100000000) (hm : m ≤ 1048576) (w : World)
    (hA : m = 0 ∨ ∃ b o, A = some ⟨b, o, none⟩ ∧ b < w.heap.size ∧ In w b o (marks m k)) :
    Calls Try.prog 56 #[.slice A m cap, .int .i64 k] w fun e w' => e = .returned (.int .i64 (k + (m : Int) * 5)) ∧ Below w.heap.size w w' := by
  have HA : Hid (m = 0 ∨ ∃ b o, A = some ⟨b, o, none⟩ ∧ b < w.heap.size ∧ In w b o (marks m k)) := hA
  clear hA
  go_enter Try.func56, Try.ntmps56
  go_wp2
  go_loopw [1, 5] (fun kk i w' => ∃ (n : Nat) (z : Int), i = .int .i64 (n : Int) ∧ kk = .int .i64 z ∧ n ≤ m ∧ 1 ≤ z ∧ z ≤ 900000000 ∧ Hid (z = k + (n : Int) * 5) ∧ Below w.heap.size w w') (fun _ i _ => m - (intOf i).toNat)
  case atStart => exact ⟨0, k, rfl, rfl, by omega, hk, by omega, by simp [Hid], Below.refl _ _⟩
  case round =>
    obtain ⟨n, z, rfl, rfl, hn, hz1, hz2, hz, hbl⟩ := hrel
    by_cases hlt : n < m
    · obtain ⟨b, o, rfl, hbs, hin⟩ : ∃ b o, A = some ⟨b, o, none⟩ ∧ b < w.heap.size ∧ In w b o (marks m k) := by
        rcases HA.out with h | h
        · omega
        · exact h
      have hb1 : b < wr.heap.size := Nat.lt_of_lt_of_le hbs hbl.size
      obtain ⟨c0, c1, c2, c3, c4⟩ : wr.cell? ⟨b, o + n * 5, none⟩ = some (.int .i64 z) ∧ wr.cell? ⟨b, o + n * 5 + 1, none⟩ = some (.string (markZ (z + 1))) ∧ wr.cell? ⟨b, o + n * 5 + 2, none⟩ = some (.string (markZ (z + 1 + 1))) ∧
          wr.cell? ⟨b, o + n * 5 + 3, none⟩ = some (.int .i64 (z + 1 + 1 + 1)) ∧ wr.cell? ⟨b, o + n * 5 + 4, none⟩ = some (.int .i64 (z + 1 + 1 + 1 + 1)) := by
        have h := (hin.below hbs hbl).get n (by rw [marks_length]; exact hlt)
        rw [marks_get] at h
        have e2 : z + 1 + 1 = z + 2 := by omega
        have e3 : z + 1 + 1 + 1 = z + 3 := by omega
        have e4 : z + 1 + 1 + 1 + 1 = z + 4 := by omega
        rw [e4, e3, e2, hz.out]
        exact h
      have hi0 : (0 : Int) ≤ (n : Int) := by omega
      have hi1 : (n : Int) < (m : Int) := by omega
      go_wp2
      go_region_held3 (fun w' => w'.cell? ⟨b, o + n * 5 + 1, none⟩ = some (.string (markZ (z + 1))) ∧ w'.cell? ⟨b, o + n * 5 + 2, none⟩ = some (.string (markZ (z + 1 + 1))) ∧ w'.cell? ⟨b, o + n * 5 + 3, none⟩ = some (.int .i64 (z + 1 + 1 + 1)) ∧ w'.cell? ⟨b, o + n * 5 + 4, none⟩ = some (.int .i64 (z + 1 + 1 + 1 + 1)) ∧ b < w'.heap.size)
        (first | (go_split_ands; refine ⟨?_, ?_, ?_, ?_, ?_⟩ <;> first | assumption | exact (k1 _ _ (by assumption)).trans (by assumption) | exact Nat.lt_of_lt_of_le (by assumption) s1 | (simp; done)) | go_keep)
        (first
          | (go_at_call 70; refine (markText_at _ ?_ ?_ _).mono ?_; omega; omega; rintro e w1 ⟨rfl, g1⟩; obtain ⟨k1, m1⟩ := bcell g1; have s1 := g1.size))
      go_split_ands
      go_wp2
      go_region_held3 (fun w' => w'.cell? ⟨b, o + n * 5 + 2, none⟩ = some (.string (markZ (z + 1 + 1))) ∧ w'.cell? ⟨b, o + n * 5 + 3, none⟩ = some (.int .i64 (z + 1 + 1 + 1)) ∧ w'.cell? ⟨b, o + n * 5 + 4, none⟩ = some (.int .i64 (z + 1 + 1 + 1 + 1)) ∧ b < w'.heap.size)
        (first | (go_split_ands; refine ⟨?_, ?_, ?_, ?_⟩ <;> first | assumption | exact (k2 _ _ (by assumption)).trans (by assumption) | exact Nat.lt_of_lt_of_le (by assumption) s2 | (simp; done)) | go_keep)
        (first
          | (go_at_call 70; refine (markText_at _ ?_ ?_ _).mono ?_; omega; omega; rintro e w2 ⟨rfl, g2⟩; obtain ⟨k2, m2⟩ := bcell g2; have s2 := g2.size))
      go_split_ands
      go_wp2
      have hz' := hz.out
      exact ⟨⟨n + 1, z + 1 + 1 + 1 + 1 + 1, by go_num, rfl, by omega, by omega, by omega, by show z + 1 + 1 + 1 + 1 + 1 = _; omega, via0 g2 (via0 g1 hbl.drew).drew⟩, by simp [intOf]; omega⟩
    · obtain rfl : n = m := by omega
      go_wp2
      go_ret
      have e := hz.out
      subst e
      exact ⟨rfl, hbl⟩

theorem markRow_any (start next : Int) (b o cap m : Nat) (k : Int) (hk : 1 ≤ k) (hk' : k ≤ 100000000) (hm : m ≤ 1048576) (w : World) (hb : b < w.heap.size) (hth : w.there b o (m * 5)) :
    Calls Try.prog 30 #[.agg #[.int .i64 start, .int .i64 next, .slice (some ⟨b, o, none⟩) m cap], .int .i64 k] w
      fun e w' => e = .returned (.int .i64 (k + (m : Int) * 5)) ∧ Only b w w' ∧ In w' b o (marks m k) ∧ w'.there b o (m * 5) := by
  have HT : ∀ ob : Obj, Hid ((w.alloc ob).there b o (m * 5)) := fun ob => there_below hth hb (alloc0 (Below.refl _ _) ob)
  have HB : ∀ ob : Obj, Hid (b < (w.alloc ob).heap.size) := fun ob => by show b < (w.alloc ob).heap.size; simp; omega
  have H1 : Hid (∀ ob : Obj, Hid ((w.alloc ob).there b o (m * 5))) := HT
  have H2 : Hid (∀ ob : Obj, Hid (b < (w.alloc ob).heap.size)) := HB
  clear hth HT HB
  go_enter Try.func30, Try.ntmps30
  go_wp2_with (go_at_call 55; refine (markItemS_any b o cap m k hk hk' hm _ (H2.out _).out (H1.out _).out).mono ?_; rintro e w1 ⟨rfl, g1, i1, t1⟩)
  go_ret
  exact ⟨rfl, ⟨g1.os, g1.tape, g1.output, by have := g1.size; simp at this; omega, fun i hi hne => (g1.block i (by simp; omega) hne).trans (Below.heap_alloc w _ i hi)⟩, i1, t1⟩

/-- A row of no item is marked by nothing. -/
theorem markRow_none (start next : Int) (A : Option Addr) (cap : Nat) (k : Int) (hk : 1 ≤ k) (hk' : k ≤ 100000000) (w : World) :
    Calls Try.prog 30 #[.agg #[.int .i64 start, .int .i64 next, .slice A 0 cap], .int .i64 k] w fun e w' => e = .returned (.int .i64 k) ∧ Below w.heap.size w w' := by
  have h0 : ∀ W : World, Calls Try.prog 55 #[.slice A 0 cap, .int .i64 k] W fun e w' => e = .returned (.int .i64 k) ∧ Below W.heap.size W w' := fun W => by
    go_enter Try.func55, Try.ntmps55
    go_wp2
    go_loopw [1, 5] (fun kk i w' => kk = .int .i64 k ∧ i = .int .i64 0 ∧ w' = W) (fun _ _ _ => 0)
    case atStart => exact ⟨rfl, rfl, rfl⟩
    case round =>
      obtain ⟨rfl, rfl, rfl⟩ := hrel
      go_wp2
      go_ret
      exact ⟨rfl, Below.refl _ _⟩
  have H0 : Hid (∀ W : World, Calls Try.prog 55 #[.slice A 0 cap, .int .i64 k] W fun e w' => e = .returned (.int .i64 k) ∧ Below W.heap.size W w') := h0
  clear h0
  go_enter Try.func30, Try.ntmps30
  go_wp2_with (go_at_call 55; refine (H0.out _).mono ?_; rintro e w1 ⟨rfl, g1⟩)
  go_ret
  refine ⟨rfl, ?_⟩
  repeat (first | exact Below.refl _ _ | refine via0 (by assumption) ?_ | refine Below.drew ?_ | refine alloc0 ?_ _)

theorem heldRow_any (start next : Int) (A : Option Addr) (cap m : Nat) (k : Int) (hk : 1 ≤ k) (hk' : k ≤ 100000000) (hm : m ≤ 1048576) (w : World)
    (hA : m = 0 ∨ ∃ b o, A = some ⟨b, o, none⟩ ∧ b < w.heap.size ∧ In w b o (marks m k)) :
    Calls Try.prog 31 #[.agg #[.int .i64 start, .int .i64 next, .slice A m cap], .int .i64 k] w fun e w' => e = .returned (.int .i64 (k + (m : Int) * 5)) ∧ Below w.heap.size w w' := by
  have HA' : ∀ ob : Obj, m = 0 ∨ ∃ b o, A = some ⟨b, o, none⟩ ∧ b < (w.alloc ob).heap.size ∧ In (w.alloc ob) b o (marks m k) := fun ob => by
    rcases hA with h | ⟨b, o, h1, h2, h3⟩
    · exact .inl h
    · exact .inr ⟨b, o, h1, by simp; omega, h3.below h2 (alloc0 (Below.refl _ _) ob)⟩
  have HA : Hid (∀ ob : Obj, m = 0 ∨ ∃ b o, A = some ⟨b, o, none⟩ ∧ b < (w.alloc ob).heap.size ∧ In (w.alloc ob) b o (marks m k)) := HA'
  clear hA HA'
  have hp : ¬ (k + (m : Int) * 5) < 0 := by omega
  go_enter Try.func31, Try.ntmps31
  go_wp2_with (go_at_call 56; refine (heldItemS_any A cap m k hk hk' hm _ (HA.out _)).mono ?_; rintro e w1 ⟨rfl, g1⟩)
  go_ret
  refine ⟨rfl, ?_⟩
  repeat (first | exact Below.refl _ _ | refine via0 (by assumption) ?_ | refine Below.drew ?_ | refine alloc0 ?_ _)
end Go.Proofs.Ytnmbbkagjpmhdaa.Items
