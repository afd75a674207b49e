/-
  Answers at this seat: which are right by the specification and by the program, what the laws' toAnswer, szAnswer do; an answer opened. No condition but the length that every text has.
-/
import Derived.Test.YtclgdghfcjkhfaaGreatTextsImpl
import Derived.Test.YtclgdghfcjkhfaaGreatOpen
import Derived.Test.YtclgdghfcjkhfaaGreatGen
namespace Go.Proofs.YtclgdghfcjkhfaaGreat.Gen
open Go.ChangeShapes Go.WideShapes Go.ChangeAt Go.RowKit Go.Joins Go.Deep Base
set_option linter.unusedVariables false

/-- Which answers are right. -/
def ansB (code n : Int) (k t : ByteArray) : Bool := Items.inB code 0 9 && Items.inB n (-1) 100000 && Items.textB k && Items.textB t

theorem four (p q r s : Bool) : p = false ∨ (p = true ∧ q = false) ∨ (p = true ∧ q = true ∧ r = false) ∨ (p = true ∧ q = true ∧ r = true ∧ s = false) ∨ (p = true ∧ q = true ∧ r = true ∧ s = true) := by
  cases p <;> cases q <;> cases r <;> cases s <;> simp

set_option maxHeartbeats 1000000 in
theorem specAnswer_any (code n : Int) (k t : ByteArray) (hk : k.size ≤ 9223372036854775807) (ht : t.size ≤ 9223372036854775807) (w : World) :
    Calls Tryz.prog 48 #[.agg #[.int .i64 code, .int .i64 n, .string k, .string t]] w fun e w' => e = .returned (.bool (ansB code n k t)) ∧ Below w.heap.size w w' := by
  rcases four (Items.inB code 0 9) (Items.inB n (-1) 100000) (Items.textB k) (Items.textB t) with h1 | ⟨h1, h2⟩ | ⟨h1, h2, h3⟩ | ⟨h1, h2, h3, h4⟩ | ⟨h1, h2, h3, h4⟩
  all_goals
    go_enter Tryz.func48, Tryz.ntmps48
    have q1 : w.heap.size < w.heap.size + 1 := Nat.lt_succ_self _
    go_wp2_with (first
      | (go_at_call 20; refine (Items.in_any _ _ _ _).mono ?_; rintro e w' ⟨rfl, rfl⟩)
      | (go_at_call_of 100 (Value.string k); refine (Items.specText_any k hk _).mono ?_; rintro e w1 ⟨rfl, g1⟩; obtain ⟨c1, f1⟩ := bcell g1; have s1 := g1.size; try simp at s1; have q1 : w.heap.size < w1.heap.size := by omega)
      | (go_at_call_of 100 (Value.string t); refine (Items.specText_any t ht _).mono ?_; rintro e w1 ⟨rfl, g1⟩; obtain ⟨c1, f1⟩ := bcell g1; have s1 := g1.size; try simp at s1; have q1 : w.heap.size < w1.heap.size := by omega))
    go_ret
    refine ⟨by simp [ansB, *], ?_⟩
    repeat (first | exact Below.refl _ _ | assumption | refine via0 (by assumption) ?_ | refine Below.drew ?_ | refine alloc0 ?_ _)

set_option maxHeartbeats 1000000 in
theorem implAnswer_any (code n : Int) (k t : ByteArray) (hk : k.size ≤ 9223372036854775807) (ht : t.size ≤ 9223372036854775807) (w : World) :
    Calls Tryz.prog 71 #[.agg #[.int .i64 code, .int .i64 n, .string k, .string t]] w fun e w' => e = .returned (.bool (ansB code n k t)) ∧ Below w.heap.size w w' := by
  rcases four (Items.inB code 0 9) (Items.inB n (-1) 100000) (Items.textB k) (Items.textB t) with h1 | ⟨h1, h2⟩ | ⟨h1, h2, h3⟩ | ⟨h1, h2, h3, h4⟩ | ⟨h1, h2, h3, h4⟩
  all_goals
    go_enter Tryz.func71, Tryz.ntmps71
    have q1 : w.heap.size < w.heap.size + 1 := Nat.lt_succ_self _
    go_wp2_with (first
      | (go_at_call 27; refine (Items.within_any _ _ _ _).mono ?_; rintro e w' ⟨rfl, rfl⟩)
      | (go_at_call_of 109 (Value.string k); refine (Items.implText_any k hk _).mono ?_; rintro e w1 ⟨rfl, g1⟩; obtain ⟨c1, f1⟩ := bcell g1; have s1 := g1.size; try simp at s1; have q1 : w.heap.size < w1.heap.size := by omega)
      | (go_at_call_of 109 (Value.string t); refine (Items.implText_any t ht _).mono ?_; rintro e w1 ⟨rfl, g1⟩; obtain ⟨c1, f1⟩ := bcell g1; have s1 := g1.size; try simp at s1; have q1 : w.heap.size < w1.heap.size := by omega))
    go_ret
    refine ⟨by simp [ansB, *], ?_⟩
    repeat (first | exact Below.refl _ _ | assumption | refine via0 (by assumption) ?_ | refine Below.drew ?_ | refine alloc0 ?_ _)

theorem toAnswer_any (code n : Int) (k t : ByteArray) (w : World) :
    Calls Tryz.prog 107 #[.agg #[.int .i64 code, .int .i64 n, .string k, .string t]] w fun e w' => e = .returned (.agg #[.int .i64 code, .int .i64 n, .string k, .string t]) ∧ Below w.heap.size w w' := by
  go_enter Tryz.func107, Tryz.ntmps107
  go_wp2
  exact bodyPost_ret (v := .agg #[.int .i64 code, .int .i64 n, .string k, .string t]) (by simp [results, Tryz.results107, go_sem]) rfl
    ⟨rfl, by repeat (first | exact Below.refl _ _ | refine Below.drew ?_ | refine Below.alloc ?_ (by simp <;> omega) _)⟩

theorem szAnswer_any (code n : Int) (k t : ByteArray) (hk : k.size ≤ 9223372036854775807) (ht : t.size ≤ 9223372036854775807) (left : Int) (h0 : 0 ≤ left) (h1 : left ≤ 1048576) (w : World) :
    Calls Tryz.prog 99 #[.agg #[.int .i64 code, .int .i64 n, .string k, .string t], .int .i64 left] w fun e w' => (∃ r : Int, e = .returned (.int .i64 r) ∧ (r = -1 ∨ (0 ≤ r ∧ r = left - (k.size : Int) - (t.size : Int)))) ∧ Below w.heap.size w w' := by
  by_cases g1 : left - (k.size : Int) < 0
  · go_enter Tryz.func99, Tryz.ntmps99
    go_wp2
    go_ret
    exact ⟨⟨-1, rfl, .inl rfl⟩, by repeat (first | exact Below.refl _ _ | assumption | refine via0 (by assumption) ?_ | refine Below.drew ?_ | refine alloc0 ?_ _)⟩
  · by_cases g2 : left - (k.size : Int) - (t.size : Int) < 0
    · go_enter Tryz.func99, Tryz.ntmps99
      go_wp2
      go_ret
      exact ⟨⟨-1, rfl, .inl rfl⟩, by repeat (first | exact Below.refl _ _ | assumption | refine via0 (by assumption) ?_ | refine Below.drew ?_ | refine alloc0 ?_ _)⟩
    · go_enter Tryz.func99, Tryz.ntmps99
      go_wp2
      go_ret
      exact ⟨⟨_, rfl, .inr ⟨by omega, rfl⟩⟩, by repeat (first | exact Below.refl _ _ | assumption | refine via0 (by assumption) ?_ | refine Below.drew ?_ | refine alloc0 ?_ _)⟩

theorem cellsAns : Tryz.prog.cellsOf 161 = 4 := by kernel_rfl

set_option maxRecDepth 100000 in
/-- An answer by value, opened: two numbers and two texts. -/
theorem openAnswer {H : Type} {enc : TypeId × Value → H} {W : World} {base b0 : Nat} {r : Reach} {spare : Nat → Bool} {held : Bool} {v : Value} {d : DataW H} {p : List MemPlace}
    (hv : Value.okWide Tryz.prog W r b0 161 v) (h : DataW.Trod enc Tryz.prog W base spare held 161 v d p) :
    ∃ (code n : Int) (k t : ByteArray), v = .agg #[.int .i64 code, .int .i64 n, .string k, .string t] ∧ I64 code ∧ I64 n ∧ k.size ≤ 9223372036854775807 ∧ t.size ≤ 9223372036854775807 := by
  obtain ⟨c0, c1, c2, c3, y0, y1, y2, y3, m, rfl, rfl, rfl, hy0, hy1, hy2, hy3⟩ := open_agg4 Tryz.underlying161 (by kernel_rfl) cellsAns hv h
  obtain ⟨a, e0, rfl, wa⟩ := DataW.trod_int Tryz.underlying3 hy0
  obtain ⟨b, e1, rfl, wb⟩ := DataW.trod_int Tryz.underlying3 hy1
  obtain ⟨c, e2, rfl, wc⟩ := DataW.trod_string Tryz.underlying9 hy2
  obtain ⟨d, e3, rfl, wd⟩ := DataW.trod_string Tryz.underlying9 hy3
  simp at e0 e1 e2 e3
  subst e0 e1 e2 e3
  exact ⟨a, b, c, d, rfl, i64_of wa, i64_of wb, by simpa [maxLen] using wc, by simpa [maxLen] using wd⟩
end Go.Proofs.YtclgdghfcjkhfaaGreat.Gen
