/-
  The program's map of makers at this seat: the place that a row and client have; what is struck out. No condition but that there are at most 1048576, and that numbers are 64 bits wide.
-/
import Derived.Test.YtpbbpjckkccjaaaMkRange
namespace Go.Proofs.Ytpbbpjckkccjaaa.Gen
open Go.ChangeShapes Go.WideShapes Go.ChangeAt Go.RowKit Go.Joins Go.Deep Base
open Go.ChangeMaps (setBlock heap_setBlock_same heap_setBlock_other)
set_option linter.unusedVariables false
set_option linter.unusedSimpArgs false

theorem first_one {l : List MC} {row who : Int} {i j : Nat} {hi : i < l.length} {hj : j < l.length} (a1 : l[i].row = row) (a2 : l[i].who = who) (a3 : ¬ seen l i row who) (b1 : l[j].row = row) (b2 : l[j].who = who) (b3 : ¬ seen l j row who) : i = j := by
  rcases Nat.lt_trichotomy i j with h | h | h
  · exact absurd ⟨i, hi, h, a1, a2⟩ b3
  · exact h
  · exact absurd ⟨j, hj, h, b1, b2⟩ a3

set_option maxRecDepth 100000 in
set_option maxHeartbeats 1000000 in
/-- Where there is one of that row and client: the place of the first. -/
theorem placeFor_some (b : Nat) (l : List MC) (row who : Int) (hl : l.length ≤ 1048576) (hr : ∀ x ∈ l, I64 x.row ∧ I64 x.who) (hrow : I64 row) (hwho : I64 who) (w : World) (hM : MapIs w b l l.length) (j : Nat) (hj : j < l.length) (h1 : l[j].row = row) (h2 : l[j].who = who) (h3 : ¬ seen l j row who) :
    Calls Try.prog 38 #[.map (some b), .agg #[.int .i64 row, .int .i64 who, .int .i64 0]] w fun e w' => e = .returned (.int .i64 (j : Int)) ∧ Below w.heap.size w w' := by
  have M0 : MapIs (w.alloc (.cells #[.int .i64 row, .int .i64 who, .int .i64 0] 67)) b l l.length := hM.below (alloc0 (Below.refl _ _) _)
  have hlook : (Instr.lookup 64 (.map (some b)) (.agg #[.int .i64 row, .int .i64 who, .int .i64 0]) true).run Try.prog (w.alloc (.cells #[.int .i64 row, .int .i64 who, .int .i64 0] 67)) = .ok (.tuple #[pval j l[j], .bool true]) (w.alloc (.cells #[.int .i64 row, .int .i64 who, .int .i64 0] 67)) := by
    rcases look_run (Nat.le_refl _) hl hr hrow hwho M0 with ⟨_, h⟩ | ⟨i, hi, hin, h, a1, a2, a3⟩
    · exact absurd ⟨j, hj, hj, h1, h2⟩ h
    · obtain rfl := first_one a1 a2 a3 h1 h2 h3
      exact h
  have hlt := hM.lt
  clear M0 hM hr h1 h2 h3
  generalize l[j] = y at hlook
  obtain ⟨yr, yw, ye, yl, yA, yc, ys⟩ := y
  simp only [pval] at hlook
  go_enter Try.func38, Try.ntmps38
  go_wp2
  go_ret
  exact ⟨rfl, by repeat (first | exact Below.refl _ _ | assumption | refine via0 (by assumption) ?_ | refine Below.drew ?_ | refine alloc0 ?_ _)⟩

theorem ents_eraseIdx (l : List MC) (n j : Nat) (h : j < n) : (ents l n).eraseIdxIfInBounds j = entsI l ((List.range n).eraseIdx j) := by
  have hs : j < (ents l n).size := by simpa [ents] using h
  apply Array.ext'
  unfold Array.eraseIdxIfInBounds
  rw [dif_pos hs]
  simp [ents, entsI]
  rw [List.eraseIdx_eq_take_drop_succ, List.eraseIdx_eq_take_drop_succ, List.map_append, List.map_take, List.map_drop]
/-- What is struck out: the first one of a row and client. -/
theorem del_some {w : World} {b : Nat} {l : List MC} (hl : l.length ≤ 1048576) (hr : ∀ x ∈ l, I64 x.row ∧ I64 x.who) {row who : Int} (hrow : I64 row) (hwho : I64 who) (h : MapIs w b l l.length) {j : Nat} {hj : j < l.length} (h1 : l[j].row = row) (h2 : l[j].who = who) (h3 : ¬ seen l j row who) :
    ∃ w', (∀ ty, (Builtin.delete_ #[64, 67] ty #[.map (some b), .agg #[.int .i64 row, .int .i64 who, .int .i64 0]]).run Try.prog w = .ok (.tuple #[]) w') ∧ MapOn w' b l ((List.range l.length).eraseIdx j) l.length ∧ Offp (fun x => x = b) w w' := by
  obtain ⟨kl, hk⟩ := keyOf_mkey hrow hwho (show I64 0 by unfold I64; omega)
  rcases find_zero (Nat.le_refl _) hl hr hrow hwho w with ⟨_, h0⟩ | ⟨i, hi, hin, hf, a1, a2, a3⟩
  · exact absurd ⟨j, hj, hj, h1, h2⟩ h0
  · obtain rfl := first_one a1 a2 a3 h1 h2 h3
    simp only [mkey] at hf hk
    refine ⟨setBlock w b (.map (entsI l ((List.range l.length).eraseIdx i)) l.length), fun ty => ?_, heap_setBlock_same h _, ⟨rfl, rfl, rfl, by simp [setBlock], fun k _ hk => heap_setBlock_other h _ hk⟩⟩
    rw [← ents_eraseIdx l _ i hin]
    simp [Builtin.delete_, run_underlying Try.underlying64, MapKept.run_getObj_map h, keyed.check w _ hk, hf, MapKept.run_setObj_map _ h, Result.andThen, setBlock]
theorem del_none {w : World} {b : Nat} {l : List MC} (hl : l.length ≤ 1048576) (hr : ∀ x ∈ l, I64 x.row ∧ I64 x.who) {row who : Int} (hrow : I64 row) (hwho : I64 who) (h : MapIs w b l l.length) (hns : ¬ seen l l.length row who) :
    ∃ w', (∀ ty, (Builtin.delete_ #[64, 67] ty #[.map (some b), .agg #[.int .i64 row, .int .i64 who, .int .i64 0]]).run Try.prog w = .ok (.tuple #[]) w') ∧ MapOn w' b l (List.range l.length) l.length ∧ Offp (fun x => x = b) w w' := by
  obtain ⟨kl, hk⟩ := keyOf_mkey hrow hwho (show I64 0 by unfold I64; omega)
  rcases find_zero (Nat.le_refl _) hl hr hrow hwho w with ⟨hf, _⟩ | ⟨i, hi, hin, hf, a1, a2, a3⟩
  · simp only [mkey] at hf hk
    refine ⟨setBlock w b (.map (ents l l.length) l.length), fun ty => ?_, heap_setBlock_same h _, ⟨rfl, rfl, rfl, by simp [setBlock], fun k _ hk => heap_setBlock_other h _ hk⟩⟩
    simp [Builtin.delete_, run_underlying Try.underlying64, MapKept.run_getObj_map h, keyed.check w _ hk, hf, MapKept.run_setObj_map _ h, Result.andThen, setBlock]
  · exact absurd ⟨i, hi, hin, a1, a2⟩ hns
end Go.Proofs.Ytpbbpjckkccjaaa.Gen
