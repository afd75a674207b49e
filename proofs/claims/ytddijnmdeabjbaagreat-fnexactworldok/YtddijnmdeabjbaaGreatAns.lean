/-
  Answers at this seat: which are right by the specification and by the program, what the laws' toAnswer, szAnswer do; an answer opened. No condition but the length that every text has.
-/
import Derived.Test.YtddijnmdeabjbaaGreatBase
set_option linter.unusedVariables false
set_option linter.unusedSimpArgs false
set_option maxRecDepth 100000
set_option maxHeartbeats 8000000
namespace Go.Proofs.YtddijnmdeabjbaaGreat.Gen
open ChangeShapes WideShapes ChangeAt RowKit Joins Deep Base
def ansB (code n : Int) (k t : ByteArray) : Bool := Items.inB code 0 9 && Items.inB n (-1) 100000 && Items.textB k && Items.textB t
theorem four (p q r s : Bool) : p = false ∨ (p = true /\ q = false) ∨ (p = true /\ q = true /\ r = false) ∨ (p = true /\ q = true /\ r = true /\ s = false) ∨ (p = true /\ q = true /\ r = true /\ s = true) := by
 cases p<;>cases q<;>cases r<;>cases s<;>simp
theorem Qcf (code n : Int) (k t : ByteArray) (hk : k.size <= 9223372036854775807) (ht : t.size <= 9223372036854775807) (w : World) :
 Calls Tryz.prog 54 #[.agg #[.int .i64 code, .int .i64 n, .string k, .string t]] w fun e w' => e = .returned (.bool (ansB code n k t)) /\ Below w.heap.size w w' := by
 rcases four (Items.inB code 0 9) (Items.inB n (-1) 100000) (Items.textB k) (Items.textB t) with h1 | ⟨h1, h2⟩ | ⟨h1, h2, h3⟩ | ⟨h1, h2, h3, h4⟩ | ⟨h1, h2, h3, h4⟩
 all_goals
  go_enter Tryz.func54, Tryz.ntmps54
  have q1 : w.heap.size < w.heap.size + 1 := Nat.lt_succ_self _
  go_wp2_with (first
   | (go_at_call 18; refine (Items.in_any _ _ _ _).mono ?_; rintro e w' ⟨rfl, rfl⟩)
   | (go_at_call_of 60 (Value.string k); refine (Items.specText_any k hk _).mono ?_; rintro e w1 ⟨rfl, g1⟩; obtain ⟨c1, f1⟩ := Qaf g1; have s1 := g1.size; try simp at s1; have q1 : w.heap.size < w1.heap.size := by omega)
   | (go_at_call_of 60 (Value.string t); refine (Items.specText_any t ht _).mono ?_; rintro e w1 ⟨rfl, g1⟩; obtain ⟨c1, f1⟩ := Qaf g1; have s1 := g1.size; try simp at s1; have q1 : w.heap.size < w1.heap.size := by omega))
  go_ret
  refine ⟨by simp [ansB, *], ?_⟩
  repeat (first | exact Below.refl _ _ | assumption | refine via0 (by assumption) ?_ | refine Below.drew ?_ | refine Qaa ?_ _)
theorem Qci (code n : Int) (k t : ByteArray) (hk : k.size <= 9223372036854775807) (ht : t.size <= 9223372036854775807) (w : World) :
 Calls Tryz.prog 73 #[.agg #[.int .i64 code, .int .i64 n, .string k, .string t]] w fun e w' => e = .returned (.bool (ansB code n k t)) /\ Below w.heap.size w w' := by
 rcases four (Items.inB code 0 9) (Items.inB n (-1) 100000) (Items.textB k) (Items.textB t) with h1 | ⟨h1, h2⟩ | ⟨h1, h2, h3⟩ | ⟨h1, h2, h3, h4⟩ | ⟨h1, h2, h3, h4⟩
 all_goals
  go_enter Tryz.func73, Tryz.ntmps73
  have q1 : w.heap.size < w.heap.size + 1 := Nat.lt_succ_self _
  go_wp2_with (first
   | (go_at_call 65; refine (Items.within_any _ _ _ _).mono ?_; rintro e w' ⟨rfl, rfl⟩)
   | (go_at_call_of 75 (Value.string k); refine (Items.implText_any k hk _).mono ?_; rintro e w1 ⟨rfl, g1⟩; obtain ⟨c1, f1⟩ := Qaf g1; have s1 := g1.size; try simp at s1; have q1 : w.heap.size < w1.heap.size := by omega)
   | (go_at_call_of 75 (Value.string t); refine (Items.implText_any t ht _).mono ?_; rintro e w1 ⟨rfl, g1⟩; obtain ⟨c1, f1⟩ := Qaf g1; have s1 := g1.size; try simp at s1; have q1 : w.heap.size < w1.heap.size := by omega))
  go_ret
  refine ⟨by simp [ansB, *], ?_⟩
  repeat (first | exact Below.refl _ _ | assumption | refine via0 (by assumption) ?_ | refine Below.drew ?_ | refine Qaa ?_ _)
theorem Qc5 (code n : Int) (k t : ByteArray) (w : World) :
 Calls Tryz.prog 96 #[.agg #[.int .i64 code, .int .i64 n, .string k, .string t]] w fun e w' => e = .returned (.agg #[.int .i64 code, .int .i64 n, .string k, .string t]) /\ Below w.heap.size w w' := by
 go_enter Tryz.func96, Tryz.ntmps96
 go_wp2
 exact bodyPost_ret (v := .agg #[.int .i64 code, .int .i64 n, .string k, .string t]) (by simp [results, Tryz.results96, go_sem]) rfl
  ⟨rfl, by repeat (first | exact Below.refl _ _ | refine Below.drew ?_ | refine Below.alloc ?_ (by simp<;>omega) _)⟩
theorem Qc7 (code n : Int) (k t : ByteArray) (hk : k.size <= 9223372036854775807) (ht : t.size <= 9223372036854775807) (left : Int) (h0 : 0 <= left) (h1 : left <= 1048576) (w : World) :
 Calls Tryz.prog 86 #[.agg #[.int .i64 code, .int .i64 n, .string k, .string t], .int .i64 left] w fun e w' => (∃ r : Int, e = .returned (.int .i64 r) /\ (r = -1 ∨ (0 <= r /\ r = left - (k.size : Int) - (t.size : Int)))) /\ Below w.heap.size w w' := by
 by_cases g1 : left - (k.size : Int) < 0
 . go_enter Tryz.func86, Tryz.ntmps86
   go_wp2
   go_ret
   exact ⟨⟨-1, rfl, .inl rfl⟩, by repeat (first | exact Below.refl _ _ | assumption | refine via0 (by assumption) ?_ | refine Below.drew ?_ | refine Qaa ?_ _)⟩
 . by_cases g2 : left - (k.size : Int) - (t.size : Int) < 0
   . go_enter Tryz.func86, Tryz.ntmps86
     go_wp2
     go_ret
     exact ⟨⟨-1, rfl, .inl rfl⟩, by repeat (first | exact Below.refl _ _ | assumption | refine via0 (by assumption) ?_ | refine Below.drew ?_ | refine Qaa ?_ _)⟩
   . go_enter Tryz.func86, Tryz.ntmps86
     go_wp2
     go_ret
     exact ⟨⟨_, rfl, .inr ⟨by omega, rfl⟩⟩, by repeat (first | exact Below.refl _ _ | assumption | refine via0 (by assumption) ?_ | refine Below.drew ?_ | refine Qaa ?_ _)⟩
theorem cellsAns : Tryz.prog.cellsOf 121 = 4 := by kernel_rfl
end Go.Proofs.YtddijnmdeabjbaaGreat.Gen
