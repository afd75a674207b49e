/-
  Answers at this seat: which are right by the specification and by the program, what the laws' toAnswer, szAnswer do; an answer opened. No condition but the length that every text has.
-/
import Derived.Test.YtkmkldjipihceaaGreatBase
set_option linter.unusedVariables false
set_option linter.unusedSimpArgs false
set_option maxRecDepth 100000
set_option maxHeartbeats 8000000
set_option maxRecDepth 100000
set_option maxHeartbeats 8000000
namespace Go.Proofs.YtkmkldjipihceaaGreat.Gen
open ChangeShapes WideShapes ChangeAt RowKit Joins Deep Base
def ansB (code n : Int) (k t : ByteArray) : Bool := Items.inB code 0 9 && Items.inB n (-1) 100000 && Items.textB k && Items.textB t
theorem four (p q r s : Bool) : p = false ∨ (p = true /\ q = false) ∨ (p = true /\ q = true /\ r = false) ∨ (p = true /\ q = true /\ r = true /\ s = false) ∨ (p = true /\ q = true /\ r = true /\ s = true) := by
 cases p<;>cases q<;>cases r<;>cases s<;>simp
theorem Qc8 (code n : Int) (k t : ByteArray) (hk : k.size <= 9223372036854775807) (ht : t.size <= 9223372036854775807) (w : World) :
 Calls Tryz.prog 77 #[.agg (Qcr code n k t)] w fun e w' => e = .returned (.bool (ansB code n k t)) /\ Below w.heap.size w w' := by
 rcases four (Items.inB code 0 9) (Items.inB n (-1) 100000) (Items.textB k) (Items.textB t) with h1 | ⟨h1, h2⟩ | ⟨h1, h2, h3⟩ | ⟨h1, h2, h3, h4⟩ | ⟨h1, h2, h3, h4⟩
 all_goals
  go_enter Tryz.func77, Tryz.ntmps77
  have q1 : w.heap.size < w.heap.size + 1 := Nat.lt_succ_self _
  go_wp2_with (first
   | (go_at_call 32; refine (Items.in_any _ _ _ _).mono ?_; rintro e w' ⟨rfl, rfl⟩)
   | (go_at_call_of 82 (Value.string k); refine (Items.specText_any k hk _).mono ?_; rintro e w1 ⟨rfl, g1⟩; obtain ⟨c1, f1⟩ := Qax g1; have s1 := g1.size; try simp at s1; have q1 : w.heap.size < w1.heap.size := by omega)
   | (go_at_call_of 82 (Value.string t); refine (Items.specText_any t ht _).mono ?_; rintro e w1 ⟨rfl, g1⟩; obtain ⟨c1, f1⟩ := Qax g1; have s1 := g1.size; try simp at s1; have q1 : w.heap.size < w1.heap.size := by omega))
  go_ret
  refine ⟨by simp [ansB, *], ?_⟩
  repeat (first | exact Below.refl _ _ | assumption | refine via0 (by assumption) ?_ | refine Below.drew ?_ | refine Qab ?_ _)
theorem Qda (code n : Int) (k t : ByteArray) (hk : k.size <= 9223372036854775807) (ht : t.size <= 9223372036854775807) (w : World) :
 Calls Tryz.prog 97 #[.agg (Qcr code n k t)] w fun e w' => e = .returned (.bool (ansB code n k t)) /\ Below w.heap.size w w' := by
 rcases four (Items.inB code 0 9) (Items.inB n (-1) 100000) (Items.textB k) (Items.textB t) with h1 | ⟨h1, h2⟩ | ⟨h1, h2, h3⟩ | ⟨h1, h2, h3, h4⟩ | ⟨h1, h2, h3, h4⟩
 all_goals
  go_enter Tryz.func97, Tryz.ntmps97
  have q1 : w.heap.size < w.heap.size + 1 := Nat.lt_succ_self _
  go_wp2_with (first
   | (go_at_call 89; refine (Items.within_any _ _ _ _).mono ?_; rintro e w' ⟨rfl, rfl⟩)
   | (go_at_call_of 99 (Value.string k); refine (Items.implText_any k hk _).mono ?_; rintro e w1 ⟨rfl, g1⟩; obtain ⟨c1, f1⟩ := Qax g1; have s1 := g1.size; try simp at s1; have q1 : w.heap.size < w1.heap.size := by omega)
   | (go_at_call_of 99 (Value.string t); refine (Items.implText_any t ht _).mono ?_; rintro e w1 ⟨rfl, g1⟩; obtain ⟨c1, f1⟩ := Qax g1; have s1 := g1.size; try simp at s1; have q1 : w.heap.size < w1.heap.size := by omega))
  go_ret
  refine ⟨by simp [ansB, *], ?_⟩
  repeat (first | exact Below.refl _ _ | assumption | refine via0 (by assumption) ?_ | refine Below.drew ?_ | refine Qab ?_ _)
theorem Qdw (code n : Int) (k t : ByteArray) (w : World) :
 Calls Tryz.prog 88 #[.agg (Qcr code n k t)] w fun e w' => e = .returned (.agg (Qcr code n k t)) /\ Below w.heap.size w w' := by
 go_enter Tryz.func88, Tryz.ntmps88
 go_wp2
 exact bodyPost_ret (v := .agg (Qcr code n k t)) (by simp [results, Tryz.results88, go_sem]) rfl
  ⟨rfl, by repeat (first | exact Below.refl _ _ | refine Below.drew ?_ | refine Below.alloc ?_ (by simp<;>omega) _)⟩
theorem Qdy (code n : Int) (k t : ByteArray) (hk : k.size <= 9223372036854775807) (ht : t.size <= 9223372036854775807) (left : Int) (h0 : 0 <= left) (h1 : left <= 1048576) (w : World) :
 Calls Tryz.prog 76 #[.agg (Qcr code n k t), .int .i64 left] w fun e w' => (∃ r : Int, e = .returned (.int .i64 r) /\ (r = -1 ∨ (0 <= r /\ r = left - (k.size : Int) - (t.size : Int)))) /\ Below w.heap.size w w' := by
 by_cases g1 : left - (k.size : Int) < 0
 . go_enter Tryz.func76, Tryz.ntmps76
   go_wp2
   go_ret
   exact ⟨⟨-1, rfl, .inl rfl⟩, by repeat (first | exact Below.refl _ _ | assumption | refine via0 (by assumption) ?_ | refine Below.drew ?_ | refine Qab ?_ _)⟩
 . by_cases g2 : left - (k.size : Int) - (t.size : Int) < 0
   . go_enter Tryz.func76, Tryz.ntmps76
     go_wp2
     go_ret
     exact ⟨⟨-1, rfl, .inl rfl⟩, by repeat (first | exact Below.refl _ _ | assumption | refine via0 (by assumption) ?_ | refine Below.drew ?_ | refine Qab ?_ _)⟩
   . go_enter Tryz.func76, Tryz.ntmps76
     go_wp2
     go_ret
     exact ⟨⟨_, rfl, .inr ⟨by omega, rfl⟩⟩, by repeat (first | exact Below.refl _ _ | assumption | refine via0 (by assumption) ?_ | refine Below.drew ?_ | refine Qab ?_ _)⟩
theorem cellsAns : Tryz.prog.cellsOf 106 = 4 := by kernel_rfl
end Go.Proofs.YtkmkldjipihceaaGreat.Gen
