/-
  Setups at this seat: which are right by the specification and by the program; the laws' toSetup. No condition.
-/
import Derived.Test.YtkmkldjipihceaaGreatDkV
set_option linter.unusedVariables false
set_option linter.unusedSimpArgs false
set_option maxRecDepth 100000
set_option maxHeartbeats 8000000
set_option maxRecDepth 100000
set_option maxHeartbeats 8000000
namespace Go.Proofs.YtkmkldjipihceaaGreat.Gen
open ChangeShapes WideShapes ChangeAt RowKit Joins Deep Base
def setB (ro wi le ke : Int) : Bool := inB ro 1 4 && inB wi 1 5 && inB le 1 8 && inB ke 0 60
theorem Qg1 (p q r s : Bool) : p = false ∨ (p = true /\ q = false) ∨ (p = true /\ q = true /\ r = false) ∨ (p = true /\ q = true /\ r = true /\ s = false) ∨ (p = true /\ q = true /\ r = true /\ s = true) := by
 cases p<;>cases q<;>cases r<;>cases s<;>simp
theorem Qde (ro wi le ke : Int) (w : World) :
 Calls Tryz.prog 39 #[.agg (Qag ro wi le ke)] w fun e w' => e = .returned (.bool (setB ro wi le ke)) /\ Below w.heap.size w w' := by
 rcases Qg1 (inB ro 1 4) (inB wi 1 5) (inB le 1 8) (inB ke 0 60) with h1 | ⟨h1, h2⟩ | ⟨h1, h2, h3⟩ | ⟨h1, h2, h3, h4⟩ | ⟨h1, h2, h3, h4⟩
 all_goals
  go_enter Tryz.func39, Tryz.ntmps39
  go_wp2_with (go_at_call 32; refine (in_any _ _ _ _).mono ?_; rintro e w' ⟨rfl, rfl⟩)
  go_ret
  exact ⟨by simp [setB, *], by repeat (first | exact Below.refl _ _ | refine Below.drew ?_ | refine Below.alloc ?_ (by simp<;>omega) _)⟩
theorem Qdj (ro wi le ke : Int) (w : World) :
 Calls Tryz.prog 48 #[.agg (Qag ro wi le ke)] w fun e w' => e = .returned (.bool (setB ro wi le ke)) /\ Below w.heap.size w w' := by
 rcases Qg1 (inB ro 1 4) (inB wi 1 5) (inB le 1 8) (inB ke 0 60) with h1 | ⟨h1, h2⟩ | ⟨h1, h2, h3⟩ | ⟨h1, h2, h3, h4⟩ | ⟨h1, h2, h3, h4⟩
 all_goals
  go_enter Tryz.func48, Tryz.ntmps48
  go_wp2_with (go_at_call 89; refine (within_any _ _ _ _).mono ?_; rintro e w' ⟨rfl, rfl⟩)
  go_ret
  exact ⟨by simp [setB, *], by repeat (first | exact Below.refl _ _ | refine Below.drew ?_ | refine Below.alloc ?_ (by simp<;>omega) _)⟩
theorem Qhm (ro wi le ke : Int) (w : World) :
 Calls Tryz.prog 18 #[.agg (Qag ro wi le ke)] w fun e w' => e = .returned (.agg (Qag ro wi le ke)) /\ Below w.heap.size w w' := by
 go_enter Tryz.func18, Tryz.ntmps18
 go_wp2
 exact bodyPost_ret (v := .agg (Qag ro wi le ke)) (by simp [results, Tryz.results18, go_sem]) rfl
  ⟨rfl, by repeat (first | exact Below.refl _ _ | refine Below.drew ?_ | refine Below.alloc ?_ (by simp<;>omega) _)⟩
end Go.Proofs.YtkmkldjipihceaaGreat.Gen
