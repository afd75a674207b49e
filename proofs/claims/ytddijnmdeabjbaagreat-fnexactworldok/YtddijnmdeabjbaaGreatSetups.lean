/-
  Setups at this seat: which are right by the specification and by the program; the laws' toSetup. No condition.
-/
import Derived.Test.YtddijnmdeabjbaaGreatDkV
set_option linter.unusedVariables false
set_option linter.unusedSimpArgs false
set_option maxRecDepth 100000
set_option maxHeartbeats 8000000
namespace Go.Proofs.YtddijnmdeabjbaaGreat.Gen
open ChangeShapes WideShapes ChangeAt RowKit Joins Deep Base
def setB (ro wi le ke : Int) : Bool := inB ro 1 4 && inB wi 1 5 && inB le 1 8 && inB ke 0 60
theorem Qge (p q r s : Bool) : p = false ∨ (p = true /\ q = false) ∨ (p = true /\ q = true /\ r = false) ∨ (p = true /\ q = true /\ r = true /\ s = false) ∨ (p = true /\ q = true /\ r = true /\ s = true) := by
 cases p<;>cases q<;>cases r<;>cases s<;>simp
theorem Qcm (ro wi le ke : Int) (w : World) :
 Calls Tryz.prog 17 #[.agg #[.int .i64 ro, .int .i64 wi, .int .i64 le, .int .i64 ke]] w fun e w' => e = .returned (.bool (setB ro wi le ke)) /\ Below w.heap.size w w' := by
 rcases Qge (inB ro 1 4) (inB wi 1 5) (inB le 1 8) (inB ke 0 60) with h1 | ⟨h1, h2⟩ | ⟨h1, h2, h3⟩ | ⟨h1, h2, h3, h4⟩ | ⟨h1, h2, h3, h4⟩
 all_goals
  go_enter Tryz.func17, Tryz.ntmps17
  go_wp2_with (go_at_call 18; refine (in_any _ _ _ _).mono ?_; rintro e w' ⟨rfl, rfl⟩)
  go_ret
  exact ⟨by simp [setB, *], by repeat (first | exact Below.refl _ _ | refine Below.drew ?_ | refine Below.alloc ?_ (by simp<;>omega) _)⟩
theorem Qcr (ro wi le ke : Int) (w : World) :
 Calls Tryz.prog 29 #[.agg #[.int .i64 ro, .int .i64 wi, .int .i64 le, .int .i64 ke]] w fun e w' => e = .returned (.bool (setB ro wi le ke)) /\ Below w.heap.size w w' := by
 rcases Qge (inB ro 1 4) (inB wi 1 5) (inB le 1 8) (inB ke 0 60) with h1 | ⟨h1, h2⟩ | ⟨h1, h2, h3⟩ | ⟨h1, h2, h3, h4⟩ | ⟨h1, h2, h3, h4⟩
 all_goals
  go_enter Tryz.func29, Tryz.ntmps29
  go_wp2_with (go_at_call 65; refine (within_any _ _ _ _).mono ?_; rintro e w' ⟨rfl, rfl⟩)
  go_ret
  exact ⟨by simp [setB, *], by repeat (first | exact Below.refl _ _ | refine Below.drew ?_ | refine Below.alloc ?_ (by simp<;>omega) _)⟩
theorem Qgw (ro wi le ke : Int) (w : World) :
 Calls Tryz.prog 23 #[.agg #[.int .i64 ro, .int .i64 wi, .int .i64 le, .int .i64 ke]] w fun e w' => e = .returned (.agg #[.int .i64 ro, .int .i64 wi, .int .i64 le, .int .i64 ke]) /\ Below w.heap.size w w' := by
 go_enter Tryz.func23, Tryz.ntmps23
 go_wp2
 exact bodyPost_ret (v := .agg #[.int .i64 ro, .int .i64 wi, .int .i64 le, .int .i64 ke]) (by simp [results, Tryz.results23, go_sem]) rfl
  ⟨rfl, by repeat (first | exact Below.refl _ _ | refine Below.drew ?_ | refine Below.alloc ?_ (by simp<;>omega) _)⟩
end Go.Proofs.YtddijnmdeabjbaaGreat.Gen
