/-
  Setups at this seat: which are right by the specification and by the program; the laws' toSetup. No condition.
-/
import Derived.Test.YtanihpmgoeadkaaGreatAnsList
namespace Go.Proofs.YtanihpmgoeadkaaGreat.Gen
open Go.ChangeShapes Go.WideShapes Go.ChangeAt Go.RowKit Go.Joins Go.Deep Base
set_option linter.unusedVariables false
def setB (ro wi le ke : Int) : Bool := inB ro 1 4 && inB wi 1 5 && inB le 1 8 && inB ke 0 60
theorem four_ways (p q r s : Bool) : p = false ∨ (p = true /\ q = false) ∨ (p = true /\ q = true /\ r = false) ∨ (p = true /\ q = true /\ r = true /\ s = false) ∨ (p = true /\ q = true /\ r = true /\ s = true) := by
  cases p<;>cases q<;>cases r<;>cases s<;>simp
theorem specSetup_any (ro wi le ke : Int) (w : World) :
    Calls Tryz.prog 74 #[.agg #[.int .i64 ro, .int .i64 wi, .int .i64 le, .int .i64 ke]] w fun e w' => e = .returned (.bool (setB ro wi le ke)) /\ Below w.heap.size w w' := by
  rcases four_ways (inB ro 1 4) (inB wi 1 5) (inB le 1 8) (inB ke 0 60) with h1 | ⟨h1, h2⟩ | ⟨h1, h2, h3⟩ | ⟨h1, h2, h3, h4⟩ | ⟨h1, h2, h3, h4⟩
  all_goals
    go_enter Tryz.func74, Tryz.ntmps74
    go_wp2_with (go_at_call 25; refine (in_any _ _ _ _).mono ?_; rintro e w' ⟨rfl, rfl⟩)
    go_ret
    exact ⟨by simp [setB, *], by repeat (first | exact Below.refl _ _ | refine Below.drew ?_ | refine Below.alloc ?_ (by simp<;>omega) _)⟩
theorem implSetup_any (ro wi le ke : Int) (w : World) :
    Calls Tryz.prog 146 #[.agg #[.int .i64 ro, .int .i64 wi, .int .i64 le, .int .i64 ke]] w fun e w' => e = .returned (.bool (setB ro wi le ke)) /\ Below w.heap.size w w' := by
  rcases four_ways (inB ro 1 4) (inB wi 1 5) (inB le 1 8) (inB ke 0 60) with h1 | ⟨h1, h2⟩ | ⟨h1, h2, h3⟩ | ⟨h1, h2, h3, h4⟩ | ⟨h1, h2, h3, h4⟩
  all_goals
    go_enter Tryz.func146, Tryz.ntmps146
    go_wp2_with (go_at_call 88; refine (within_any _ _ _ _).mono ?_; rintro e w' ⟨rfl, rfl⟩)
    go_ret
    exact ⟨by simp [setB, *], by repeat (first | exact Below.refl _ _ | refine Below.drew ?_ | refine Below.alloc ?_ (by simp<;>omega) _)⟩
theorem toSetup_any (ro wi le ke : Int) (w : World) :
    Calls Tryz.prog 7 #[.agg #[.int .i64 ro, .int .i64 wi, .int .i64 le, .int .i64 ke]] w fun e w' => e = .returned (.agg #[.int .i64 ro, .int .i64 wi, .int .i64 le, .int .i64 ke]) /\ Below w.heap.size w w' := by
  go_enter Tryz.func7, Tryz.ntmps7
  go_wp2
  exact bodyPost_ret (v := .agg #[.int .i64 ro, .int .i64 wi, .int .i64 le, .int .i64 ke]) (by simp [results, Tryz.results7, go_sem]) rfl
    ⟨rfl, by repeat (first | exact Below.refl _ _ | refine Below.drew ?_ | refine Below.alloc ?_ (by simp<;>omega) _)⟩
theorem cellsSetup : Tryz.prog.cellsOf 23 = 4 := by kernel_rfl
set_option maxRecDepth 100000 in
theorem openSetup {H : Type} {enc : TypeId × Value -> H} {W : World} {base b0 : Nat} {r : Reach} {spare : Nat -> Bool} {held : Bool} {v : Value} {d : DataW H} {p : List MemPlace}
    (hv : Value.okWide Tryz.prog W r b0 23 v) (h : DataW.Trod enc Tryz.prog W base spare held 23 v d p) :
    ∃ (ro wi le ke : Int), v = .agg #[.int .i64 ro, .int .i64 wi, .int .i64 le, .int .i64 ke] /\ I64 ro /\ I64 wi /\ I64 le /\ I64 ke := by
  obtain ⟨c0, c1, c2, c3, y0, y1, y2, y3, m, rfl, rfl, rfl, hy0, hy1, hy2, hy3⟩ := open_agg4 Tryz.underlying23 (by kernel_rfl) cellsSetup hv h
  obtain ⟨a, e0, rfl, wa⟩ := DataW.trod_int Tryz.underlying3 hy0
  obtain ⟨b, e1, rfl, wb⟩ := DataW.trod_int Tryz.underlying3 hy1
  obtain ⟨c, e2, rfl, wc⟩ := DataW.trod_int Tryz.underlying3 hy2
  obtain ⟨d, e3, rfl, wd⟩ := DataW.trod_int Tryz.underlying3 hy3
  simp at e0 e1 e2 e3
  subst e0 e1 e2 e3
  exact ⟨a, b, c, d, rfl, i64_of wa, i64_of wb, i64_of wc, i64_of wd⟩
end Go.Proofs.YtanihpmgoeadkaaGreat.Gen
