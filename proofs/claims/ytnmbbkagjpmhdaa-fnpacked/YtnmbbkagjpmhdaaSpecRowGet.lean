/-
  spec.RowGet at this seat. No condition but that the items are at most 1048576.
-/
import Derived.Test.YtnmbbkagjpmhdaaItV
namespace Go.Proofs.Ytnmbbkagjpmhdaa.Items
open Go.ChangeShapes Go.WideShapes Go.ChangeAt Go.RowKit Base
set_option linter.unusedVariables false

/-- The first item from place n on with at least that Off. -/
def findFrom (l : List It) (off : Int) (n : Nat) : Option It := (l.drop n).find? fun x => decide (off ≤ x.off)
theorem findFrom_end {l : List It} {off : Int} {n : Nat} (h : l.length ≤ n) : findFrom l off n = none := by
  unfold findFrom; rw [List.drop_eq_nil_of_le h]; rfl
theorem findFrom_hit {l : List It} {off : Int} {n : Nat} (h : n < l.length) (hx : off ≤ l[n].off) : findFrom l off n = some l[n] := by
  unfold findFrom; rw [List.drop_eq_getElem_cons h, List.find?_cons_of_pos (by simpa using hx)]
theorem findFrom_miss {l : List It} {off : Int} {n : Nat} (h : n < l.length) (hx : ¬ off ≤ l[n].off) : findFrom l off n = findFrom l off (n + 1) := by
  unfold findFrom; rw [List.drop_eq_getElem_cons h, List.find?_cons_of_neg (by simpa using hx)]

def getIt (start : Int) (l : List It) (off : Int) : It := if off < start then It.zero else (findFrom l off 0).getD It.zero
def getHow (start : Int) (l : List It) (off : Int) : Int := if off < start then 1 else if (findFrom l off 0).isSome then 0 else 2

set_option maxHeartbeats 1000000 in
theorem specRowGet_any (start next off : Int) (A : Option Addr) (cap : Nat) (l : List It) (hl : l.length ≤ 1048576) (w : World) (hA : l = [] ∨ ∃ b o, A = some ⟨b, o, none⟩ ∧ b < w.heap.size ∧ In w b o l) :
    Calls Try.prog 14 #[.agg #[.int .i64 start, .int .i64 next, .slice A l.length cap], .int .i64 off] w
      fun e w' => e = .returned (.tuple #[(getIt start l off).v, .int .i64 (getHow start l off)]) ∧ Below w.heap.size w w' := by
  by_cases h0 : off < start
  · have e1 : getIt start l off = It.zero := by simp [getIt, h0]
    have e2 : getHow start l off = 1 := by simp [getHow, h0]
    rw [e1, e2]
    go_enter Try.func14, Try.ntmps14
    go_wp2
    exact bodyPost_ret (v := .tuple #[It.zero.v, .int .i64 1]) (by simp [results, Try.results14, go_sem, It.zero, It.v]) rfl ⟨rfl, by repeat (first | exact Below.refl _ _ | assumption | refine via0 (by assumption) ?_ | refine Below.drew ?_ | refine alloc0 ?_ _ | refine Below.setCell ?_ (by first | exact Nat.le_refl _ | (simp; done) | (simp; omega)) _)⟩
  · have e1 : getIt start l off = (findFrom l off 0).getD It.zero := by simp [getIt, h0]
    have e2 : getHow start l off = if (findFrom l off 0).isSome then 0 else 2 := by simp [getHow, h0]
    have E1 : Hid (getIt start l off = (findFrom l off 0).getD It.zero) := e1
    have E2 : Hid (getHow start l off = if (findFrom l off 0).isSome then 0 else 2) := e2
    have HA : Hid (l = [] ∨ ∃ b o, A = some ⟨b, o, none⟩ ∧ b < w.heap.size ∧ In w b o l) := hA
    clear hA e1 e2
    go_enter Try.func14, Try.ntmps14
    go_wp2
    go_loopw [6] (fun i w' => ∃ (n : Nat), i = .int .i64 (n : Int) ∧ n ≤ l.length ∧ w' = (w.alloc (.cells #[.int .i64 start, .int .i64 next, .slice A l.length cap] 26)).alloc (.cells #[.int .i64 0, .string ⟨#[]⟩, .string ⟨#[]⟩, .int .i64 0, .int .i64 0] 34) ∧ Hid (findFrom l off n = findFrom l off 0)) (fun i _ => l.length - (intOf i).toNat)
    case atStart => exact ⟨0, rfl, by omega, rfl, rfl⟩
    case round =>
      obtain ⟨n, rfl, hn, rfl, hf⟩ := hrel
      by_cases hlt : n < l.length
      · obtain ⟨b, o, rfl, hbs, hin⟩ : ∃ b o, A = some ⟨b, o, none⟩ ∧ b < w.heap.size ∧ In w b o l := by
          rcases HA.out with h | h
          · subst h; simp at hlt
          · exact h
        obtain ⟨c0, c1, c2, c3, c4⟩ := hin.get n hlt
        by_cases hx : l[n].off ≥ off
        · have hF : Hid (findFrom l off 0 = some l[n]) := by show findFrom l off 0 = some l[n]; rw [← hf.out, findFrom_hit hlt hx]
          go_wp2
          exact bodyPost_ret (v := .tuple #[l[n].v, .int .i64 0]) (by simp [results, Try.results14, go_sem, It.v]) rfl ⟨by rw [E1.out, E2.out, hF.out]; rfl, by repeat (first | exact Below.refl _ _ | assumption | refine via0 (by assumption) ?_ | refine Below.drew ?_ | refine alloc0 ?_ _ | refine Below.setCell ?_ (by first | exact Nat.le_refl _ | (simp; done) | (simp; omega)) _)⟩
        · have hF : Hid (findFrom l off (n + 1) = findFrom l off 0) := by show findFrom l off (n + 1) = findFrom l off 0; rw [← hf.out, findFrom_miss hlt hx]
          go_wp2
          exact ⟨⟨n + 1, by go_num, by omega, by first | trivial | rfl, hF⟩, by simp [intOf]; omega⟩
      · have hF : Hid (findFrom l off 0 = none) := by show findFrom l off 0 = none; rw [← hf.out, findFrom_end (by omega)]
        go_wp2
        exact bodyPost_ret (v := .tuple #[It.zero.v, .int .i64 2]) (by simp [results, Try.results14, go_sem, It.zero, It.v]) rfl ⟨by rw [E1.out, E2.out, hF.out]; rfl, by repeat (first | exact Below.refl _ _ | assumption | refine via0 (by assumption) ?_ | refine Below.drew ?_ | refine alloc0 ?_ _ | refine Below.setCell ?_ (by first | exact Nat.le_refl _ | (simp; done) | (simp; omega)) _)⟩

end Go.Proofs.Ytnmbbkagjpmhdaa.Items
