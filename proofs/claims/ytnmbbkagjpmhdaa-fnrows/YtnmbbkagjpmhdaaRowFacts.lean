/-
  What is put is got, and all that was got before is got still.
-/
import Derived.Test.YtnmbbkagjpmhdaaRowPure
import Derived.Test.YtnmbbkagjpmhdaaPutAns
import Derived.Test.YtnmbbkagjpmhdaaSpecRowGet
namespace Go.Proofs.Ytnmbbkagjpmhdaa.Items
open Go.ChangeShapes Go.WideShapes Go.ChangeAt Go.RowKit Base
set_option linter.unusedVariables false

theorem find_append {L : List It} {x : It} {z : Int} (h : (findFrom L z 0).isSome = true) : findFrom (L ++ [x]) z 0 = findFrom L z 0 := by
  simp only [findFrom, List.drop_zero] at h ⊢
  rw [List.find?_append]
  obtain ⟨y, hy⟩ := Option.isSome_iff_exists.1 h
  rw [hy]; rfl
theorem find_last {L : List It} {x : It} (h : ∀ y ∈ L, y.off ≤ x.off - 1) : findFrom (L ++ [x]) x.off 0 = some x := by
  simp only [findFrom, List.drop_zero]
  rw [List.find?_append]
  have : List.find? (fun y => decide (x.off ≤ y.off)) L = none := by
    rw [List.find?_eq_none]
    intro y hy
    have := h y hy
    simp; omega
  rw [this]
  simp

theorem put_facts {start next : Int} {L : List It} {x : It} (hx : x.off = next) (h : putB start next L x = true) :
    wrap64 (next + 1) = next + 1 ∧ 0 ≤ start ∧ start ≤ next ∧ next < 100000 ∧ rowB start (next + 1) (L ++ [x]) = true ∧ (getIt start (L ++ [x]) next = x ∧ getHow start (L ++ [x]) next = 0) ∧
      ∀ z, getHow start L z = 0 → getHow start (L ++ [x]) z = 0 ∧ getIt start (L ++ [x]) z = getIt start L z := by
  simp only [putB, Bool.and_eq_true] at h
  obtain ⟨h1, h2⟩ := h
  obtain ⟨a1, a2, a3, a4, a5, a6⟩ := (rowB_iff _ _ _).1 h1
  obtain ⟨b1, b2, b3, b4, b5, b6⟩ := (rowB_iff _ _ _).1 h2
  have hxb := b1 x (by simp)
  have hw : wrap64 (next + 1) = next + 1 := by unfold wrap64; omega
  rw [hw] at h2 b4 b5 hxb
  refine ⟨hw, a3, a4, by omega, h2, ?_, ?_⟩
  · have hf : findFrom (L ++ [x]) next 0 = some x := by rw [← hx]; exact find_last (fun y hy => by have := (a1 y hy).2.2; omega)
    have hn : ¬ next < start := by omega
    constructor
    · simp [getIt, hn, hf]
    · simp [getHow, hn, hf]
  · intro z hz
    unfold getHow at hz ⊢
    unfold getIt
    by_cases h0 : z < start
    · rw [if_pos h0] at hz; omega
    · rw [if_neg h0] at hz ⊢
      rw [if_neg h0, if_neg h0]
      by_cases hs : (findFrom L z 0).isSome = true
      · rw [find_append hs, if_pos hs]; exact ⟨rfl, rfl⟩
      · rw [if_neg hs] at hz; omega
end Go.Proofs.Ytnmbbkagjpmhdaa.Items
