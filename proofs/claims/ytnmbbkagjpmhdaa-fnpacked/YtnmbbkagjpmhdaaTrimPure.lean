/-
  What is trimmed: the specification's and the program's are one, over rows that are right.
-/
import Derived.Test.YtnmbbkagjpmhdaaTrimmed
import Derived.Test.YtnmbbkagjpmhdaaSpecRowOk
namespace Go.Proofs.Ytnmbbkagjpmhdaa.Items
open Go.ChangeShapes Go.WideShapes Go.ChangeAt Go.RowKit Go.Shelf Base
set_option linter.unusedVariables false

def up (l : List It) : Prop := l.Pairwise fun x y => x.off < y.off

theorem chain_up (start nb : Int) : ∀ (l : List It) (p : Option Int), chain start nb p l = true → up l ∧ (∀ x ∈ l, start ≤ x.off ∧ x.off ≤ nb) ∧ (∀ o, p = some o → ∀ x ∈ l, o < x.off)
  | [], p, h => ⟨List.Pairwise.nil, by simp, by simp⟩
  | y :: l, p, h => by
    have hs : chain start nb (some y.off) l = true ∧ (start ≤ y.off ∧ y.off ≤ nb) ∧ (∀ o, p = some o → o < y.off) := by
      cases p with
      | none => simp only [chain, Bool.and_eq_true, inB, decide_eq_true_eq] at h; exact ⟨h.2, h.1.1.2, by simp⟩
      | some o => simp only [chain, Bool.and_eq_true, inB, decide_eq_true_eq] at h; exact ⟨h.2, h.1.1.2, fun o' e => by cases e; exact h.1.2⟩
    obtain ⟨i1, i2, i3⟩ := chain_up start nb l (some y.off) hs.1
    refine ⟨List.Pairwise.cons (fun x hx => i3 _ rfl x hx) i1, ?_, ?_⟩
    · intro x hx
      rcases List.mem_cons.1 hx with rfl | hx
      · exact hs.2.1
      · exact i2 x hx
    · intro o ho x hx
      rcases List.mem_cons.1 hx with rfl | hx
      · exact hs.2.2 o ho
      · have := hs.2.2 o ho; have := i3 _ rfl x hx; omega

theorem rowB_up {start next : Int} {l : List It} (h : rowB start next l = true) : up l ∧ off01 l ∧ l.length ≤ 80 := by
  simp only [rowB, Bool.and_eq_true, inB, decide_eq_true_eq] at h
  obtain ⟨i1, i2, _⟩ := chain_up start (next - 1) l none h.1.1.1
  exact ⟨i1, fun x hx => by have := i2 x hx; omega, h.2⟩

theorem dropWhile_same {p q : It → Bool} : ∀ {l : List It}, (∀ y ∈ l, p y = q y) → l.dropWhile p = l.dropWhile q
  | [], _ => rfl
  | y :: l, h => by
    have hy := h y (by simp)
    have := dropWhile_same (l := l) (fun z hz => h z (by simp [hz]))
    simp only [List.dropWhile_cons, hy, this]

theorem dv_is {off length : Int} (h0 : 0 ≤ off) (h1 : off ≤ 100000) (h2 : 1 ≤ length) : dv off length = off / length := by
  have e1 : Int.tdiv off length = off / length := Int.tdiv_eq_ediv_of_nonneg h0
  have q0 : 0 ≤ off / length := Int.ediv_nonneg h0 (by omega)
  have q1 : off / length ≤ off := Int.ediv_le_self _ h0
  unfold dv; rw [e1]; unfold wrap64; omega

/-- The items of the first length are those ahead of its end. -/
theorem drop_same {x : It} {t : List It} {length : Int} (hu : up (x :: t)) (ho : off01 (x :: t)) (h1 : 1 ≤ length) (h2 : length ≤ 9223372036854775807) :
    (x :: t).dropWhile (fun y => decide (y.off < endOf x.off length)) = (x :: t).dropWhile (fun y => decide (dv y.off length = dv x.off length)) := by
  apply dropWhile_same
  intro y hy
  have hx := ho x (by simp)
  have hy' := ho y hy
  have hle : x.off ≤ y.off := by
    rcases List.mem_cons.1 hy with rfl | hy
    · exact Int.le_refl _
    · exact Int.le_of_lt ((List.pairwise_cons.1 hu).1 y hy)
  obtain ⟨he, _⟩ := endOf_is hx.1 hx.2 h1 h2
  rw [he, dv_is hx.1 hx.2 h1, dv_is hy'.1 hy'.2 h1]
  have hm : x.off / length ≤ y.off / length := Int.ediv_le_ediv (by omega) hle
  have hi : y.off < (x.off / length + 1) * length ↔ y.off / length < x.off / length + 1 := (Int.ediv_lt_iff_lt_mul (by omega)).symm
  rw [decide_eq_decide, hi]
  omega

theorem up_drop {l : List It} (h : up l) (p : It → Bool) : up (l.dropWhile p) := List.Pairwise.sublist (List.dropWhile_sublist p) h
theorem off_drop {l : List It} (h : off01 l) (p : It → Bool) : off01 (l.dropWhile p) := fun y hy => h y ((List.dropWhile_sublist p).subset hy)

theorem trimF_le (next length keep : Int) : ∀ (n : Nat) (st : Int) (m : List It), (trimF next length keep n st m).2.length ≤ m.length
  | 0, st, m => Nat.le_refl _
  | n + 1, st, [] => Nat.le_refl _
  | n + 1, st, x :: t => by
    simp only [trimF]
    split
    · exact Nat.le_trans (trimF_le next length keep n _ _) (drop_le _ _)
    · exact Nat.le_refl _

/-- What RowTrim answers. -/
def trimB (start next length keep : Int) (l : List It) : Bool := decide (1 ≤ length) && decide (0 ≤ keep) && rowB start next l
def trimS (start next length keep : Int) (l : List It) : Int := if trimB start next length keep l then (trimF next length keep l.length start l).1 else start
def trimL (start next length keep : Int) (l : List It) : List It := if trimB start next length keep l then (trimF next length keep l.length start l).2 else l
theorem trimL_le (start next length keep : Int) (l : List It) : (trimL start next length keep l).length ≤ l.length := by
  unfold trimL; split
  · exact trimF_le _ _ _ _ _ _
  · exact Nat.le_refl _
end Go.Proofs.Ytnmbbkagjpmhdaa.Items
