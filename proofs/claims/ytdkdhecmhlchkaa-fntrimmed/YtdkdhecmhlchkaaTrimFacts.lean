/-
  What a trimmed row is: an ending of what it was, from a whole length on, no more than is kept or of the last length.
-/
import Derived.Test.YtdkdhecmhlchkaaRowPure
namespace Go.Proofs.Ytdkdhecmhlchkaa.Items
open Go.ChangeShapes Go.WideShapes Go.ChangeAt Go.RowKit Go.Shelf Base
set_option linter.unusedVariables false

theorem trimF_facts (next length keep : Int) (h1 : 1 ≤ length) (h2 : length ≤ 9223372036854775807) (hk : 0 ≤ keep) : ∀ (n : Nat) (st : Int) (m : List It), rowB st next m = true → m.length ≤ n →
    (trimF next length keep n st m).2 <:+ m ∧ ((st % length = 0 ∨ (trimF next length keep n st m).2.length < m.length) → (trimF next length keep n st m).1 % length = 0) ∧
    (((trimF next length keep n st m).2.length : Int) ≤ keep ∨ ∃ y t, (trimF next length keep n st m).2 = y :: t ∧ dv y.off length = dv (IntKind.i64.wrap (next - 1)) length)
  | 0, st, m, hr, hn => by
    have : m = [] := List.length_eq_zero_iff.1 (by omega)
    subst this
    exact ⟨List.suffix_refl _, by simp [trimF], .inl (by simpa [trimF] using hk)⟩
  | n + 1, st, [], hr, hn => ⟨List.suffix_refl _, by simp [trimF], .inl (by simpa [trimF] using hk)⟩
  | n + 1, st, x :: t, hr, hn => by
    by_cases hc : keep < ((x :: t).length : Int) ∧ ¬ dv x.off length = dv (IntKind.i64.wrap (next - 1)) length
    · have e1 : ∀ k, trimF next length keep (k + 1) st (x :: t) = trimF next length keep k (endOf x.off length) ((x :: t).dropWhile fun y => decide (y.off < endOf x.off length)) := fun k => by
        simp only [trimF]; rw [if_pos hc]
      have hr2 := (right_trim next length keep h1 h2 1 st (x :: t) hr).1
      rw [e1 0] at hr2
      have hrx := (rowB_iff _ _ _).1 hr
      have hx := (hrx.1 x (by simp)).2
      obtain ⟨he, hlt⟩ := endOf_is (off := x.off) (length := length) (by omega) (by omega) h1 h2
      have hd : ((x :: t).dropWhile fun y => decide (y.off < endOf x.off length)) = t.dropWhile fun y => decide (y.off < endOf x.off length) := by
        have hlt' : x.off < endOf x.off length := by rw [he]; exact hlt
        rw [List.dropWhile_cons]; simp [hlt']
      have hle : ((x :: t).dropWhile fun y => decide (y.off < endOf x.off length)).length ≤ n := by
        rw [hd]
        have := (List.dropWhile_sublist (fun y : It => decide (y.off < endOf x.off length)) (l := t)).length_le
        simp at hn; omega
      obtain ⟨i1, i2, i3⟩ := trimF_facts next length keep h1 h2 hk n (endOf x.off length) _ hr2 hle
      rw [e1 n]
      exact ⟨i1.trans (List.dropWhile_suffix _), fun _ => i2 (.inl (by rw [he]; exact Int.mul_emod_left _ _)), i3⟩
    · have e1 : trimF next length keep (n + 1) st (x :: t) = (st, x :: t) := by simp only [trimF]; rw [if_neg hc]
      rw [e1]
      refine ⟨List.suffix_refl _, fun h => ?_, ?_⟩
      · rcases h with h | h
        · exact h
        · exact absurd h (Nat.lt_irrefl _)
      · by_cases hq : keep < ((x :: t).length : Int)
        · exact .inr ⟨x, t, rfl, Decidable.not_not.1 (fun h => hc ⟨hq, h⟩)⟩
        · exact .inl (by show ((x :: t).length : Int) ≤ keep; omega)

/-- All that the law asks of what is trimmed. -/
theorem trim_facts (start next length keep : Int) (l : List It) (h1 : 1 ≤ length) (h2 : length ≤ 9223372036854775807) (hk : 0 ≤ keep) (hr : rowB start next l = true) :
    ∃ (S : Int) (T : List It) (n : Nat), (trimF next length keep l.length start l).1 = S ∧ (trimF next length keep l.length start l).2 = T ∧ rowB S next T = true ∧ start ≤ S ∧ l.length = n + T.length ∧ (∀ i (h : i < T.length) (h' : n + i < l.length), T[i] = l[n + i]) ∧ (0 < n → S % length = 0) ∧
      ((T.length : Int) ≤ keep ∨ ∃ y t, T = y :: t ∧ dv y.off length = dv (IntKind.i64.wrap (next - 1)) length) := by
  obtain ⟨a, b⟩ := right_trim next length keep h1 h2 l.length start l hr
  obtain ⟨f1, f2, f3⟩ := trimF_facts next length keep h1 h2 hk l.length start l hr (Nat.le_refl _)
  have hle := f1.length_le
  have hdrop := List.suffix_iff_eq_drop.1 f1
  generalize (trimF next length keep l.length start l).2 = T at *
  refine ⟨_, T, l.length - T.length, rfl, rfl, a, b, by omega, ?_, fun h => f2 (.inr (by omega)), f3⟩
  intro i h h'
  have : T[i]? = l[l.length - T.length + i]? := by
    conv => lhs; rw [hdrop]
    rw [List.getElem?_drop]
  rw [List.getElem?_eq_getElem h, List.getElem?_eq_getElem h'] at this
  exact Option.some.inj this
end Go.Proofs.Ytdkdhecmhlchkaa.Items
