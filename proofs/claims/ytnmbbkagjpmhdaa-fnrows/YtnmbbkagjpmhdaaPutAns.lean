/-
  What RowPut answers: the specification's and the program's are one.
-/
import Derived.Test.YtnmbbkagjpmhdaaImplRowPut
namespace Go.Proofs.Ytnmbbkagjpmhdaa.Items
open Go.ChangeShapes Go.WideShapes Go.ChangeAt Go.RowKit Go.Shelf Base
set_option linter.unusedVariables false

theorem chain_init (start nb : Int) (x : It) : ∀ (l : List It) (p : Option Int), chain start nb p (l ++ [x]) = true → chain start (x.off - 1) p l = true ∧ (∀ o, p = some o → o < x.off) ∧ start ≤ x.off ∧ x.off ≤ nb
  | [], p, h => by
    have h' : (itemB x && inB x.off start nb && ahead p x.off && true) = true := by cases p <;> exact h
    simp only [Bool.and_eq_true, inB, decide_eq_true_eq] at h'
    refine ⟨rfl, fun o ho => ?_, h'.1.1.2.1, h'.1.1.2.2⟩
    subst ho
    simpa [ahead] using h'.1.2
  | y :: l, p, h => by
    have h' : (itemB y && inB y.off start nb && ahead p y.off && chain start nb (some y.off) (l ++ [x])) = true := by cases p <;> exact h
    simp only [Bool.and_eq_true, inB, decide_eq_true_eq] at h'
    obtain ⟨i1, i2, i3, i4⟩ := chain_init start nb x l (some y.off) h'.2
    have hy := i2 y.off rfl
    refine ⟨?_, fun o ho => ?_, i3, i4⟩
    · have e : (itemB y && inB y.off start (x.off - 1) && ahead p y.off && chain start (x.off - 1) (some y.off) l) = true := by
        simp only [Bool.and_eq_true, inB, decide_eq_true_eq]
        exact ⟨⟨⟨h'.1.1.1, h'.1.1.2.1, by omega⟩, h'.1.2⟩, i1⟩
      cases p <;> exact e
    · subst ho
      have : o < y.off := by simpa [ahead] using h'.1.2
      omega

/-- Where the row with the item is right, the row without it was. -/
theorem put_ok (start next : Int) (l : List It) (x : It) (hx : x.off = next) (hn : I64 next) (h : rowB start (wrap64 (next + 1)) (l ++ [x]) = true) : rowB start next l = true := by
  have h' := h
  simp only [rowB, Bool.and_eq_true, inB, decide_eq_true_eq] at h'
  obtain ⟨⟨⟨hc, h0, h1⟩, h2⟩, h3⟩ := h'
  obtain ⟨i1, _, i3, i4⟩ := chain_init start (wrap64 (next + 1) - 1) x l none hc
  have hw : wrap64 (next + 1) = next + 1 := by
    obtain ⟨a1, a2⟩ := hn
    by_cases hm : next = 9223372036854775807
    · subst hm; simp [wrap64] at h1; omega
    · unfold wrap64; omega
  rw [hx] at i1 i3
  simp only [rowB, Bool.and_eq_true, inB, decide_eq_true_eq]
  refine ⟨⟨⟨i1, h0, by omega⟩, by omega⟩, by simp at h3; omega⟩

def putN (start next : Int) (l : List It) (x : It) : Int := if putB start next l x then wrap64 (next + 1) else next
def putO (start next : Int) (l : List It) (x : It) : Int := if putB start next l x then next else 0
def putL (start next : Int) (l : List It) (x : It) : List It := if putB start next l x then l ++ [x] else l

theorem specRowPut_any (start next who time : Int) (key text : ByteArray) (A : Option Addr) (cap : Nat) (l : List It) (hl : l.length ≤ 1048576) (hs : ∀ x ∈ l, x.key.size ≤ 9223372036854775807 ∧ x.text.size ≤ 9223372036854775807) (hn : I64 next)
    (hk : key.size ≤ 9223372036854775807) (ht : text.size ≤ 9223372036854775807) (w : World) (hA : At w A l) :
    Calls Try.prog 11 #[.agg #[.int .i64 start, .int .i64 next, .slice A l.length cap], .string key, .string text, .int .i64 who, .int .i64 time] w fun e w' => ∃ v, e = .returned (.tuple #[.agg #[.int .i64 start, .int .i64 (putN start next l (⟨next, key, text, who, time⟩ : It)), v], .int .i64 (putO start next l (⟨next, key, text, who, time⟩ : It)), .bool (putB start next l (⟨next, key, text, who, time⟩ : It))]) ∧
      Fresh w.heap.size w' v (putL start next l (⟨next, key, text, who, time⟩ : It)) ∧ Below w.heap.size w w' := by
  cases h1 : rowB start next l
  · have e : putB start next l (⟨next, key, text, who, time⟩ : It) = false := by simp [putB, h1]
    refine (specRowPut_no start next who time key text A cap l hl hs hn h1 w hA).mono ?_
    rintro _ w' ⟨v, rfl, hown, hb⟩
    exact ⟨v, by simp [putN, putO, e], by simp only [putL, e]; exact fresh_owns hown, hb⟩
  · refine (specRowPut_yes start next who time key text A cap l hl hs hn hk ht h1 w hA).mono ?_
    rintro _ w' (⟨h2, v, rfl, hown, hb⟩ | ⟨h2, v, rfl, hown, hb⟩)
    · have e : putB start next l (⟨next, key, text, who, time⟩ : It) = true := by simp [putB, h1, h2]
      have el : l.length + 1 = (l ++ [(⟨next, key, text, who, time⟩ : It)]).length := by simp
      exact ⟨v, by simp [putN, putO, e], by simp only [putL, e]; rw [el] at hown; exact fresh_owns hown, hb⟩
    · have e : putB start next l (⟨next, key, text, who, time⟩ : It) = false := by simp [putB, h1, h2]
      exact ⟨v, by simp [putN, putO, e], by simp only [putL, e]; exact fresh_owns hown, hb⟩

theorem implRowPut_any (start next who time : Int) (key text : ByteArray) (A : Option Addr) (cap : Nat) (l : List It) (hl : l.length ≤ 1048576) (hs : ∀ x ∈ l, x.key.size ≤ 9223372036854775807 ∧ x.text.size ≤ 9223372036854775807) (hn : I64 next)
    (hk : key.size ≤ 9223372036854775807) (ht : text.size ≤ 9223372036854775807) (w : World) (hA : At w A l) :
    Calls Try.prog 10 #[.agg #[.int .i64 start, .int .i64 next, .slice A l.length cap], .string key, .string text, .int .i64 who, .int .i64 time] w fun e w' => ∃ v, e = .returned (.tuple #[.agg #[.int .i64 start, .int .i64 (putN start next l (⟨next, key, text, who, time⟩ : It)), v], .int .i64 (putO start next l (⟨next, key, text, who, time⟩ : It)), .bool (putB start next l (⟨next, key, text, who, time⟩ : It))]) ∧
      Fresh w.heap.size w' v (putL start next l (⟨next, key, text, who, time⟩ : It)) ∧ Below w.heap.size w w' := by
  refine (implRowPut_at start next who time key text A cap l hl hs hk ht w hA).mono ?_
  rintro _ w' (⟨h2, g, rfl, hg, hlt, hin, hth, hb⟩ | ⟨h2, v, rfl, hown, hb⟩)
  · have h1 := put_ok start next l (⟨next, key, text, who, time⟩ : It) rfl hn h2
    have e : putB start next l (⟨next, key, text, who, time⟩ : It) = true := by simp [putB, h1, h2]
    refine ⟨_, by simp [putN, putO, e]; rfl, ?_, hb⟩
    simp only [putL, e]
    have el : l.length + 1 = (l ++ [(⟨next, key, text, who, time⟩ : It)]).length := by simp
    rw [el] at hth ⊢
    exact ⟨_, _, rfl, Nat.le_refl _, .inr ⟨g, 0, rfl, hg, hlt, hin, hth⟩⟩
  · have e : putB start next l (⟨next, key, text, who, time⟩ : It) = false := by simp [putB, h2]
    exact ⟨v, by simp [putN, putO, e], by simp only [putL, e]; exact fresh_owns hown, hb⟩
theorem putL_le (start next : Int) (l : List It) (x : It) (hl : l.length ≤ 1048576) : (putL start next l x).length ≤ 1048576 := by
  unfold putL
  split
  · rename_i h
    simp only [putB, rowB, Bool.and_eq_true, decide_eq_true_eq] at h
    omega
  · exact hl
end Go.Proofs.Ytnmbbkagjpmhdaa.Items
