/-
  Rows that are right stay right: put, trimmed, packed.
-/
import Derived.Test.YtnmbbkagjpmhdaaPackPure
namespace Go.Proofs.Ytnmbbkagjpmhdaa.Items
open Go.ChangeShapes Go.WideShapes Go.ChangeAt Go.RowKit Go.Shelf Base
set_option linter.unusedVariables false

theorem chain_iff (start nb : Int) : ∀ (l : List It) (p : Option Int), chain start nb p l = true ↔ (∀ x ∈ l, itemB x = true ∧ start ≤ x.off ∧ x.off ≤ nb) ∧ up l ∧ (∀ o, p = some o → ∀ x ∈ l, o < x.off)
  | [], p => by simp [chain, up]
  | y :: l, p => by
    have ih := chain_iff start nb l (some y.off)
    have hp : chain start nb p (y :: l) = true ↔ (itemB y = true ∧ (start ≤ y.off ∧ y.off ≤ nb)) ∧ (∀ o, p = some o → o < y.off) ∧ chain start nb (some y.off) l = true := by
      cases p with
      | none => simp only [chain, Bool.and_eq_true, inB, decide_eq_true_eq]; simp
      | some o => simp only [chain, Bool.and_eq_true, inB, decide_eq_true_eq]; simp [and_assoc]
    rw [hp, ih]
    constructor
    · rintro ⟨⟨h1, h2⟩, h3, h4, h5, h6⟩
      refine ⟨?_, List.Pairwise.cons (fun x hx => h6 _ rfl x hx) h5, ?_⟩
      · intro x hx
        rcases List.mem_cons.1 hx with rfl | hx
        · exact ⟨h1, h2⟩
        · exact h4 x hx
      · intro o ho x hx
        rcases List.mem_cons.1 hx with rfl | hx
        · exact h3 o ho
        · have := h3 o ho; have := h6 _ rfl x hx; omega
    · rintro ⟨h1, h2, h3⟩
      have hu := List.pairwise_cons.1 h2
      exact ⟨⟨(h1 y (by simp)).1, (h1 y (by simp)).2⟩, fun o ho => h3 o ho y (by simp), fun x hx => h1 x (by simp [hx]), hu.2, fun o ho x hx => by cases ho; exact hu.1 x hx⟩

theorem rowB_iff (start next : Int) (l : List It) : rowB start next l = true ↔ (∀ x ∈ l, itemB x = true ∧ start ≤ x.off ∧ x.off ≤ next - 1) ∧ up l ∧ 0 ≤ start ∧ start ≤ next ∧ next ≤ 100000 ∧ l.length ≤ 80 := by
  have hc : chainFrom start (next - 1) l 0 = chain start (next - 1) none l := by simp [chainFrom, prevO]
  simp only [rowB, Bool.and_eq_true, inB, decide_eq_true_eq, hc, chain_iff]
  constructor
  · rintro ⟨⟨⟨⟨h1, h2, _⟩, h3, h4⟩, h5⟩, h6⟩
    exact ⟨h1, h2, h3, h4, h5, h6⟩
  · rintro ⟨h1, h2, h3, h4, h5, h6⟩
    exact ⟨⟨⟨⟨h1, h2, by simp⟩, h3, h4⟩, h5⟩, h6⟩

theorem right_sizes {start next : Int} {l : List It} (h : rowB start next l = true) : ∀ x ∈ l, x.key.size ≤ 9223372036854775807 ∧ x.text.size ≤ 9223372036854775807 := by
  intro x hx
  have := (((rowB_iff _ _ _).1 h).1 x hx).1
  simp only [itemB, partB, textB, Bool.and_eq_true, decide_eq_true_eq] at this
  omega

theorem right_sub {start next : Int} {l m : List It} (h : rowB start next l = true) (hs : m.Sublist l) : rowB start next m = true := by
  rw [rowB_iff] at h ⊢
  exact ⟨fun x hx => h.1 x (hs.subset hx), List.Pairwise.sublist hs h.2.1, h.2.2.1, h.2.2.2.1, h.2.2.2.2.1, Nat.le_trans hs.length_le h.2.2.2.2.2⟩

theorem right_pack {start next length : Int} {l : List It} (h : rowB start next l = true) : rowB start next (packF (IntKind.i64.wrap (next - 1)) length l) = true := right_sub h (packF_sub _ _ _)

theorem right_put {start next who time : Int} {key text : ByteArray} {l : List It} (h : rowB start next l = true) (hk : textB key = true) (ht : textB text = true) (hw : inB who 0 3 = true) (hm : inB time 0 100000 = true) (hn : next < 100000) (hl : l.length < 80) :
    rowB start (next + 1) (l ++ [⟨next, key, text, who, time⟩]) = true := by
  rw [rowB_iff] at h ⊢
  obtain ⟨h1, h2, h3, h4, h5, h6⟩ := h
  refine ⟨?_, ?_, h3, by omega, by omega, by simp; omega⟩
  · intro x hx
    rcases List.mem_append.1 hx with hx | hx
    · have := h1 x hx; exact ⟨this.1, this.2.1, by omega⟩
    · simp at hx
      subst hx
      exact ⟨by simp [itemB, partB, hk, ht, hw, hm], h4, by simp⟩
  · unfold up
    rw [List.pairwise_append]
    refine ⟨h2, by simp, ?_⟩
    intro a ha b hb
    simp at hb
    subst hb
    have := (h1 a ha).2.2
    show a.off < next
    omega

theorem right_trim (next length keep : Int) (hl : 1 ≤ length) (hl' : length ≤ 9223372036854775807) : ∀ (n : Nat) (st : Int) (m : List It), rowB st next m = true → rowB (trimF next length keep n st m).1 next (trimF next length keep n st m).2 = true ∧ st ≤ (trimF next length keep n st m).1
  | 0, st, m, h => ⟨h, Int.le_refl _⟩
  | n + 1, st, [], h => ⟨h, Int.le_refl _⟩
  | n + 1, st, x :: t, h => by
    simp only [trimF]
    split
    · rename_i hc
      have hr := (rowB_iff _ _ _).1 h
      obtain ⟨h1, h2, h3, h4, h5, h6⟩ := hr
      have hx := (h1 x (by simp)).2
      have hx0 : 0 ≤ x.off := by omega
      have hx1 : x.off ≤ 100000 := by omega
      obtain ⟨he, hlt⟩ := endOf_is hx0 hx1 hl hl'
      have hw : IntKind.i64.wrap (next - 1) = next - 1 := by rw [IntKind.wrap_i64]; omega
      have hd : ¬ x.off / length = (next - 1) / length := by
        have := hc.2
        rw [hw, dv_is hx0 hx1 hl, dv_is (by omega) (by omega) hl] at this
        exact this
      have hle : x.off / length ≤ (next - 1) / length := Int.ediv_le_ediv (by omega) hx.2
      have hE : endOf x.off length ≤ next - 1 := by
        rw [he]
        have h1' : x.off / length + 1 ≤ (next - 1) / length := by omega
        have h2' : (x.off / length + 1) * length ≤ (next - 1) / length * length := Int.mul_le_mul_of_nonneg_right h1' (by omega)
        have h3' : (next - 1) / length * length ≤ next - 1 := Int.ediv_mul_le _ (by omega)
        omega
      have hE0 : st ≤ endOf x.off length := by rw [he]; omega
      generalize endOf x.off length = E at *
      have hD : rowB E next ((x :: t).dropWhile fun y => decide (y.off < E)) = true := by
        rw [rowB_iff]
        have hsub : ((x :: t).dropWhile fun y => decide (y.off < E)).Sublist (x :: t) := List.dropWhile_sublist _
        refine ⟨?_, List.Pairwise.sublist hsub h2, by omega, by omega, h5, Nat.le_trans hsub.length_le h6⟩
        have key : ∀ (l : List It), up l → ∀ y ∈ l.dropWhile (fun y => decide (y.off < E)), E ≤ y.off := by
          intro l
          induction l with
          | nil => intro _ y hy; simp at hy
          | cons z l ih =>
            intro hu y hy
            have hu' := List.pairwise_cons.1 hu
            by_cases hz : z.off < E
            · rw [List.dropWhile_cons_of_pos (by simpa using hz)] at hy
              exact ih hu'.2 y hy
            · rw [List.dropWhile_cons_of_neg (by simpa using hz)] at hy
              rcases List.mem_cons.1 hy with rfl | hy
              · omega
              · have := hu'.1 y hy; omega
        intro y hy
        have := h1 y (hsub.subset hy)
        exact ⟨this.1, key _ h2 y hy, this.2.2⟩
      have := right_trim next length keep hl hl' n E _ hD
      exact ⟨this.1, by omega⟩
    · exact ⟨h, Int.le_refl _⟩
end Go.Proofs.Ytnmbbkagjpmhdaa.Items
