/-
  Packed, the latest of each key is there; what is kept is got; packed again it is the same.
-/
import Derived.Test.YtnmbbkagjpmhdaaRowPure
import Derived.Test.YtnmbbkagjpmhdaaSpecRowGet
import Derived.Test.YtnmbbkagjpmhdaaImplLatest2
namespace Go.Proofs.Ytnmbbkagjpmhdaa.Items
open Go.ChangeShapes Go.WideShapes Go.ChangeAt Go.RowKit Base
set_option linter.unusedVariables false

theorem pack_find (nb length : Int) (key : List UInt8) : ∀ l : List It, (packF nb length l).reverse.find? (fun x => x.key.toList == key) = l.reverse.find? (fun x => x.key.toList == key) := by
  intro l
  induction l with
  | nil => rfl
  | cons x t ih =>
    rw [packF, List.reverse_cons, List.find?_append, ← ih]
    split
    · rw [List.reverse_cons, List.find?_append]
    · rename_i hs
      simp only [staysB, Bool.or_eq_true, not_or, Bool.not_eq_true] at hs
      obtain ⟨⟨h1, h2⟩, h3⟩ := hs
      have hk : hasKey x.key.toList t = true := by simpa using h2
      by_cases hp : x.key.toList = key
      · have : (List.find? (fun x => x.key.toList == key) (packF nb length t).reverse).isSome = true := by
          rw [ih, List.find?_isSome]
          simp only [hasKey, List.any_eq_true] at hk
          obtain ⟨y, hy, e⟩ := hk
          exact ⟨y, by simpa using hy, by rw [← hp]; exact e⟩
        obtain ⟨y, hy⟩ := Option.isSome_iff_exists.1 this
        rw [hy]; rfl
      · have : List.find? (fun x => x.key.toList == key) [x] = none := by simp [hp]
        rw [this]; simp
theorem pack_latest (nb length : Int) (l : List It) (key : ByteArray) : latest (packF nb length l) key = latest l key := by
  rw [← nmd_latest, ← nmd_latest]
  exact pack_find nb length key.toList l

theorem has_sub {key : List UInt8} {m l : List It} (hs : m.Sublist l) (h : hasKey key l = false) : hasKey key m = false := by
  simp only [hasKey, List.any_eq_false] at h ⊢
  exact fun x hx => h x (hs.subset hx)
theorem pack_again (nb length : Int) : ∀ l : List It, packF nb length (packF nb length l) = packF nb length l := by
  intro l
  induction l with
  | nil => rfl
  | cons x t ih =>
    by_cases hs : staysB nb length x t = true
    · have e : packF nb length (x :: t) = x :: packF nb length t := by rw [packF, if_pos hs]
      have hs' : staysB nb length x (packF nb length t) = true := by
        simp only [staysB, Bool.or_eq_true] at hs ⊢
        rcases hs with (h | h) | h
        · exact .inl (.inl h)
        · refine .inl (.inr ?_)
          have : hasKey x.key.toList t = false := by simpa using h
          rw [has_sub (packF_sub nb length t) this]; rfl
        · exact .inr h
      rw [e, packF, if_pos hs', ih]
    · have e : packF nb length (x :: t) = packF nb length t := by rw [packF, if_neg hs]
      rw [e, ih]

theorem find_mem {l : List It} (hu : up l) {x : It} (hx : x ∈ l) : findFrom l x.off 0 = some x := by
  obtain ⟨A, B, rfl⟩ := List.append_of_mem hx
  simp only [findFrom, List.drop_zero]
  rw [List.find?_append]
  have h1 : List.find? (fun y => decide (x.off ≤ y.off)) A = none := by
    rw [List.find?_eq_none]
    intro y hy
    have := (List.pairwise_append.1 hu).2.2 y hy x (by simp)
    simp; omega
  rw [h1]
  simp

theorem pack_facts {start next length : Int} {L : List It} (hl : 1 ≤ length) (hr : rowB start next L = true) :
    ∃ T, packL start next length L = T ∧ rowB start next T = true ∧ T.length ≤ L.length ∧ packL start next length T = T ∧ (∀ key, latest T key = latest L key) ∧ ∀ (j : Nat) (hj : j < T.length), getIt start L T[j].off = T[j] ∧ getHow start L T[j].off = 0 := by
  have hb : packB start next length L = true := by simp [packB, hl, hr]
  have hT := right_pack (length := length) hr
  have hb' : packB start next length (packF (IntKind.i64.wrap (next - 1)) length L) = true := by simp [packB, hl, hT]
  refine ⟨packF (IntKind.i64.wrap (next - 1)) length L, by simp [packL, hb], hT, (packF_sub _ _ _).length_le, by simp only [packL, hb', if_true]; exact pack_again _ _ _, fun key => pack_latest _ _ _ _, fun j hj => ?_⟩
  have hm : (packF (IntKind.i64.wrap (next - 1)) length L)[j] ∈ L := (packF_sub _ _ _).subset (List.getElem_mem hj)
  obtain ⟨a1, a2, a3, a4, a5, a6⟩ := (rowB_iff _ _ _).1 hr
  have hf := find_mem a2 hm
  have hs : ¬ (packF (IntKind.i64.wrap (next - 1)) length L)[j].off < start := by have := (a1 _ hm).2.1; omega
  constructor
  · rw [getIt, if_neg hs, hf]; rfl
  · rw [getHow, if_neg hs, hf]; rfl
end Go.Proofs.Ytnmbbkagjpmhdaa.Items
