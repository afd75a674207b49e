/-
  A keeper that a law is handed: its size told, made anew in memory of its own, and opened. No condition but the length that every list and text has.
-/
import Derived.Test.YtjjbbkmedpfenaaGreatKeepV
namespace Go.Proofs.YtjjbbkmedpfenaaGreat.Gen
open Go.ChangeShapes Go.WideShapes Go.ChangeAt Go.RowKit Go.Joins Go.Deep Base
set_option linter.unusedVariables false
set_option linter.unusedSimpArgs false

/-- What every keeper that is handed in keeps. -/
structure KRight (x : KC) : Prop where
  rl : x.rs.length ≤ 9223372036854775807
  ml : x.ms.length ≤ 9223372036854775807
  gl : x.gs.length ≤ 9223372036854775807
  dl : x.ds.length ≤ 9223372036854775807
  ll : x.ls.length ≤ 9223372036854775807
  rr : ∀ y ∈ x.rs, y.right
  mr : ∀ y ∈ x.ms, y.right
  gr : ∀ y ∈ x.gs, y.right
  dr : ∀ y ∈ x.ds, I64 y
  lr : ∀ y ∈ x.ls, y.right
  t : I64 x.time
theorem count_lin {α : Type} (c s : α → Nat) (p q : Nat) : ∀ (l : List α), (∀ y ∈ l, c y ≤ p + q * s y) → count c l ≤ p * l.length + q * count s l
  | [], _ => by simp [count]
  | a :: l, h => by
    have h1 := count_lin c s p q l (fun y hy => h y (by simp [hy]))
    have h2 := h a (by simp)
    simp only [count, List.map_cons, List.sum_cons, List.length_cons, Nat.mul_add] at h1 ⊢
    omega
/-- What is at most 1048576 in all fits. -/
theorem fit_of {x : KC} (h : x.rs.length + count szRC x.rs + szM x.ms + x.gs.length + count szGC x.gs + x.ds.length + x.ls.length + count szAn x.ls ≤ 1048576) : KFit x := by
  have hm : szM x.ms = x.ms.length + count (fun y : MC => y.ms.length) x.ms := rfl
  have c1 := count_lin cR szRC 2 5 x.rs (fun y _ => by simp only [cR, szRC]; omega)
  have c2 := count_lin cM (fun y : MC => y.ms.length) 4 2 x.ms (fun y _ => by simp only [cM]; omega)
  have c3 := count_lin cG szGC 1 1 x.gs (fun y _ => by simp only [cG, szGC]; omega)
  refine ⟨by omega, by omega, by omega, by omega, by omega, fun y hy => ?_, fun y hy => ?_, fun y hy => ?_, by omega, by omega, by omega⟩
  · have h9 := count_mem szRC x.rs y hy; simp only [szRC] at h9; omega
  · have h9 : y.ms.length ≤ count (fun y : MC => y.ms.length) x.ms := count_mem (fun y : MC => y.ms.length) x.ms y hy; omega
  · have h9 := count_mem szGC x.gs y hy; simp only [szGC] at h9; omega

/-- A keeper is made anew, in memory of its own. -/
def NewK (w w' : World) (e : Ending) (c : PK) : Prop := ∃ y : KC, e = .returned (.agg y.cells) ∧ y.p = c ∧ KOwn w' y (fun b => w.heap.size ≤ b ∧ b < w'.heap.size) ∧ Below w.heap.size w w'
end Go.Proofs.YtjjbbkmedpfenaaGreat.Gen
