/-
  The laws' szItem, szItemS and szRow: what is left is told, and where it is not below 0 the row's lengths are bounded. No condition but the length that every text has.
-/
import Derived.Test.YtclgdghfcjkhfaaRows
import Derived.Test.YtclgdghfcjkhfaaItems
namespace Go.Proofs.Ytclgdghfcjkhfaa.Items
open Go.ChangeShapes Go.WideShapes Go.ChangeAt Go.RowKit Base
set_option linter.unusedVariables false

theorem via0 {a b c : World} (k : Below b.heap.size b c) (h : Below a.heap.size a b) : Below a.heap.size a c := h.trans (k.mono h.size)
theorem alloc0 {a b : World} (h : Below a.heap.size a b) (o : Obj) : Below a.heap.size a (b.alloc o) := h.alloc h.size o

def szI (k t : Nat) (left : Int) : Int := if left < k then -1 else if left < k + t then -1 else left - k - t

theorem szI_ge {k t : Nat} {left : Int} (h0 : 0 ≤ left) (h : 0 ≤ szI k t left) : szI k t left = left - k - t := by
  unfold szI at h ⊢
  split at h
  · omega
  · split at h
    · omega
    · rw [if_neg (by assumption), if_neg (by assumption)]

/-- The bytes of the items' texts. -/
def tot : List It → Nat
  | [] => 0
  | x :: l => x.key.size + x.text.size + tot l
theorem tot_append (l m : List It) : tot (l ++ m) = tot l + tot m := by
  induction l with
  | nil => simp [tot]
  | cons x l ih => simp only [List.cons_append, tot, ih]; omega
theorem tot_take {l : List It} {n : Nat} (h : n < l.length) : tot (l.take (n + 1)) = tot (l.take n) + (l[n].key.size + l[n].text.size) := by
  rw [List.take_succ_eq_append_getElem h, tot_append]; simp [tot]

end Go.Proofs.Ytclgdghfcjkhfaa.Items
