/-
  The specification's PutNum: the number's bytes, in memory of their own. No condition.
-/
import Derived.Test.YtjjbbkmedpfenaaGreatGen
import Derived.Test.YtjjbbkmedpfenaaGreatInB
namespace Go.Proofs.YtjjbbkmedpfenaaGreat.Gen
open Go.ChangeShapes Go.WideShapes Go.ChangeAt Go.RowKit Go.Joins Go.Deep Base
set_option linter.unusedVariables false

/-- One byte appended to an own list. -/
theorem append_b (B : Nat) (a : Option Addr) (c : Nat) (xs : List UInt8) (x : UInt8) (z : Int) (hz : (x.toNat : Int) = z) (W : World) (hB : B ≤ W.heap.size) (hv : W.ownsRow B 5 1 (.slice a xs.length c) xs.length (flat xs)) (hlen : xs.length ≤ 600000000) :
    ∃ a' c' W', (Builtin.append_ #[24, 24] 24 #[.slice a xs.length c, .slice (some ⟨W.heap.size, 0, none⟩) 1 1]).run Tryz.prog (W.alloc (.cells #[.int .u8 z] 5)) = .ok (.slice a' (xs.length + 1) c') W' ∧ W'.ownsRow B 5 1 (.slice a' (xs ++ [x]).length c') (xs ++ [x]).length (flat (xs ++ [x])) ∧
      (W.alloc (.cells #[.int .u8 z] 5)).grownBy W' (Value.slice a xs.length c).ownBlock ∧ ((Value.slice a' (xs.length + 1) c').ownBlock = (Value.slice a xs.length c).ownBlock ∨ (Value.slice a' (xs.length + 1) c').ownBlock = some (W.heap.size + 1)) := by
  subst hz
  obtain ⟨v', w3, hr, hown3, hgrow, hat⟩ := append_els8 B (.slice a xs.length c) xs [x] (some ⟨W.heap.size, 0, none⟩) 1 (W.alloc (.cells #[.int .u8 (x.toNat : Int)] 5)) (by simp; omega) (owns_alloc hv _) (one_b W x 5) (by simp; omega)
  obtain ⟨a', c', rfl, _⟩ := owns_form hown3
  refine ⟨a', c', w3, hr, ?_, hgrow, by simpa using hat⟩
  have e : (xs ++ [x]).length = xs.length + [x].length := by simp
  rw [e]
  exact hown3
theorem grown_below {B : Nat} {w W W' : World} {a : Option Addr} {n c k : Nat} {xs : List Value} {t : TypeId} (h : Below B w W) (hO : W.ownsRow B t k (.slice a n c) n xs) (o : Obj) (hB : B ≤ W.heap.size) (g : (W.alloc o).grownBy W' (Value.slice a n c).ownBlock) : Below B w W' :=
  (h.alloc hB o).grown g (by simp; omega) (fun j e => Nat.le_of_not_lt fun q => owns_far hO q e.symm)

end Go.Proofs.YtjjbbkmedpfenaaGreat.Gen
