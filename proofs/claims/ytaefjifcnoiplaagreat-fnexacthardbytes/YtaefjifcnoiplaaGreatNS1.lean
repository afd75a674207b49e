/-
  The specification's four bytes of a sum; bytes as a text; lists of bytes that grow. Condition: at most 3000000 bytes.
-/
import Derived.Test.YtaefjifcnoiplaaGreatNW1
namespace Go.Proofs.YtaefjifcnoiplaaGreat.Gen
open Go.ChangeShapes Go.WideShapes Go.ChangeAt Go.RowKit Go.Joins Go.Deep Base
set_option linter.unusedVariables false
set_option linter.unusedSimpArgs false
structure Jo (w W : World) (a : Option Addr) (c : Nat) (xs : List UInt8) : Prop where
  bl : Below w.heap.size w W
  own : W.ownsRow w.heap.size 5 1 (.slice a xs.length c) xs.length (flat xs)
theorem Jo.app {w W W1 : World} {a a1 : Option Addr} {c c1 : Nat} {xs ys : List UInt8} (h : Jo w W a c xs) (g : Below W.heap.size W W1) (hy : At W1 a1 ys) (hlen : xs.length + ys.length <= 1000000000) :
    ∃ a2 c2 W2, (Builtin.append_ #[37, 37] 37 #[.slice a xs.length c, .slice a1 ys.length c1]).run Tryz.prog W1 = .ok (.slice a2 (xs ++ ys).length c2) W2 /\ Jo w W2 a2 c2 (xs ++ ys) /\ (∀ k t vs, W.heap.size <= k -> Blk W1 k t vs -> Blk W2 k t vs) := by
  have o1 := owns_below h.own g
  have b1 := via0 g h.bl
  obtain ⟨a2, c2, W2, hr, hown, hg⟩ := append_l (c' := c1) b1.size o1 hy hlen
  refine ⟨a2, c2, W2, hr, ⟨b1.grown hg b1.size (fun j e => Nat.le_of_not_lt fun q => owns_far o1 q e.symm), hown⟩, fun k t vs hk hb => ?_⟩
  exact (hg.block k hb.lt (fun e => by have := owns_lt h.own e.symm; omega)).trans hb
theorem Jo.below {w W W1 : World} {a : Option Addr} {c : Nat} {xs : List UInt8} (h : Jo w W a c xs) (g : Below W.heap.size W W1) : Jo w W1 a c xs := ⟨via0 g h.bl, owns_below h.own g⟩
end Go.Proofs.YtaefjifcnoiplaaGreat.Gen
