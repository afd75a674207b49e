/-
  The program's Latest at this seat.
-/
import Derived.Test.YtnmbbkagjpmhdaaImplLatest
import Derived.Test.YtnmbbkagjpmhdaaOpenRow
namespace Go.Proofs.Ytnmbbkagjpmhdaa.Items
open Go.ChangeShapes Go.WideShapes Go.ChangeAt Go.RowKit Go.Shelf Base
set_option linter.unusedVariables false

theorem nmd_latest (l : List It) (key : ByteArray) : nmd key.toList l.reverse = latest l key := by
  have := nmd_last key.toList l l.length (Nat.le_refl _)
  rwa [List.take_length] at this

set_option maxHeartbeats 1000000 in
theorem implLatest_any (start next : Int) (key : ByteArray) (A : Option Addr) (cap : Nat) (l : List It) (hl : l.length ≤ 1048576) (w : World) (hA : At w A l) :
    Calls Try.prog 16 #[.agg #[.int .i64 start, .int .i64 next, .slice A l.length cap], .string key] w
      fun e w' => e = .returned (.tuple #[((latest l key).getD It.zero).v, .bool (latest l key).isSome]) ∧ Below w.heap.size w w' := by
  have HA : Hid (At w A l) := hA
  clear hA
  go_enter Try.func16, Try.ntmps16
  go_wp2_with fail
  refine (lastNamed_any start next key A cap l hl _ (HA.out.below (alloc0 (alloc0 (Below.refl _ w) _) _))).mono ?_
  rintro e w1 ⟨rfl, g1⟩
  rw [nmd_latest]
  generalize hy : (latest l key).getD It.zero = y
  generalize hv : (latest l key).isSome = v
  dsimp only [It.v]
  have B1 : Below w.heap.size w w1 := via0 g1 (alloc0 (alloc0 (Below.refl _ w) _) _)
  have bz := (Blk.new (w.alloc (.cells #[.int .i64 start, .int .i64 next, .slice A l.length cap] 26)) 34 #[.int .i64 0, .string ⟨#[]⟩, .string ⟨#[]⟩, .int .i64 0, .int .i64 0]).below g1 (by simp)
  rw [World.size_alloc] at bz
  have q1 := bz.lt
  have y0 := bz.thaw 0
  have y1 := bz.thaw 1
  have y2 := bz.thaw 2
  have y3 := bz.thaw 3
  have y4 := bz.thaw 4
  obtain ⟨z0, z1, z2, z3, z4⟩ := bz.item
  go_wp2
  obtain ⟨d0, d1, d2, d3, d4⟩ := Blk.item (show Blk _ (w.heap.size + 1) 34 #[.int .i64 y.off, .string y.key, .string y.text, .int .i64 y.who, .int .i64 y.time] from bz.putIt y)
  exact bodyPost_ret (v := .tuple #[y.v, .bool v]) (by simp [results, Try.results16, go_sem, It.v, d0, d1, d2, d3, d4]) rfl ⟨by rw [hy, hv], bl_putIt B1 (by omega) y⟩
end Go.Proofs.Ytnmbbkagjpmhdaa.Items
