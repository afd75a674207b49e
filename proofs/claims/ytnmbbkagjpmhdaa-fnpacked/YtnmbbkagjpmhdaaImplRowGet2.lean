/-
  The program's RowGet at this seat.
-/
import Derived.Test.YtnmbbkagjpmhdaaImplRowGet
import Derived.Test.YtnmbbkagjpmhdaaOpenRow
import Derived.Test.YtnmbbkagjpmhdaaSpecRowGet
namespace Go.Proofs.Ytnmbbkagjpmhdaa.Items
open Go.ChangeShapes Go.WideShapes Go.ChangeAt Go.RowKit Go.Shelf Base
set_option linter.unusedVariables false

theorem findFrom_fnd (l : List It) (off : Int) : findFrom l off 0 = fnd off l := by simp [findFrom, fnd]

set_option maxHeartbeats 1000000 in
theorem implRowGet_any (start next off : Int) (A : Option Addr) (cap : Nat) (l : List It) (hl : l.length ≤ 1048576) (w : World) (hA : At w A l) :
    Calls Try.prog 13 #[.agg #[.int .i64 start, .int .i64 next, .slice A l.length cap], .int .i64 off] w
      fun e w' => e = .returned (.tuple #[(getIt start l off).v, .int .i64 (getHow start l off)]) ∧ Below w.heap.size w w' := by
  have HA : Hid (At w A l) := hA
  clear hA
  by_cases h0 : off < start
  · have e1 : getIt start l off = It.zero := by simp [getIt, h0]
    have e2 : getHow start l off = 1 := by simp [getHow, h0]
    rw [e1, e2]
    go_enter Try.func13, Try.ntmps13
    go_wp2
    exact bodyPost_ret (v := .tuple #[It.zero.v, .int .i64 1]) (by simp [results, Try.results13, go_sem, It.zero, It.v]) rfl ⟨rfl, alloc0 (alloc0 (Below.refl _ w) _) _⟩
  · cases hf : fnd off l with
    | none =>
      have e1 : Hid (getIt start l off = It.zero) := by show getIt start l off = It.zero; simp [getIt, h0, findFrom_fnd, hf]
      have e2 : Hid (getHow start l off = 2) := by show getHow start l off = 2; simp [getHow, h0, findFrom_fnd, hf]
      have Hf : Hid (fnd off l = none) := hf
      clear hf
      go_enter Try.func13, Try.ntmps13
      go_wp2_with fail
      refine (firstFrom_any start next off A cap l hl _ (HA.out.below (alloc0 (alloc0 (Below.refl _ w) _) _))).mono ?_
      rintro e w1 ⟨rfl, g1⟩
      rw [Hf.out]
      dsimp only [Option.getD, Option.isSome, It.v, It.zero]
      have B1 : Below w.heap.size w w1 := via0 g1 (alloc0 (alloc0 (Below.refl _ w) _) _)
      have bz := (Blk.new (w.alloc (.cells #[.int .i64 start, .int .i64 next, .slice A l.length cap] 26)) 34 #[.int .i64 0, .string ⟨#[]⟩, .string ⟨#[]⟩, .int .i64 0, .int .i64 0]).below g1 (by simp)
      rw [World.size_alloc] at bz
      have q1 := bz.lt
      have y0 := bz.thaw 0
      have y1 := bz.thaw 1
      have y2 := bz.thaw 2
      have y3 := bz.thaw 3
      have y4 := bz.thaw 4
      obtain ⟨z0, z1, z2, z3, z4⟩ := bz.item
      go_wp2
      obtain ⟨d0, d1, d2, d3, d4⟩ := Blk.item (show Blk _ (w.heap.size + 1) 34 #[.int .i64 (It.zero).off, .string (It.zero).key, .string (It.zero).text, .int .i64 (It.zero).who, .int .i64 (It.zero).time] from (bz.putIt (It.zero)).alloc (.cells #[.int .i64 (It.zero).off, .string (It.zero).key, .string (It.zero).text, .int .i64 (It.zero).who, .int .i64 (It.zero).time] 34))
      try dsimp only [It.zero] at d0 d1 d2 d3 d4
      refine bodyPost_ret (v := .tuple #[(It.zero).v, .int .i64 2]) (by simp [results, Try.results13, go_sem, It.zero, It.v, d0, d1, d2, d3, d4]) rfl ⟨by rw [e1.out, e2.out], ?_⟩
      exact bl_alloc (Nat.le_refl _) (bl_putIt B1 (by omega) (It.zero)) _
    | some y =>
      have e1 : Hid (getIt start l off = y) := by show getIt start l off = y; simp [getIt, h0, findFrom_fnd, hf]
      have e2 : Hid (getHow start l off = 0) := by show getHow start l off = 0; simp [getHow, h0, findFrom_fnd, hf]
      have Hf : Hid (fnd off l = some y) := hf
      clear hf
      go_enter Try.func13, Try.ntmps13
      go_wp2_with fail
      refine (firstFrom_any start next off A cap l hl _ (HA.out.below (alloc0 (alloc0 (Below.refl _ w) _) _))).mono ?_
      rintro e w1 ⟨rfl, g1⟩
      rw [Hf.out]
      dsimp only [Option.getD, Option.isSome, It.v, It.zero]
      have B1 : Below w.heap.size w w1 := via0 g1 (alloc0 (alloc0 (Below.refl _ w) _) _)
      have bz := (Blk.new (w.alloc (.cells #[.int .i64 start, .int .i64 next, .slice A l.length cap] 26)) 34 #[.int .i64 0, .string ⟨#[]⟩, .string ⟨#[]⟩, .int .i64 0, .int .i64 0]).below g1 (by simp)
      rw [World.size_alloc] at bz
      have q1 := bz.lt
      have y0 := bz.thaw 0
      have y1 := bz.thaw 1
      have y2 := bz.thaw 2
      have y3 := bz.thaw 3
      have y4 := bz.thaw 4
      obtain ⟨z0, z1, z2, z3, z4⟩ := bz.item
      go_wp2
      obtain ⟨d0, d1, d2, d3, d4⟩ := Blk.item (show Blk _ (w.heap.size + 1) 34 #[.int .i64 (y).off, .string (y).key, .string (y).text, .int .i64 (y).who, .int .i64 (y).time] from (bz.putIt (y)).alloc (.cells #[.int .i64 (y).off, .string (y).key, .string (y).text, .int .i64 (y).who, .int .i64 (y).time] 34))
      try dsimp only [It.zero] at d0 d1 d2 d3 d4
      refine bodyPost_ret (v := .tuple #[(y).v, .int .i64 0]) (by simp [results, Try.results13, go_sem, It.v, d0, d1, d2, d3, d4]) rfl ⟨by rw [e1.out, e2.out], ?_⟩
      exact bl_alloc (Nat.le_refl _) (bl_putIt B1 (by omega) (y)) _
end Go.Proofs.Ytnmbbkagjpmhdaa.Items
