/-
  The specification's GetNum: the number that begins at a place, and the place behind it. Condition: at most 1048576 bytes.
-/
import Derived.Test.YtglegpkcikacoaaGreatDoorAnsList
import Derived.WalkSmall
import Derived.Lib.EndianBits
set_option linter.unusedVariables false
set_option linter.unusedSimpArgs false
set_option maxRecDepth 100000
set_option maxHeartbeats 8000000
namespace Go.Proofs.YtglegpkcikacoaaGreatDoor.Gen
open ChangeShapes WideShapes ChangeAt RowKit Joins Deep Base
def rest (l : List UInt8) (i : Int) (k acc : Nat) : Option (Nat × Nat) := if 0 <= i then (getD (5 - k) k acc (l.drop (i.toNat + k))).map fun x => (x.1, i.toNat + x.2) else none
theorem rest_zero (l : List UInt8) (i : Int) : rest l i 0 0 = getN l i := rfl
theorem rest_neg {l : List UInt8} {i : Int} {k acc : Nat} (h : i < 0) : rest l i k acc = none := if_neg (by omega)
theorem rest_past {l : List UInt8} {i : Int} {k acc : Nat} (h : (l.length : Int) <= i + (k : Int)) : rest l i k acc = none := by
 unfold rest
 split
 . rw [getD_past (by omega)]; rfl
 . rfl
theorem rest_five {l : List UInt8} {i : Int} {acc : Nat} : rest l i 5 acc = none := by
 unfold rest
 split<;>rfl
theorem rest_step {l : List UInt8} {j k : Nat} (hk : k < 5) (acc : Nat) (h : j + k < l.length) :
 rest l (j : Int) k acc = if (l[j + k]).toNat < 128 then (if (0 < k /\ (l[j + k]).toNat = 0) ∨ 2147483647 < acc + (l[j + k]).toNat % 128 * 128 ^ k then none else some (acc + (l[j + k]).toNat % 128 * 128 ^ k, j + k + 1))
  else rest l (j : Int) (k + 1) (acc + (l[j + k]).toNat % 128 * 128 ^ k) := by
 unfold rest
 have hj : (0 : Int) <= (j : Int) := by omega
 simp only [hj, if_true]
 have e : 5 - k = (5 - (k + 1)) + 1 := by omega
 have e2 : (j : Int).toNat = j := by omega
 rw [e, e2, getD_next h]
 split
 . split
   . rfl
   . simp; omega
 . rfl
theorem Qed (n : Int) (h : -9223372036854775808 <= n /\ n <= 9223372036854775807) : wrap64 n = n := by unfold wrap64; omega
theorem or_join {k acc d : Nat} (hk : k < 5) (hacc : acc < 128 ^ k) (hd : d < 256) : bits .or .i64 (acc : Int) (wrap64 ((d : Int) % 128 * 2 ^ (7 * k))) = ((acc + d % 128 * 128 ^ k : Nat) : Int) := by
 have hw : ∀ n : Int, 0 <= n -> n < 2 ^ 62 -> IntKind.i64.wrap n = n := fun n h0 h1 => by
  have : IntKind.i64.wrap n = wrap64 n := by simp [go_sem, wrap64, IntKind.wrap_i64]
  rw [this]; exact Qed n (by omega)
 have hk' : k = 0 ∨ k = 1 ∨ k = 2 ∨ k = 3 ∨ k = 4 := by omega
 rcases hk' with rfl | rfl | rfl | rfl | rfl
 . rw [Qed _ (by omega), bits_join_low .i64 62 (by decide) hw 0 _ _ (by omega) (by omega) (by omega) (by omega) (by omega) (by omega)]; omega
 . rw [Qed _ (by omega), bits_join_low .i64 62 (by decide) hw 7 _ _ (by omega) (by omega) (by omega) (by omega) (by omega) (by omega)]; omega
 . rw [Qed _ (by omega), bits_join_low .i64 62 (by decide) hw 14 _ _ (by omega) (by omega) (by omega) (by omega) (by omega) (by omega)]; omega
 . rw [Qed _ (by omega), bits_join_low .i64 62 (by decide) hw 21 _ _ (by omega) (by omega) (by omega) (by omega) (by omega) (by omega)]; omega
 . rw [Qed _ (by omega), bits_join_low .i64 62 (by decide) hw 28 _ _ (by omega) (by omega) (by omega) (by omega) (by omega) (by omega)]; omega
theorem acc_next {k acc d : Nat} (hk : k < 5) (hacc : acc < 128 ^ k) (hd : d < 256) : acc + d % 128 * 128 ^ k < 128 ^ (k + 1) := by
 have hk' : k = 0 ∨ k = 1 ∨ k = 2 ∨ k = 3 ∨ k = 4 := by omega
 rcases hk' with rfl | rfl | rfl | rfl | rfl<;>omega
theorem acc_le {k acc : Nat} (hk : k <= 5) (hacc : acc < 128 ^ k) : acc < 34359738368 := by
 have hk' : k = 0 ∨ k = 1 ∨ k = 2 ∨ k = 3 ∨ k = 4 ∨ k = 5 := by omega
 rcases hk' with rfl | rfl | rfl | rfl | rfl | rfl<;>omega
end Go.Proofs.YtglegpkcikacoaaGreatDoor.Gen
