/-
  The four bytes of a sum, as the specification lays them. Condition: at most 3000000 bytes.
-/
import Derived.Test.YtaefjifcnoiplaaGreatSum
import Derived.Test.YtaefjifcnoiplaaGreatAnsList
namespace Go.Proofs.YtaefjifcnoiplaaGreat.Gen
open Go.ChangeShapes Go.WideShapes Go.ChangeAt Go.RowKit Go.Joins Go.Deep Base
set_option linter.unusedVariables false
set_option linter.unusedSimpArgs false
def sumB : Nat -> Nat -> List UInt8
  | 0, _ => []
  | k + 1, n => UInt8.ofNat (n % 256) :: sumB k (n / 256)
theorem sumB_length : ∀ k n, (sumB k n).length = k
  | 0, _ => rfl
  | k + 1, n => by simp [sumB, sumB_length k]
theorem sum_bytes (n : Nat) (hn : n < 4294967296) : flat (sumB 4 n) = [.int .u8 ((n : Int) % 256), .int .u8 ((n : Int) / 256 % 256), .int .u8 ((n : Int) / 65536 % 256), .int .u8 ((n : Int) / 16777216)] := by
  have h (m : Nat) : (Value.int .u8 ((UInt8.ofNat (m % 256)).toNat : Int)) = .int .u8 ((m % 256 : Nat) : Int) := by
    congr 1
    rw [UInt8.toNat_ofNat']
    omega
  show [Value.int .u8 ((UInt8.ofNat (n % 256)).toNat : Int), Value.int .u8 ((UInt8.ofNat (n / 256 % 256)).toNat : Int), Value.int .u8 ((UInt8.ofNat (n / 256 / 256 % 256)).toNat : Int), Value.int .u8 ((UInt8.ofNat (n / 256 / 256 / 256 % 256)).toNat : Int)] = _
  rw [h, h, h, h]
  simp only [List.cons.injEq, Value.int.injEq, true_and, and_true]
  refine ⟨by omega, by omega, by omega, by omega⟩
set_option maxRecDepth 100000 in
set_option maxHeartbeats 1000000 in
theorem l9Sum_any (A : Option Addr) (cap : Nat) (l : List UInt8) (hl : l.length <= 3000000) (w : World) (hA : At w A l) :
    Calls Tryz.prog 85 #[.slice A l.length cap] w fun e w' => e = .returned (.slice (some ⟨w.heap.size, 0, none⟩) 4 4) /\ Below w.heap.size w w' /\ At w' (some ⟨w.heap.size, 0, none⟩) (sumB 4 (sumN l)) := by
  have HA := hidP hA
  have hs := sumN_lt l
  clear hA
  go_enter Tryz.func85, Tryz.ntmps85
  go_wp2_with fail
  refine (specSum_any A cap l hl _ HA.out).mono ?_
  rintro e w1 ⟨rfl, rfl⟩
  have hfl := hidP (sum_bytes (sumN l) hs)
  generalize hN : sumN l = n at *
  have HN := hidP hN
  clear hN
  go_wp2
  go_ret
  refine ⟨rfl, alloc0 (Below.refl _ _) _, ?_⟩
  refine newL _ _ _ _ ?_
  rw [HN.out, hfl.out]
end Go.Proofs.YtaefjifcnoiplaaGreat.Gen
