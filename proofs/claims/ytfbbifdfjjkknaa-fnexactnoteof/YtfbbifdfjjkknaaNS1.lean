/-
  The specification's four bytes of a sum; bytes as a text; lists of bytes that grow. Condition: at most 3000000 bytes.
-/
import Derived.Test.YtfbbifdfjjkknaaNW1
namespace Go.Proofs.Ytfbbifdfjjkknaa.Gen
open Go.ChangeShapes Go.WideShapes Go.ChangeAt Go.RowKit Go.Joins Go.Deep Base
set_option linter.unusedVariables false
set_option linter.unusedSimpArgs false

/-- Bytes as a text. -/
theorem conv_bytes {A : Option Addr} {cap : Nat} {L : List UInt8} {w : World} (hA : At w A L) : (convert 33 9 (.slice A L.length cap)).run Try.prog w = .ok (.string ⟨L.toArray⟩) w := by
  rcases hA with h | ⟨b, o, rfl, hb, hin⟩
  · subst h
    cases A with
    | none => rw [List.length_nil, run_convert_bytes_string w 33 9 5 none 0 cap Try.underlying33 Try.underlying5 Try.underlying9]; simp [Conv.bytesToString, go_sem]; rfl
    | some a =>
      have h := run_convert_bytes_back (P := Try.prog) w 33 9 5 a cap [] Try.underlying33 Try.underlying5 Try.underlying9 (fun j hj => by simp at hj)
      simpa using h
  · exact run_convert_bytes_back (P := Try.prog) w 33 9 5 ⟨b, o, none⟩ cap L Try.underlying33 Try.underlying5 Try.underlying9 (fun j hj => by rw [Addr.add_mid]; simpa using hin.getB j hj)

/-- A list of bytes of one's own, all that was there stays. -/
structure Jo (w W : World) (a : Option Addr) (c : Nat) (xs : List UInt8) : Prop where
  bl : Below w.heap.size w W
  own : W.ownsRow w.heap.size 5 1 (.slice a xs.length c) xs.length (flat xs)
theorem Jo.app {w W W1 : World} {a a1 : Option Addr} {c c1 : Nat} {xs ys : List UInt8} (h : Jo w W a c xs) (g : Below W.heap.size W W1) (hy : At W1 a1 ys) (hlen : xs.length + ys.length ≤ 1000000000) :
    ∃ a2 c2 W2, (Builtin.append_ #[33, 33] 33 #[.slice a xs.length c, .slice a1 ys.length c1]).run Try.prog W1 = .ok (.slice a2 (xs ++ ys).length c2) W2 ∧ Jo w W2 a2 c2 (xs ++ ys) ∧ (∀ k t vs, W.heap.size ≤ k → Blk W1 k t vs → Blk W2 k t vs) := by
  have o1 := owns_below h.own g
  have b1 := via0 g h.bl
  obtain ⟨a2, c2, W2, hr, hown, hg⟩ := append_l (c' := c1) b1.size o1 hy hlen
  refine ⟨a2, c2, W2, hr, ⟨b1.grown hg b1.size (fun j e => Nat.le_of_not_lt fun q => owns_far o1 q e.symm), hown⟩, fun k t vs hk hb => ?_⟩
  exact (hg.block k hb.lt (fun e => by have := owns_lt h.own e.symm; omega)).trans hb
theorem Jo.below {w W W1 : World} {a : Option Addr} {c : Nat} {xs : List UInt8} (h : Jo w W a c xs) (g : Below W.heap.size W W1) : Jo w W1 a c xs := ⟨via0 g h.bl, owns_below h.own g⟩

theorem sum_bytes (n : Nat) (hn : n < 4294967296) : flat (sumB 4 n) = [.int .u8 ((n : Int) % 256), .int .u8 ((n : Int) / 256 % 256), .int .u8 ((n : Int) / 65536 % 256), .int .u8 ((n : Int) / 16777216)] := by
  have h (m : Nat) : (Value.int .u8 ((UInt8.ofNat (m % 256)).toNat : Int)) = .int .u8 ((m % 256 : Nat) : Int) := by
    congr 1
    rw [UInt8.toNat_ofNat']
    omega
  show [Value.int .u8 ((UInt8.ofNat (n % 256)).toNat : Int), Value.int .u8 ((UInt8.ofNat (n / 256 % 256)).toNat : Int), Value.int .u8 ((UInt8.ofNat (n / 256 / 256 % 256)).toNat : Int), Value.int .u8 ((UInt8.ofNat (n / 256 / 256 / 256 % 256)).toNat : Int)] = _
  rw [h, h, h, h]
  simp only [List.cons.injEq, Value.int.injEq, true_and, and_true]
  refine ⟨by omega, by omega, by omega, by omega⟩

set_option maxRecDepth 100000 in
set_option maxHeartbeats 1000000 in
theorem l9Sum_any (A : Option Addr) (cap : Nat) (l : List UInt8) (hl : l.length ≤ 3000000) (w : World) (hA : At w A l) :
    Calls Try.prog 36 #[.slice A l.length cap] w fun e w' => e = .returned (.slice (some ⟨w.heap.size, 0, none⟩) 4 4) ∧ Below w.heap.size w w' ∧ At w' (some ⟨w.heap.size, 0, none⟩) (sumB 4 (sumN l)) := by
  have HA := hidP hA
  have hs := sumN_lt l
  clear hA
  go_enter Try.func36, Try.ntmps36
  go_wp2_with fail
  refine (specSum_any A cap l hl _ HA.out).mono ?_
  rintro e w1 ⟨rfl, rfl⟩
  have hfl := hidP (sum_bytes (sumN l) hs)
  generalize hN : sumN l = n at *
  have HN := hidP hN
  clear hN
  go_wp2
  go_ret
  refine ⟨rfl, alloc0 (Below.refl _ _) _, ?_⟩
  refine newL _ _ _ _ ?_
  rw [HN.out, hfl.out]
end Go.Proofs.Ytfbbifdfjjkknaa.Gen
