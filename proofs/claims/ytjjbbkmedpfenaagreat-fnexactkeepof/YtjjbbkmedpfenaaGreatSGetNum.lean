/-
  The specification's GetNum: the number that begins at a place, and the place behind it. Condition: at most 1048576 bytes.
-/
import Derived.Test.YtjjbbkmedpfenaaGreatGen
import Derived.WalkSmall
import Derived.Lib.EndianBits
namespace Go.Proofs.YtjjbbkmedpfenaaGreat.Gen
open Go.ChangeShapes Go.WideShapes Go.ChangeAt Go.RowKit Go.Joins Go.Deep Base
set_option linter.unusedVariables false

/-- What is told of a number that is read. -/
def numT (o : Option (Nat × Nat)) : Value := match o with
  | some (n, c) => .tuple #[.int .i64 (n : Int), .int .i64 (c : Int), .bool true]
  | none => .tuple #[.int .i64 0, .int .i64 0, .bool false]

/-- What is to be read when k bytes have come. -/
def rest (l : List UInt8) (i : Int) (k acc : Nat) : Option (Nat × Nat) := if 0 ≤ i then (getD (5 - k) k acc (l.drop (i.toNat + k))).map fun x => (x.1, i.toNat + x.2) else none
theorem rest_zero (l : List UInt8) (i : Int) : rest l i 0 0 = getN l i := rfl
theorem rest_neg {l : List UInt8} {i : Int} {k acc : Nat} (h : i < 0) : rest l i k acc = none := if_neg (by omega)
theorem rest_past {l : List UInt8} {i : Int} {k acc : Nat} (h : (l.length : Int) ≤ i + (k : Int)) : rest l i k acc = none := by
  unfold rest
  split
  · rw [getD_past (by omega)]; rfl
  · rfl
theorem rest_five {l : List UInt8} {i : Int} {acc : Nat} : rest l i 5 acc = none := by
  unfold rest
  split <;> rfl
theorem rest_step {l : List UInt8} {j k : Nat} (hk : k < 5) (acc : Nat) (h : j + k < l.length) :
    rest l (j : Int) k acc = if (l[j + k]).toNat < 128 then (if (0 < k ∧ (l[j + k]).toNat = 0) ∨ 2147483647 < acc + (l[j + k]).toNat % 128 * 128 ^ k then none else some (acc + (l[j + k]).toNat % 128 * 128 ^ k, j + k + 1))
      else rest l (j : Int) (k + 1) (acc + (l[j + k]).toNat % 128 * 128 ^ k) := by
  unfold rest
  have hj : (0 : Int) ≤ (j : Int) := by omega
  simp only [hj, if_true]
  have e : 5 - k = (5 - (k + 1)) + 1 := by omega
  have e2 : (j : Int).toNat = j := by omega
  rw [e, e2, getD_next h]
  split
  · split
    · rfl
    · simp; omega
  · rfl
theorem w64_in (n : Int) (h : -9223372036854775808 ≤ n ∧ n ≤ 9223372036854775807) : wrap64 n = n := by unfold wrap64; omega
/-- Bits that are apart, joined. -/
theorem or_join {k acc d : Nat} (hk : k < 5) (hacc : acc < 128 ^ k) (hd : d < 256) : bits .or .i64 (acc : Int) (wrap64 ((d : Int) % 128 * 2 ^ (7 * k))) = ((acc + d % 128 * 128 ^ k : Nat) : Int) := by
  have hw : ∀ n : Int, 0 ≤ n → n < 2 ^ 62 → IntKind.i64.wrap n = n := fun n h0 h1 => by
    have : IntKind.i64.wrap n = wrap64 n := by simp [go_sem, wrap64, IntKind.wrap_i64]
    rw [this]; exact w64_in n (by omega)
  have hk' : k = 0 ∨ k = 1 ∨ k = 2 ∨ k = 3 ∨ k = 4 := by omega
  rcases hk' with rfl | rfl | rfl | rfl | rfl
  · rw [w64_in _ (by omega), bits_join_low .i64 62 (by decide) hw 0 _ _ (by omega) (by omega) (by omega) (by omega) (by omega) (by omega)]; omega
  · rw [w64_in _ (by omega), bits_join_low .i64 62 (by decide) hw 7 _ _ (by omega) (by omega) (by omega) (by omega) (by omega) (by omega)]; omega
  · rw [w64_in _ (by omega), bits_join_low .i64 62 (by decide) hw 14 _ _ (by omega) (by omega) (by omega) (by omega) (by omega) (by omega)]; omega
  · rw [w64_in _ (by omega), bits_join_low .i64 62 (by decide) hw 21 _ _ (by omega) (by omega) (by omega) (by omega) (by omega) (by omega)]; omega
  · rw [w64_in _ (by omega), bits_join_low .i64 62 (by decide) hw 28 _ _ (by omega) (by omega) (by omega) (by omega) (by omega) (by omega)]; omega
theorem acc_next {k acc d : Nat} (hk : k < 5) (hacc : acc < 128 ^ k) (hd : d < 256) : acc + d % 128 * 128 ^ k < 128 ^ (k + 1) := by
  have hk' : k = 0 ∨ k = 1 ∨ k = 2 ∨ k = 3 ∨ k = 4 := by omega
  rcases hk' with rfl | rfl | rfl | rfl | rfl <;> omega
theorem acc_le {k acc : Nat} (hk : k ≤ 5) (hacc : acc < 128 ^ k) : acc < 34359738368 := by
  have hk' : k = 0 ∨ k = 1 ∨ k = 2 ∨ k = 3 ∨ k = 4 ∨ k = 5 := by omega
  rcases hk' with rfl | rfl | rfl | rfl | rfl | rfl <;> omega

set_option maxRecDepth 100000 in
set_option maxHeartbeats 2000000 in
theorem specGetNum_any (A : Option Addr) (cap : Nat) (l : List UInt8) (hl : l.length ≤ 1048576) (i : Int) (hi : I64 i) (w : World) (hA : At w A l) :
    Calls Tryz.prog 79 #[.slice A l.length cap, .int .i64 i] w fun e w' => e = .returned (numT (getN l i)) ∧ w' = w := by
  have HA := hidP hA
  have hi' := hidP hi
  clear hA hi
  go_enter Tryz.func79, Tryz.ntmps79
  go_wp2
  go_loopw [7, 8] (fun v7 v8 W => ∃ (k acc : Nat), v7 = .int .i64 (acc : Int) ∧ v8 = .int .i64 (k : Int) ∧ k ≤ 5 ∧ Hid (acc < 128 ^ k) ∧ W = w ∧ Hid (getN l i = rest l i k acc)) (fun _ v8 _ => 5 - (intOf v8).toNat)
  case atStart => exact ⟨0, 0, rfl, rfl, by omega, by show 0 < 1; omega, rfl, rest_zero l i⟩
  case round =>
    obtain ⟨k, acc, rfl, rfl, hk, hacc, rfl, hR⟩ := hrel
    by_cases h5 : k < 5
    · have h5' : (k : Int) < 5 := by omega
      by_cases h0 : i < 0
      · have hN := hidP (hR.out.trans (rest_neg h0))
        go_wp2
        exact bodyPost_ret (v := .tuple #[.int .i64 0, .int .i64 0, .bool false]) (by simp [results, Tryz.results79, go_sem]) rfl ⟨by rw [hN.out]; rfl, rfl⟩
      · obtain ⟨j, rfl⟩ : ∃ j : Nat, i = (j : Int) := ⟨i.toNat, by omega⟩
        by_cases hp : j + k < l.length
        · obtain ⟨b, o, rfl, hbs, hin⟩ : ∃ b o, A = some ⟨b, o, none⟩ ∧ b < wr.heap.size ∧ In wr b o l := by
            rcases HA.out with h | h
            · subst h; simp at hp
            · exact h
          have c0 := hin.getB (j + k) hp
          have hp1 : ¬ ((l.length : Int) - (k : Int) ≤ (j : Int)) := by omega
          have hp2 : ((j : Int) + (k : Int)) < (l.length : Int) := by omega
          have hp3 : (0 : Int) ≤ (j : Int) + (k : Int) := by omega
          have hst := hidP (rest_step h5 acc hp)
          generalize hd : (l[j + k]).toNat = d at *
          have hd2 : d < 256 := by rw [← hd]; exact (l[j + k]).toNat_lt
          have hor := or_join h5 hacc.out hd2
          have hnx := hidP (acc_next h5 hacc.out hd2)
          have hn35 := acc_le (k := k + 1) (by omega) hnx.out
          generalize acc + d % 128 * 128 ^ k = N at *
          by_cases hd1 : d < 128
          · rw [if_pos hd1] at hst
            by_cases hbad : (0 < k ∧ d = 0) ∨ 2147483647 < N
            · rw [if_pos hbad] at hst
              have hN := hidP (hR.out.trans hst.out)
              clear hst
              by_cases hz : 0 < k ∧ d = 0
              · obtain ⟨hz1, rfl⟩ := hz
                go_wp2
                exact bodyPost_ret (v := .tuple #[.int .i64 0, .int .i64 0, .bool false]) (by simp [results, Tryz.results79, go_sem]) rfl ⟨by rw [hN.out]; rfl, rfl⟩
              · have hN1 : 2147483647 < N := by omega
                have hN2 : (2147483647 : Int) < (N : Int) := by omega
                by_cases hk0 : 0 < k
                · have hd0 : ¬ d = 0 := by omega
                  have hd0' : ((d : Int) == 0) = false := by simp; omega
                  go_wp2
                  exact bodyPost_ret (v := .tuple #[.int .i64 0, .int .i64 0, .bool false]) (by simp [results, Tryz.results79, go_sem]) rfl ⟨by rw [hN.out]; rfl, rfl⟩
                · go_wp2
                  exact bodyPost_ret (v := .tuple #[.int .i64 0, .int .i64 0, .bool false]) (by simp [results, Tryz.results79, go_sem]) rfl ⟨by rw [hN.out]; rfl, rfl⟩
            · rw [if_neg hbad] at hst
              have hN := hidP (hR.out.trans hst.out)
              have hN1 : N ≤ 2147483647 := by omega
              have hN2 : ¬ ((2147483647 : Int) < (N : Int)) := by omega
              clear hst
              by_cases hk0 : 0 < k
              · have hd0 : ¬ d = 0 := by omega
                have hd0' : ((d : Int) == 0) = false := by simp; omega
                go_wp2
                exact bodyPost_ret (v := .tuple #[.int .i64 (N : Int), .int .i64 ((j : Int) + (k : Int) + 1), .bool true]) (by simp [results, Tryz.results79, go_sem]) rfl ⟨by rw [hN.out]; rfl, rfl⟩
              · go_wp2
                exact bodyPost_ret (v := .tuple #[.int .i64 (N : Int), .int .i64 ((j : Int) + (k : Int) + 1), .bool true]) (by simp [results, Tryz.results79, go_sem]) rfl ⟨by rw [hN.out]; rfl, rfl⟩
          · rw [if_neg hd1] at hst
            have hN := hidP (hR.out.trans hst.out)
            clear hst
            go_wp2
            exact ⟨⟨k + 1, N, rfl, by go_num, by omega, hnx, trivial, hN⟩, by simp [intOf]; omega⟩
        · have hN := hidP (hR.out.trans (rest_past (by omega)))
          have hp1 : (l.length : Int) - (k : Int) ≤ (j : Int) := by omega
          go_wp2
          exact bodyPost_ret (v := .tuple #[.int .i64 0, .int .i64 0, .bool false]) (by simp [results, Tryz.results79, go_sem]) rfl ⟨by rw [hN.out]; rfl, rfl⟩
    · obtain rfl : k = 5 := by omega
      have hN := hidP (hR.out.trans rest_five)
      go_wp2
      exact bodyPost_ret (v := .tuple #[.int .i64 0, .int .i64 0, .bool false]) (by simp [results, Tryz.results79, go_sem]) rfl ⟨by rw [hN.out]; rfl, rfl⟩
end Go.Proofs.YtjjbbkmedpfenaaGreat.Gen
