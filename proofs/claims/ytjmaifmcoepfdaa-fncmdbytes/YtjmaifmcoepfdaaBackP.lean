/-
  Numbers and texts, there and back, as lists alone. No condition.
-/
import Derived.Test.YtjmaifmcoepfdaaGetT
import Derived.Test.YtjmaifmcoepfdaaPutB
namespace Go.Proofs.Ytjmaifmcoepfdaa.Gen
open Go.ChangeShapes Go.WideShapes Go.ChangeAt Go.RowKit Go.Joins Go.Deep Base
set_option linter.unusedVariables false

theorem arr_back (s : ByteArray) : (⟨s.data.toList.toArray⟩ : ByteArray) = s := by cases s; simp
theorem getT_txtB {s : ByteArray} (h : s.size ≤ 2147483647) (p r : List UInt8) : getT (p ++ (txtB s ++ r)) (p.length : Int) = some (s, p.length + (txtB s).length) := by
  have hs : s.data.toList.length = s.size := by rw [Array.length_toList]; rfl
  have e : p ++ (txtB s ++ r) = p ++ (numB s.size ++ (s.data.toList ++ r)) := by simp [txtB]
  unfold getT
  rw [e, getN_numB h]
  simp only
  have hd : (p ++ (numB s.size ++ (s.data.toList ++ r))).drop (p.length + (numB s.size).length) = s.data.toList ++ r := by
    rw [← List.append_assoc, List.drop_left' (by simp)]
  rw [if_pos (by simp only [List.length_append, hs]; omega), hd, List.take_left' hs, arr_back, txtB_length]
  simp; omega
theorem txtB_getT {l : List UInt8} {i : Int} {s : ByteArray} {c : Nat} (h : getT l i = some (s, c)) : txtB s = (l.drop i.toNat).take (c - i.toNat) ∧ s.size ≤ 2147483647 := by
  unfold getT at h
  cases hg : getN l i with
  | none => rw [hg] at h; cases h
  | some x =>
    obtain ⟨n, c'⟩ := x
    rw [hg] at h
    simp only at h
    obtain ⟨h1, h2, h3, h4, h5⟩ := getN_le hg
    split at h
    · simp only [Option.some.injEq, Prod.mk.injEq] at h
      obtain ⟨rfl, rfl⟩ := h
      have hn : ((l.drop c').take n).length = n := by simp; omega
      have hsz : (⟨((l.drop c').take n).toArray⟩ : ByteArray).size = n := by show ((l.drop c').take n).toArray.size = n; simpa using hn
      refine ⟨?_, by rw [hsz]; omega⟩
      unfold txtB
      rw [hsz, numB_getN hg]
      have e : c' + n - i.toNat = (c' - i.toNat) + n := by omega
      rw [e, List.take_add, List.drop_drop]
      congr 2
      have : i.toNat + (c' - i.toNat) = c' := by omega
      rw [this]
    · cases h

/-- What is told of a number's bytes that are read. -/
theorem formN (n : Int) : ∃ (N C : Int) (B : Bool), numT (getN (numI n) 0) = .tuple #[.int .i64 N, .int .i64 C, .bool B] ∧ (0 < (numI n).length → B = true ∧ N = n ∧ C = ((numI n).length : Int)) := by
  by_cases h : 0 ≤ n ∧ n ≤ 2147483647
  · obtain ⟨m, rfl⟩ : ∃ m : Nat, n = (m : Int) := ⟨n.toNat, by omega⟩
    rw [numI_nat (show m ≤ 2147483647 by omega)]
    have := getN_numB (n := m) (by omega) [] []
    simp only [List.nil_append, List.append_nil, List.length_nil, Nat.zero_add] at this
    rw [show ((0 : Nat) : Int) = 0 from rfl] at this
    rw [this]
    exact ⟨_, _, _, rfl, fun _ => ⟨rfl, rfl, rfl⟩⟩
  · have e : numI n = [] := by unfold numI; rw [if_neg h]
    rw [e]
    exact ⟨_, _, _, rfl, fun h => by simp at h⟩
theorem formG (l : List UInt8) (k : Int) : ∃ (Z S : Int) (O : Bool), numT (getN l k) = .tuple #[.int .i64 Z, .int .i64 S, .bool O] ∧
    (O = true → ∃ z j n : Nat, Z = (z : Int) ∧ k = (j : Int) ∧ S = (j : Int) + (n : Int) ∧ j + n ≤ l.length ∧ z ≤ 2147483647 ∧ (l.drop j).take n = numB z) := by
  cases hg : getN l k with
  | none => exact ⟨_, _, _, rfl, fun h => by cases h⟩
  | some x =>
    obtain ⟨z, c⟩ := x
    obtain ⟨h1, h2, h3, h4, h5⟩ := getN_le hg
    refine ⟨_, _, _, rfl, fun _ => ⟨z, k.toNat, c - k.toNat, rfl, by omega, by omega, by omega, h1, (numB_getN hg).symm⟩⟩
theorem formT (l : List UInt8) (k : Int) : ∃ (Z : ByteArray) (S : Int) (O : Bool), txtT (getT l k) = .tuple #[.string Z, .int .i64 S, .bool O] ∧
    (O = true → ∃ j n : Nat, k = (j : Int) ∧ S = (j : Int) + (n : Int) ∧ j + n ≤ l.length ∧ Z.size ≤ l.length ∧ (l.drop j).take n = txtB Z) := by
  cases hg : getT l k with
  | none => exact ⟨_, _, _, rfl, fun h => by cases h⟩
  | some x =>
    obtain ⟨s, c⟩ := x
    obtain ⟨h1, h2, h3, h4⟩ := getT_le hg
    refine ⟨_, _, _, rfl, fun _ => ⟨k.toNat, c - k.toNat, by omega, by omega, by omega, h4, (txtB_getT hg).1.symm⟩⟩
/-- Bytes as a text. -/
theorem conv_any (a : Option Addr) (c : Nat) (L : List UInt8) (W : World) (h : At W a L) : (convert 22 9 (.slice a L.length c)).run Try.prog W = .ok (.string ⟨L.toArray⟩) W := by
  rcases h with rfl | ⟨b, o, rfl, hb, hi⟩
  · cases a with
    | none =>
      rw [run_convert_bytes_string W _ _ _ none _ c Try.underlying22 Try.underlying5 Try.underlying9]
      rfl
    | some a =>
      have h := run_convert_bytes_back (P := Try.prog) W 22 9 5 a c [] Try.underlying22 Try.underlying5 Try.underlying9 (fun j hj => by simp at hj)
      exact h
  · exact run_convert_bytes_back (P := Try.prog) W 22 9 5 ⟨b, o, none⟩ c L Try.underlying22 Try.underlying5 Try.underlying9 (fun j hj => by
      rw [Addr.add_mid]
      exact hi.getB j hj)
end Go.Proofs.Ytjmaifmcoepfdaa.Gen
