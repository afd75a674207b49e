/-
  spec.Digits: at every number it answers the decimal numeral, and turns nothing that was there. No condition.
-/
import Derived.Test.YtpdbgppbmjpdmaaDoorBase
import Derived.Test.YtpdbgppbmjpdmaaDoorRows
import Derived.WalkSpells
import Derived.Lib.ItoaNum
namespace Go.Proofs.YtpdbgppbmjpdmaaDoor.Digits
open Go.ChangeShapes Go.WideShapes Go.ChangeAt Go.RowKit Base
set_option linter.unusedVariables false

/-- What the loop still owes ahead of what it has told. -/
def ahead (u : Nat) (out : List UInt8) : List UInt8 := if u = 0 then out else Lib.decDigits u ++ out

theorem ahead_step (u : Nat) (hu : u ≠ 0) (out : List UInt8) : ahead u out = ahead (u / 10) (UInt8.ofNat (48 + u % 10) :: out) := by
  unfold ahead
  rw [if_neg hu]
  by_cases h : u < 10
  · have h0 : u / 10 = 0 := by omega
    have h1 : u % 10 = u := by omega
    rw [h0, if_pos rfl, Lib.decDigits_one h, h1]; rfl
  · have h0 : u / 10 ≠ 0 := by omega
    rw [if_neg h0, Lib.decDigits, dif_neg h, List.append_assoc]; rfl

theorem conv1 (w : World) (x : Int) :
    (convert 31 9 (.slice (some ⟨w.heap.size, 0, none⟩) 1 1)).run Tryd.prog (w.alloc (.cells #[.int .u8 x] 5)) = .ok (.string ⟨#[UInt8.ofNat x.toNat]⟩) (w.alloc (.cells #[.int .u8 x] 5)) := by
  rw [run_convert_bytes_arg (w.alloc (.cells #[.int .u8 x] 5)) 31 5 Tryd.underlying31 Tryd.underlying5 w.heap.size 0 1 1 [x] rfl (fun i hi => by
    obtain rfl : i = 0 := by omega
    simp) 9 Tryd.underlying9]
  rfl

theorem cat1 (x : Nat) (out : List UInt8) : (Value.string ((⟨#[48 + UInt8.ofNat x]⟩ : ByteArray) ++ ⟨out.toArray⟩)) = .string ⟨(UInt8.ofNat (48 + x) :: out).toArray⟩ := by
  congr 1
  apply ByteArray.ext
  simp [ByteArray.data_append]

theorem cat2 (x : Int) (y : Nat) (out : List UInt8) (h : x.toNat = 48 + y) : (Value.string ((⟨#[UInt8.ofNat x.toNat]⟩ : ByteArray) ++ ⟨out.toArray⟩)) = .string ⟨(UInt8.ofNat (48 + y) :: out).toArray⟩ := by
  rw [h]
  rfl

theorem cut10 (u j n : Nat) (hu : u ≠ 0) (h : u < 10 ^ j) (hn : n + j = 19) : n ≤ 18 ∧ u / 10 < 10 ^ (j - 1) ∧ n + 1 + (j - 1) = 19 := by
  cases j with
  | zero => simp at h; omega
  | succ j => rw [Nat.pow_succ] at h; simp; omega

set_option maxHeartbeats 400000 in
theorem pos_any (u0 : Nat) (h0 : u0 ≠ 0) (hlt : u0 < 10 ^ 19) (h1 : (u0 : Int) ≤ 9223372036854775807) (w : World) :
    Calls Tryd.prog 5 #[.int .i64 (u0 : Int)] w fun e w' => e = .returned (.string ⟨(Lib.decDigits u0).toArray⟩) ∧ Below w.heap.size w w' := by
  have hb : ((u0 : Int) == 0) = false := by simp; omega
  have hn : ¬ (u0 : Int) < 0 := by omega
  go_enter Tryd.func5, Tryd.ntmps5
  go_wp2
  go_loopw [0, 4] (fun n o w' => ∃ (u j : Nat) (out : List UInt8), n = .int .i64 (u : Int) ∧ o = .string ⟨out.toArray⟩ ∧ Hid (u < 10 ^ j ∧ out.length + j = 19 ∧ ahead u out = Lib.decDigits u0) ∧ u ≤ u0 ∧ Below w.heap.size w w') (fun n _ _ => (intOf n).toNat)
  case atStart => exact ⟨u0, 19, [], rfl, rfl, ⟨hlt, rfl, by simp [ahead, h0]⟩, Nat.le_refl _, Below.refl _ _⟩
  case round =>
    obtain ⟨u, j, out, rfl, rfl, HH, hle, hbl⟩ := hrel
    by_cases hz : u = 0
    · have hz' : ((u : Int) != 0) = false := by simp [hz]
      go_wp2
      go_ret
      obtain ⟨_, _, hE⟩ := HH.out
      refine ⟨?_, hbl⟩
      rw [← hE, ahead, if_pos hz]; rfl
    · have hz' : ((u : Int) != 0) = true := by simp [hz]
      have hconv := conv1
      have hc : out.length ≤ 18 := (cut10 u j _ hz HH.out.1 HH.out.2.1).1
      go_wp2
      obtain ⟨a1, a2, a3⟩ := HH.out
      obtain ⟨b1, b2, b3⟩ := cut10 u j _ hz a1 a2
      refine ⟨⟨u / 10, j - 1, UInt8.ofNat (48 + u % 10) :: out, by go_num, cat1 _ _, ⟨b2, by simp; omega, by rw [← ahead_step u hz]; exact a3⟩, by omega, hbl.alloc hbl.size _⟩, ?_⟩
      simp [intOf]; omega

set_option maxHeartbeats 400000 in
theorem neg_any (u0 : Nat) (h0 : u0 ≠ 0) (hlt : u0 < 10 ^ 19) (h1 : (u0 : Int) ≤ 9223372036854775808) (w : World) :
    Calls Tryd.prog 5 #[.int .i64 (-(u0 : Int))] w fun e w' => e = .returned (.string ⟨(45 :: Lib.decDigits u0).toArray⟩) ∧ Below w.heap.size w w' := by
  have hb : ((-(u0 : Int)) == 0) = false := by simp; omega
  have hn : -(u0 : Int) < 0 := by omega
  go_enter Tryd.func5, Tryd.ntmps5
  go_wp2
  go_loopw [0, 4] (fun n o w' => ∃ (u j : Nat) (out : List UInt8), n = .int .i64 (-(u : Int)) ∧ o = .string ⟨out.toArray⟩ ∧ Hid (u < 10 ^ j ∧ out.length + j = 19 ∧ ahead u out = Lib.decDigits u0) ∧ u ≤ u0 ∧ Below w.heap.size w w') (fun n _ _ => (- intOf n).toNat)
  case atStart => exact ⟨u0, 19, [], rfl, rfl, ⟨hlt, rfl, by simp [ahead, h0]⟩, Nat.le_refl _, Below.refl _ _⟩
  case round =>
    obtain ⟨u, j, out, rfl, rfl, HH, hle, hbl⟩ := hrel
    by_cases hz : u = 0
    · have hz' : ((-(u : Int)) != 0) = false := by simp [hz]
      have hc : out.length ≤ 19 := by have := HH.out.2.1; omega
      go_wp2
      go_ret
      obtain ⟨_, _, hE⟩ := HH.out
      refine ⟨?_, hbl⟩
      rw [← hE, ahead, if_pos hz]; rfl
    · have hz' : ((-(u : Int)) != 0) = true := by simp [hz]
      have hconv := conv1
      have hc : out.length ≤ 18 := (cut10 u j _ hz HH.out.1 HH.out.2.1).1
      go_wp2
      all_goals
        obtain ⟨a1, a2, a3⟩ := HH.out
        obtain ⟨b1, b2, b3⟩ := cut10 u j _ hz a1 a2
        refine ⟨⟨u / 10, j - 1, UInt8.ofNat (48 + u % 10) :: out, by go_num, ?_, ⟨b2, by simp; omega, by rw [← ahead_step u hz]; exact a3⟩, by omega, hbl.alloc hbl.size _⟩, ?_⟩
      · exact cat1 _ _
      · simp [intOf]; omega
      · exact cat2 _ _ _ (by omega)
      · simp [intOf]; omega

theorem zero_any (w : World) :
    Calls Tryd.prog 5 #[.int .i64 0] w fun e w' => e = .returned (.string ⟨(Lib.decDigits 0).toArray⟩) ∧ Below w.heap.size w w' := by
  go_enter Tryd.func5, Tryd.ntmps5
  go_wp2
  go_ret
  exact ⟨by rw [Lib.decDigits_one (by omega)]; rfl, Below.refl _ _⟩

theorem spec_any (n : Int) (h0 : -9223372036854775808 ≤ n) (h1 : n ≤ 9223372036854775807) (w : World) :
    Calls Tryd.prog 5 #[.int .i64 n] w fun e w' => e = .returned (.string ⟨(Lib.itoa n).toArray⟩) ∧ Below w.heap.size w w' := by
  by_cases hz : n = 0
  · subst hz; exact zero_any w
  · by_cases hn : n < 0
    · have e1 : n = -((n.natAbs : Nat) : Int) := by omega
      have e2 : Lib.itoa n = 45 :: Lib.decDigits n.natAbs := by unfold Lib.itoa; rw [if_pos hn]
      have k := neg_any n.natAbs (by omega) (by have : (10 : Nat) ^ 19 = 10000000000000000000 := by decide
                                                omega) (by omega) w
      rw [← e1] at k
      rw [e2]; exact k
    · have e1 : n = ((n.toNat : Nat) : Int) := by omega
      have e2 : Lib.itoa n = Lib.decDigits n.toNat := by unfold Lib.itoa; rw [if_neg hn]
      have k := pos_any n.toNat (by omega) (by have : (10 : Nat) ^ 19 = 10000000000000000000 := by decide
                                               omega) (by omega) w
      rw [← e1] at k
      rw [e2]; exact k
end Go.Proofs.YtpdbgppbmjpdmaaDoor.Digits
