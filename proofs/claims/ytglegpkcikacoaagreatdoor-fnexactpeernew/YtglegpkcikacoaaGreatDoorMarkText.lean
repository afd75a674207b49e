/-
  The laws' markText: a text of its own for each number. No condition.
-/
import Derived.Test.YtglegpkcikacoaaGreatDoorBase
import Derived.WalkSpells
import Derived.Lib.ItoaNum
set_option linter.unusedVariables false
set_option linter.unusedSimpArgs false
set_option maxRecDepth 100000
set_option maxHeartbeats 8000000
namespace Go.Proofs.YtglegpkcikacoaaGreatDoor.Items
open ChangeShapes WideShapes ChangeAt RowKit Base
def Qdi (u : Nat) (out : List UInt8) : List UInt8 := if u = 0 then out else Lib.decDigits u ++ out
theorem Qhn (u : Nat) (hu : u ≠ 0) (out : List UInt8) : Qdi u out = Qdi (u / 10) (UInt8.ofNat (48 + u % 10) :: out) := by
 unfold Qdi
 rw [if_neg hu]
 by_cases h : u < 10
 . have h0 : u / 10 = 0 := by omega
   have h1 : u % 10 = u := by omega
   rw [h0, if_pos rfl, Lib.decDigits_one h, h1]; rfl
 . have h0 : u / 10 ≠ 0 := by omega
   rw [if_neg h0, Lib.decDigits, dif_neg h, List.append_assoc]; rfl
theorem conv1 (w : World) (x : Int) :
 (convert 37 9 (.slice (some ⟨w.heap.size, 0, none⟩) 1 1)).run Tryz.prog (w.alloc (.cells #[.int .u8 x] 5)) = .ok (.string ⟨#[UInt8.ofNat x.toNat]⟩) (w.alloc (.cells #[.int .u8 x] 5)) := by
 rw [run_convert_bytes_arg (w.alloc (.cells #[.int .u8 x] 5)) 37 5 Tryz.underlying37 Tryz.underlying5 w.heap.size 0 1 1 [x] rfl (fun i hi => by
  obtain rfl : i = 0 := by omega
  simp) 9 Tryz.underlying9]
 rfl
theorem cat1 (x : Nat) (out : List UInt8) : (Value.string ((⟨#[48 + UInt8.ofNat x]⟩ : ByteArray) ++ ⟨out.toArray⟩)) = .string ⟨(UInt8.ofNat (48 + x) :: out).toArray⟩ := by
 congr 1
 apply ByteArray.ext
 simp [ByteArray.data_append]
theorem cut10 (u j n : Nat) (hu : u ≠ 0) (h : u < 10 ^ j) (hn : n + j = 19) : n <= 18 /\ u / 10 < 10 ^ (j - 1) /\ n + 1 + (j - 1) = 19 := by
 cases j with
 | zero => simp at h; omega
 | succ j => rw [Nat.pow_succ] at h; simp; omega
def markT (k : Nat) : ByteArray := ⟨(109 :: Lib.decDigits k).toArray⟩
theorem Qiq (u0 : Nat) (h0 : u0 ≠ 0) (hlt : u0 <= 1000000000) (w : World) :
    Calls Tryz.prog 70 #[.int .i64 (u0 : Int)] w fun e w' => e = .returned (.string (markT u0)) /\ Below w.heap.size w w' := by
  have hn : ¬ (u0 : Int) <= 0 := by omega
  go_enter Tryz.func70, Tryz.ntmps70
  go_wp2
  go_loopw [0, 3] (fun n o w' => ∃ (u j : Nat) (out : List UInt8), n = .int .i64 (u : Int) /\ o = .string ⟨out.toArray⟩ /\ Hid (u < 10 ^ j /\ out.length + j = 19 /\ Qdi u out = Lib.decDigits u0) /\ u <= u0 /\ Below w.heap.size w w') (fun n _ _ => (intOf n).toNat)
  case atStart => exact ⟨u0, 19, [], rfl, rfl, ⟨by have : (10 : Nat) ^ 19 = 10000000000000000000 := by decide
                                                   omega, rfl, by simp [Qdi, h0]⟩, Nat.le_refl _, Below.refl _ _⟩
  case round =>
   obtain ⟨u, j, out, rfl, rfl, HH, hle, hbl⟩ := hrel
   by_cases hz : u = 0
   . have hz' : ¬ (u : Int) > 0 := by omega
     have hc : out.length <= 19 := by have := HH.out.2.1; omega
     go_wp2
     go_ret
     obtain ⟨_, _, hE⟩ := HH.out
     refine ⟨?_, hbl⟩
     rw [markT, ← hE, Qdi, if_pos hz]; rfl
   . have hz' : (u : Int) > 0 := by omega
     have hconv := conv1
     have hc : out.length <= 18 := (cut10 u j _ hz HH.out.1 HH.out.2.1).1
     go_wp2
     obtain ⟨a1, a2, a3⟩ := HH.out
     obtain ⟨b1, b2, b3⟩ := cut10 u j _ hz a1 a2
     refine ⟨⟨u / 10, j - 1, UInt8.ofNat (48 + u % 10) :: out, by go_num, cat1 _ _, ⟨b2, by simp; omega, by rw [← Qhn u hz]; exact a3⟩, by omega, hbl.alloc hbl.size _⟩, ?_⟩
     simp [intOf]; omega
def markZ (z : Int) : ByteArray := markT z.toNat
theorem markText_at (z : Int) (h1 : 1 <= z) (h2 : z <= 1000000000) (w : World) :
 Calls Tryz.prog 70 #[.int .i64 z] w fun e w' => e = .returned (.string (markZ z)) /\ Below w.heap.size w w' := by
 have e : ((z.toNat : Nat) : Int) = z := by omega
 have := Qiq z.toNat (by omega) (by omega) w
 rw [e] at this
 exact this
end Go.Proofs.YtglegpkcikacoaaGreatDoor.Items
