/-
  GroupOk of the program at this seat. No condition but that its lists have at most 1048576 numbers.
-/
import Derived.Test.YtkmkldjipihceaaGreatGroups
import Derived.Test.YtkmkldjipihceaaGreatDkV
set_option linter.unusedVariables false
set_option linter.unusedSimpArgs false
set_option maxRecDepth 100000
set_option maxHeartbeats 8000000
set_option maxRecDepth 100000
set_option maxHeartbeats 8000000
namespace Go.Proofs.YtkmkldjipihceaaGreat.Gen
open ChangeShapes WideShapes ChangeAt RowKit Joins Deep Base
def Qbm (l : List Int) (n : Nat) : Bool := (l.take n).all fun x => inB x 0 100000
theorem Qci {l : List Int} {n : Nat} (h : n < l.length) : Qbm l (n + 1) = (Qbm l n && inB l[n] 0 100000) := by
 unfold Qbm; rw [List.take_succ_eq_append_getElem h, List.all_append]; simp
theorem Qdi {l : List Int} {n : Nat} (h : n < l.length) (hx : inB l[n] 0 100000 = false) : Qbm l l.length = false := by
 unfold Qbm; rw [List.take_length, List.all_eq_false]; exact ⟨l[n], List.getElem_mem h, by simp [hx]⟩
def Qh2 (m : List Int) (j : Nat) : Bool := inB (m.getD j 0) 0 3 && (decide (j = 0) || decide (m.getD (j - 1) 0 < m.getD j 0))
def Qcz (m : List Int) (n : Nat) : Bool := (List.range n).all (Qh2 m)
theorem Qdr (m : List Int) (n : Nat) : Qcz m (n + 1) = (Qcz m n && Qh2 m n) := by simp [Qcz, List.range_succ]
theorem Qd3 {m : List Int} {n : Nat} (h : n < m.length) (hx : Qh2 m n = false) : Qcz m m.length = false := by
 unfold Qcz; rw [List.all_eq_false]; exact ⟨n, by simpa using h, by simp [hx]⟩
theorem Qcm {m : List Int} {n : Nat} (h : n < m.length) : Qh2 m n = (inB m[n] 0 3 && (decide (n = 0) || decide (m.getD (n - 1) 0 < m[n]))) := by simp [Qh2, h]
def gokB (gen rows : Int) (m b o : List Int) : Bool :=
  inB gen 0 100000 && Qcz m m.length && decide ((b.length : Int) = (m.length : Int)) && Qbm b b.length && decide ((o.length : Int) = rows) && Qbm o o.length
theorem Qdu (A : Option Addr) (cap : Nat) (l : List Int) (hl : l.length <= 1048576) (w : World) (hA : At w A l) :
 Calls Tryz.prog 170 #[.slice A l.length cap] w fun e w' => e = .returned (.bool (Qbm l l.length)) /\ w' = w := by
 have HA := hidP hA
 clear hA
 go_enter Tryz.func170, Tryz.ntmps170
 go_wp2
 go_loopw [7] (fun i w' => ∃ (n : Nat), i = .int .i64 (n : Int) /\ n <= l.length /\ w' = w /\ Hid (Qbm l n = true)) (fun i _ => l.length - (intOf i).toNat)
 case atStart => exact ⟨0, rfl, by omega, rfl, rfl⟩
 case round =>
  obtain ⟨n, rfl, hn, rfl, hR⟩ := hrel
  by_cases hlt : n < l.length
  . obtain ⟨bb, oo, rfl, hbs, hin⟩ : ∃ b o, A = some ⟨b, o, none⟩ /\ b < wr.heap.size /\ In wr b o l := by
     rcases HA.out with h | h
     . subst h; simp at hlt
     . exact h
    have c0 := hin.getInt n hlt
    have hi0 : (0 : Int) <= (n : Int) := by omega
    have hi1 : (n : Int) < (l.length : Int) := by omega
    cases hx : inB l[n] 0 100000
    . have hF : Hid (Qbm l l.length = false) := Qdi hlt hx
      go_wp2_with (go_at_call 89; refine (within_any _ _ _ _).mono ?_; rw [hx]; rintro e w1 ⟨rfl, rfl⟩)
      go_ret
      exact ⟨by rw [hF.out]; rfl, rfl⟩
    . have hF : Hid (Qbm l (n + 1) = true) := by show _ = _; rw [Qci hlt, hR.out, hx]; rfl
      go_wp2_with (go_at_call 89; refine (within_any _ _ _ _).mono ?_; rw [hx]; rintro e w1 ⟨rfl, rfl⟩)
      exact ⟨⟨n + 1, by go_num, by omega, by first | rfl | trivial, hF⟩, by simp [intOf]; omega⟩
  . obtain rfl : n = l.length := by omega
    go_wp2
    go_ret
    exact ⟨by rw [hR.out]; rfl, rfl⟩
theorem Qc1 (x : Int) (w : World) : Calls Tryz.prog 96 #[.int .i64 x] w fun e w' => e = .returned (.bool (inB x 0 3)) /\ w' = w := by
 go_enter Tryz.func96, Tryz.ntmps96
 go_wp2_with fail
 refine (within_any x 0 3 _).mono ?_
 rintro e w1 ⟨rfl, rfl⟩
 go_wp2
 go_ret
 exact ⟨rfl, rfl⟩
theorem Qh4 (A : Option Addr) (cap : Nat) (m : List Int) (hl : m.length <= 1048576) (w : World) (hA : At w A m) :
 Calls Tryz.prog 186 #[.slice A m.length cap] w fun e w' => e = .returned (.bool (Qcz m m.length)) /\ w' = w := by
 have HA := hidP hA
 clear hA
 go_enter Tryz.func186, Tryz.ntmps186
 go_wp2
 go_loopw [3, 8] (fun lo i w' => ∃ (n : Nat) (y : Int), i = .int .i64 (n : Int) /\ lo = .int .i64 y /\ n <= m.length /\ 0 <= y /\ y <= 4 /\ w' = w /\ Hid (y = if n = 0 then 0 else m.getD (n - 1) 0 + 1) /\ Hid (Qcz m n = true)) (fun _ i _ => m.length - (intOf i).toNat)
 case atStart => exact ⟨0, 0, rfl, rfl, by omega, by omega, by omega, rfl, rfl, rfl⟩
 case round =>
  obtain ⟨n, y, rfl, rfl, hn, hy0, hy1, rfl, hy, hR⟩ := hrel
  by_cases hlt : n < m.length
  . obtain ⟨bb, oo, rfl, hbs, hin⟩ : ∃ b o, A = some ⟨b, o, none⟩ /\ b < wr.heap.size /\ In wr b o m := by
     rcases HA.out with h | h
     . subst h; simp at hlt
     . exact h
    have c0 := hin.getInt n hlt
    have hi0 : (0 : Int) <= (n : Int) := by omega
    have hi1 : (n : Int) < (m.length : Int) := by omega
    by_cases h1 : m[n] < y
    . have hF : Hid (Qcz m m.length = false) := Qd3 hlt (by
       rw [Qcm hlt]
       have hy' := hy.out
       by_cases hz : n = 0
       . rw [if_pos hz] at hy'
         have : inB m[n] 0 3 = false := by simp [inB]; omega
         rw [this]; simp
       . rw [if_neg hz] at hy'
         have : decide (m.getD (n - 1) 0 < m[n]) = false := decide_eq_false (by omega)
         rw [this]; simp [hz])
      go_wp2_with fail
      go_ret
      exact ⟨by rw [hF.out]; rfl, rfl⟩
    . have h1' : decide (m[n] < y) = false := decide_eq_false h1
      cases hx : inB m[n] 0 3
      . have hF : Hid (Qcz m m.length = false) := Qd3 hlt (by rw [Qcm hlt, hx]; simp)
        go_wp2_with (go_at_call 96; refine (Qc1 _ _).mono ?_; rw [hx]; rintro e w1 ⟨rfl, rfl⟩)
        go_ret
        exact ⟨by rw [hF.out]; rfl, rfl⟩
      . obtain ⟨hx0, hx1⟩ : 0 <= m[n] /\ m[n] <= 3 := by simpa [inB] using hx
        have hF : Hid (Qcz m (n + 1) = true) := by
         show _ = _
         rw [Qdr, hR.out, Qcm hlt, hx]
         have hy' := hy.out
         by_cases hz : n = 0
         . simp [hz]
         . rw [if_neg hz] at hy'
           have : decide (m.getD (n - 1) 0 < m[n]) = true := decide_eq_true (by omega)
           rw [this]; simp
        have hO : Hid (m[n] + 1 = if n + 1 = 0 then 0 else m.getD (n + 1 - 1) 0 + 1) := by show _ = _; simp [hlt]
        go_wp2_with (go_at_call 96; refine (Qc1 _ _).mono ?_; rw [hx]; rintro e w1 ⟨rfl, rfl⟩)
        exact ⟨⟨n + 1, m[n] + 1, by go_num, rfl, by omega, by omega, by omega, by first | rfl | trivial, hO, hF⟩, by simp [intOf]; omega⟩
  . obtain rfl : n = m.length := by omega
    go_wp2
    go_ret
    exact ⟨by rw [hR.out]; rfl, rfl⟩
theorem Qh6 (gen rows : Int) (A B C : Option Addr) (ca cb cc : Nat) (m b o : List Int) (hl : m.length <= 1048576 /\ b.length <= 1048576 /\ o.length <= 1048576) (w : World) (hA : At w A m) (hB : At w B b) (hC : At w C o) :
 Calls Tryz.prog 169 #[.agg (Qa3 gen A m.length ca B b.length cb C o.length cc), .int .i64 rows] w fun e w' => e = .returned (.bool (gokB gen rows m b o)) /\ Below w.heap.size w w' := by
 have HA := hidP hA
 have HB := hidP hB
 have HC := hidP hC
 have h1 := hidP (fun W hW => Qdu B cb b hl.2.1 W hW)
 have h2 := hidP (fun W hW => Qdu C cc o hl.2.2 W hW)
 have h3 := hidP (fun W hW => Qh4 A ca m hl.1 W hW)
 clear hA hB hC
 have Hok : Hid (∀ a1 a2 a3 a4 a5 a6 : Bool, a1 = inB gen 0 100000 -> a2 = Qcz m m.length -> a3 = decide ((b.length : Int) = (m.length : Int)) -> a4 = Qbm b b.length -> a5 = decide ((o.length : Int) = rows) -> a6 = Qbm o o.length -> gokB gen rows m b o = (a1 && a2 && a3 && a4 && a5 && a6)) := by
  intro a1 a2 a3 a4 a5 a6 e1 e2 e3 e4 e5 e6
  subst e1 e2 e3 e4 e5 e6
  rfl
 generalize gokB gen rows m b o = ans at *
 generalize Qcz m m.length = mt at *
 generalize Qbm b b.length = nb at *
 generalize Qbm o o.length = no at *
 go_enter Tryz.func169, Tryz.ntmps169
 go_wp2_with (first
  | (go_at_call 89; refine (within_any _ _ _ _).mono ?_; rintro e w' ⟨rfl, rfl⟩)
  | (go_at_call 186; refine (h3.out _ (HA.out.below (by repeat (first | exact Below.refl _ _ | assumption | refine via0 (by assumption) ?_ | refine Below.drew ?_ | refine Qab ?_ _)))).mono ?_; rintro e w' ⟨rfl, rfl⟩)
  | (go_at_call_of 170 (Value.slice B b.length cb); refine (h1.out _ (HB.out.below (by repeat (first | exact Below.refl _ _ | assumption | refine via0 (by assumption) ?_ | refine Below.drew ?_ | refine Qab ?_ _)))).mono ?_; rintro e w' ⟨rfl, rfl⟩)
  | (go_at_call_of 170 (Value.slice C o.length cc); refine (h2.out _ (HC.out.below (by repeat (first | exact Below.refl _ _ | assumption | refine via0 (by assumption) ?_ | refine Below.drew ?_ | refine Qab ?_ _)))).mono ?_; rintro e w' ⟨rfl, rfl⟩))
 all_goals
  go_ret
  refine ⟨?_, by repeat (first | exact Below.refl _ _ | assumption | refine via0 (by assumption) ?_ | refine Below.drew ?_ | refine Qab ?_ _)⟩
  rw [Hok.out _ _ _ _ _ _ rfl rfl rfl rfl rfl rfl]
  clear Hok h1 h2 h3 HA HB HC
  refine congrArg (fun b : Bool => Ending.returned (Value.bool b)) (?_ : _ = _)
  simp_all
end Go.Proofs.YtkmkldjipihceaaGreat.Gen
