/-
  impl.lastMarks at this seat.
-/
import Derived.Test.YtpbbpjckkccjaaaPutParts
namespace Go.Proofs.Ytpbbpjckkccjaaa.Gen
open Go.ChangeShapes Go.WideShapes Go.ChangeAt Go.RowKit Go.Joins Go.Deep Base
set_option linter.unusedVariables false

theorem slice_same {A A' : Option Addr} {n n' c c' : Nat} (h1 : A = A') (h2 : n = n') (h3 : c = c') : Ending.returned (Value.slice A n c) = .returned (.slice A' n' c') := by subst h1 h2 h3; rfl

set_option maxRecDepth 100000 in
set_option maxHeartbeats 1000000 in
theorem lastMarks_any (b o n c : Nat) (window : Int) (h1n : 1 ≤ n) (hn : n ≤ c) (hn' : n ≤ 3000000) (hc' : c ≤ 9223372036854775807) (hw : window ≤ 9223372036854775807) (w : World) :
    Calls Try.prog 34 #[.slice (some ⟨b, o, none⟩) n c, .int .i64 window] w fun e w' => e = .returned (.slice (if c = n - window.toNat then some ⟨b, o, none⟩ else some ⟨b, o + (n - window.toNat) * 2, none⟩) (n - (n - window.toNat)) (c - (n - window.toNat))) ∧ w' = w := by
  generalize hA : (if c = n - window.toNat then some (⟨b, o, none⟩ : Addr) else some ⟨b, o + (n - window.toNat) * 2, none⟩) = A
  generalize hN : n - (n - window.toNat) = N
  generalize hC : c - (n - window.toNat) = C
  have HA := hidP hA
  have HN := hidP hN
  have HC := hidP hC
  clear hA hN hC
  by_cases h0 : window ≤ 0
  · have e : n - window.toNat = n := by omega
    have hA := HA.out
    have hN := HN.out
    have hC := HC.out
    rw [e] at hA hN hC
    have HA2 := hidP hA
    have HN2 := hidP hN
    have HC2 := hidP hC
    clear hA hN hC
    by_cases hc : c = n
    · subst hc
      go_enter Try.func34, Try.ntmps34
      go_wp2
      all_goals first
        | (exfalso; omega)
        | (go_ret
           have hA : some (⟨b, o, none⟩ : Addr) = A := by have := HA2.out; simpa using this
           have hN := HN2.out
           have hC := HC2.out
           exact ⟨slice_same hA (by omega) (by omega), rfl⟩)
    · go_enter Try.func34, Try.ntmps34
      go_wp2
      all_goals first
        | (exfalso; omega)
        | (go_ret
           have hA := HA2.out
           have hN := HN2.out
           have hC := HC2.out
           rw [if_neg hc] at hA
           exact ⟨slice_same hA (by omega) (by omega), rfl⟩)
  · by_cases h1 : (n : Int) ≤ window
    · have e : n - window.toNat = 0 := by omega
      have hA := HA.out
      have hN := HN.out
      have hC := HC.out
      rw [e, if_neg (by omega), Nat.zero_mul, Nat.add_zero] at hA
      rw [e] at hN hC
      have HA2 := hidP hA
      have HN2 := hidP hN
      have HC2 := hidP hC
      clear hA hN hC
      go_enter Try.func34, Try.ntmps34
      go_wp2
      all_goals first
        | (exfalso; omega)
        | (go_ret; exact ⟨slice_same HA2.out HN2.out HC2.out, rfl⟩)
    · have hcj : ¬ c = ((n : Int) - window).toNat := by omega
      go_enter Try.func34, Try.ntmps34
      go_wp2
      all_goals first
        | (exfalso; omega)
        | (go_ret
           have e : ((n : Int) - window).toNat = n - window.toNat := by omega
           have hA := HA.out
           have hN := HN.out
           have hC := HC.out
           rw [← e] at hA hN hC
           rw [if_neg hcj] at hA
           exact ⟨slice_same hA hN hC, rfl⟩)
end Go.Proofs.Ytpbbpjckkccjaaa.Gen
