/-
  Parts of CmdText at this seat: numbers as texts, the names of Ops. No condition but that the library's table is laid.
-/
import Derived.Test.YtpdbgppbmjpdmaaDoorRows
import Derived.Test.YtpdbgppbmjpdmaaDoorBase
import Derived.Test.YtpdbgppbmjpdmaaDoorDigitsSpec
import Derived.Test.YtpdbgppbmjpdmaaDoorItoa
import Derived.Lib.ItoaLen
namespace Go.Proofs.YtpdbgppbmjpdmaaDoor.CmdText
open Go.ChangeShapes Go.WideShapes Go.ChangeAt Go.RowKit Base
set_option linter.unusedVariables false

def inB (x lo hi : Int) : Bool := decide (lo ≤ x ∧ x ≤ hi)

theorem in_any (x lo hi : Int) (w : World) :
    Calls Tryd.prog 12 #[.int .i64 x, .int .i64 lo, .int .i64 hi] w fun e w' => e = .returned (.bool (inB x lo hi)) ∧ w' = w := by
  by_cases h1 : lo ≤ x <;> by_cases h2 : x ≤ hi <;>
  · go_enter Tryd.func12, Tryd.ntmps12
    go_wp2
    go_ret
    exact ⟨by simp [inB, h1, h2], rfl⟩

theorem within_any (x lo hi : Int) (w : World) :
    Calls Tryd.prog 25 #[.int .i64 x, .int .i64 lo, .int .i64 hi] w fun e w' => e = .returned (.bool (inB x lo hi)) ∧ w' = w := by
  by_cases h1 : lo ≤ x <;> by_cases h2 : x ≤ hi <;>
  · go_enter Tryd.func25, Tryd.ntmps25
    go_wp2
    go_ret
    exact ⟨by simp [inB, h1, h2], rfl⟩

theorem names_any (w : World) :
    Calls Tryd.prog 14 #[] w fun e w' => e = .returned (.agg #[.string ⟨#[110, 111, 110, 101]⟩, .string ⟨#[112, 117, 116]⟩, .string ⟨#[103, 101, 116]⟩, .string ⟨#[101, 112, 111, 99, 104]⟩, .string ⟨#[106, 111, 105, 110]⟩, .string ⟨#[108, 101, 97, 118, 101]⟩, .string ⟨#[109, 97, 114, 107]⟩, .string ⟨#[114, 101, 97, 100]⟩, .string ⟨#[116, 105, 99, 107]⟩, .string ⟨#[116, 114, 105, 109]⟩, .string ⟨#[112, 97, 99, 107]⟩]) ∧ Below w.heap.size w w' := by
  go_enter Tryd.func14, Tryd.ntmps14
  go_wp2
  exact bodyPost_ret (v := .agg #[.string ⟨#[110, 111, 110, 101]⟩, .string ⟨#[112, 117, 116]⟩, .string ⟨#[103, 101, 116]⟩, .string ⟨#[101, 112, 111, 99, 104]⟩, .string ⟨#[106, 111, 105, 110]⟩, .string ⟨#[108, 101, 97, 118, 101]⟩, .string ⟨#[109, 97, 114, 107]⟩, .string ⟨#[114, 101, 97, 100]⟩, .string ⟨#[116, 105, 99, 107]⟩, .string ⟨#[116, 114, 105, 109]⟩, .string ⟨#[112, 97, 99, 107]⟩]) (by simp [results, Tryd.results14, go_sem]) rfl
    ⟨rfl, by repeat (first | exact Below.refl _ _ | refine Below.drew ?_ | refine Below.alloc ?_ (by simp <;> omega) _)⟩

theorem reach_any (op : Int) (w : World) :
    Calls Tryd.prog 21 #[.agg #[.string ⟨#[110, 111, 110, 101]⟩, .string ⟨#[112, 117, 116]⟩, .string ⟨#[103, 101, 116]⟩, .string ⟨#[101, 112, 111, 99, 104]⟩, .string ⟨#[106, 111, 105, 110]⟩, .string ⟨#[108, 101, 97, 118, 101]⟩, .string ⟨#[109, 97, 114, 107]⟩, .string ⟨#[114, 101, 97, 100]⟩, .string ⟨#[116, 105, 99, 107]⟩, .string ⟨#[116, 114, 105, 109]⟩, .string ⟨#[112, 97, 99, 107]⟩], .int .i64 op] w fun e w' => e = .returned (.bool (inB op 0 10)) ∧ w' = w.alloc (.cells #[.string ⟨#[110, 111, 110, 101]⟩, .string ⟨#[112, 117, 116]⟩, .string ⟨#[103, 101, 116]⟩, .string ⟨#[101, 112, 111, 99, 104]⟩, .string ⟨#[106, 111, 105, 110]⟩, .string ⟨#[108, 101, 97, 118, 101]⟩, .string ⟨#[109, 97, 114, 107]⟩, .string ⟨#[114, 101, 97, 100]⟩, .string ⟨#[116, 105, 99, 107]⟩, .string ⟨#[116, 114, 105, 109]⟩, .string ⟨#[112, 97, 99, 107]⟩] 38) := by
  go_enter Tryd.func21, Tryd.ntmps21
  go_wp2_with (go_at_call 25; refine (within_any _ _ _ _).mono ?_; rintro e w' ⟨rfl, rfl⟩)
  go_ret
  exact ⟨rfl, rfl⟩


theorem op_ways (op : Int) : inB op 0 10 = false ∨ op = 0 ∨ op = 1 ∨ op = 2 ∨ op = 3 ∨ op = 4 ∨ op = 5 ∨ op = 6 ∨ op = 7 ∨ op = 8 ∨ op = 9 ∨ op = 10 := by
  simp only [inB, decide_eq_false_iff_not]
  omega

/-- A number as a text. -/
def dg (n : Int) : ByteArray := ⟨(Lib.itoa n).toArray⟩
theorem dg_size (n : Int) (h : -9223372036854775808 ≤ n ∧ n ≤ 9223372036854775807) : (dg n).size ≤ 21 := by
  have := Lib.itoa_length_le n h.1 h.2
  simpa [dg, ByteArray.size] using this
theorem specD (n : Int) (h : -9223372036854775808 ≤ n ∧ n ≤ 9223372036854775807) (w : World) :
    Calls Tryd.prog 5 #[.int .i64 n] w fun e w' => e = .returned (.string (dg n)) ∧ Below w.heap.size w w' := Digits.spec_any n h.1 h.2 w
theorem implD (n : Int) (h : -9223372036854775808 ≤ n ∧ n ≤ 9223372036854775807) (w : World) (ht : Digits.Tab w) :
    Calls Tryd.prog 6 #[.int .i64 n] w fun e w' => e = .returned (.string (dg n)) ∧ Below w.heap.size w w' := Digits.impl_any n h.1 h.2 w ht

/-- The name of an Op. -/
def nm : Nat → ByteArray
  | 1 => ⟨#[112, 117, 116]⟩
  | 2 => ⟨#[103, 101, 116]⟩
  | 3 => ⟨#[101, 112, 111, 99, 104]⟩
  | 4 => ⟨#[106, 111, 105, 110]⟩
  | 5 => ⟨#[108, 101, 97, 118, 101]⟩
  | 6 => ⟨#[109, 97, 114, 107]⟩
  | 7 => ⟨#[114, 101, 97, 100]⟩
  | 8 => ⟨#[116, 105, 99, 107]⟩
  | 9 => ⟨#[116, 114, 105, 109]⟩
  | 10 => ⟨#[112, 97, 99, 107]⟩
  | _ => ⟨#[110, 111, 110, 101]⟩
theorem nm_size (j : Nat) : (nm j).size ≤ 5 := by
  unfold nm; split <;> decide
def nmI (op : Int) : ByteArray := if inB op 0 10 then nm op.toNat else nm 0
theorem nmI_size (op : Int) : (nmI op).size ≤ 5 := by
  unfold nmI; split <;> exact nm_size _

theorem of_any (op : Int) (w : World) :
    Calls Tryd.prog 15 #[.agg #[.string ⟨#[110, 111, 110, 101]⟩, .string ⟨#[112, 117, 116]⟩, .string ⟨#[103, 101, 116]⟩, .string ⟨#[101, 112, 111, 99, 104]⟩, .string ⟨#[106, 111, 105, 110]⟩, .string ⟨#[108, 101, 97, 118, 101]⟩, .string ⟨#[109, 97, 114, 107]⟩, .string ⟨#[114, 101, 97, 100]⟩, .string ⟨#[116, 105, 99, 107]⟩, .string ⟨#[116, 114, 105, 109]⟩, .string ⟨#[112, 97, 99, 107]⟩], .int .i64 op] w fun e w' => e = .returned (.string (nmI op)) ∧ Below w.heap.size w w' := by
  rcases op_ways op with h | rfl | rfl | rfl | rfl | rfl | rfl | rfl | rfl | rfl | rfl | rfl
  · have e1 : nmI op = ⟨#[110, 111, 110, 101]⟩ := by unfold nmI; rw [h]; rfl
    rw [e1]
    go_enter Tryd.func15, Tryd.ntmps15
    go_wp2_with (go_at_call 21; refine (reach_any _ _).mono ?_; rintro e w1 ⟨rfl, rfl⟩)
    go_ret
    exact ⟨rfl, by repeat (first | exact Below.refl _ _ | (refine via (by assumption) (by first | omega | (simp; done) | (simp; omega)) ?_) | refine Below.drew ?_ | refine Below.setCell ?_ (by first | omega | (simp; done) | (simp; omega)) _ | refine Below.alloc ?_ (by first | omega | (simp; done) | (simp; omega)) _)⟩
  · have h : inB 0 0 10 = true := by decide
    have e1 : nmI 0 = ⟨#[110, 111, 110, 101]⟩ := rfl
    rw [e1]
    go_enter Tryd.func15, Tryd.ntmps15
    go_wp2_with (go_at_call 21; refine (reach_any _ _).mono ?_; rintro e w1 ⟨rfl, rfl⟩)
    go_ret
    exact ⟨rfl, by repeat (first | exact Below.refl _ _ | (refine via (by assumption) (by first | omega | (simp; done) | (simp; omega)) ?_) | refine Below.drew ?_ | refine Below.setCell ?_ (by first | omega | (simp; done) | (simp; omega)) _ | refine Below.alloc ?_ (by first | omega | (simp; done) | (simp; omega)) _)⟩
  · have h : inB 1 0 10 = true := by decide
    have e1 : nmI 1 = ⟨#[112, 117, 116]⟩ := rfl
    rw [e1]
    go_enter Tryd.func15, Tryd.ntmps15
    go_wp2_with (go_at_call 21; refine (reach_any _ _).mono ?_; rintro e w1 ⟨rfl, rfl⟩)
    go_ret
    exact ⟨rfl, by repeat (first | exact Below.refl _ _ | (refine via (by assumption) (by first | omega | (simp; done) | (simp; omega)) ?_) | refine Below.drew ?_ | refine Below.setCell ?_ (by first | omega | (simp; done) | (simp; omega)) _ | refine Below.alloc ?_ (by first | omega | (simp; done) | (simp; omega)) _)⟩
  · have h : inB 2 0 10 = true := by decide
    have e1 : nmI 2 = ⟨#[103, 101, 116]⟩ := rfl
    rw [e1]
    go_enter Tryd.func15, Tryd.ntmps15
    go_wp2_with (go_at_call 21; refine (reach_any _ _).mono ?_; rintro e w1 ⟨rfl, rfl⟩)
    go_ret
    exact ⟨rfl, by repeat (first | exact Below.refl _ _ | (refine via (by assumption) (by first | omega | (simp; done) | (simp; omega)) ?_) | refine Below.drew ?_ | refine Below.setCell ?_ (by first | omega | (simp; done) | (simp; omega)) _ | refine Below.alloc ?_ (by first | omega | (simp; done) | (simp; omega)) _)⟩
  · have h : inB 3 0 10 = true := by decide
    have e1 : nmI 3 = ⟨#[101, 112, 111, 99, 104]⟩ := rfl
    rw [e1]
    go_enter Tryd.func15, Tryd.ntmps15
    go_wp2_with (go_at_call 21; refine (reach_any _ _).mono ?_; rintro e w1 ⟨rfl, rfl⟩)
    go_ret
    exact ⟨rfl, by repeat (first | exact Below.refl _ _ | (refine via (by assumption) (by first | omega | (simp; done) | (simp; omega)) ?_) | refine Below.drew ?_ | refine Below.setCell ?_ (by first | omega | (simp; done) | (simp; omega)) _ | refine Below.alloc ?_ (by first | omega | (simp; done) | (simp; omega)) _)⟩
  · have h : inB 4 0 10 = true := by decide
    have e1 : nmI 4 = ⟨#[106, 111, 105, 110]⟩ := rfl
    rw [e1]
    go_enter Tryd.func15, Tryd.ntmps15
    go_wp2_with (go_at_call 21; refine (reach_any _ _).mono ?_; rintro e w1 ⟨rfl, rfl⟩)
    go_ret
    exact ⟨rfl, by repeat (first | exact Below.refl _ _ | (refine via (by assumption) (by first | omega | (simp; done) | (simp; omega)) ?_) | refine Below.drew ?_ | refine Below.setCell ?_ (by first | omega | (simp; done) | (simp; omega)) _ | refine Below.alloc ?_ (by first | omega | (simp; done) | (simp; omega)) _)⟩
  · have h : inB 5 0 10 = true := by decide
    have e1 : nmI 5 = ⟨#[108, 101, 97, 118, 101]⟩ := rfl
    rw [e1]
    go_enter Tryd.func15, Tryd.ntmps15
    go_wp2_with (go_at_call 21; refine (reach_any _ _).mono ?_; rintro e w1 ⟨rfl, rfl⟩)
    go_ret
    exact ⟨rfl, by repeat (first | exact Below.refl _ _ | (refine via (by assumption) (by first | omega | (simp; done) | (simp; omega)) ?_) | refine Below.drew ?_ | refine Below.setCell ?_ (by first | omega | (simp; done) | (simp; omega)) _ | refine Below.alloc ?_ (by first | omega | (simp; done) | (simp; omega)) _)⟩
  · have h : inB 6 0 10 = true := by decide
    have e1 : nmI 6 = ⟨#[109, 97, 114, 107]⟩ := rfl
    rw [e1]
    go_enter Tryd.func15, Tryd.ntmps15
    go_wp2_with (go_at_call 21; refine (reach_any _ _).mono ?_; rintro e w1 ⟨rfl, rfl⟩)
    go_ret
    exact ⟨rfl, by repeat (first | exact Below.refl _ _ | (refine via (by assumption) (by first | omega | (simp; done) | (simp; omega)) ?_) | refine Below.drew ?_ | refine Below.setCell ?_ (by first | omega | (simp; done) | (simp; omega)) _ | refine Below.alloc ?_ (by first | omega | (simp; done) | (simp; omega)) _)⟩
  · have h : inB 7 0 10 = true := by decide
    have e1 : nmI 7 = ⟨#[114, 101, 97, 100]⟩ := rfl
    rw [e1]
    go_enter Tryd.func15, Tryd.ntmps15
    go_wp2_with (go_at_call 21; refine (reach_any _ _).mono ?_; rintro e w1 ⟨rfl, rfl⟩)
    go_ret
    exact ⟨rfl, by repeat (first | exact Below.refl _ _ | (refine via (by assumption) (by first | omega | (simp; done) | (simp; omega)) ?_) | refine Below.drew ?_ | refine Below.setCell ?_ (by first | omega | (simp; done) | (simp; omega)) _ | refine Below.alloc ?_ (by first | omega | (simp; done) | (simp; omega)) _)⟩
  · have h : inB 8 0 10 = true := by decide
    have e1 : nmI 8 = ⟨#[116, 105, 99, 107]⟩ := rfl
    rw [e1]
    go_enter Tryd.func15, Tryd.ntmps15
    go_wp2_with (go_at_call 21; refine (reach_any _ _).mono ?_; rintro e w1 ⟨rfl, rfl⟩)
    go_ret
    exact ⟨rfl, by repeat (first | exact Below.refl _ _ | (refine via (by assumption) (by first | omega | (simp; done) | (simp; omega)) ?_) | refine Below.drew ?_ | refine Below.setCell ?_ (by first | omega | (simp; done) | (simp; omega)) _ | refine Below.alloc ?_ (by first | omega | (simp; done) | (simp; omega)) _)⟩
  · have h : inB 9 0 10 = true := by decide
    have e1 : nmI 9 = ⟨#[116, 114, 105, 109]⟩ := rfl
    rw [e1]
    go_enter Tryd.func15, Tryd.ntmps15
    go_wp2_with (go_at_call 21; refine (reach_any _ _).mono ?_; rintro e w1 ⟨rfl, rfl⟩)
    go_ret
    exact ⟨rfl, by repeat (first | exact Below.refl _ _ | (refine via (by assumption) (by first | omega | (simp; done) | (simp; omega)) ?_) | refine Below.drew ?_ | refine Below.setCell ?_ (by first | omega | (simp; done) | (simp; omega)) _ | refine Below.alloc ?_ (by first | omega | (simp; done) | (simp; omega)) _)⟩
  · have h : inB 10 0 10 = true := by decide
    have e1 : nmI 10 = ⟨#[112, 97, 99, 107]⟩ := rfl
    rw [e1]
    go_enter Tryd.func15, Tryd.ntmps15
    go_wp2_with (go_at_call 21; refine (reach_any _ _).mono ?_; rintro e w1 ⟨rfl, rfl⟩)
    go_ret
    exact ⟨rfl, by repeat (first | exact Below.refl _ _ | (refine via (by assumption) (by first | omega | (simp; done) | (simp; omega)) ?_) | refine Below.drew ?_ | refine Below.setCell ?_ (by first | omega | (simp; done) | (simp; omega)) _ | refine Below.alloc ?_ (by first | omega | (simp; done) | (simp; omega)) _)⟩

theorem brackets_any (s : ByteArray) (hs : s.size ≤ 1048576) (w : World) :
    Calls Tryd.prog 16 #[.string s] w fun e w' => e = .returned (.string (⟨#[60]⟩ ++ s ++ ⟨#[62]⟩)) ∧ Below w.heap.size w w' := by
  go_enter Tryd.func16, Tryd.ntmps16
  go_wp2
  go_ret
  exact ⟨rfl, Below.refl _ _⟩
end Go.Proofs.YtpdbgppbmjpdmaaDoor.CmdText
