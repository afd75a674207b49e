/-
  Commands at this seat: what the laws' toCmd and szCmd answer. No condition but the length that every text has.
-/
import Derived.Test.YteccgpakhbogpaaRows
import Derived.Test.YteccgpakhbogpaaBase
import Derived.Test.YteccgpakhbogpaaOpen
namespace Go.Proofs.Yteccgpakhbogpaa.Cmd
open Go.ChangeShapes Go.WideShapes Go.ChangeAt Go.RowKit Base
set_option linter.unusedVariables false

theorem to_any (who seq op a b c : Int) (k t : ByteArray) (w : World) :
    Calls Try.prog 31 #[.agg #[.int .i64 who, .int .i64 seq, .int .i64 op, .int .i64 a, .int .i64 b, .int .i64 c, .string k, .string t]] w fun e w' => e = .returned (.agg #[.int .i64 who, .int .i64 seq, .int .i64 op, .int .i64 a, .int .i64 b, .int .i64 c, .string k, .string t]) ∧ Below w.heap.size w w' := by
  go_enter Try.func31, Try.ntmps31
  go_wp2
  exact bodyPost_ret (v := .agg #[.int .i64 who, .int .i64 seq, .int .i64 op, .int .i64 a, .int .i64 b, .int .i64 c, .string k, .string t]) (by simp [results, Try.results31, go_sem]) rfl
    ⟨rfl, by repeat (first | exact Below.refl _ _ | refine Below.drew ?_ | refine Below.alloc ?_ (by simp <;> omega) _)⟩

def szR (k t : Nat) : Int := if 1048576 < k then -1 else if 1048576 < k + t then -1 else 1048576 - k - t

theorem sz_any (who seq op a b c : Int) (k t : ByteArray) (hk : k.size ≤ 9223372036854775807) (ht : t.size ≤ 9223372036854775807) (w : World) :
    Calls Try.prog 27 #[.agg #[.int .i64 who, .int .i64 seq, .int .i64 op, .int .i64 a, .int .i64 b, .int .i64 c, .string k, .string t], .int .i64 1048576] w fun e w' => e = .returned (.int .i64 (szR k.size t.size)) ∧ Below w.heap.size w w' := by
  by_cases h1 : 1048576 < k.size
  · have g1 : (1048576 : Int) - (k.size : Int) < 0 := by omega
    have e1 : szR k.size t.size = -1 := by simp [szR, h1]
    rw [e1]
    go_enter Try.func27, Try.ntmps27
    go_wp2
    go_ret
    exact ⟨rfl, by repeat (first | exact Below.refl _ _ | refine Below.drew ?_ | refine Below.alloc ?_ (by simp <;> omega) _)⟩
  · have g1 : ¬ (1048576 : Int) - (k.size : Int) < 0 := by omega
    by_cases h2 : 1048576 < k.size + t.size
    · have g2 : (1048576 : Int) - (k.size : Int) - (t.size : Int) < 0 := by omega
      have e1 : szR k.size t.size = -1 := by simp [szR, h1, h2]
      rw [e1]
      go_enter Try.func27, Try.ntmps27
      go_wp2
      go_ret
      exact ⟨rfl, by repeat (first | exact Below.refl _ _ | refine Below.drew ?_ | refine Below.alloc ?_ (by simp <;> omega) _)⟩
    · have g2 : ¬ (1048576 : Int) - (k.size : Int) - (t.size : Int) < 0 := by omega
      have e1 : szR k.size t.size = 1048576 - k.size - t.size := by simp [szR, h1, h2]
      rw [e1]
      go_enter Try.func27, Try.ntmps27
      go_wp2
      go_ret
      exact ⟨rfl, by repeat (first | exact Below.refl _ _ | refine Below.drew ?_ | refine Below.alloc ?_ (by simp <;> omega) _)⟩

theorem cellsC : Try.prog.cellsOf 41 = 8 := by kernel_rfl

set_option maxRecDepth 100000 in
/-- A command by value, opened: six numbers and two texts. -/
theorem open_cmd {H : Type} {enc : TypeId × Value → H} {W : World} {base b0 : Nat} {r : Reach} {spare : Nat → Bool} {held : Bool} {v : Value} {d : DataW H} {p : List MemPlace}
    (hv : Value.okWide Try.prog W r b0 41 v) (h : DataW.Trod enc Try.prog W base spare held 41 v d p) :
    ∃ (who seq op a b c : Int) (k t : ByteArray), v = .agg #[.int .i64 who, .int .i64 seq, .int .i64 op, .int .i64 a, .int .i64 b, .int .i64 c, .string k, .string t] ∧ k.size ≤ 9223372036854775807 ∧ t.size ≤ 9223372036854775807 ∧
      (∀ x, x = who ∨ x = seq ∨ x = op ∨ x = a ∨ x = b ∨ x = c → -9223372036854775808 ≤ x ∧ x ≤ 9223372036854775807) := by
  obtain ⟨cs, rfl, hsz⟩ := okWide_struct Try.underlying41 hv
  obtain ⟨c0, c1, c2, c3, c4, c5, c6, c7, rfl⟩ := array8 (hsz.trans cellsC)
  obtain ⟨n, hf⟩ := fields_of Try.underlying41 (by kernel_rfl) h
  obtain ⟨y0, g0⟩ := hf 0 _ rfl _ rfl
  obtain ⟨y1, g1⟩ := hf 1 _ rfl _ rfl
  obtain ⟨y2, g2⟩ := hf 2 _ rfl _ rfl
  obtain ⟨y3, g3⟩ := hf 3 _ rfl _ rfl
  obtain ⟨y4, g4⟩ := hf 4 _ rfl _ rfl
  obtain ⟨y5, g5⟩ := hf 5 _ rfl _ rfl
  obtain ⟨y6, g6⟩ := hf 6 _ rfl _ rfl
  obtain ⟨y7, g7⟩ := hf 7 _ rfl _ rfl
  obtain ⟨who, e0, _, w0⟩ := DataW.trod_int Try.underlying3 g0
  obtain ⟨seq, e1, _, w1⟩ := DataW.trod_int Try.underlying3 g1
  obtain ⟨op, e2, _, w2⟩ := DataW.trod_int Try.underlying3 g2
  obtain ⟨a, e3, _, w3⟩ := DataW.trod_int Try.underlying3 g3
  obtain ⟨b, e4, _, w4⟩ := DataW.trod_int Try.underlying3 g4
  obtain ⟨c, e5, _, w5⟩ := DataW.trod_int Try.underlying3 g5
  obtain ⟨k, e6, _, w6⟩ := DataW.trod_string Try.underlying9 g6
  obtain ⟨t, e7, _, w7⟩ := DataW.trod_string Try.underlying9 g7
  simp at e0 e1 e2 e3 e4 e5 e6 e7
  subst e0 e1 e2 e3 e4 e5 e6 e7
  refine ⟨who, seq, op, a, b, c, k, t, rfl, by simpa [maxLen] using w6, by simpa [maxLen] using w7, ?_⟩
  have hw : ∀ x : Int, (Lit.int .i64 x).wf = true → -9223372036854775808 ≤ x ∧ x ≤ 9223372036854775807 := fun x hx => by simpa [Lit.wf, IntKind.min, IntKind.max, IntKind.signed, IntKind.bits] using hx
  rintro x (rfl | rfl | rfl | rfl | rfl | rfl)
  · exact hw _ w0
  · exact hw _ w1
  · exact hw _ w2
  · exact hw _ w3
  · exact hw _ w4
  · exact hw _ w5
end Go.Proofs.Yteccgpakhbogpaa.Cmd
