/-
  Parts of CmdOk at this seat: numbers within limits, plain texts, names of Ops. No condition but the length that every text has.
-/
import Derived.Test.YteccgpakhbogpaaRows
import Derived.Test.YteccgpakhbogpaaBase
import Derived.Lib.SmallJoins
namespace Go.Proofs.Yteccgpakhbogpaa.CmdOk
open Go.ChangeShapes Go.WideShapes Go.ChangeAt Go.RowKit Go.Joins Base
set_option linter.unusedVariables false

def inB (x lo hi : Int) : Bool := decide (lo ≤ x ∧ x ≤ hi)

theorem in_any (x lo hi : Int) (w : World) :
    Calls Try.prog 28 #[.int .i64 x, .int .i64 lo, .int .i64 hi] w fun e w' => e = .returned (.bool (inB x lo hi)) ∧ w' = w := by
  by_cases h1 : lo ≤ x <;> by_cases h2 : x ≤ hi <;>
  · go_enter Try.func28, Try.ntmps28
    go_wp2
    go_ret
    exact ⟨by simp [inB, h1, h2], rfl⟩

theorem within_any (x lo hi : Int) (w : World) :
    Calls Try.prog 43 #[.int .i64 x, .int .i64 lo, .int .i64 hi] w fun e w' => e = .returned (.bool (inB x lo hi)) ∧ w' = w := by
  by_cases h1 : lo ≤ x <;> by_cases h2 : x ≤ hi <;>
  · go_enter Try.func43, Try.ntmps43
    go_wp2
    go_ret
    exact ⟨by simp [inB, h1, h2], rfl⟩

def plainN (x : Nat) : Bool := decide ((97 ≤ x ∧ x ≤ 122) ∨ (48 ≤ x ∧ x ≤ 57) ∨ x = 32)

theorem plain_ways (x : Nat) :
    ((97 : Int) ≤ x ∧ (x : Int) ≤ 122 ∧ plainN x = true) ∨ ((97 : Int) ≤ x ∧ ¬ (x : Int) ≤ 122 ∧ (48 : Int) ≤ x ∧ ¬ (x : Int) ≤ 57 ∧ ((x : Int) == 32) = false ∧ plainN x = false) ∨
    (¬ (97 : Int) ≤ x ∧ (48 : Int) ≤ x ∧ (x : Int) ≤ 57 ∧ plainN x = true) ∨ (¬ (97 : Int) ≤ x ∧ (48 : Int) ≤ x ∧ ¬ (x : Int) ≤ 57 ∧ ((x : Int) == 32) = false ∧ plainN x = false) ∨
    (¬ (97 : Int) ≤ x ∧ ¬ (48 : Int) ≤ x ∧ ((x : Int) == 32) = true ∧ plainN x = true) ∨ (¬ (97 : Int) ≤ x ∧ ¬ (48 : Int) ≤ x ∧ ((x : Int) == 32) = false ∧ plainN x = false) := by
  simp only [beq_eq_false_iff_ne, beq_iff_eq, ne_eq, plainN, decide_eq_true_eq, decide_eq_false_iff_not]
  omega

theorem plain_any (x : Nat) (w : World) :
    Calls Try.prog 49 #[.int .u8 (x : Int)] w fun e w' => e = .returned (.bool (plainN x)) ∧ w' = w := by
  rcases plain_ways x with ⟨h1, h2, hp⟩ | ⟨h1, h2, h3, h4, h5, hp⟩ | ⟨h1, h2, h3, hp⟩ | ⟨h1, h2, h3, h4, hp⟩ | ⟨h1, h2, h3, hp⟩ | ⟨h1, h2, h3, hp⟩ <;>
  · rw [hp]
    go_enter Try.func49, Try.ntmps49
    go_wp2
    go_ret
    exact ⟨rfl, rfl⟩

/-- From byte i on all are plain. -/
def allFrom (s : ByteArray) (i : Nat) : Bool := (s.data.toList.drop i).all (fun x => plainN x.toNat)

def textB (s : ByteArray) : Bool := allFrom s 0 && decide (s.size ≤ 30)

theorem allFrom_end {s : ByteArray} {i : Nat} (h : s.size ≤ i) : allFrom s i = true := by
  have : s.data.toList.drop i = [] := List.drop_eq_nil_of_le (by simpa using h)
  simp [allFrom, this]
theorem allFrom_step {s : ByteArray} {i : Nat} (h : i < s.size) : allFrom s i = (plainN (s[i]'h).toNat && allFrom s (i + 1)) := by
  have h' : i < s.data.toList.length := by simpa using h
  unfold allFrom
  rw [List.drop_eq_getElem_cons h', List.all_cons]
  rfl

theorem implText_any (s : ByteArray) (hs : s.size ≤ 9223372036854775807) (w : World) :
    Calls Try.prog 45 #[.string s] w fun e w' => e = .returned (.bool (textB s)) ∧ Below w.heap.size w w' := by
  by_cases hl : (s.size : Int) > 30
  · have e1 : textB s = false := by simp [textB]; omega
    rw [e1]
    go_enter Try.func45, Try.ntmps45
    go_wp2
    go_ret
    exact ⟨rfl, Below.refl _ _⟩
  · have e1 : textB s = allFrom s 0 := by simp [textB]; omega
    rw [e1]
    go_enter Try.func45, Try.ntmps45
    go_wp2
    go_loopw [3] (fun i w' => ∃ n : Nat, i = .int .i64 (n : Int) ∧ n ≤ s.size ∧ allFrom s n = allFrom s 0 ∧ Below w.heap.size w w') (fun i _ => s.size - (intOf i).toNat)
    case atStart => exact ⟨0, rfl, by omega, rfl, Below.refl _ _⟩
    case round =>
      obtain ⟨n, rfl, hn, hE, hb⟩ := hrel
      by_cases hlt : n < s.size
      · have hst := allFrom_step hlt
        cases hp : plainN s[n].toNat
        · have hE' : allFrom s 0 = false := by rw [← hE, hst, hp]; rfl
          clear hE hst
          go_wp2_with (go_at_call 49; refine (plain_any _ _).mono ?_; rintro e w' ⟨rfl, rfl⟩)
          go_ret
          exact ⟨by first | rfl | (rw [hE']; rfl), hb⟩
        · have hE' : allFrom s (n + 1) = allFrom s 0 := by rw [← hE, hst, hp]; rfl
          clear hE hst
          go_wp2_with (go_at_call 49; refine (plain_any _ _).mono ?_; rintro e w' ⟨rfl, rfl⟩)
          exact ⟨⟨n + 1, by go_num, by omega, hE', hb⟩, by simp [intOf]; omega⟩
      · have hE' : allFrom s 0 = true := by rw [← hE, allFrom_end (by omega)]
        go_wp2
        go_ret
        exact ⟨by first | rfl | (rw [hE']; rfl), hb⟩

theorem specText_any (s : ByteArray) (hs : s.size ≤ 9223372036854775807) (w : World) :
    Calls Try.prog 42 #[.string s] w fun e w' => e = .returned (.bool (textB s)) ∧ Below w.heap.size w w' := by
  go_enter Try.func42, Try.ntmps42
  go_wp2
  go_loopw [3] (fun i w' => ∃ n : Nat, i = .int .i64 (n : Int) ∧ n ≤ s.size ∧ allFrom s n = allFrom s 0 ∧ Below w.heap.size w w') (fun i _ => s.size - (intOf i).toNat)
  case atStart => exact ⟨0, rfl, by omega, rfl, Below.refl _ _⟩
  case round =>
    obtain ⟨n, rfl, hn, hE, hb⟩ := hrel
    by_cases hlt : n < s.size
    · have hst := allFrom_step hlt
      rcases plain_ways s[n].toNat with ⟨h1, h2, hp⟩ | ⟨h1, h2, h3, h4, h5, hp⟩ | ⟨h1, h2, h3, hp⟩ | ⟨h1, h2, h3, h4, hp⟩ | ⟨h1, h2, h3, hp⟩ | ⟨h1, h2, h3, hp⟩
      · have hE' : allFrom s (n + 1) = allFrom s 0 := by rw [← hE, hst, hp]; rfl
        clear hE hst hp
        go_wp2
        exact ⟨⟨n + 1, by go_num, by omega, hE', hb⟩, by simp [intOf]; omega⟩
      · have hE' : textB s = false := by
          have h0 : allFrom s 0 = false := by rw [← hE, hst, hp]; rfl
          simp [textB, h0]
        clear hE hst hp
        go_wp2
        go_ret
        exact ⟨by first | rfl | (rw [hE']; rfl), hb⟩
      · have hE' : allFrom s (n + 1) = allFrom s 0 := by rw [← hE, hst, hp]; rfl
        clear hE hst hp
        go_wp2
        exact ⟨⟨n + 1, by go_num, by omega, hE', hb⟩, by simp [intOf]; omega⟩
      · have hE' : textB s = false := by
          have h0 : allFrom s 0 = false := by rw [← hE, hst, hp]; rfl
          simp [textB, h0]
        clear hE hst hp
        go_wp2
        go_ret
        exact ⟨by first | rfl | (rw [hE']; rfl), hb⟩
      · have hE' : allFrom s (n + 1) = allFrom s 0 := by rw [← hE, hst, hp]; rfl
        clear hE hst hp
        go_wp2
        exact ⟨⟨n + 1, by go_num, by omega, hE', hb⟩, by simp [intOf]; omega⟩
      · have hE' : textB s = false := by
          have h0 : allFrom s 0 = false := by rw [← hE, hst, hp]; rfl
          simp [textB, h0]
        clear hE hst hp
        go_wp2
        go_ret
        exact ⟨by first | rfl | (rw [hE']; rfl), hb⟩
    · have hE' : allFrom s 0 = true := by rw [← hE, allFrom_end (by omega)]
      have hE2 : textB s = decide (s.size ≤ 30) := by simp [textB, hE']
      by_cases hl : (s.size : Int) ≤ 30
      · have : s.size ≤ 30 := by omega
        go_wp2
        go_ret
        exact ⟨by first | (rw [hE2]; simp [this]; done) | simp, hb⟩
      · have : ¬ s.size ≤ 30 := by omega
        go_wp2
        go_ret
        exact ⟨by first | (rw [hE2]; simp [this]; done) | simp, hb⟩

theorem names_any (w : World) :
    Calls Try.prog 47 #[] w fun e w' => e = .returned (.agg #[.string ⟨#[110, 111, 110, 101]⟩, .string ⟨#[112, 117, 116]⟩, .string ⟨#[103, 101, 116]⟩, .string ⟨#[101, 112, 111, 99, 104]⟩, .string ⟨#[106, 111, 105, 110]⟩, .string ⟨#[108, 101, 97, 118, 101]⟩, .string ⟨#[109, 97, 114, 107]⟩, .string ⟨#[114, 101, 97, 100]⟩, .string ⟨#[116, 105, 99, 107]⟩, .string ⟨#[116, 114, 105, 109]⟩, .string ⟨#[112, 97, 99, 107]⟩]) ∧ Below w.heap.size w w' := by
  go_enter Try.func47, Try.ntmps47
  go_wp2
  exact bodyPost_ret (v := .agg #[.string ⟨#[110, 111, 110, 101]⟩, .string ⟨#[112, 117, 116]⟩, .string ⟨#[103, 101, 116]⟩, .string ⟨#[101, 112, 111, 99, 104]⟩, .string ⟨#[106, 111, 105, 110]⟩, .string ⟨#[108, 101, 97, 118, 101]⟩, .string ⟨#[109, 97, 114, 107]⟩, .string ⟨#[114, 101, 97, 100]⟩, .string ⟨#[116, 105, 99, 107]⟩, .string ⟨#[116, 114, 105, 109]⟩, .string ⟨#[112, 97, 99, 107]⟩]) (by simp [results, Try.results47, go_sem]) rfl
    ⟨rfl, by repeat (first | exact Below.refl _ _ | refine Below.drew ?_ | refine Below.alloc ?_ (by simp <;> omega) _)⟩

theorem reach_any (op : Int) (w : World) :
    Calls Try.prog 50 #[.agg #[.string ⟨#[110, 111, 110, 101]⟩, .string ⟨#[112, 117, 116]⟩, .string ⟨#[103, 101, 116]⟩, .string ⟨#[101, 112, 111, 99, 104]⟩, .string ⟨#[106, 111, 105, 110]⟩, .string ⟨#[108, 101, 97, 118, 101]⟩, .string ⟨#[109, 97, 114, 107]⟩, .string ⟨#[114, 101, 97, 100]⟩, .string ⟨#[116, 105, 99, 107]⟩, .string ⟨#[116, 114, 105, 109]⟩, .string ⟨#[112, 97, 99, 107]⟩], .int .i64 op] w fun e w' => e = .returned (.bool (inB op 0 10)) ∧ w' = w.alloc (.cells #[.string ⟨#[110, 111, 110, 101]⟩, .string ⟨#[112, 117, 116]⟩, .string ⟨#[103, 101, 116]⟩, .string ⟨#[101, 112, 111, 99, 104]⟩, .string ⟨#[106, 111, 105, 110]⟩, .string ⟨#[108, 101, 97, 118, 101]⟩, .string ⟨#[109, 97, 114, 107]⟩, .string ⟨#[114, 101, 97, 100]⟩, .string ⟨#[116, 105, 99, 107]⟩, .string ⟨#[116, 114, 105, 109]⟩, .string ⟨#[112, 97, 99, 107]⟩] 72) := by
  go_enter Try.func50, Try.ntmps50
  go_wp2_with (go_at_call 43; refine (within_any _ _ _ _).mono ?_; rintro e w' ⟨rfl, rfl⟩)
  go_ret
  exact ⟨rfl, rfl⟩

theorem without_out (op : Int) (h : inB op 0 10 = false) (w : World) :
    Calls Try.prog 48 #[.agg #[.string ⟨#[110, 111, 110, 101]⟩, .string ⟨#[112, 117, 116]⟩, .string ⟨#[103, 101, 116]⟩, .string ⟨#[101, 112, 111, 99, 104]⟩, .string ⟨#[106, 111, 105, 110]⟩, .string ⟨#[108, 101, 97, 118, 101]⟩, .string ⟨#[109, 97, 114, 107]⟩, .string ⟨#[114, 101, 97, 100]⟩, .string ⟨#[116, 105, 99, 107]⟩, .string ⟨#[116, 114, 105, 109]⟩, .string ⟨#[112, 97, 99, 107]⟩], .int .i64 op] w fun e w' => e = .returned (.agg #[.string ⟨#[110, 111, 110, 101]⟩, .string ⟨#[112, 117, 116]⟩, .string ⟨#[103, 101, 116]⟩, .string ⟨#[101, 112, 111, 99, 104]⟩, .string ⟨#[106, 111, 105, 110]⟩, .string ⟨#[108, 101, 97, 118, 101]⟩, .string ⟨#[109, 97, 114, 107]⟩, .string ⟨#[114, 101, 97, 100]⟩, .string ⟨#[116, 105, 99, 107]⟩, .string ⟨#[116, 114, 105, 109]⟩, .string ⟨#[112, 97, 99, 107]⟩]) ∧ Below w.heap.size w w' := by
  go_enter Try.func48, Try.ntmps48
  go_wp2_with (go_at_call 50; refine (reach_any _ _).mono ?_; rintro e w1 ⟨rfl, rfl⟩)
  exact bodyPost_ret (v := .agg #[.string ⟨#[110, 111, 110, 101]⟩, .string ⟨#[112, 117, 116]⟩, .string ⟨#[103, 101, 116]⟩, .string ⟨#[101, 112, 111, 99, 104]⟩, .string ⟨#[106, 111, 105, 110]⟩, .string ⟨#[108, 101, 97, 118, 101]⟩, .string ⟨#[109, 97, 114, 107]⟩, .string ⟨#[114, 101, 97, 100]⟩, .string ⟨#[116, 105, 99, 107]⟩, .string ⟨#[116, 114, 105, 109]⟩, .string ⟨#[112, 97, 99, 107]⟩]) (by simp [results, Try.results48, go_sem]) rfl
    ⟨rfl, by repeat (first | exact Below.refl _ _ | (refine via (by assumption) (by first | omega | (simp; done) | (simp; omega)) ?_) | refine Below.drew ?_ | refine Below.setCell ?_ (by first | omega | (simp; done) | (simp; omega)) _ | refine Below.alloc ?_ (by first | omega | (simp; done) | (simp; omega)) _)⟩

theorem without_0 (w : World) :
    Calls Try.prog 48 #[.agg #[.string ⟨#[110, 111, 110, 101]⟩, .string ⟨#[112, 117, 116]⟩, .string ⟨#[103, 101, 116]⟩, .string ⟨#[101, 112, 111, 99, 104]⟩, .string ⟨#[106, 111, 105, 110]⟩, .string ⟨#[108, 101, 97, 118, 101]⟩, .string ⟨#[109, 97, 114, 107]⟩, .string ⟨#[114, 101, 97, 100]⟩, .string ⟨#[116, 105, 99, 107]⟩, .string ⟨#[116, 114, 105, 109]⟩, .string ⟨#[112, 97, 99, 107]⟩], .int .i64 0] w fun e w' => e = .returned (.agg #[.string ⟨#[110, 111, 110, 101]⟩, .string ⟨#[112, 117, 116]⟩, .string ⟨#[103, 101, 116]⟩, .string ⟨#[101, 112, 111, 99, 104]⟩, .string ⟨#[106, 111, 105, 110]⟩, .string ⟨#[108, 101, 97, 118, 101]⟩, .string ⟨#[109, 97, 114, 107]⟩, .string ⟨#[114, 101, 97, 100]⟩, .string ⟨#[116, 105, 99, 107]⟩, .string ⟨#[116, 114, 105, 109]⟩, .string ⟨#[112, 97, 99, 107]⟩]) ∧ Below w.heap.size w w' := by
  have h : inB 0 0 10 = true := by decide
  go_enter Try.func48, Try.ntmps48
  go_wp2_with (go_at_call 50; refine (reach_any _ _).mono ?_; rintro e w1 ⟨rfl, rfl⟩)
  exact bodyPost_ret (v := .agg #[.string ⟨#[110, 111, 110, 101]⟩, .string ⟨#[112, 117, 116]⟩, .string ⟨#[103, 101, 116]⟩, .string ⟨#[101, 112, 111, 99, 104]⟩, .string ⟨#[106, 111, 105, 110]⟩, .string ⟨#[108, 101, 97, 118, 101]⟩, .string ⟨#[109, 97, 114, 107]⟩, .string ⟨#[114, 101, 97, 100]⟩, .string ⟨#[116, 105, 99, 107]⟩, .string ⟨#[116, 114, 105, 109]⟩, .string ⟨#[112, 97, 99, 107]⟩]) (by simp [results, Try.results48, go_sem]) rfl
    ⟨rfl, by repeat (first | exact Below.refl _ _ | (refine via (by assumption) (by first | omega | (simp; done) | (simp; omega)) ?_) | refine Below.drew ?_ | refine Below.setCell ?_ (by first | omega | (simp; done) | (simp; omega)) _ | refine Below.alloc ?_ (by first | omega | (simp; done) | (simp; omega)) _)⟩

theorem without_1 (w : World) :
    Calls Try.prog 48 #[.agg #[.string ⟨#[110, 111, 110, 101]⟩, .string ⟨#[112, 117, 116]⟩, .string ⟨#[103, 101, 116]⟩, .string ⟨#[101, 112, 111, 99, 104]⟩, .string ⟨#[106, 111, 105, 110]⟩, .string ⟨#[108, 101, 97, 118, 101]⟩, .string ⟨#[109, 97, 114, 107]⟩, .string ⟨#[114, 101, 97, 100]⟩, .string ⟨#[116, 105, 99, 107]⟩, .string ⟨#[116, 114, 105, 109]⟩, .string ⟨#[112, 97, 99, 107]⟩], .int .i64 1] w fun e w' => e = .returned (.agg #[.string ⟨#[110, 111, 110, 101]⟩, .string ⟨#[110, 111, 110, 101]⟩, .string ⟨#[103, 101, 116]⟩, .string ⟨#[101, 112, 111, 99, 104]⟩, .string ⟨#[106, 111, 105, 110]⟩, .string ⟨#[108, 101, 97, 118, 101]⟩, .string ⟨#[109, 97, 114, 107]⟩, .string ⟨#[114, 101, 97, 100]⟩, .string ⟨#[116, 105, 99, 107]⟩, .string ⟨#[116, 114, 105, 109]⟩, .string ⟨#[112, 97, 99, 107]⟩]) ∧ Below w.heap.size w w' := by
  have h : inB 1 0 10 = true := by decide
  go_enter Try.func48, Try.ntmps48
  go_wp2_with (go_at_call 50; refine (reach_any _ _).mono ?_; rintro e w1 ⟨rfl, rfl⟩)
  exact bodyPost_ret (v := .agg #[.string ⟨#[110, 111, 110, 101]⟩, .string ⟨#[110, 111, 110, 101]⟩, .string ⟨#[103, 101, 116]⟩, .string ⟨#[101, 112, 111, 99, 104]⟩, .string ⟨#[106, 111, 105, 110]⟩, .string ⟨#[108, 101, 97, 118, 101]⟩, .string ⟨#[109, 97, 114, 107]⟩, .string ⟨#[114, 101, 97, 100]⟩, .string ⟨#[116, 105, 99, 107]⟩, .string ⟨#[116, 114, 105, 109]⟩, .string ⟨#[112, 97, 99, 107]⟩]) (by simp [results, Try.results48, go_sem]) rfl
    ⟨rfl, by repeat (first | exact Below.refl _ _ | (refine via (by assumption) (by first | omega | (simp; done) | (simp; omega)) ?_) | refine Below.drew ?_ | refine Below.setCell ?_ (by first | omega | (simp; done) | (simp; omega)) _ | refine Below.alloc ?_ (by first | omega | (simp; done) | (simp; omega)) _)⟩

theorem without_2 (w : World) :
    Calls Try.prog 48 #[.agg #[.string ⟨#[110, 111, 110, 101]⟩, .string ⟨#[112, 117, 116]⟩, .string ⟨#[103, 101, 116]⟩, .string ⟨#[101, 112, 111, 99, 104]⟩, .string ⟨#[106, 111, 105, 110]⟩, .string ⟨#[108, 101, 97, 118, 101]⟩, .string ⟨#[109, 97, 114, 107]⟩, .string ⟨#[114, 101, 97, 100]⟩, .string ⟨#[116, 105, 99, 107]⟩, .string ⟨#[116, 114, 105, 109]⟩, .string ⟨#[112, 97, 99, 107]⟩], .int .i64 2] w fun e w' => e = .returned (.agg #[.string ⟨#[110, 111, 110, 101]⟩, .string ⟨#[112, 117, 116]⟩, .string ⟨#[110, 111, 110, 101]⟩, .string ⟨#[101, 112, 111, 99, 104]⟩, .string ⟨#[106, 111, 105, 110]⟩, .string ⟨#[108, 101, 97, 118, 101]⟩, .string ⟨#[109, 97, 114, 107]⟩, .string ⟨#[114, 101, 97, 100]⟩, .string ⟨#[116, 105, 99, 107]⟩, .string ⟨#[116, 114, 105, 109]⟩, .string ⟨#[112, 97, 99, 107]⟩]) ∧ Below w.heap.size w w' := by
  have h : inB 2 0 10 = true := by decide
  go_enter Try.func48, Try.ntmps48
  go_wp2_with (go_at_call 50; refine (reach_any _ _).mono ?_; rintro e w1 ⟨rfl, rfl⟩)
  exact bodyPost_ret (v := .agg #[.string ⟨#[110, 111, 110, 101]⟩, .string ⟨#[112, 117, 116]⟩, .string ⟨#[110, 111, 110, 101]⟩, .string ⟨#[101, 112, 111, 99, 104]⟩, .string ⟨#[106, 111, 105, 110]⟩, .string ⟨#[108, 101, 97, 118, 101]⟩, .string ⟨#[109, 97, 114, 107]⟩, .string ⟨#[114, 101, 97, 100]⟩, .string ⟨#[116, 105, 99, 107]⟩, .string ⟨#[116, 114, 105, 109]⟩, .string ⟨#[112, 97, 99, 107]⟩]) (by simp [results, Try.results48, go_sem]) rfl
    ⟨rfl, by repeat (first | exact Below.refl _ _ | (refine via (by assumption) (by first | omega | (simp; done) | (simp; omega)) ?_) | refine Below.drew ?_ | refine Below.setCell ?_ (by first | omega | (simp; done) | (simp; omega)) _ | refine Below.alloc ?_ (by first | omega | (simp; done) | (simp; omega)) _)⟩

theorem without_3 (w : World) :
    Calls Try.prog 48 #[.agg #[.string ⟨#[110, 111, 110, 101]⟩, .string ⟨#[112, 117, 116]⟩, .string ⟨#[103, 101, 116]⟩, .string ⟨#[101, 112, 111, 99, 104]⟩, .string ⟨#[106, 111, 105, 110]⟩, .string ⟨#[108, 101, 97, 118, 101]⟩, .string ⟨#[109, 97, 114, 107]⟩, .string ⟨#[114, 101, 97, 100]⟩, .string ⟨#[116, 105, 99, 107]⟩, .string ⟨#[116, 114, 105, 109]⟩, .string ⟨#[112, 97, 99, 107]⟩], .int .i64 3] w fun e w' => e = .returned (.agg #[.string ⟨#[110, 111, 110, 101]⟩, .string ⟨#[112, 117, 116]⟩, .string ⟨#[103, 101, 116]⟩, .string ⟨#[110, 111, 110, 101]⟩, .string ⟨#[106, 111, 105, 110]⟩, .string ⟨#[108, 101, 97, 118, 101]⟩, .string ⟨#[109, 97, 114, 107]⟩, .string ⟨#[114, 101, 97, 100]⟩, .string ⟨#[116, 105, 99, 107]⟩, .string ⟨#[116, 114, 105, 109]⟩, .string ⟨#[112, 97, 99, 107]⟩]) ∧ Below w.heap.size w w' := by
  have h : inB 3 0 10 = true := by decide
  go_enter Try.func48, Try.ntmps48
  go_wp2_with (go_at_call 50; refine (reach_any _ _).mono ?_; rintro e w1 ⟨rfl, rfl⟩)
  exact bodyPost_ret (v := .agg #[.string ⟨#[110, 111, 110, 101]⟩, .string ⟨#[112, 117, 116]⟩, .string ⟨#[103, 101, 116]⟩, .string ⟨#[110, 111, 110, 101]⟩, .string ⟨#[106, 111, 105, 110]⟩, .string ⟨#[108, 101, 97, 118, 101]⟩, .string ⟨#[109, 97, 114, 107]⟩, .string ⟨#[114, 101, 97, 100]⟩, .string ⟨#[116, 105, 99, 107]⟩, .string ⟨#[116, 114, 105, 109]⟩, .string ⟨#[112, 97, 99, 107]⟩]) (by simp [results, Try.results48, go_sem]) rfl
    ⟨rfl, by repeat (first | exact Below.refl _ _ | (refine via (by assumption) (by first | omega | (simp; done) | (simp; omega)) ?_) | refine Below.drew ?_ | refine Below.setCell ?_ (by first | omega | (simp; done) | (simp; omega)) _ | refine Below.alloc ?_ (by first | omega | (simp; done) | (simp; omega)) _)⟩

theorem without_4 (w : World) :
    Calls Try.prog 48 #[.agg #[.string ⟨#[110, 111, 110, 101]⟩, .string ⟨#[112, 117, 116]⟩, .string ⟨#[103, 101, 116]⟩, .string ⟨#[101, 112, 111, 99, 104]⟩, .string ⟨#[106, 111, 105, 110]⟩, .string ⟨#[108, 101, 97, 118, 101]⟩, .string ⟨#[109, 97, 114, 107]⟩, .string ⟨#[114, 101, 97, 100]⟩, .string ⟨#[116, 105, 99, 107]⟩, .string ⟨#[116, 114, 105, 109]⟩, .string ⟨#[112, 97, 99, 107]⟩], .int .i64 4] w fun e w' => e = .returned (.agg #[.string ⟨#[110, 111, 110, 101]⟩, .string ⟨#[112, 117, 116]⟩, .string ⟨#[103, 101, 116]⟩, .string ⟨#[101, 112, 111, 99, 104]⟩, .string ⟨#[110, 111, 110, 101]⟩, .string ⟨#[108, 101, 97, 118, 101]⟩, .string ⟨#[109, 97, 114, 107]⟩, .string ⟨#[114, 101, 97, 100]⟩, .string ⟨#[116, 105, 99, 107]⟩, .string ⟨#[116, 114, 105, 109]⟩, .string ⟨#[112, 97, 99, 107]⟩]) ∧ Below w.heap.size w w' := by
  have h : inB 4 0 10 = true := by decide
  go_enter Try.func48, Try.ntmps48
  go_wp2_with (go_at_call 50; refine (reach_any _ _).mono ?_; rintro e w1 ⟨rfl, rfl⟩)
  exact bodyPost_ret (v := .agg #[.string ⟨#[110, 111, 110, 101]⟩, .string ⟨#[112, 117, 116]⟩, .string ⟨#[103, 101, 116]⟩, .string ⟨#[101, 112, 111, 99, 104]⟩, .string ⟨#[110, 111, 110, 101]⟩, .string ⟨#[108, 101, 97, 118, 101]⟩, .string ⟨#[109, 97, 114, 107]⟩, .string ⟨#[114, 101, 97, 100]⟩, .string ⟨#[116, 105, 99, 107]⟩, .string ⟨#[116, 114, 105, 109]⟩, .string ⟨#[112, 97, 99, 107]⟩]) (by simp [results, Try.results48, go_sem]) rfl
    ⟨rfl, by repeat (first | exact Below.refl _ _ | (refine via (by assumption) (by first | omega | (simp; done) | (simp; omega)) ?_) | refine Below.drew ?_ | refine Below.setCell ?_ (by first | omega | (simp; done) | (simp; omega)) _ | refine Below.alloc ?_ (by first | omega | (simp; done) | (simp; omega)) _)⟩

theorem without_5 (w : World) :
    Calls Try.prog 48 #[.agg #[.string ⟨#[110, 111, 110, 101]⟩, .string ⟨#[112, 117, 116]⟩, .string ⟨#[103, 101, 116]⟩, .string ⟨#[101, 112, 111, 99, 104]⟩, .string ⟨#[106, 111, 105, 110]⟩, .string ⟨#[108, 101, 97, 118, 101]⟩, .string ⟨#[109, 97, 114, 107]⟩, .string ⟨#[114, 101, 97, 100]⟩, .string ⟨#[116, 105, 99, 107]⟩, .string ⟨#[116, 114, 105, 109]⟩, .string ⟨#[112, 97, 99, 107]⟩], .int .i64 5] w fun e w' => e = .returned (.agg #[.string ⟨#[110, 111, 110, 101]⟩, .string ⟨#[112, 117, 116]⟩, .string ⟨#[103, 101, 116]⟩, .string ⟨#[101, 112, 111, 99, 104]⟩, .string ⟨#[106, 111, 105, 110]⟩, .string ⟨#[110, 111, 110, 101]⟩, .string ⟨#[109, 97, 114, 107]⟩, .string ⟨#[114, 101, 97, 100]⟩, .string ⟨#[116, 105, 99, 107]⟩, .string ⟨#[116, 114, 105, 109]⟩, .string ⟨#[112, 97, 99, 107]⟩]) ∧ Below w.heap.size w w' := by
  have h : inB 5 0 10 = true := by decide
  go_enter Try.func48, Try.ntmps48
  go_wp2_with (go_at_call 50; refine (reach_any _ _).mono ?_; rintro e w1 ⟨rfl, rfl⟩)
  exact bodyPost_ret (v := .agg #[.string ⟨#[110, 111, 110, 101]⟩, .string ⟨#[112, 117, 116]⟩, .string ⟨#[103, 101, 116]⟩, .string ⟨#[101, 112, 111, 99, 104]⟩, .string ⟨#[106, 111, 105, 110]⟩, .string ⟨#[110, 111, 110, 101]⟩, .string ⟨#[109, 97, 114, 107]⟩, .string ⟨#[114, 101, 97, 100]⟩, .string ⟨#[116, 105, 99, 107]⟩, .string ⟨#[116, 114, 105, 109]⟩, .string ⟨#[112, 97, 99, 107]⟩]) (by simp [results, Try.results48, go_sem]) rfl
    ⟨rfl, by repeat (first | exact Below.refl _ _ | (refine via (by assumption) (by first | omega | (simp; done) | (simp; omega)) ?_) | refine Below.drew ?_ | refine Below.setCell ?_ (by first | omega | (simp; done) | (simp; omega)) _ | refine Below.alloc ?_ (by first | omega | (simp; done) | (simp; omega)) _)⟩

theorem without_6 (w : World) :
    Calls Try.prog 48 #[.agg #[.string ⟨#[110, 111, 110, 101]⟩, .string ⟨#[112, 117, 116]⟩, .string ⟨#[103, 101, 116]⟩, .string ⟨#[101, 112, 111, 99, 104]⟩, .string ⟨#[106, 111, 105, 110]⟩, .string ⟨#[108, 101, 97, 118, 101]⟩, .string ⟨#[109, 97, 114, 107]⟩, .string ⟨#[114, 101, 97, 100]⟩, .string ⟨#[116, 105, 99, 107]⟩, .string ⟨#[116, 114, 105, 109]⟩, .string ⟨#[112, 97, 99, 107]⟩], .int .i64 6] w fun e w' => e = .returned (.agg #[.string ⟨#[110, 111, 110, 101]⟩, .string ⟨#[112, 117, 116]⟩, .string ⟨#[103, 101, 116]⟩, .string ⟨#[101, 112, 111, 99, 104]⟩, .string ⟨#[106, 111, 105, 110]⟩, .string ⟨#[108, 101, 97, 118, 101]⟩, .string ⟨#[110, 111, 110, 101]⟩, .string ⟨#[114, 101, 97, 100]⟩, .string ⟨#[116, 105, 99, 107]⟩, .string ⟨#[116, 114, 105, 109]⟩, .string ⟨#[112, 97, 99, 107]⟩]) ∧ Below w.heap.size w w' := by
  have h : inB 6 0 10 = true := by decide
  go_enter Try.func48, Try.ntmps48
  go_wp2_with (go_at_call 50; refine (reach_any _ _).mono ?_; rintro e w1 ⟨rfl, rfl⟩)
  exact bodyPost_ret (v := .agg #[.string ⟨#[110, 111, 110, 101]⟩, .string ⟨#[112, 117, 116]⟩, .string ⟨#[103, 101, 116]⟩, .string ⟨#[101, 112, 111, 99, 104]⟩, .string ⟨#[106, 111, 105, 110]⟩, .string ⟨#[108, 101, 97, 118, 101]⟩, .string ⟨#[110, 111, 110, 101]⟩, .string ⟨#[114, 101, 97, 100]⟩, .string ⟨#[116, 105, 99, 107]⟩, .string ⟨#[116, 114, 105, 109]⟩, .string ⟨#[112, 97, 99, 107]⟩]) (by simp [results, Try.results48, go_sem]) rfl
    ⟨rfl, by repeat (first | exact Below.refl _ _ | (refine via (by assumption) (by first | omega | (simp; done) | (simp; omega)) ?_) | refine Below.drew ?_ | refine Below.setCell ?_ (by first | omega | (simp; done) | (simp; omega)) _ | refine Below.alloc ?_ (by first | omega | (simp; done) | (simp; omega)) _)⟩

theorem without_7 (w : World) :
    Calls Try.prog 48 #[.agg #[.string ⟨#[110, 111, 110, 101]⟩, .string ⟨#[112, 117, 116]⟩, .string ⟨#[103, 101, 116]⟩, .string ⟨#[101, 112, 111, 99, 104]⟩, .string ⟨#[106, 111, 105, 110]⟩, .string ⟨#[108, 101, 97, 118, 101]⟩, .string ⟨#[109, 97, 114, 107]⟩, .string ⟨#[114, 101, 97, 100]⟩, .string ⟨#[116, 105, 99, 107]⟩, .string ⟨#[116, 114, 105, 109]⟩, .string ⟨#[112, 97, 99, 107]⟩], .int .i64 7] w fun e w' => e = .returned (.agg #[.string ⟨#[110, 111, 110, 101]⟩, .string ⟨#[112, 117, 116]⟩, .string ⟨#[103, 101, 116]⟩, .string ⟨#[101, 112, 111, 99, 104]⟩, .string ⟨#[106, 111, 105, 110]⟩, .string ⟨#[108, 101, 97, 118, 101]⟩, .string ⟨#[109, 97, 114, 107]⟩, .string ⟨#[110, 111, 110, 101]⟩, .string ⟨#[116, 105, 99, 107]⟩, .string ⟨#[116, 114, 105, 109]⟩, .string ⟨#[112, 97, 99, 107]⟩]) ∧ Below w.heap.size w w' := by
  have h : inB 7 0 10 = true := by decide
  go_enter Try.func48, Try.ntmps48
  go_wp2_with (go_at_call 50; refine (reach_any _ _).mono ?_; rintro e w1 ⟨rfl, rfl⟩)
  exact bodyPost_ret (v := .agg #[.string ⟨#[110, 111, 110, 101]⟩, .string ⟨#[112, 117, 116]⟩, .string ⟨#[103, 101, 116]⟩, .string ⟨#[101, 112, 111, 99, 104]⟩, .string ⟨#[106, 111, 105, 110]⟩, .string ⟨#[108, 101, 97, 118, 101]⟩, .string ⟨#[109, 97, 114, 107]⟩, .string ⟨#[110, 111, 110, 101]⟩, .string ⟨#[116, 105, 99, 107]⟩, .string ⟨#[116, 114, 105, 109]⟩, .string ⟨#[112, 97, 99, 107]⟩]) (by simp [results, Try.results48, go_sem]) rfl
    ⟨rfl, by repeat (first | exact Below.refl _ _ | (refine via (by assumption) (by first | omega | (simp; done) | (simp; omega)) ?_) | refine Below.drew ?_ | refine Below.setCell ?_ (by first | omega | (simp; done) | (simp; omega)) _ | refine Below.alloc ?_ (by first | omega | (simp; done) | (simp; omega)) _)⟩

theorem without_8 (w : World) :
    Calls Try.prog 48 #[.agg #[.string ⟨#[110, 111, 110, 101]⟩, .string ⟨#[112, 117, 116]⟩, .string ⟨#[103, 101, 116]⟩, .string ⟨#[101, 112, 111, 99, 104]⟩, .string ⟨#[106, 111, 105, 110]⟩, .string ⟨#[108, 101, 97, 118, 101]⟩, .string ⟨#[109, 97, 114, 107]⟩, .string ⟨#[114, 101, 97, 100]⟩, .string ⟨#[116, 105, 99, 107]⟩, .string ⟨#[116, 114, 105, 109]⟩, .string ⟨#[112, 97, 99, 107]⟩], .int .i64 8] w fun e w' => e = .returned (.agg #[.string ⟨#[110, 111, 110, 101]⟩, .string ⟨#[112, 117, 116]⟩, .string ⟨#[103, 101, 116]⟩, .string ⟨#[101, 112, 111, 99, 104]⟩, .string ⟨#[106, 111, 105, 110]⟩, .string ⟨#[108, 101, 97, 118, 101]⟩, .string ⟨#[109, 97, 114, 107]⟩, .string ⟨#[114, 101, 97, 100]⟩, .string ⟨#[110, 111, 110, 101]⟩, .string ⟨#[116, 114, 105, 109]⟩, .string ⟨#[112, 97, 99, 107]⟩]) ∧ Below w.heap.size w w' := by
  have h : inB 8 0 10 = true := by decide
  go_enter Try.func48, Try.ntmps48
  go_wp2_with (go_at_call 50; refine (reach_any _ _).mono ?_; rintro e w1 ⟨rfl, rfl⟩)
  exact bodyPost_ret (v := .agg #[.string ⟨#[110, 111, 110, 101]⟩, .string ⟨#[112, 117, 116]⟩, .string ⟨#[103, 101, 116]⟩, .string ⟨#[101, 112, 111, 99, 104]⟩, .string ⟨#[106, 111, 105, 110]⟩, .string ⟨#[108, 101, 97, 118, 101]⟩, .string ⟨#[109, 97, 114, 107]⟩, .string ⟨#[114, 101, 97, 100]⟩, .string ⟨#[110, 111, 110, 101]⟩, .string ⟨#[116, 114, 105, 109]⟩, .string ⟨#[112, 97, 99, 107]⟩]) (by simp [results, Try.results48, go_sem]) rfl
    ⟨rfl, by repeat (first | exact Below.refl _ _ | (refine via (by assumption) (by first | omega | (simp; done) | (simp; omega)) ?_) | refine Below.drew ?_ | refine Below.setCell ?_ (by first | omega | (simp; done) | (simp; omega)) _ | refine Below.alloc ?_ (by first | omega | (simp; done) | (simp; omega)) _)⟩

theorem without_9 (w : World) :
    Calls Try.prog 48 #[.agg #[.string ⟨#[110, 111, 110, 101]⟩, .string ⟨#[112, 117, 116]⟩, .string ⟨#[103, 101, 116]⟩, .string ⟨#[101, 112, 111, 99, 104]⟩, .string ⟨#[106, 111, 105, 110]⟩, .string ⟨#[108, 101, 97, 118, 101]⟩, .string ⟨#[109, 97, 114, 107]⟩, .string ⟨#[114, 101, 97, 100]⟩, .string ⟨#[116, 105, 99, 107]⟩, .string ⟨#[116, 114, 105, 109]⟩, .string ⟨#[112, 97, 99, 107]⟩], .int .i64 9] w fun e w' => e = .returned (.agg #[.string ⟨#[110, 111, 110, 101]⟩, .string ⟨#[112, 117, 116]⟩, .string ⟨#[103, 101, 116]⟩, .string ⟨#[101, 112, 111, 99, 104]⟩, .string ⟨#[106, 111, 105, 110]⟩, .string ⟨#[108, 101, 97, 118, 101]⟩, .string ⟨#[109, 97, 114, 107]⟩, .string ⟨#[114, 101, 97, 100]⟩, .string ⟨#[116, 105, 99, 107]⟩, .string ⟨#[110, 111, 110, 101]⟩, .string ⟨#[112, 97, 99, 107]⟩]) ∧ Below w.heap.size w w' := by
  have h : inB 9 0 10 = true := by decide
  go_enter Try.func48, Try.ntmps48
  go_wp2_with (go_at_call 50; refine (reach_any _ _).mono ?_; rintro e w1 ⟨rfl, rfl⟩)
  exact bodyPost_ret (v := .agg #[.string ⟨#[110, 111, 110, 101]⟩, .string ⟨#[112, 117, 116]⟩, .string ⟨#[103, 101, 116]⟩, .string ⟨#[101, 112, 111, 99, 104]⟩, .string ⟨#[106, 111, 105, 110]⟩, .string ⟨#[108, 101, 97, 118, 101]⟩, .string ⟨#[109, 97, 114, 107]⟩, .string ⟨#[114, 101, 97, 100]⟩, .string ⟨#[116, 105, 99, 107]⟩, .string ⟨#[110, 111, 110, 101]⟩, .string ⟨#[112, 97, 99, 107]⟩]) (by simp [results, Try.results48, go_sem]) rfl
    ⟨rfl, by repeat (first | exact Below.refl _ _ | (refine via (by assumption) (by first | omega | (simp; done) | (simp; omega)) ?_) | refine Below.drew ?_ | refine Below.setCell ?_ (by first | omega | (simp; done) | (simp; omega)) _ | refine Below.alloc ?_ (by first | omega | (simp; done) | (simp; omega)) _)⟩

theorem without_10 (w : World) :
    Calls Try.prog 48 #[.agg #[.string ⟨#[110, 111, 110, 101]⟩, .string ⟨#[112, 117, 116]⟩, .string ⟨#[103, 101, 116]⟩, .string ⟨#[101, 112, 111, 99, 104]⟩, .string ⟨#[106, 111, 105, 110]⟩, .string ⟨#[108, 101, 97, 118, 101]⟩, .string ⟨#[109, 97, 114, 107]⟩, .string ⟨#[114, 101, 97, 100]⟩, .string ⟨#[116, 105, 99, 107]⟩, .string ⟨#[116, 114, 105, 109]⟩, .string ⟨#[112, 97, 99, 107]⟩], .int .i64 10] w fun e w' => e = .returned (.agg #[.string ⟨#[110, 111, 110, 101]⟩, .string ⟨#[112, 117, 116]⟩, .string ⟨#[103, 101, 116]⟩, .string ⟨#[101, 112, 111, 99, 104]⟩, .string ⟨#[106, 111, 105, 110]⟩, .string ⟨#[108, 101, 97, 118, 101]⟩, .string ⟨#[109, 97, 114, 107]⟩, .string ⟨#[114, 101, 97, 100]⟩, .string ⟨#[116, 105, 99, 107]⟩, .string ⟨#[116, 114, 105, 109]⟩, .string ⟨#[110, 111, 110, 101]⟩]) ∧ Below w.heap.size w w' := by
  have h : inB 10 0 10 = true := by decide
  go_enter Try.func48, Try.ntmps48
  go_wp2_with (go_at_call 50; refine (reach_any _ _).mono ?_; rintro e w1 ⟨rfl, rfl⟩)
  exact bodyPost_ret (v := .agg #[.string ⟨#[110, 111, 110, 101]⟩, .string ⟨#[112, 117, 116]⟩, .string ⟨#[103, 101, 116]⟩, .string ⟨#[101, 112, 111, 99, 104]⟩, .string ⟨#[106, 111, 105, 110]⟩, .string ⟨#[108, 101, 97, 118, 101]⟩, .string ⟨#[109, 97, 114, 107]⟩, .string ⟨#[114, 101, 97, 100]⟩, .string ⟨#[116, 105, 99, 107]⟩, .string ⟨#[116, 114, 105, 109]⟩, .string ⟨#[110, 111, 110, 101]⟩]) (by simp [results, Try.results48, go_sem]) rfl
    ⟨rfl, by repeat (first | exact Below.refl _ _ | (refine via (by assumption) (by first | omega | (simp; done) | (simp; omega)) ?_) | refine Below.drew ?_ | refine Below.setCell ?_ (by first | omega | (simp; done) | (simp; omega)) _ | refine Below.alloc ?_ (by first | omega | (simp; done) | (simp; omega)) _)⟩

end Go.Proofs.Yteccgpakhbogpaa.CmdOk
