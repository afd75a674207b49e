/-
  The last number and Term of a log, a number's Term, and which log is newer: by the specification and by the program, the same. No condition but that there are at most 3000000 entries.
-/
import Derived.Test.YteccgpakhbogpaaEnt
import Derived.Test.YteccgpakhbogpaaInB
import Derived.BigQuiet
import Derived.WalkSmall
namespace Go.Proofs.Yteccgpakhbogpaa.Gen
open Go.ChangeShapes Go.WideShapes Go.ChangeAt Go.RowKit Go.Joins Go.Deep Base
set_option linter.unusedVariables false

/-- The last number, and its Term. -/
def lastN (base : Int) (l : List En) : Int := if l = [] then base else IntKind.i64.wrap (base + (l.length : Int))
def lastT (bt : Int) (l : List En) : Int := (l.getLast?.map En.term).getD bt



/-- Where a number lies in the list. -/
def atN (base i : Int) (l : List En) : Option Nat := if base < i ∧ i ≤ 300 ∧ 0 ≤ base ∧ i - base - 1 < (l.length : Int) then some (i - base - 1).toNat else none
def termAt (base bt i : Int) (l : List En) : Int := if i = base then bt else match atN base i l with | none => -1 | some n => (l[n]?.map En.term).getD 0
theorem atN_lt {base i : Int} {l : List En} {n : Nat} (h : atN base i l = some n) : n < l.length ∧ (n : Int) = i - base - 1 ∧ base < i ∧ i ≤ 300 ∧ 0 ≤ base := by
  unfold atN at h
  split at h
  · rename_i hh
    simp at h
    omega
  · cases h

set_option maxRecDepth 100000 in
set_option maxHeartbeats 1000000 in
theorem specAt_any (base bt i : Int) (hi : I64 base ∧ I64 i) (A : Option Addr) (cap : Nat) (l : List En) (hl : l.length ≤ 3000000) (w : World) :
    Calls Try.prog 30 #[.agg #[.int .i64 base, .int .i64 bt, .slice A l.length cap], .int .i64 i] w fun e w' => e = .returned (.int .i64 (match atN base i l with | none => -1 | some n => (n : Int))) ∧ Below w.heap.size w w' := by
  unfold I64 at hi
  obtain ⟨⟨i0, i1⟩, i2, i3⟩ := hi
  by_cases h1 : base < i
  · have h1' : ¬ i ≤ base := by omega
    by_cases h2 : i ≤ 300
    · have h2' : ¬ 300 < i := by omega
      by_cases h3 : 0 ≤ base
      · have h3' : ¬ base < 0 := by omega
        by_cases h4 : i - base - 1 < (l.length : Int)
        · have h4' : ¬ (l.length : Int) ≤ i - base - 1 := by omega
          have e : atN base i l = some (i - base - 1).toNat := if_pos ⟨h1, h2, h3, h4⟩
          have e' : (((i - base - 1).toNat : Nat) : Int) = i - base - 1 := by omega
          rw [e]
          show Calls _ _ _ _ fun e w' => e = .returned (.int .i64 (((i - base - 1).toNat : Nat) : Int)) ∧ _
          rw [e']
          clear e e'
          go_enter Try.func30, Try.ntmps30
          go_wp2
          go_ret
          exact ⟨rfl, by repeat (first | exact Below.refl _ _ | assumption | refine via0 (by assumption) ?_ | refine Below.drew ?_ | refine alloc0 ?_ _)⟩
        · have h4' : (l.length : Int) ≤ i - base - 1 := by omega
          have e : atN base i l = none := if_neg (by omega)
          rw [e]
          clear e
          go_enter Try.func30, Try.ntmps30
          go_wp2
          go_ret
          exact ⟨rfl, by repeat (first | exact Below.refl _ _ | assumption | refine via0 (by assumption) ?_ | refine Below.drew ?_ | refine alloc0 ?_ _)⟩
      · have h3' : base < 0 := by omega
        have e : atN base i l = none := if_neg (by omega)
        rw [e]
        clear e
        go_enter Try.func30, Try.ntmps30
        go_wp2
        go_ret
        exact ⟨rfl, by repeat (first | exact Below.refl _ _ | assumption | refine via0 (by assumption) ?_ | refine Below.drew ?_ | refine alloc0 ?_ _)⟩
    · have h2' : 300 < i := by omega
      have e : atN base i l = none := if_neg (by omega)
      rw [e]
      clear e
      go_enter Try.func30, Try.ntmps30
      go_wp2
      go_ret
      exact ⟨rfl, by repeat (first | exact Below.refl _ _ | assumption | refine via0 (by assumption) ?_ | refine Below.drew ?_ | refine alloc0 ?_ _)⟩
  · have h1' : i ≤ base := by omega
    have e : atN base i l = none := if_neg (by omega)
    rw [e]
    clear e
    go_enter Try.func30, Try.ntmps30
    go_wp2
    go_ret
    exact ⟨rfl, by repeat (first | exact Below.refl _ _ | assumption | refine via0 (by assumption) ?_ | refine Below.drew ?_ | refine alloc0 ?_ _)⟩

theorem isIndex_at (x : Int) (w : World) : Calls Try.prog 32 #[.int .i64 x] w fun e w' => e = .returned (.bool (inB x 0 300)) ∧ w' = w := by
  go_enter Try.func32, Try.ntmps32
  go_wp2_with (go_at_call 43; refine (within_any _ _ _ _).mono ?_; rintro e w' ⟨rfl, rfl⟩)
  go_ret
  exact ⟨rfl, rfl⟩

set_option maxRecDepth 100000 in
set_option maxHeartbeats 1000000 in
theorem implHas_any (base bt i : Int) (A : Option Addr) (cap : Nat) (l : List En) (hl : l.length ≤ 3000000) (w : World) :
    Calls Try.prog 37 #[.agg #[.int .i64 base, .int .i64 bt, .slice A l.length cap], .int .i64 i] w fun e w' => e = .returned (.bool (atN base i l).isSome) ∧ Below w.heap.size w w' := by
  have E1 : Hid (∀ W : World, Calls Try.prog 32 #[.int .i64 base] W fun e w' => e = .returned (.bool (inB base 0 300)) ∧ w' = W) := fun W => isIndex_at _ W
  have E2 : Hid (∀ W : World, Calls Try.prog 32 #[.int .i64 i] W fun e w' => e = .returned (.bool (inB i 0 300)) ∧ w' = W) := fun W => isIndex_at _ W
  have B0 : Below w.heap.size w (w.alloc (.cells #[.int .i64 base, .int .i64 bt, .slice A l.length cap] 29)) := alloc0 (Below.refl _ _) _
  by_cases h1 : 0 ≤ base ∧ base ≤ 300
  · have e1 : inB base 0 300 = true := by simp [inB, h1]
    rw [e1] at E1
    clear e1
    obtain ⟨h10, h11⟩ := h1
    by_cases h2 : 0 ≤ i ∧ i ≤ 300
    · have e2 : inB i 0 300 = true := by simp [inB, h2]
      rw [e2] at E2
      clear e2
      obtain ⟨h20, h21⟩ := h2
      by_cases h3 : base < i
      · have h3' : i > base := h3
        by_cases h4 : i ≤ base + (l.length : Int)
        · have e : Hid ((atN base i l).isSome = true) := by show _ = _; unfold atN; rw [if_pos ⟨h3, h21, h10, by omega⟩]; rfl
          go_enter Try.func37, Try.ntmps37
          go_wp2_with fail
          refine (E1.out _).mono ?_
          rintro e w1 ⟨rfl, rfl⟩
          go_wp2_with fail
          refine (E2.out _).mono ?_
          rintro e w1 ⟨rfl, rfl⟩
          go_wp2
          go_ret
          exact ⟨by rw [e.out]; rfl, B0⟩
        · have e : Hid ((atN base i l).isSome = false) := by show _ = _; unfold atN; rw [if_neg (by omega)]; rfl
          have h4' : base + (l.length : Int) < i := by omega
          go_enter Try.func37, Try.ntmps37
          go_wp2_with fail
          refine (E1.out _).mono ?_
          rintro e w1 ⟨rfl, rfl⟩
          go_wp2_with fail
          refine (E2.out _).mono ?_
          rintro e w1 ⟨rfl, rfl⟩
          go_wp2
          go_ret
          exact ⟨by rw [e.out]; first | rfl | simp_all, B0⟩
      · have e : Hid ((atN base i l).isSome = false) := by show _ = _; unfold atN; rw [if_neg (by omega)]; rfl
        go_enter Try.func37, Try.ntmps37
        go_wp2_with fail
        refine (E1.out _).mono ?_
        rintro e w1 ⟨rfl, rfl⟩
        go_wp2_with fail
        refine (E2.out _).mono ?_
        rintro e w1 ⟨rfl, rfl⟩
        go_wp2
        go_ret
        exact ⟨by rw [e.out]; rfl, B0⟩
    · have e2 : inB i 0 300 = false := by simp only [inB, h2, decide_false]
      rw [e2] at E2
      have e : Hid ((atN base i l).isSome = false) := by show _ = _; unfold atN; rw [if_neg (by omega)]; rfl
      clear e2 h2
      go_enter Try.func37, Try.ntmps37
      go_wp2_with fail
      refine (E1.out _).mono ?_
      rintro e w1 ⟨rfl, rfl⟩
      go_wp2_with fail
      refine (E2.out _).mono ?_
      rintro e w1 ⟨rfl, rfl⟩
      go_wp2
      go_ret
      exact ⟨by rw [e.out]; rfl, B0⟩
  · have e1 : inB base 0 300 = false := by simp only [inB, h1, decide_false]
    rw [e1] at E1
    have e : Hid ((atN base i l).isSome = false) := by show _ = _; unfold atN; rw [if_neg (by omega)]; rfl
    clear e1 h1
    go_enter Try.func37, Try.ntmps37
    go_wp2_with fail
    refine (E1.out _).mono ?_
    rintro e w1 ⟨rfl, rfl⟩
    go_wp2
    go_ret
    exact ⟨by rw [e.out]; rfl, B0⟩

theorem get_term {l : List En} {n : Nat} (h : n < l.length) : (l[n]?.map En.term).getD 0 = l[n].term := by simp [h]

set_option maxRecDepth 100000 in
set_option maxHeartbeats 1000000 in
theorem specTermAt_any (base bt i : Int) (hi : I64 base ∧ I64 i) (A : Option Addr) (cap : Nat) (l : List En) (hl : l.length ≤ 3000000) (w : World) (hA : At w A l) :
    Calls Try.prog 18 #[.agg #[.int .i64 base, .int .i64 bt, .slice A l.length cap], .int .i64 i] w fun e w' => e = .returned (.int .i64 (termAt base bt i l)) ∧ Below w.heap.size w w' := by
  have HA := hidP hA
  clear hA
  have B0 : Below w.heap.size w (w.alloc (.cells #[.int .i64 base, .int .i64 bt, .slice A l.length cap] 29)) := alloc0 (Below.refl _ _) _
  by_cases h0 : i = base
  · have e : Hid (termAt base bt i l = bt) := by show _ = _; unfold termAt; rw [if_pos h0]
    subst h0
    go_enter Try.func18, Try.ntmps18
    go_wp2
    go_ret
    exact ⟨by rw [e.out]; rfl, B0⟩
  · have e : Hid (termAt base bt i l = match atN base i l with | none => -1 | some n => (l[n]?.map En.term).getD 0) := by show _ = _; unfold termAt; rw [if_neg h0]
    have HC : Hid (∀ W : World, Calls Try.prog 30 #[.agg #[.int .i64 base, .int .i64 bt, .slice A l.length cap], .int .i64 i] W fun e w' => e = .returned (.int .i64 (match atN base i l with | none => -1 | some n => (n : Int))) ∧ Below W.heap.size W w') := fun W => specAt_any base bt i hi A cap l hl W
    clear hi
    cases ha : atN base i l with
    | none =>
      rw [ha] at e HC
      clear ha
      go_enter Try.func18, Try.ntmps18
      go_wp2_with fail
      refine (HC.out _).mono ?_
      rintro e w1 ⟨rfl, g1⟩
      go_wp2
      go_ret
      exact ⟨by rw [e.out]; rfl, via0 g1 B0⟩
    | some n =>
      obtain ⟨hlt, hn, -⟩ := atN_lt ha
      rw [ha] at e HC
      have e' := hidP (e.out.trans (get_term hlt))
      clear ha e hn
      obtain ⟨b, o, rfl, hbs, hIn⟩ : ∃ b o, A = some ⟨b, o, none⟩ ∧ b < w.heap.size ∧ In w b o l := by
        rcases HA.out with h | h
        · subst h; simp at hlt
        · exact h
      have hn0 : ¬ (n : Int) < 0 := by omega
      go_enter Try.func18, Try.ntmps18
      go_wp2_with fail
      refine (HC.out _).mono ?_
      rintro e w1 ⟨rfl, g1⟩
      have p1 := (Blk.new w 29 #[.int .i64 base, .int .i64 bt, .slice (some ⟨b, o, none⟩) l.length cap]).below g1 (by simp)
      obtain ⟨u0, u1, u2⟩ := p1.row3
      have B1 := via0 g1 (alloc0 (Below.refl w.heap.size w) _)
      obtain ⟨c0, c1, c2, c3, c4, c5, c6, c7, c8⟩ := (hIn.below hbs B1).getEn n hlt
      go_wp2
      go_ret
      exact ⟨by rw [e'.out]; rfl, B1⟩

set_option maxRecDepth 100000 in
set_option maxHeartbeats 1000000 in
theorem implTermAt_any (base bt i : Int) (hi : I64 base ∧ I64 i) (A : Option Addr) (cap : Nat) (l : List En) (hl : l.length ≤ 3000000) (w : World) (hA : At w A l) :
    Calls Try.prog 21 #[.agg #[.int .i64 base, .int .i64 bt, .slice A l.length cap], .int .i64 i] w fun e w' => e = .returned (.int .i64 (termAt base bt i l)) ∧ Below w.heap.size w w' := by
  have HA := hidP hA
  clear hA
  have B0 : Below w.heap.size w (w.alloc (.cells #[.int .i64 base, .int .i64 bt, .slice A l.length cap] 29)) := alloc0 (Below.refl _ _) _
  by_cases h0 : i = base
  · have e : Hid (termAt base bt i l = bt) := by show _ = _; unfold termAt; rw [if_pos h0]
    subst h0
    go_enter Try.func21, Try.ntmps21
    go_wp2
    go_ret
    exact ⟨by rw [e.out]; rfl, B0⟩
  · have e : Hid (termAt base bt i l = match atN base i l with | none => -1 | some n => (l[n]?.map En.term).getD 0) := by show _ = _; unfold termAt; rw [if_neg h0]
    have HC : Hid (∀ W : World, Calls Try.prog 37 #[.agg #[.int .i64 base, .int .i64 bt, .slice A l.length cap], .int .i64 i] W fun e w' => e = .returned (.bool (atN base i l).isSome) ∧ Below W.heap.size W w') := fun W => implHas_any base bt i A cap l hl W
    cases ha : atN base i l with
    | none =>
      rw [ha] at e HC
      clear ha hi
      simp only [Option.isSome] at HC
      go_enter Try.func21, Try.ntmps21
      go_wp2_with fail
      refine (HC.out _).mono ?_
      rintro e w1 ⟨rfl, g1⟩
      go_wp2
      go_ret
      exact ⟨by rw [e.out]; rfl, via0 g1 B0⟩
    | some n =>
      obtain ⟨hlt, hn, h1, h2, h3⟩ := atN_lt ha
      rw [ha] at e HC
      have e' := hidP (e.out.trans (get_term hlt))
      simp only [Option.isSome] at HC
      clear ha e hi h0
      obtain ⟨b, o, rfl, hbs, hIn⟩ : ∃ b o, A = some ⟨b, o, none⟩ ∧ b < w.heap.size ∧ In w b o l := by
        rcases HA.out with h | h
        · subst h; simp at hlt
        · exact h
      obtain rfl : i = base + 1 + (n : Int) := by omega
      clear hn
      have k0 : ¬ base + 1 + (n : Int) = base := by omega
      have k2 : base + 1 + (n : Int) - base - 1 = (n : Int) := by omega
      go_enter Try.func21, Try.ntmps21
      go_wp2_with fail
      refine (HC.out _).mono ?_
      rintro e w1 ⟨rfl, g1⟩
      have p1 := (Blk.new w 29 #[.int .i64 base, .int .i64 bt, .slice (some ⟨b, o, none⟩) l.length cap]).below g1 (by simp)
      obtain ⟨u0, u1, u2⟩ := p1.row3
      have B1 := via0 g1 (alloc0 (Below.refl w.heap.size w) _)
      obtain ⟨c0, c1, c2, c3, c4, c5, c6, c7, c8⟩ := (hIn.below hbs B1).getEn n hlt
      go_wp2
      go_ret
      exact ⟨by rw [e'.out]; rfl, B1⟩
end Go.Proofs.Yteccgpakhbogpaa.Gen
