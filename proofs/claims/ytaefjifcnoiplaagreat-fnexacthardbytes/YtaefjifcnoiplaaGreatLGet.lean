/-
  The last number and Term of a log, a number's Term, and which log is newer: by the specification and by the program, the same. No condition but that there are at most 3000000 entries.
-/
import Derived.Test.YtaefjifcnoiplaaGreatAnsList
import Derived.BigQuiet
import Derived.WalkSmall
namespace Go.Proofs.YtaefjifcnoiplaaGreat.Gen
open Go.ChangeShapes Go.WideShapes Go.ChangeAt Go.RowKit Go.Joins Go.Deep Base
set_option linter.unusedVariables false
def lastN (base : Int) (l : List En) : Int := if l = [] then base else IntKind.i64.wrap (base + (l.length : Int))
def lastT (bt : Int) (l : List En) : Int := (l.getLast?.map En.term).getD bt
set_option maxRecDepth 100000 in
set_option maxHeartbeats 1000000 in
theorem specLast_core (base bt : Int) (b o cap m : Nat) (hm : m + 1 <= 3000000) (t : Int) (w : World) (hb : b < w.heap.size) (hc : w.cell? ⟨b, o + m * 9, none⟩ = some (.int .i64 t)) :
    Calls Tryz.prog 33 #[.agg #[.int .i64 base, .int .i64 bt, .slice (some ⟨b, o, none⟩) (m + 1) cap]] w fun e w' => e = .returned (.tuple #[.int .i64 (IntKind.i64.wrap (base + ((m + 1 : Nat) : Int))), .int .i64 t]) /\ Below w.heap.size w w' := by
  obtain ⟨s, hs⟩ : ∃ s, IntKind.i64.wrap (base + ((m + 1 : Nat) : Int)) = s := ⟨_, rfl⟩
  rw [hs]
  have hs1 : IntKind.i64.wrap (base + ((m : Int) + 1)) = s := by rw [← hs]; simp
  have Hs := hidP hs
  clear hs
  have hn : ¬ ((m : Int) + 1 = 0) := by omega
  have hi0 : (0 : Int) <= (m : Int) := by omega
  have hi1 : (m : Int) < (m : Int) + 1 := by omega
  have p1 := Blk.new w 43 #[.int .i64 base, .int .i64 bt, .slice (some ⟨b, o, none⟩) (m + 1) cap]
  have hc1 : (w.alloc (.cells #[.int .i64 base, .int .i64 bt, .slice (some ⟨b, o, none⟩) (m + 1) cap] 43)).cell? ⟨b, o + m * 9, none⟩ = some (.int .i64 t) := ((alloc0 (Below.refl w.heap.size w) _).cell (p := ⟨b, o + m * 9, none⟩) hb).trans hc
  have hbs : b < (w.alloc (.cells #[.int .i64 base, .int .i64 bt, .slice (some ⟨b, o, none⟩) (m + 1) cap] 43)).heap.size := by simp; omega
  have B0 : Below w.heap.size w (w.alloc (.cells #[.int .i64 base, .int .i64 bt, .slice (some ⟨b, o, none⟩) (m + 1) cap] 43)) := alloc0 (Below.refl _ _) _
  go_enter Tryz.func33, Tryz.ntmps33
  go_wp2_with fail
  go_quiet (fail)
  go_wp2
  go_ret2
  exact ⟨rfl, below_drewN B0 _⟩
theorem specLast_none (base bt : Int) (A : Option Addr) (cap : Nat) (w : World) :
    Calls Tryz.prog 33 #[.agg #[.int .i64 base, .int .i64 bt, .slice A 0 cap]] w fun e w' => e = .returned (.tuple #[.int .i64 base, .int .i64 bt]) /\ Below w.heap.size w w' := by
  have B0 : Below w.heap.size w (w.alloc (.cells #[.int .i64 base, .int .i64 bt, .slice A 0 cap] 43)) := alloc0 (Below.refl _ _) _
  go_enter Tryz.func33, Tryz.ntmps33
  go_wp2_with fail
  go_quiet (fail)
  go_wp2
  go_ret2
  exact ⟨rfl, below_drewN B0 _⟩
theorem specLast_any (base bt : Int) (A : Option Addr) (cap : Nat) (l : List En) (hl : l.length <= 3000000) (w : World) (hA : At w A l) :
    Calls Tryz.prog 33 #[.agg #[.int .i64 base, .int .i64 bt, .slice A l.length cap]] w fun e w' => e = .returned (.tuple #[.int .i64 (lastN base l), .int .i64 (lastT bt l)]) /\ Below w.heap.size w w' := by
  by_cases h : l = []
  . subst h
    exact specLast_none base bt A cap w
  . obtain ⟨b, o, rfl, hbs, hIn⟩ := hA.resolve_left h
    obtain ⟨m, hm⟩ : ∃ m, l.length = m + 1 := ⟨l.length - 1, by have := List.length_pos_iff.2 h; omega⟩
    have hlt : m < l.length := by omega
    have c := (hIn.getEn m hlt).1
    have e1 : lastN base l = IntKind.i64.wrap (base + ((m + 1 : Nat) : Int)) := by unfold lastN; rw [if_neg h, hm]
    have e2 : lastT bt l = l[m].term := by
      unfold lastT
      rw [List.getLast?_eq_getElem?, hm, Nat.add_sub_cancel, List.getElem?_eq_getElem hlt]
      rfl
    rw [e1, e2, hm]
    exact specLast_core base bt b o cap m (by omega) _ w hbs c
set_option maxRecDepth 100000 in
set_option maxHeartbeats 1000000 in
theorem implLast_core (base bt : Int) (b o cap m : Nat) (hm : m + 1 <= 3000000) (t : Int) (w : World) (hb : b < w.heap.size) (hc : w.cell? ⟨b, o + m * 9, none⟩ = some (.int .i64 t)) :
    Calls Tryz.prog 46 #[.agg #[.int .i64 base, .int .i64 bt, .slice (some ⟨b, o, none⟩) (m + 1) cap]] w fun e w' => e = .returned (.tuple #[.int .i64 (IntKind.i64.wrap (base + ((m + 1 : Nat) : Int))), .int .i64 t]) /\ Below w.heap.size w w' := by
  obtain ⟨s, hs⟩ : ∃ s, IntKind.i64.wrap (base + ((m + 1 : Nat) : Int)) = s := ⟨_, rfl⟩
  rw [hs]
  have hs1 : IntKind.i64.wrap (base + ((m : Int) + 1)) = s := by rw [← hs]; simp
  have Hs := hidP hs
  clear hs
  have hn : ¬ ((m : Int) + 1 = 0) := by omega
  have hi0 : (0 : Int) <= (m : Int) := by omega
  have hi1 : (m : Int) < (m : Int) + 1 := by omega
  have p1 := Blk.new w 43 #[.int .i64 base, .int .i64 bt, .slice (some ⟨b, o, none⟩) (m + 1) cap]
  have hc1 : (w.alloc (.cells #[.int .i64 base, .int .i64 bt, .slice (some ⟨b, o, none⟩) (m + 1) cap] 43)).cell? ⟨b, o + m * 9, none⟩ = some (.int .i64 t) := ((alloc0 (Below.refl w.heap.size w) _).cell (p := ⟨b, o + m * 9, none⟩) hb).trans hc
  have hbs : b < (w.alloc (.cells #[.int .i64 base, .int .i64 bt, .slice (some ⟨b, o, none⟩) (m + 1) cap] 43)).heap.size := by simp; omega
  have B0 : Below w.heap.size w (w.alloc (.cells #[.int .i64 base, .int .i64 bt, .slice (some ⟨b, o, none⟩) (m + 1) cap] 43)) := alloc0 (Below.refl _ _) _
  go_enter Tryz.func46, Tryz.ntmps46
  go_wp2_with fail
  go_quiet (fail)
  go_wp2
  go_ret2
  exact ⟨rfl, below_drewN B0 _⟩
theorem implLast_none (base bt : Int) (A : Option Addr) (cap : Nat) (w : World) :
    Calls Tryz.prog 46 #[.agg #[.int .i64 base, .int .i64 bt, .slice A 0 cap]] w fun e w' => e = .returned (.tuple #[.int .i64 base, .int .i64 bt]) /\ Below w.heap.size w w' := by
  have B0 : Below w.heap.size w (w.alloc (.cells #[.int .i64 base, .int .i64 bt, .slice A 0 cap] 43)) := alloc0 (Below.refl _ _) _
  go_enter Tryz.func46, Tryz.ntmps46
  go_wp2_with fail
  go_quiet (fail)
  go_wp2
  go_ret2
  exact ⟨rfl, below_drewN B0 _⟩
theorem implLast_any (base bt : Int) (A : Option Addr) (cap : Nat) (l : List En) (hl : l.length <= 3000000) (w : World) (hA : At w A l) :
    Calls Tryz.prog 46 #[.agg #[.int .i64 base, .int .i64 bt, .slice A l.length cap]] w fun e w' => e = .returned (.tuple #[.int .i64 (lastN base l), .int .i64 (lastT bt l)]) /\ Below w.heap.size w w' := by
  by_cases h : l = []
  . subst h
    exact implLast_none base bt A cap w
  . obtain ⟨b, o, rfl, hbs, hIn⟩ := hA.resolve_left h
    obtain ⟨m, hm⟩ : ∃ m, l.length = m + 1 := ⟨l.length - 1, by have := List.length_pos_iff.2 h; omega⟩
    have hlt : m < l.length := by omega
    have c := (hIn.getEn m hlt).1
    have e1 : lastN base l = IntKind.i64.wrap (base + ((m + 1 : Nat) : Int)) := by unfold lastN; rw [if_neg h, hm]
    have e2 : lastT bt l = l[m].term := by
      unfold lastT
      rw [List.getLast?_eq_getElem?, hm, Nat.add_sub_cancel, List.getElem?_eq_getElem hlt]
      rfl
    rw [e1, e2, hm]
    exact implLast_core base bt b o cap m (by omega) _ w hbs c
def atN (base i : Int) (l : List En) : Option Nat := if base < i /\ i <= 300 /\ 0 <= base /\ i - base - 1 < (l.length : Int) then some (i - base - 1).toNat else none
def termAt (base bt i : Int) (l : List En) : Int := if i = base then bt else match atN base i l with | none => -1 | some n => (l[n]?.map En.term).getD 0
theorem atN_lt {base i : Int} {l : List En} {n : Nat} (h : atN base i l = some n) : n < l.length /\ (n : Int) = i - base - 1 /\ base < i /\ i <= 300 /\ 0 <= base := by
  unfold atN at h
  split at h
  . rename_i hh
    simp at h
    omega
  . cases h
theorem isIndex_at (x : Int) (w : World) : Calls Tryz.prog 47 #[.int .i64 x] w fun e w' => e = .returned (.bool (inB x 0 300)) /\ w' = w := by
  go_enter Tryz.func47, Tryz.ntmps47
  go_wp2_with (go_at_call 48; refine (within_any _ _ _ _).mono ?_; rintro e w' ⟨rfl, rfl⟩)
  go_ret
  exact ⟨rfl, rfl⟩
set_option maxRecDepth 100000 in
set_option maxHeartbeats 1000000 in
theorem implHas_any (base bt i : Int) (A : Option Addr) (cap : Nat) (l : List En) (hl : l.length <= 3000000) (w : World) :
    Calls Tryz.prog 161 #[.agg #[.int .i64 base, .int .i64 bt, .slice A l.length cap], .int .i64 i] w fun e w' => e = .returned (.bool (atN base i l).isSome) /\ Below w.heap.size w w' := by
  have E1 : Hid (∀ W : World, Calls Tryz.prog 47 #[.int .i64 base] W fun e w' => e = .returned (.bool (inB base 0 300)) /\ w' = W) := fun W => isIndex_at _ W
  have E2 : Hid (∀ W : World, Calls Tryz.prog 47 #[.int .i64 i] W fun e w' => e = .returned (.bool (inB i 0 300)) /\ w' = W) := fun W => isIndex_at _ W
  have B0 : Below w.heap.size w (w.alloc (.cells #[.int .i64 base, .int .i64 bt, .slice A l.length cap] 43)) := alloc0 (Below.refl _ _) _
  by_cases h1 : 0 <= base /\ base <= 300
  . have e1 : inB base 0 300 = true := by simp [inB, h1]
    rw [e1] at E1
    clear e1
    obtain ⟨h10, h11⟩ := h1
    by_cases h2 : 0 <= i /\ i <= 300
    . have e2 : inB i 0 300 = true := by simp [inB, h2]
      rw [e2] at E2
      clear e2
      obtain ⟨h20, h21⟩ := h2
      by_cases h3 : base < i
      . have h3' : i > base := h3
        by_cases h4 : i <= base + (l.length : Int)
        . have e : Hid ((atN base i l).isSome = true) := by show _ = _; unfold atN; rw [if_pos ⟨h3, h21, h10, by omega⟩]; rfl
          go_enter Tryz.func161, Tryz.ntmps161
          go_wp2_with fail
          refine (E1.out _).mono ?_
          rintro e w1 ⟨rfl, rfl⟩
          go_wp2_with fail
          refine (E2.out _).mono ?_
          rintro e w1 ⟨rfl, rfl⟩
          go_wp2
          go_ret
          exact ⟨by rw [e.out]; rfl, B0⟩
        . have e : Hid ((atN base i l).isSome = false) := by show _ = _; unfold atN; rw [if_neg (by omega)]; rfl
          have h4' : base + (l.length : Int) < i := by omega
          go_enter Tryz.func161, Tryz.ntmps161
          go_wp2_with fail
          refine (E1.out _).mono ?_
          rintro e w1 ⟨rfl, rfl⟩
          go_wp2_with fail
          refine (E2.out _).mono ?_
          rintro e w1 ⟨rfl, rfl⟩
          go_wp2
          go_ret
          exact ⟨by rw [e.out]; first | rfl | simp_all, B0⟩
      . have e : Hid ((atN base i l).isSome = false) := by show _ = _; unfold atN; rw [if_neg (by omega)]; rfl
        go_enter Tryz.func161, Tryz.ntmps161
        go_wp2_with fail
        refine (E1.out _).mono ?_
        rintro e w1 ⟨rfl, rfl⟩
        go_wp2_with fail
        refine (E2.out _).mono ?_
        rintro e w1 ⟨rfl, rfl⟩
        go_wp2
        go_ret
        exact ⟨by rw [e.out]; rfl, B0⟩
    . have e2 : inB i 0 300 = false := by simp only [inB, h2, decide_false]
      rw [e2] at E2
      have e : Hid ((atN base i l).isSome = false) := by show _ = _; unfold atN; rw [if_neg (by omega)]; rfl
      clear e2 h2
      go_enter Tryz.func161, Tryz.ntmps161
      go_wp2_with fail
      refine (E1.out _).mono ?_
      rintro e w1 ⟨rfl, rfl⟩
      go_wp2_with fail
      refine (E2.out _).mono ?_
      rintro e w1 ⟨rfl, rfl⟩
      go_wp2
      go_ret
      exact ⟨by rw [e.out]; rfl, B0⟩
  . have e1 : inB base 0 300 = false := by simp only [inB, h1, decide_false]
    rw [e1] at E1
    have e : Hid ((atN base i l).isSome = false) := by show _ = _; unfold atN; rw [if_neg (by omega)]; rfl
    clear e1 h1
    go_enter Tryz.func161, Tryz.ntmps161
    go_wp2_with fail
    refine (E1.out _).mono ?_
    rintro e w1 ⟨rfl, rfl⟩
    go_wp2
    go_ret
    exact ⟨by rw [e.out]; rfl, B0⟩
theorem get_term {l : List En} {n : Nat} (h : n < l.length) : (l[n]?.map En.term).getD 0 = l[n].term := by simp [h]
set_option maxRecDepth 100000 in
set_option maxHeartbeats 1000000 in
theorem implTermAt_any (base bt i : Int) (hi : I64 base /\ I64 i) (A : Option Addr) (cap : Nat) (l : List En) (hl : l.length <= 3000000) (w : World) (hA : At w A l) :
    Calls Tryz.prog 113 #[.agg #[.int .i64 base, .int .i64 bt, .slice A l.length cap], .int .i64 i] w fun e w' => e = .returned (.int .i64 (termAt base bt i l)) /\ Below w.heap.size w w' := by
  have HA := hidP hA
  clear hA
  have B0 : Below w.heap.size w (w.alloc (.cells #[.int .i64 base, .int .i64 bt, .slice A l.length cap] 43)) := alloc0 (Below.refl _ _) _
  by_cases h0 : i = base
  . have e : Hid (termAt base bt i l = bt) := by show _ = _; unfold termAt; rw [if_pos h0]
    subst h0
    go_enter Tryz.func113, Tryz.ntmps113
    go_wp2
    go_ret
    exact ⟨by rw [e.out]; rfl, B0⟩
  . have e : Hid (termAt base bt i l = match atN base i l with | none => -1 | some n => (l[n]?.map En.term).getD 0) := by show _ = _; unfold termAt; rw [if_neg h0]
    have HC : Hid (∀ W : World, Calls Tryz.prog 161 #[.agg #[.int .i64 base, .int .i64 bt, .slice A l.length cap], .int .i64 i] W fun e w' => e = .returned (.bool (atN base i l).isSome) /\ Below W.heap.size W w') := fun W => implHas_any base bt i A cap l hl W
    cases ha : atN base i l with
    | none =>
      rw [ha] at e HC
      clear ha hi
      simp only [Option.isSome] at HC
      go_enter Tryz.func113, Tryz.ntmps113
      go_wp2_with fail
      refine (HC.out _).mono ?_
      rintro e w1 ⟨rfl, g1⟩
      go_wp2
      go_ret
      exact ⟨by rw [e.out]; rfl, via0 g1 B0⟩
    | some n =>
      obtain ⟨hlt, hn, h1, h2, h3⟩ := atN_lt ha
      rw [ha] at e HC
      have e' := hidP (e.out.trans (get_term hlt))
      simp only [Option.isSome] at HC
      clear ha e hi h0
      obtain ⟨b, o, rfl, hbs, hIn⟩ : ∃ b o, A = some ⟨b, o, none⟩ /\ b < w.heap.size /\ In w b o l := by
        rcases HA.out with h | h
        . subst h; simp at hlt
        . exact h
      obtain rfl : i = base + 1 + (n : Int) := by omega
      clear hn
      have k0 : ¬ base + 1 + (n : Int) = base := by omega
      have k2 : base + 1 + (n : Int) - base - 1 = (n : Int) := by omega
      go_enter Tryz.func113, Tryz.ntmps113
      go_wp2_with fail
      refine (HC.out _).mono ?_
      rintro e w1 ⟨rfl, g1⟩
      have p1 := (Blk.new w 43 #[.int .i64 base, .int .i64 bt, .slice (some ⟨b, o, none⟩) l.length cap]).below g1 (by simp)
      obtain ⟨u0, u1, u2⟩ := p1.row3
      have B1 := via0 g1 (alloc0 (Below.refl w.heap.size w) _)
      obtain ⟨c0, c1, c2, c3, c4, c5, c6, c7, c8⟩ := (hIn.below hbs B1).getEn n hlt
      go_wp2
      go_ret
      exact ⟨by rw [e'.out]; rfl, B1⟩
end Go.Proofs.YtaefjifcnoiplaaGreat.Gen
