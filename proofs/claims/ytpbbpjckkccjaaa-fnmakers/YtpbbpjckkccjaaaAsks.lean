/-
  MakerAsk of the specification and of the program at this seat: they answer alike. No condition but that there are at most 1048576 marks.
-/
import Derived.Test.YtpbbpjckkccjaaaMakers
namespace Go.Proofs.Ytpbbpjckkccjaaa.Gen
open Go.ChangeShapes Go.WideShapes Go.ChangeAt Go.RowKit Go.Joins Go.Deep Base
set_option linter.unusedVariables false
set_option linter.unusedSimpArgs false

/-- The first mark from place n on that has a number. -/
def markFrom (l : List Mk) (seq : Int) (n : Nat) : Option Mk := (l.drop n).find? fun x => decide (x.seq = seq)
theorem markFrom_end {l : List Mk} {seq : Int} {n : Nat} (h : l.length ≤ n) : markFrom l seq n = none := by
  unfold markFrom; rw [List.drop_eq_nil_of_le h]; rfl
theorem markFrom_hit {l : List Mk} {seq : Int} {n : Nat} (h : n < l.length) (hx : l[n].seq = seq) : markFrom l seq n = some l[n] := by
  unfold markFrom; rw [List.drop_eq_getElem_cons h, List.find?_cons_of_pos (by simpa using hx)]
theorem markFrom_miss {l : List Mk} {seq : Int} {n : Nat} (h : n < l.length) (hx : ¬ l[n].seq = seq) : markFrom l seq n = markFrom l seq (n + 1) := by
  unfold markFrom; rw [List.drop_eq_getElem_cons h, List.find?_cons_of_neg (by simpa using hx)]

def upC (l : List Mk) (seq : Int) : Int := match markFrom l seq 0 with | some _ => 1 | none => 2
def upO (l : List Mk) (seq : Int) : Int := match markFrom l seq 0 with | some x => x.off | none => 0
/-- What is answered, and the Off beside it. -/
def askC (epoch last : Int) (l : List Mk) (ep seq : Int) : Int :=
  if ep < epoch then 4 else if ep > epoch then (if seq = 0 then 0 else 3) else if seq > last then (if wrap64 (seq - 1) = last then 0 else 3) else upC l seq
def askO (epoch last : Int) (l : List Mk) (ep seq : Int) : Int :=
  if ep < epoch then 0 else if ep > epoch then 0 else if seq > last then 0 else upO l seq

set_option maxRecDepth 100000 in
set_option maxHeartbeats 1000000 in
theorem upTo_any (A : Option Addr) (cap : Nat) (l : List Mk) (seq : Int) (hl : l.length ≤ 1048576) (w : World) (hA : At w A l) :
    Calls Try.prog 48 #[.slice A l.length cap, .int .i64 seq] w fun e w' => e = .returned (.tuple #[.int .i64 (upC l seq), .int .i64 (upO l seq)]) ∧ Below w.heap.size w w' := by
  have HA : Hid (At w A l) := hA
  clear hA
  go_enter Try.func48, Try.ntmps48
  go_wp2
  go_loopw [10] (fun i w' => ∃ (n : Nat), i = .int .i64 (n : Int) ∧ n ≤ l.length ∧ Below w.heap.size w w' ∧ Hid (markFrom l seq n = markFrom l seq 0)) (fun i _ => l.length - (intOf i).toNat)
  case atStart => exact ⟨0, rfl, by omega, Below.refl _ _, rfl⟩
  case round =>
    obtain ⟨n, rfl, hn, hbl, hf⟩ := hrel
    by_cases hlt : n < l.length
    · obtain ⟨b, o, rfl, hbs, hin⟩ : ∃ b o, A = some ⟨b, o, none⟩ ∧ b < w.heap.size ∧ In w b o l := by
        rcases HA.out with h | h
        · subst h; simp at hlt
        · exact h
      obtain ⟨c0, c1⟩ := (hin.below hbs hbl).getMk n hlt
      have hi0 : (0 : Int) ≤ (n : Int) := by omega
      have hi1 : (n : Int) < (l.length : Int) := by omega
      by_cases hx : l[n].seq = seq
      · have hF : Hid (markFrom l seq 0 = some l[n]) := by show markFrom l seq 0 = some l[n]; rw [← hf.out, markFrom_hit hlt hx]
        have e1 : Hid (upC l seq = 1) := by show _ = _; unfold upC; rw [hF.out]
        have e2 : Hid (upO l seq = l[n].off) := by show _ = _; unfold upO; rw [hF.out]
        go_wp2
        go_region
        all_goals
          go_wp2
          go_ret2
          exact ⟨by rw [e1.out, e2.out]; rfl, by repeat (first | exact Below.refl _ _ | assumption | refine via0 (by assumption) ?_ | refine Below.drew ?_ | refine alloc0 ?_ _)⟩
      · have hF : Hid (markFrom l seq (n + 1) = markFrom l seq 0) := by show _ = _; rw [← hf.out, markFrom_miss hlt hx]
        go_wp2
        exact ⟨⟨n + 1, by go_num, by omega, by repeat (first | exact Below.refl _ _ | assumption | refine via0 (by assumption) ?_ | refine Below.drew ?_ | refine alloc0 ?_ _), hF⟩, by simp [intOf]; omega⟩
    · have hF : Hid (markFrom l seq 0 = none) := by show markFrom l seq 0 = none; rw [← hf.out, markFrom_end (by omega)]
      have e1 : Hid (upC l seq = 2) := by show _ = _; unfold upC; rw [hF.out]
      have e2 : Hid (upO l seq = 0) := by show _ = _; unfold upO; rw [hF.out]
      go_wp2
      go_ret2
      exact ⟨by rw [e1.out, e2.out]; rfl, hbl⟩

theorem newEpoch_any (seq : Int) (w : World) : Calls Try.prog 46 #[.int .i64 seq] w fun e w' => e = .returned (.int .i64 (if seq = 0 then 0 else 3)) ∧ w' = w := by
  by_cases h : seq = 0
  all_goals
    go_enter Try.func46, Try.ntmps46
    go_wp2
    go_ret
    exact ⟨by simp [h], rfl⟩
theorem behindLast_any (last seq : Int) (w : World) : Calls Try.prog 47 #[.int .i64 last, .int .i64 seq] w fun e w' => e = .returned (.int .i64 (if wrap64 (seq - 1) = last then 0 else 3)) ∧ w' = w := by
  by_cases h : wrap64 (seq - 1) = last
  all_goals
    go_enter Try.func47, Try.ntmps47
    go_wp2
    go_ret
    exact ⟨by simp [h], rfl⟩

set_option maxRecDepth 100000 in
set_option maxHeartbeats 1000000 in
theorem implAsk_any (row who epoch last ep seq : Int) (A : Option Addr) (cap : Nat) (l : List Mk) (hl : l.length ≤ 1048576) (w : World) (hA : At w A l) :
    Calls Try.prog 19 #[.agg #[.int .i64 row, .int .i64 who, .int .i64 epoch, .int .i64 last, .slice A l.length cap], .int .i64 ep, .int .i64 seq] w fun e w' => e = .returned (.tuple #[.int .i64 (askC epoch last l ep seq), .int .i64 (askO epoch last l ep seq)]) ∧ Below w.heap.size w w' := by
  have HA : Hid (∀ W : World, Below w.heap.size w W → At W A l) := fun W hW => hA.below hW
  clear hA
  by_cases h1 : ep < epoch
  · have e1 : Hid (askC epoch last l ep seq = 4) := by show _ = _; simp [askC, h1]
    have e2 : Hid (askO epoch last l ep seq = 0) := by show _ = _; simp [askO, h1]
    go_enter Try.func19, Try.ntmps19
    go_wp2
    go_ret2
    exact ⟨by rw [e1.out, e2.out]; rfl, by repeat (first | exact Below.refl _ _ | assumption | refine via0 (by assumption) ?_ | refine Below.drew ?_ | refine alloc0 ?_ _)⟩
  by_cases h2 : ep > epoch
  · have e1 : Hid (askC epoch last l ep seq = if seq = 0 then 0 else 3) := by show _ = _; simp [askC, h1, h2]
    have e2 : Hid (askO epoch last l ep seq = 0) := by show _ = _; simp [askO, h1, h2]
    generalize hr : (if seq = 0 then (0 : Int) else 3) = r at e1
    have hc : ∀ W, Calls Try.prog 46 #[.int .i64 seq] W fun e w' => e = .returned (.int .i64 r) ∧ w' = W := fun W => by have := newEpoch_any seq W; rw [hr] at this; exact this
    have Hc := hidP hc
    clear hc hr
    go_enter Try.func19, Try.ntmps19
    go_wp2_with (go_at_call 46; refine (Hc.out _).mono ?_; rintro e w1 ⟨rfl, rfl⟩)
    go_ret2
    exact ⟨by rw [e1.out, e2.out]; rfl, by repeat (first | exact Below.refl _ _ | assumption | refine via0 (by assumption) ?_ | refine Below.drew ?_ | refine alloc0 ?_ _)⟩
  by_cases h3 : seq > last
  · have e1 : Hid (askC epoch last l ep seq = if wrap64 (seq - 1) = last then 0 else 3) := by show _ = _; simp [askC, h1, h2, h3]
    have e2 : Hid (askO epoch last l ep seq = 0) := by show _ = _; simp [askO, h1, h2, h3]
    generalize hr : (if wrap64 (seq - 1) = last then (0 : Int) else 3) = r at e1
    have hc : ∀ W, Calls Try.prog 47 #[.int .i64 last, .int .i64 seq] W fun e w' => e = .returned (.int .i64 r) ∧ w' = W := fun W => by have := behindLast_any last seq W; rw [hr] at this; exact this
    have Hc := hidP hc
    clear hc hr
    go_enter Try.func19, Try.ntmps19
    go_wp2_with (go_at_call 47; refine (Hc.out _).mono ?_; rintro e w1 ⟨rfl, rfl⟩)
    go_ret2
    exact ⟨by rw [e1.out, e2.out]; rfl, by repeat (first | exact Below.refl _ _ | assumption | refine via0 (by assumption) ?_ | refine Below.drew ?_ | refine alloc0 ?_ _)⟩
  · have e1 : Hid (askC epoch last l ep seq = upC l seq) := by show _ = _; simp [askC, h1, h2, h3]
    have e2 : Hid (askO epoch last l ep seq = upO l seq) := by show _ = _; simp [askO, h1, h2, h3]
    go_enter Try.func19, Try.ntmps19
    go_wp2_with (go_at_call 48; refine (upTo_any A cap l seq hl _ (HA.out _ ?_)).mono ?_; (repeat (first | exact Below.refl _ _ | assumption | refine via0 (by assumption) ?_ | refine Below.drew ?_ | refine alloc0 ?_ _)); rintro e w1 ⟨rfl, g1⟩)
    go_ret2
    exact ⟨by rw [e1.out, e2.out]; rfl, by repeat (first | exact Below.refl _ _ | assumption | refine via0 (by assumption) ?_ | refine Below.drew ?_ | refine alloc0 ?_ _)⟩

set_option maxRecDepth 100000 in
set_option maxHeartbeats 1000000 in
theorem specAsk_any (row who epoch last ep seq : Int) (A : Option Addr) (cap : Nat) (l : List Mk) (hl : l.length ≤ 1048576) (w : World) (hA : At w A l) :
    Calls Try.prog 42 #[.agg #[.int .i64 row, .int .i64 who, .int .i64 epoch, .int .i64 last, .slice A l.length cap], .int .i64 ep, .int .i64 seq] w fun e w' => e = .returned (.tuple #[.int .i64 (askC epoch last l ep seq), .int .i64 (askO epoch last l ep seq)]) ∧ Below w.heap.size w w' := by
  have HA : Hid (At w A l) := hA
  clear hA
  by_cases h1 : ep < epoch
  · have e1 : Hid (askC epoch last l ep seq = 4) := by show _ = _; simp [askC, h1]
    have e2 : Hid (askO epoch last l ep seq = 0) := by show _ = _; simp [askO, h1]
    go_enter Try.func42, Try.ntmps42
    go_wp2
    go_ret2
    exact ⟨by rw [e1.out, e2.out]; rfl, by repeat (first | exact Below.refl _ _ | assumption | refine via0 (by assumption) ?_ | refine Below.drew ?_ | refine alloc0 ?_ _)⟩
  by_cases h2 : ep > epoch
  · by_cases h3 : seq = 0
    · subst h3
      have e1 : Hid (askC epoch last l ep 0 = 0) := by show _ = _; simp [askC, h1, h2]
      have e2 : Hid (askO epoch last l ep 0 = 0) := by show _ = _; simp [askO, h1, h2]
      go_enter Try.func42, Try.ntmps42
      go_wp2
      go_ret2
      exact ⟨by rw [e1.out, e2.out]; rfl, by repeat (first | exact Below.refl _ _ | assumption | refine via0 (by assumption) ?_ | refine Below.drew ?_ | refine alloc0 ?_ _)⟩
    · have e1 : Hid (askC epoch last l ep seq = 3) := by show _ = _; simp [askC, h1, h2, h3]
      have e2 : Hid (askO epoch last l ep seq = 0) := by show _ = _; simp [askO, h1, h2]
      go_enter Try.func42, Try.ntmps42
      go_wp2
      go_ret2
      exact ⟨by rw [e1.out, e2.out]; rfl, by repeat (first | exact Below.refl _ _ | assumption | refine via0 (by assumption) ?_ | refine Below.drew ?_ | refine alloc0 ?_ _)⟩
  by_cases h3 : seq > last
  · by_cases h4 : wrap64 (seq - 1) = last
    all_goals
      have e1 : Hid (askC epoch last l ep seq = if wrap64 (seq - 1) = last then 0 else 3) := by show _ = _; simp [askC, h1, h2, h3]
      have e2 : Hid (askO epoch last l ep seq = 0) := by show _ = _; simp [askO, h1, h2, h3]
      have h4' := hidP h4
      go_enter Try.func42, Try.ntmps42
      go_wp2
      go_ret2
      exact ⟨by rw [e1.out, e2.out]; simp [h4'.out], by repeat (first | exact Below.refl _ _ | assumption | refine via0 (by assumption) ?_ | refine Below.drew ?_ | refine alloc0 ?_ _)⟩
  have e1 : Hid (askC epoch last l ep seq = upC l seq) := by show _ = _; simp [askC, h1, h2, h3]
  have e2 : Hid (askO epoch last l ep seq = upO l seq) := by show _ = _; simp [askO, h1, h2, h3]
  go_enter Try.func42, Try.ntmps42
  go_wp2
  go_loopw [8] (fun i w' => ∃ (n : Nat), i = .int .i64 (n : Int) ∧ n ≤ l.length ∧ w' = w.alloc (.cells #[.int .i64 row, .int .i64 who, .int .i64 epoch, .int .i64 last, .slice A l.length cap] 26) ∧ Hid (markFrom l seq n = markFrom l seq 0)) (fun i _ => l.length - (intOf i).toNat)
  case atStart => exact ⟨0, rfl, by omega, rfl, rfl⟩
  case round =>
    obtain ⟨n, rfl, hn, rfl, hf⟩ := hrel
    by_cases hlt : n < l.length
    · obtain ⟨b, o, rfl, hbs, hin⟩ : ∃ b o, A = some ⟨b, o, none⟩ ∧ b < w.heap.size ∧ In w b o l := by
        rcases HA.out with h | h
        · subst h; simp at hlt
        · exact h
      obtain ⟨c0, c1⟩ := hin.getMk n hlt
      have hi0 : (0 : Int) ≤ (n : Int) := by omega
      have hi1 : (n : Int) < (l.length : Int) := by omega
      by_cases hx : l[n].seq = seq
      · have hF : Hid (markFrom l seq 0 = some l[n]) := by show markFrom l seq 0 = some l[n]; rw [← hf.out, markFrom_hit hlt hx]
        have e3 : Hid (upC l seq = 1) := by show _ = _; unfold upC; rw [hF.out]
        have e4 : Hid (upO l seq = l[n].off) := by show _ = _; unfold upO; rw [hF.out]
        go_wp2
        go_region
        all_goals
          go_wp2
          go_ret2
          exact ⟨by rw [e1.out, e2.out, e3.out, e4.out]; rfl, by repeat (first | exact Below.refl _ _ | assumption | refine via0 (by assumption) ?_ | refine Below.drew ?_ | refine alloc0 ?_ _)⟩
      · have hF : Hid (markFrom l seq (n + 1) = markFrom l seq 0) := by show _ = _; rw [← hf.out, markFrom_miss hlt hx]
        go_wp2
        exact ⟨⟨n + 1, by go_num, by omega, by first | trivial | rfl, hF⟩, by simp [intOf]; omega⟩
    · have hF : Hid (markFrom l seq 0 = none) := by show markFrom l seq 0 = none; rw [← hf.out, markFrom_end (by omega)]
      have e3 : Hid (upC l seq = 2) := by show _ = _; unfold upC; rw [hF.out]
      have e4 : Hid (upO l seq = 0) := by show _ = _; unfold upO; rw [hF.out]
      go_wp2
      go_ret2
      exact ⟨by rw [e1.out, e2.out, e3.out, e4.out]; rfl, by repeat (first | exact Below.refl _ _ | assumption | refine via0 (by assumption) ?_ | refine Below.drew ?_ | refine alloc0 ?_ _)⟩
end Go.Proofs.Ytpbbpjckkccjaaa.Gen
