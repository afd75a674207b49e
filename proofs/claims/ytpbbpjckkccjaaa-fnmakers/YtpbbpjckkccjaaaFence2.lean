/-
  What FnFenced calls besides: sameMaker, MakerOk (as far as it is needed).
-/
import Derived.Test.YtpbbpjckkccjaaaFence1
namespace Go.Proofs.Ytpbbpjckkccjaaa.Gen
open Go.ChangeShapes Go.WideShapes Go.ChangeAt Go.RowKit Go.Joins Go.Deep Base
set_option linter.unusedVariables false
set_option linter.unusedSimpArgs false

set_option maxRecDepth 100000 in
set_option maxHeartbeats 2000000 in
theorem implOk_any (row who epoch last window : Int) (A : Option Addr) (cap : Nat) (l : List Mk) (hl : l.length ≤ 1048576) (w : World) (hA : At w A l) :
    Calls Try.prog 17 #[.agg #[.int .i64 row, .int .i64 who, .int .i64 epoch, .int .i64 last, .slice A l.length cap], .int .i64 window] w fun e w' => ∃ v : Bool, e = .returned (.bool v) ∧ (v = true → ∀ x ∈ l, x.seq ≤ last) ∧ Below w.heap.size w w' := by
  have HA : Hid (At w A l) := hA
  clear hA
  by_cases hL : -1 ≤ last ∧ last ≤ 100000
  · have HL := hidP hL
    have hr := fun W hW => marksRight_any row who epoch last HL.out.1 HL.out.2 A cap l hl W hW
    have Hr := hidP hr
    clear hr hL
    go_enter Try.func17, Try.ntmps17
    go_wp2_with (first
      | (go_at_call 44; refine (within_any _ _ _ _).mono ?_; rintro e w' ⟨rfl, rfl⟩)
      | (go_at_call 45; refine (Hr.out _ (HA.out.below (alloc0 (Below.refl _ _) _))).mono ?_; rintro e w1 ⟨v, rfl, hv, g1⟩; have HV := hidP hv; clear hv))
    all_goals
      go_ret
      first
        | exact ⟨v, rfl, HV.out, by repeat (first | exact Below.refl _ _ | assumption | refine via0 (by assumption) ?_ | refine Below.drew ?_ | refine alloc0 ?_ _)⟩
        | exact ⟨false, rfl, by simp, by repeat (first | exact Below.refl _ _ | assumption | refine via0 (by assumption) ?_ | refine Below.drew ?_ | refine alloc0 ?_ _)⟩
        | exact .inl ⟨rfl, by repeat (first | exact Below.refl _ _ | assumption | refine via0 (by assumption) ?_ | refine Below.drew ?_ | refine alloc0 ?_ _)⟩
  · have h4 : inB last (-1) 100000 = false := by simp only [inB, decide_eq_false_iff_not]; exact hL
    clear hL
    go_enter Try.func17, Try.ntmps17
    go_wp2_with (go_at_call 44; refine (within_any _ _ _ _).mono ?_; rintro e w' ⟨rfl, rfl⟩)
    all_goals
      go_ret
      first
        | exact ⟨false, rfl, by simp, by repeat (first | exact Below.refl _ _ | assumption | refine via0 (by assumption) ?_ | refine Below.drew ?_ | refine alloc0 ?_ _)⟩
        | exact .inl ⟨rfl, by repeat (first | exact Below.refl _ _ | assumption | refine via0 (by assumption) ?_ | refine Below.drew ?_ | refine alloc0 ?_ _)⟩

set_option maxRecDepth 100000 in
set_option maxHeartbeats 1000000 in
theorem same_any (row who epoch last : Int) (A A' : Option Addr) (cap cap' : Nat) (l : List Mk) (hl : l.length ≤ 2000000) (w : World) (hA : At w A l) (hA' : At w A' l) :
    Calls Try.prog 12 #[.agg #[.int .i64 row, .int .i64 who, .int .i64 epoch, .int .i64 last, .slice A l.length cap], .agg #[.int .i64 row, .int .i64 who, .int .i64 epoch, .int .i64 last, .slice A' l.length cap']] w fun e w' => e = .returned (.bool true) ∧ Below w.heap.size w w' := by
  have HA : Hid (At w A l) := hA
  have HA' : Hid (At w A' l) := hA'
  clear hA hA'
  go_enter Try.func12, Try.ntmps12
  go_wp2
  have P0 := (Blk.new w 26 #[.int .i64 row, .int .i64 who, .int .i64 epoch, .int .i64 last, .slice A l.length cap]).alloc (.cells #[.int .i64 row, .int .i64 who, .int .i64 epoch, .int .i64 last, .slice A' l.length cap'] 26)
  have P1 := Blk.new (w.alloc (.cells #[.int .i64 row, .int .i64 who, .int .i64 epoch, .int .i64 last, .slice A l.length cap] 26)) 26 #[.int .i64 row, .int .i64 who, .int .i64 epoch, .int .i64 last, .slice A' l.length cap']
  rw [World.size_alloc] at P1
  go_loopw [5] (fun i w' => ∃ (n : Nat), i = .int .i64 (n : Int) ∧ n ≤ l.length ∧ Hid (Blk w' w.heap.size 26 #[.int .i64 row, .int .i64 who, .int .i64 epoch, .int .i64 last, .slice A l.length cap]) ∧ Hid (Blk w' (w.heap.size + 1) 26 #[.int .i64 row, .int .i64 who, .int .i64 epoch, .int .i64 last, .slice A' l.length cap']) ∧ Below w.heap.size w w') (fun i _ => l.length - (intOf i).toNat)
  case atStart => exact ⟨0, rfl, by omega, P0, P1, by repeat (first | exact Below.refl _ _ | assumption | refine via0 (by assumption) ?_ | refine Below.drew ?_ | refine alloc0 ?_ _)⟩
  case round =>
    obtain ⟨n, rfl, hn, b0, b1, hbl⟩ := hrel
    obtain ⟨x0, x1, x2, x3, x4⟩ := b0.out.row5
    obtain ⟨y0, y1, y2, y3, y4⟩ := b1.out.row5
    by_cases hlt : n < l.length
    · obtain ⟨b, o, rfl, hbs, hin⟩ : ∃ b o, A = some ⟨b, o, none⟩ ∧ b < w.heap.size ∧ In w b o l := by
        rcases HA.out with h | h
        · subst h; simp at hlt
        · exact h
      obtain ⟨b', o', rfl, hbs', hin'⟩ : ∃ b o, A' = some ⟨b, o, none⟩ ∧ b < w.heap.size ∧ In w b o l := by
        rcases HA'.out with h | h
        · subst h; simp at hlt
        · exact h
      obtain ⟨c0, c1⟩ := (hin.below hbs hbl).getMk n hlt
      obtain ⟨d0, d1⟩ := (hin'.below hbs' hbl).getMk n hlt
      have hi0 : (0 : Int) ≤ (n : Int) := by omega
      have hi1 : (n : Int) < (l.length : Int) := by omega
      go_wp2
      go_region_held3 (fun w' => w'.cell? ⟨w.heap.size, 4, none⟩ = some (.slice (some ⟨b, o, none⟩) l.length cap) ∧ w'.cell? ⟨w.heap.size + 1, 4, none⟩ = some (.slice (some ⟨b', o', none⟩) l.length cap') ∧ w'.cell? ⟨b, o + n * 2, none⟩ = some (.int .i64 l[n].seq) ∧ w'.cell? ⟨b, o + n * 2 + 1, none⟩ = some (.int .i64 l[n].off) ∧ w'.cell? ⟨b', o' + n * 2, none⟩ = some (.int .i64 l[n].seq) ∧ w'.cell? ⟨b', o' + n * 2 + 1, none⟩ = some (.int .i64 l[n].off))
        (first | exact ⟨x4, y4, c0, c1, d0, d1⟩ | go_keep) (fail)
      all_goals
        go_wp2
        exact ⟨⟨n + 1, by go_num, by omega, b0.out.drew, b1.out.drew, hbl.drew⟩, by simp [intOf]; omega⟩
    · go_wp2
      go_ret
      exact ⟨rfl, hbl⟩
end Go.Proofs.Ytpbbpjckkccjaaa.Gen
