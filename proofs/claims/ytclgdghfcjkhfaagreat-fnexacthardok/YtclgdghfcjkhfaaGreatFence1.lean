/-
  What FnFenced calls besides: sameMaker, MakerOk (as far as it is needed), big.
-/
import Derived.Test.YtclgdghfcjkhfaaGreatMakers
import Derived.Test.YtclgdghfcjkhfaaGreatInB
namespace Go.Proofs.YtclgdghfcjkhfaaGreat.Gen
open Go.ChangeShapes Go.WideShapes Go.ChangeAt Go.RowKit Go.Joins Go.Deep Base
set_option linter.unusedVariables false
set_option linter.unusedSimpArgs false

set_option maxRecDepth 100000 in
set_option maxHeartbeats 1000000 in
theorem marksRight_any (row who epoch last : Int) (h0 : -1 ≤ last) (h1 : last ≤ 100000) (A : Option Addr) (cap : Nat) (l : List Mk) (hl : l.length ≤ 1048576) (w : World) (hA : At w A l) :
    Calls Tryz.prog 115 #[.agg #[.int .i64 row, .int .i64 who, .int .i64 epoch, .int .i64 last, .slice A l.length cap]] w fun e w' => ∃ v : Bool, e = .returned (.bool v) ∧ (v = true → ∀ x ∈ l, x.seq ≤ last) ∧ Below w.heap.size w w' := by
  have HA : Hid (At w A l) := hA
  clear hA
  go_enter Tryz.func115, Tryz.ntmps115
  go_wp2
  go_loopw [3, 4, 16] (fun s lo i w' => ∃ (n : Nat) (x y : Int), i = .int .i64 (n : Int) ∧ s = .int .i64 x ∧ lo = .int .i64 y ∧ n ≤ l.length ∧ x ≤ last ∧ -2000000 ≤ x ∧ Hid (x = last - l.length + n) ∧ Hid (∀ (j : Nat) (hj : j < l.length), j < n → l[j].seq ≤ last) ∧ Below w.heap.size w w') (fun _ _ i _ => l.length - (intOf i).toNat)
  case atStart => exact ⟨0, _, 0, rfl, rfl, rfl, by omega, by omega, by omega, by show _ = _; omega, fun j hj h => by omega, alloc0 (Below.refl _ _) _⟩
  case round =>
    obtain ⟨n, x, y, rfl, rfl, rfl, hn, hx0, hx1, hx, hall, hbl⟩ := hrel
    by_cases hlt : n < l.length
    · obtain ⟨b, o, rfl, hbs, hin⟩ : ∃ b o, A = some ⟨b, o, none⟩ ∧ b < w.heap.size ∧ In w b o l := by
        rcases HA.out with h | h
        · subst h; simp at hlt
        · exact h
      obtain ⟨c0, c1⟩ := (hin.below hbs hbl).getMk n hlt
      have hi0 : (0 : Int) ≤ (n : Int) := by omega
      have hi1 : (n : Int) < (l.length : Int) := by omega
      by_cases hs : l[n].seq = x + 1
      · have hall' : Hid (∀ (j : Nat) (hj : j < l.length), j < n + 1 → l[j].seq ≤ last) := fun j hj h => by
          by_cases e : j = n
          · subst e; have := hx.out; omega
          · exact hall.out j hj (by omega)
        have hxl : x + 1 ≤ last := by have := hx.out; omega
        cases hw : inB l[n].off y 100000
        · go_wp2_with (go_at_call 27; refine (within_any _ _ _ _).mono ?_; rw [hw]; rintro e w1 ⟨rfl, rfl⟩)
          go_ret
          exact ⟨false, rfl, by simp, by repeat (first | exact Below.refl _ _ | assumption | refine via0 (by assumption) ?_ | refine Below.drew ?_ | refine alloc0 ?_ _)⟩
        · go_wp2_with (go_at_call 27; refine (within_any _ _ _ _).mono ?_; rw [hw]; rintro e w1 ⟨rfl, rfl⟩)
          exact ⟨⟨n + 1, x + 1, _, by go_num, rfl, rfl, by omega, hxl, by omega, by have := hx.out; show _ = _; omega, hall', by repeat (first | exact Below.refl _ _ | assumption | refine via0 (by assumption) ?_ | refine Below.drew ?_ | refine alloc0 ?_ _)⟩, by simp [intOf]; omega⟩
      · go_wp2_with fail
        go_ret
        exact ⟨false, rfl, by simp, by repeat (first | exact Below.refl _ _ | assumption | refine via0 (by assumption) ?_ | refine Below.drew ?_ | refine alloc0 ?_ _)⟩
    · go_wp2
      go_ret
      exact ⟨true, rfl, fun _ x hx => by obtain ⟨j, hj, rfl⟩ := List.mem_iff_getElem.1 hx; exact hall.out j hj (by omega), hbl⟩
end Go.Proofs.YtclgdghfcjkhfaaGreat.Gen
