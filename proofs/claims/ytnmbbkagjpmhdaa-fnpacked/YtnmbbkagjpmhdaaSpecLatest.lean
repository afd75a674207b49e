/-
  spec.Latest at this seat. No condition but that the items are at most 1048576.
-/
import Derived.Test.YtnmbbkagjpmhdaaItV
namespace Go.Proofs.Ytnmbbkagjpmhdaa.Items
open Go.ChangeShapes Go.WideShapes Go.ChangeAt Go.RowKit Base
set_option linter.unusedVariables false

/-- The last item below place n with that Key. -/
def lastTo (l : List It) (key : List UInt8) : Nat → Option It
  | 0 => none
  | n + 1 => match l[n]? with
    | some x => if x.key.toList = key then some x else lastTo l key n
    | none => lastTo l key n
theorem lastTo_hit {l : List It} {key : List UInt8} {n : Nat} (h : n < l.length) (hx : l[n].key.toList = key) : lastTo l key (n + 1) = some l[n] := by
  simp [lastTo, List.getElem?_eq_getElem h, hx]
theorem lastTo_miss {l : List It} {key : List UInt8} {n : Nat} (h : n < l.length) (hx : ¬ l[n].key.toList = key) : lastTo l key (n + 1) = lastTo l key n := by
  simp [lastTo, List.getElem?_eq_getElem h, hx]
def latest (l : List It) (key : ByteArray) : Option It := lastTo l key.toList l.length

set_option maxHeartbeats 1000000 in
theorem specLatest_any (start next : Int) (key : ByteArray) (A : Option Addr) (cap : Nat) (l : List It) (hl : l.length ≤ 1048576) (w : World) (hA : l = [] ∨ ∃ b o, A = some ⟨b, o, none⟩ ∧ b < w.heap.size ∧ In w b o l) :
    Calls Try.prog 17 #[.agg #[.int .i64 start, .int .i64 next, .slice A l.length cap], .string key] w
      fun e w' => e = .returned (.tuple #[((latest l key).getD It.zero).v, .bool (latest l key).isSome]) ∧ Below w.heap.size w w' := by
  have HA : Hid (l = [] ∨ ∃ b o, A = some ⟨b, o, none⟩ ∧ b < w.heap.size ∧ In w b o l) := hA
  clear hA
  go_enter Try.func17, Try.ntmps17
  go_wp2
  go_loopw [6] (fun i w' => ∃ (n : Nat), i = .int .i64 ((n : Int) - 1) ∧ n ≤ l.length ∧ w' = (w.alloc (.cells #[.int .i64 start, .int .i64 next, .slice A l.length cap] 26)).alloc (.cells #[.int .i64 0, .string ⟨#[]⟩, .string ⟨#[]⟩, .int .i64 0, .int .i64 0] 34) ∧ Hid (lastTo l key.toList n = latest l key)) (fun i _ => (intOf i + 1).toNat)
  case atStart => exact ⟨l.length, rfl, Nat.le_refl _, rfl, rfl⟩
  case round =>
    obtain ⟨n, rfl, hn, rfl, hf⟩ := hrel
    rcases n with _ | n
    · have hF : Hid (latest l key = none) := by show latest l key = none; rw [← hf.out]; rfl
      go_wp2
      exact bodyPost_ret (v := .tuple #[It.zero.v, .bool false]) (by simp [results, Try.results17, go_sem, It.zero, It.v]) rfl ⟨by rw [hF.out]; rfl, by repeat (first | exact Below.refl _ _ | assumption | refine via0 (by assumption) ?_ | refine Below.drew ?_ | refine alloc0 ?_ _ | refine Below.setCell ?_ (by first | exact Nat.le_refl _ | (simp; done) | (simp; omega)) _)⟩
    · have hlt : n < l.length := by omega
      obtain ⟨b, o, rfl, hbs, hin⟩ : ∃ b o, A = some ⟨b, o, none⟩ ∧ b < w.heap.size ∧ In w b o l := by
        rcases HA.out with h | h
        · subst h; simp at hlt
        · exact h
      obtain ⟨c0, c1, c2, c3, c4⟩ := hin.get n hlt
      have j2 : ((n + 1 : Nat) : Int) - 1 = (n : Int) := by omega
      rw [j2]
      have j0 : (n : Int) ≥ 0 := by omega
      by_cases hx : l[n].key.toList = key.toList
      · have hF : Hid (latest l key = some l[n]) := by show latest l key = some l[n]; rw [← hf.out, lastTo_hit hlt hx]
        go_wp2
        exact bodyPost_ret (v := .tuple #[l[n].v, .bool true]) (by simp [results, Try.results17, go_sem, It.v]) rfl ⟨by rw [hF.out]; rfl, by repeat (first | exact Below.refl _ _ | assumption | refine via0 (by assumption) ?_ | refine Below.drew ?_ | refine alloc0 ?_ _ | refine Below.setCell ?_ (by first | exact Nat.le_refl _ | (simp; done) | (simp; omega)) _)⟩
      · have hF : Hid (lastTo l key.toList n = latest l key) := by show lastTo l key.toList n = latest l key; rw [← hf.out, lastTo_miss hlt hx]
        have hx' : (l[n].key.toList == key.toList) = false := by simpa using hx
        go_wp2
        exact ⟨⟨n, rfl, by omega, by first | trivial | rfl, hF⟩, by simp [intOf]⟩
end Go.Proofs.Ytnmbbkagjpmhdaa.Items
