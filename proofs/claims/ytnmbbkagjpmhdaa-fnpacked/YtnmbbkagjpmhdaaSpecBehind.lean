/-
  spec.l3Behind at this seat.
-/
import Derived.Test.YtnmbbkagjpmhdaaPackPure
import Derived.Test.YtnmbbkagjpmhdaaSpecCopy
namespace Go.Proofs.Ytnmbbkagjpmhdaa.Items
open Go.ChangeShapes Go.WideShapes Go.ChangeAt Go.RowKit Go.Shelf Base
set_option linter.unusedVariables false
set_option linter.unusedSimpArgs false

set_option maxRecDepth 100000 in
set_option maxHeartbeats 1000000 in
theorem behind_any (start next : Int) (i : Nat) (A : Option Addr) (cap : Nat) (l : List It) (hl : l.length ≤ 1048576) (hi : i < l.length) (w : World) (hA : At w A l) :
    Calls Try.prog 51 #[.agg #[.int .i64 start, .int .i64 next, .slice A l.length cap], .int .i64 (i : Int)] w fun e w' => e = .returned (.bool (hasKey l[i].key.toList (l.drop (i + 1)))) ∧ Below w.heap.size w w' := by
  obtain ⟨b, o, rfl, hb, hin⟩ : ∃ b o, A = some ⟨b, o, none⟩ ∧ b < w.heap.size ∧ In w b o l := hA.resolve_left (fun h => by rw [h] at hi; simp at hi)
  have Hin := hidP hin
  clear hA hin
  have hi0 : (0 : Int) ≤ (i : Int) := by omega
  have hi1 : (i : Int) < (l.length : Int) := by omega
  have hi2 : (i : Int) ≤ 1048576 := by omega
  go_enter Try.func51, Try.ntmps51
  go_wp2
  have P0 := Blk.new w 26 #[.int .i64 start, .int .i64 next, .slice (some ⟨b, o, none⟩) l.length cap]
  go_loopw [5] (fun k w' => ∃ n : Nat, k = .int .i64 (n : Int) ∧ i + 1 ≤ n ∧ n ≤ l.length ∧ Hid (Blk w' w.heap.size 26 #[.int .i64 start, .int .i64 next, .slice (some ⟨b, o, none⟩) l.length cap]) ∧ Below w.heap.size w w' ∧ Hid (hasKey l[i].key.toList (l.drop n) = hasKey l[i].key.toList (l.drop (i + 1)))) (fun k _ => l.length - (intOf k).toNat)
  case atStart => exact ⟨i + 1, by go_num, Nat.le_refl _, hi, P0, alloc0 (Below.refl _ _) _, rfl⟩
  case round =>
    obtain ⟨n, rfl, hn1, hn2, b0, hbl, hk⟩ := hrel
    obtain ⟨s0, s1, s2⟩ := b0.out.row
    by_cases hlt : n < l.length
    · have hn0 : (0 : Int) ≤ (n : Int) := by omega
      have hn3 : (n : Int) < (l.length : Int) := by omega
      obtain ⟨c0, c1, c2, c3, c4⟩ := (Hin.out.below hb hbl).get n hlt
      obtain ⟨d0, d1, d2, d3, d4⟩ := (Hin.out.below hb hbl).get i hi
      have hst := hasKey_step (key := l[i].key.toList) hlt
      by_cases hx : l[n].key.toList = l[i].key.toList
      · have hF : Hid (hasKey l[i].key.toList (l.drop (i + 1)) = true) := by show _ = _; rw [← hk.out, hst]; simp [hx]
        have hx' : (l[n].key.toList == l[i].key.toList) = true := by simpa using hx
        clear hst hx
        go_wp2
        go_region_held3 (fun w' => w'.cell? ⟨w.heap.size, 2, none⟩ = some (.slice (some ⟨b, o, none⟩) l.length cap) ∧ w'.cell? ⟨b, o + n * 5 + 1, none⟩ = some (.string l[n].key) ∧ w'.cell? ⟨b, o + i * 5 + 1, none⟩ = some (.string l[i].key)) (first | exact ⟨s2, c1, d1⟩ | go_keep) (fail)
        all_goals
          go_wp2
          go_ret
          exact ⟨by rw [hF.out]; rfl, hbl.drew⟩
      · have hx' : (l[n].key.toList == l[i].key.toList) = false := by simpa using hx
        have hF : Hid (hasKey l[i].key.toList (l.drop (n + 1)) = hasKey l[i].key.toList (l.drop (i + 1))) := by show _ = _; rw [← hk.out, hst, hx']; rfl
        clear hst hx
        go_wp2
        go_region_held3 (fun w' => w'.cell? ⟨w.heap.size, 2, none⟩ = some (.slice (some ⟨b, o, none⟩) l.length cap) ∧ w'.cell? ⟨b, o + n * 5 + 1, none⟩ = some (.string l[n].key) ∧ w'.cell? ⟨b, o + i * 5 + 1, none⟩ = some (.string l[i].key)) (first | exact ⟨s2, c1, d1⟩ | go_keep) (fail)
        all_goals
          go_wp2
          exact ⟨⟨n + 1, by go_num, by omega, by omega, b0.out.drew, hbl.drew, hF⟩, by simp [intOf]; omega⟩
    · have hF : Hid (hasKey l[i].key.toList (l.drop (i + 1)) = false) := by show _ = _; rw [← hk.out, List.drop_eq_nil_of_le (by omega)]; rfl
      go_wp2
      go_ret
      exact ⟨by rw [hF.out]; rfl, hbl⟩
end Go.Proofs.Ytnmbbkagjpmhdaa.Items
