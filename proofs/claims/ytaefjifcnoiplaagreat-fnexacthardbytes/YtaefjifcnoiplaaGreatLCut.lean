/-
  Entries cut and copied: the three forms of a cut, copyOfEntries, cutOf, and From of both sides. No condition but that there are at most 1048576 entries.
-/
import Derived.Test.YtaefjifcnoiplaaGreatLGet
namespace Go.Proofs.YtaefjifcnoiplaaGreat.Gen
open Go.ChangeShapes Go.WideShapes Go.ChangeAt Go.RowKit Go.Joins Go.Deep Base
set_option linter.unusedVariables false
set_option linter.unusedSimpArgs false
def cutA (A : Option Addr) (m i : Nat) : Option Addr := if m = i then A else A.map (·.add (i * 9))
theorem cut_size (w : World) : (sizeOf 89).run Tryz.prog w = .ok 9 w := Tryz.sizeOf89 w
theorem cut_three (A : Option Addr) (n c i j : Nat) (h1 : i <= j) (h2 : j <= c) (hc : c <= maxLen) (w : World) :
    (Instr.slice 41 (.slice A n c) (some (.int .i64 (i : Int))) (some (.int .i64 (j : Int))) (some (.int .i64 (j : Int)))).run Tryz.prog w = .ok (.slice (cutA A j i) (j - i) (j - i)) w := by
  have hc' : c <= 9223372036854775807 := hc
  by_cases h : j = i
  . simp [Instr.slice, run_underlying Tryz.underlying41, Instr.sliceBounds, Instr.sliceBound, asIntOf, cut_size, cutA, h, h1, h2]
    omega
  . simp [Instr.slice, run_underlying Tryz.underlying41, Instr.sliceBounds, Instr.sliceBound, asIntOf, cut_size, cutA, h, h1, h2]
theorem In.take {α : Type} [Cel α] {w : World} {b o : Nat} {l : List α} (h : In w b o l) (n : Nat) : In w b o (l.take n) := fun j v hv => h j v (by
  have e : flat l = flat (l.take n) ++ flat (l.drop n) := by rw [← flat_append, List.take_append_drop]
  rw [e, List.getElem?_append_left (List.getElem?_eq_some_iff.1 hv).1]
  exact hv)
theorem At.take {α : Type} [Cel α] {w : World} {A : Option Addr} {l : List α} (h : At w A l) (n : Nat) : At w A (l.take n) := by
  rcases h with rfl | ⟨b, o, e, hb, hi⟩
  . left; simp
  . exact .inr ⟨b, o, e, hb, hi.take n⟩
theorem At.cut {w : World} {A : Option Addr} {l : List En} (h : At w A l) (m i : Nat) : At w (cutA A m i) ((l.take m).drop i) := by
  by_cases e : m = i
  . subst e; left; simp
  . rcases h with rfl | ⟨b, o, rfl, hb, hi⟩
    . left; simp
    . have e1 : cutA (some ⟨b, o, none⟩) m i = some ⟨b, o + i * 9, none⟩ := by unfold cutA; rw [if_neg e, Option.map_some, Addr.add_mid]
      rw [e1]
      exact .inr ⟨b, o + i * 9, rfl, hb, (hi.take m).drop i⟩
theorem At.cutFrom {w : World} {A : Option Addr} {l : List En} (h : At w A l) {m : Nat} (i : Nat) (hm : l.length <= m) : At w (cutA A m i) (l.drop i) := by
  have := h.cut m i
  rwa [List.take_of_length_le hm] at this
theorem cutOf_any (A : Option Addr) (n c i j : Nat) (h1 : i <= j) (h2 : j <= c) (hc : c <= maxLen) (w : World) :
    Calls Tryz.prog 112 #[.slice A n c, .int .i64 (i : Int), .int .i64 (j : Int)] w fun e w' => e = .returned (.slice (cutA A j i) (j - i) (j - i)) /\ w' = w := by
  have hs := cut_three A n c i j h1 h2 hc
  go_enter Tryz.func112, Tryz.ntmps112
  go_wp2
  go_ret
  exact ⟨rfl, rfl⟩
end Go.Proofs.YtaefjifcnoiplaaGreat.Gen
