/-
  What the library's slices.Insert does to memory where it makes a new list of makers, at this seat: what is appended, what is copied, what is cut. No condition but that there are at most 1048576.
-/
import Derived.Test.YtpbbpjckkccjaaaMakList2
import Derived.Deep.AppendSrc
import Derived.Laws.CopyRow
namespace Go.Proofs.Ytpbbpjckkccjaaa.Gen
open Go.ChangeShapes Go.WideShapes Go.ChangeAt Go.RowKit Go.Joins Go.Deep Base
set_option linter.unusedVariables false
set_option linter.unusedSimpArgs false

theorem cellsOf_in {α : Type} [Cel α] {w : World} {b o : Nat} {l : List α} (h : In w b o l) : ∀ j v, (flat l)[j]? = some v → w.cell? ((⟨b, o, none⟩ : Addr).add j) = some v := fun j v hv => by rw [Addr.add_mid]; exact h j v hv
theorem capFits (n m : Nat) (h : m < n) (hn : n ≤ 3000000) : Builtin.nextslicecap n m * 56 ≤ 281474976710656 := by
  have h1 := nextslicecap_le (need := n) (old := m) (by omega)
  have := Nat.mul_le_mul_right 56 h1
  omega
theorem ownsNew {w : World} {B n c : Nat} {t : TypeId} {cur : Array Value} {k : Nat} {xs : List Value} (hB : B ≤ w.heap.size) (hx : xs.length = n * k) (hn : n ≤ c) (hc : c ≤ maxLen) (hs : cur.size = c * k) (ht : cur.toList.take (n * k) = xs) :
    (w.alloc (.cells cur t)).ownsRow B t k (.slice (some ⟨w.heap.size, 0, none⟩) n c) n xs :=
  ⟨hx, .inr ⟨w.heap.size, c, cur, rfl, hB, heap_new w _, hn, hc, hs, ht⟩⟩
/-- One behind the list. -/
theorem ins_append (g gx : Nat) (l : List MC) (x : MC) (hl : l.length ≤ 1048576) (w : World) (hA : In w g 0 l) (hX : In w gx 0 [x]) :
    ∃ c w', (Builtin.append_ #[30, 30] 30 #[.slice (some ⟨g, 0, none⟩) l.length l.length, .slice (some ⟨gx, 0, none⟩) 1 1]).run Try.prog w = .ok (.slice (some ⟨w.heap.size, 0, none⟩) (l.length + 1) c) w' ∧
      w'.ownsRow w.heap.size 26 5 (.slice (some ⟨w.heap.size, 0, none⟩) (l.length + 1) c) (l.length + 1) (flat (l ++ [x])) ∧ Below w.heap.size w w' := by
  obtain ⟨i0, hi, hz0, hz1, hz2⟩ := info_parts infoMC
  have hfl : (flat l).length = l.length * 5 := flat_length l
  have hfx : (flat [x]).length = 1 * 5 := flat_length [x]
  have hold : (Builtin.firstCells i0.size l.length (.slice (some ⟨g, 0, none⟩) l.length l.length)).run Try.prog w.drew = .ok (flat l).toArray w.drew := by
    rw [hz1]; exact run_firstCells_some _ 5 _ _ _ _ _ hfl (fun j v hv => cellsOf_in hA j v hv)
  have hs : Src Try.prog i0.size 30 (.slice (some ⟨gx, 0, none⟩) 1 1) 1 (flat [x]) w := by
    rw [hz1]; exact Src.ofSlice w Try.underlying30 _ _ _ _ hfx (cellsOf_in hX) (flat_ones _)
  have hr := run_append_grow_src (P := Try.prog) w 30 30 30 26 i0 _ Try.underlying30 hi hz0 (some ⟨g, 0, none⟩) l.length l.length (flat l) hold _ 1 (flat [x]) hs (by omega) (by omega) (by rw [hz2]; exact capFits _ _ (by omega) (by omega))
  refine ⟨_, _, hr, ?_, alloc0 (Below.drew (Below.refl _ _)) _⟩
  have hge := grownCap_ge w (l.length + 1) l.length 26
  have hz : Value.cells (.agg #[.int .i64 0, .int .i64 0, .int .i64 0, .int .i64 0, .slice none 0 0]) = #[.int .i64 0, .int .i64 0, .int .i64 0, .int .i64 0, .slice none 0 0] := rfl
  refine ownsNew (w := w.drew) (Nat.le_refl _) (by rw [flat_append, List.length_append, hfl, hfx]; omega) hge (grownCap_le_maxLen _ _ _ _ (by simp [maxLen]; omega)) ?_ ?_
  · simp [Builtin.zeroCells, hfl, hfx, hz]; omega
  · rw [flat_append]
    rw [Array.toList_append, List.take_append_of_le_length (by simp [hfl, hfx]; omega), List.take_of_length_le (by simp [hfl, hfx]; omega)]
/-- Room made behind a head of the list. -/
theorem ins_zeros (g i : Nat) (l : List MC) (hi : i ≤ l.length) (hl : l.length ≤ 1048576) (w : World) (hA : In w g 0 l) (z : Int) (hz : z = ((l.length + 1 - i : Nat) : Int)) :
    ∃ c cur, (Builtin.append_ #[30, 3] 30 #[.slice (some ⟨g, 0, none⟩) i l.length, .int .i64 z]).run Try.prog w = .ok (.slice (some ⟨w.heap.size, 0, none⟩) (l.length + 1) c) (w.drew.alloc (.cells cur 26)) ∧
      l.length + 1 ≤ c ∧ c ≤ maxLen ∧ cur.size = c * 5 ∧ cur.toList.take (i * 5) = flat (l.take i) := by
  obtain ⟨i0, hi0, hz0, hz1, hz2⟩ := info_parts infoMC
  subst hz
  have hfl : (flat (l.take i)).length = i * 5 := (flat_length _).trans (by rw [List.length_take, Nat.min_eq_left hi]; rfl)
  have hpre : In w g 0 (l.take i) := fun j v hv => hA j v (by
    have e : flat l = flat (l.take i) ++ flat (l.drop i) := by rw [← flat_append, List.take_append_drop]
    rw [e, List.getElem?_append_left (List.getElem?_eq_some_iff.1 hv).1]; exact hv)
  have hold : (Builtin.firstCells 5 i (.slice (some ⟨g, 0, none⟩) i l.length)).run Try.prog w.drew = .ok (flat (l.take i)).toArray w.drew :=
    run_firstCells_some _ 5 _ _ _ _ _ hfl (fun j v hv => cellsOf_in hpre j v hv)
  have hge := grownCap_ge w (l.length + 1) l.length 26
  have hzc : Value.cells (.agg #[.int .i64 0, .int .i64 0, .int .i64 0, .int .i64 0, .slice none 0 0]) = #[.int .i64 0, .int .i64 0, .int .i64 0, .int .i64 0, .slice none 0 0] := rfl
  have hint : Try.prog.underlying 3 = some (.int .i64) := Try.underlying3
  have hcf := capFits (l.length + 1) l.length (by omega) (by omega)
  have e1 : i + (l.length + 1 - i) = l.length + 1 := by omega
  refine ⟨grownCap w (l.length + 1) l.length 26, (flat (l.take i)).toArray ++ Builtin.zeroCells #[.int .i64 0, .int .i64 0, .int .i64 0, .int .i64 0, .slice none 0 0] (l.length + 1 - i) ++ Builtin.zeroCells #[.int .i64 0, .int .i64 0, .int .i64 0, .int .i64 0, .slice none 0 0] (grownCap w (l.length + 1) l.length 26 - (l.length + 1)), ?_, hge, grownCap_le_maxLen _ _ _ _ (by simp [maxLen]; omega), ?_, ?_⟩
  · have hw : IntKind.i64.wrap ((l.length + 1 - i : Nat) : Int) = ((l.length + 1 - i : Nat) : Int) := by simp [IntKind.wrap, IntKind.bits, IntKind.signed]; omega
    have n1 : ¬ (((l.length + 1 - i : Nat) : Int) < 0) := by omega
    have n2 : ¬ (((l.length + 1 - i : Nat) : Int) * 56 > 281474976710656) := by omega
    have n3 : ¬ (l.length + 1 ≤ l.length) := by omega
    have n4 : ¬ (l.length + 1 - i = 0) := by omega
    have n5 : ¬ (9223372036854775807 < ((l.length : Int) + 1)) := by omega
    have n6 : ¬ (281474976710656 < Builtin.nextslicecap (l.length + 1) l.length * 56) := by omega
    generalize hk : l.length + 1 - i = k at *
    have n7 : ¬ (9223372036854775807 < (i : Int) + (k : Int)) := by omega
    have n8 : ¬ (k * 5 = 0) := by omega
    simp [n7, n8, Builtin.append_, run_underlying Try.underlying30, run_underlying hint, sizeOf, typeInfo, zeroValue, hi0, hz0, hz1, hz2, hw, n1, n2, e1, n3, n4, n5, n6, Question.forced, hold, newRow, grownCap, asInt, asIntOf, hzc]
  · simp [Builtin.zeroCells, hfl]; omega
  · simp [hfl]
/-- Records copied over into a block of one's own. -/
theorem run_copy_els (w : World) (dT sT ty elem : TypeId) (size g o dLen dCap : Nat) (a : Addr) (sLen sCap : Nat) (cur : Array Value) (t : TypeId) (cs : List Value)
    (hu : Try.prog.underlying dT = some (.slice elem)) (hs : (Try.prog.info? elem).map (·.size) = some size)
    (hg : w.heap[g]? = some (.cells cur t (0, 0))) (hn : cs.length = Nat.min sLen dLen * size)
    (hsrc : ∀ j v, cs[j]? = some v → w.cell? (a.add j) = some v) (hfit : o + cs.length ≤ cur.size) (h1 : ∀ v ∈ cs, v.oneCell' = true) :
    (Builtin.copy_ #[dT, sT] ty #[.slice (some ⟨g, o, none⟩) dLen dCap, .slice (some a) sLen sCap]).run Try.prog w =
      .ok (goInt (Nat.min sLen dLen)) (w.setRow g (cur.toList.take o ++ cs ++ cur.toList.drop (o + cs.length)).toArray) := by
  have hl := run_loadCells_list (P := Try.prog) w a cs hsrc
  have hst := run_storeCells_at Try.prog g o t cs 0 cur w hg (by simpa using hfit) h1
  rw [hn] at hl
  cases hq : Try.prog.info? elem with
  | none => simp [hq] at hs
  | some i =>
    have hi : i.size = size := by simpa [hq] using hs
    simp [Builtin.copy_, run_underlying hu, Builtin.lenOf, Builtin.firstCells, sizeOf, typeInfo, hq, hi, hl, hst]
theorem run_sizeOf5 (w : World) : (sizeOf 26).run Try.prog w = .ok 5 w := Try.sizeOf26 w
theorem cut_from (g n c i : Nat) (h1 : i ≤ n) (h2 : n ≤ c) (hc : c ≤ maxLen) (z : Int) (hz : z = (i : Int)) (w : World) :
    (Instr.slice 30 (.slice (some ⟨g, 0, none⟩) n c) (some (.int .i64 z)) none none).run Try.prog w = .ok (.slice (some (if c = i then ⟨g, 0, none⟩ else ⟨g, i * 5, none⟩)) (n - i) (c - i)) w := by
  subst hz
  have hc' : c ≤ 9223372036854775807 := hc
  by_cases h : c = i
  · simp [Instr.slice, run_underlying Try.underlying30, Instr.sliceBounds, Instr.sliceBound, asIntOf, run_sizeOf5, h, h1, h2]
  · simp [Instr.slice, run_underlying Try.underlying30, Instr.sliceBounds, Instr.sliceBound, asIntOf, run_sizeOf5, h, h1, h2]
    rw [Addr.add_mid]; simp
end Go.Proofs.Ytpbbpjckkccjaaa.Gen
