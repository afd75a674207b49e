/-
  The library's slices.Insert of one maker into a list without spare room, at this seat: a new list. No condition but that there are at most 1048576.
-/
import Derived.Test.YtpbbpjckkccjaaaMkIns1
namespace Go.Proofs.Ytpbbpjckkccjaaa.Gen
open Go.ChangeShapes Go.WideShapes Go.ChangeAt Go.RowKit Go.Joins Go.Deep Base
set_option linter.unusedVariables false
set_option linter.unusedSimpArgs false

set_option maxRecDepth 100000 in
set_option maxHeartbeats 1000000 in
theorem insert_end (g gx i : Nat) (l : List MC) (x : MC) (hi : i = l.length) (hl : l.length ≤ 1048576) (w : World) (hA : In w g 0 l) (hX : In w gx 0 [x]) :
    Calls Try.prog 39 #[.slice (some ⟨g, 0, none⟩) l.length l.length, .int .i64 (i : Int), .slice (some ⟨gx, 0, none⟩) 1 1] w fun e w' => ∃ g' c, e = .returned (.slice (some ⟨g', 0, none⟩) (l.length + 1) c) ∧ w'.ownsRow w.heap.size 26 5 (.slice (some ⟨g', 0, none⟩) (l.length + 1) c) (l.length + 1) (flat (l.take i ++ x :: l.drop i)) ∧ Below w.heap.size w w' := by
  subst hi
  have e0 : l.take l.length ++ x :: l.drop l.length = l ++ [x] := by simp
  rw [e0]
  clear e0
  have hcut := fun w => cut_from g l.length l.length l.length (Nat.le_refl _) (Nat.le_refl _) (by simp [maxLen]; omega) (l.length : Int) rfl w
  simp only [if_true, Nat.sub_self] at hcut
  obtain ⟨c, w1, hap, ho, hb⟩ := ins_append g gx l x hl w hA hX
  have Ho := hidP ho
  have HB := hidP hb
  clear ho hb hA hX
  go_enter Try.func39, Try.ntmps39
  go_wp2_with (at_builtin; refine wpList_append_is rfl _ _ _ rfl _ _ _ rfl rfl hap ?_)
  go_ret
  exact ⟨_, _, rfl, Ho.out, HB.out⟩

/-- An append of so many, its run known. -/
theorem wpList_room_is {P : Program} {w w' : World} {ops : Array Oper} {rest : List Oper} {o : Oper} {a : Act} {Q : Exit → Act → World → Prop} (hgd : o.guard = none) (s x : Operand) (t t2 : TypeId)
    (ho : o.op = .call { callee := .builtin .append, args := #[s, x], argTypes := #[t, t2] }) (v xv r : Value) (hs : a.eval s = v) (hx : a.eval x = xv)
    (hr : (Builtin.append_ #[t, t2] o.type #[v, xv]).run P w = .ok r w') (h : wpList P ops Q rest (a.put o.dst r) w') : wpList P ops Q (o :: rest) a w :=
  wpList_plain hgd fun _ hK => by
    unfold Oper.wp execOp
    simp only [ho, resolve, invoke, builtin, Sem.run_bind, Sem.run_pure, Result.andThen_ok, List.map_toArray, List.map_cons, List.map_nil, hs, hx, hr]
    exact hK _ _ h
theorem below_setRow {B : Nat} {w w1 : World} (h : Below B w w1) {g : Nat} (hg : B ≤ g) (cs : Array Value) : Below B w (w1.setRow g cs) :=
  ⟨h.os, h.tape, h.output, by simpa using h.size, fun k hk => (setRow_other w1 g k cs (by omega)).trans (h.block k hk)⟩

set_option maxRecDepth 100000 in
set_option maxHeartbeats 1000000 in
theorem insert_mid (g gx i : Nat) (l : List MC) (x : MC) (hi : i < l.length) (hl : l.length ≤ 1048576) (w : World) (hg : g < w.heap.size) (hgx : gx < w.heap.size) (hA : In w g 0 l) (hX : In w gx 0 [x]) :
    Calls Try.prog 39 #[.slice (some ⟨g, 0, none⟩) l.length l.length, .int .i64 (i : Int), .slice (some ⟨gx, 0, none⟩) 1 1] w fun e w' => ∃ g' c, e = .returned (.slice (some ⟨g', 0, none⟩) (l.length + 1) c) ∧ w'.ownsRow w.heap.size 26 5 (.slice (some ⟨g', 0, none⟩) (l.length + 1) c) (l.length + 1) (flat (l.take i ++ x :: l.drop i)) ∧ Below w.heap.size w w' := by
  obtain ⟨c, cur, hap, hc1, hc2, hcs, htk⟩ := ins_zeros g i l (by omega) hl w hA ((l.length : Int) + 1 - (i : Int)) (by omega)
  have hfx : (flat [x]).length = 5 := flat_length [x]
  have hfd : (flat (l.drop i)).length = (l.length - i) * 5 := (flat_length _).trans (by rw [List.length_drop]; rfl)
  have hft : (flat (l.take i)).length = i * 5 := (flat_length _).trans (by rw [List.length_take, Nat.min_eq_left (by omega)]; rfl)
  have hbl1 : Below w.heap.size w (w.drew.alloc (.cells cur 26)) := alloc0 (Below.drew (Below.refl _ _)) _
  have hheap1 : (w.drew.alloc (.cells cur 26)).heap[w.heap.size]? = some (.cells cur 26 (0, 0)) := heap_new w.drew _
  have hsize5 : (Try.prog.info? 26).map (·.size) = some 5 := by
    obtain ⟨i0, hi0, _, hz1, _⟩ := info_parts infoMC
    rw [hi0]; simp [hz1]
  have hX1 : In (w.drew.alloc (.cells cur 26)) gx 0 [x] := hX.below hgx hbl1
  have hcp1 := run_copy_els (w.drew.alloc (.cells cur 26)) 30 30 3 26 5 w.heap.size (i * 5) (l.length + 1 - i) (c - i) ⟨gx, 0, none⟩ 1 1 cur 26 (flat [x]) Try.underlying30 hsize5 hheap1 (by rw [hfx, show Nat.min 1 (l.length + 1 - i) = 1 from Nat.min_eq_left (by omega)]) (cellsOf_in hX1) (by rw [hfx, hcs]; omega) (flat_ones _)
  have hheap2 : ((w.drew.alloc (.cells cur 26)).setRow w.heap.size (cur.toList.take (i * 5) ++ flat [x] ++ cur.toList.drop (i * 5 + (flat [x]).length)).toArray).heap[w.heap.size]? = some (.cells (cur.toList.take (i * 5) ++ flat [x] ++ cur.toList.drop (i * 5 + (flat [x]).length)).toArray 26 (0, 0)) := setRow_heap _ _ _ _ _ _ hheap1
  have hbl2 : Below w.heap.size w ((w.drew.alloc (.cells cur 26)).setRow w.heap.size (cur.toList.take (i * 5) ++ flat [x] ++ cur.toList.drop (i * 5 + (flat [x]).length)).toArray) := below_setRow hbl1 (Nat.le_refl _) _
  have hD : In w g (i * 5) (l.drop i) := fun j v hv => by
    have e : flat l = flat (l.take i) ++ flat (l.drop i) := by rw [← flat_append, List.take_append_drop]
    have := hA (i * 5 + j) v (by rw [e, List.getElem?_append_right (by omega), hft, Nat.add_sub_cancel_left]; exact hv)
    simpa using this
  have hc1s : (cur.toList.take (i * 5) ++ flat [x] ++ cur.toList.drop (i * 5 + (flat [x]).length)).toArray.size = c * 5 := by simp [hfx, hcs]; omega
  have hcp2 := run_copy_els ((w.drew.alloc (.cells cur 26)).setRow w.heap.size (cur.toList.take (i * 5) ++ flat [x] ++ cur.toList.drop (i * 5 + (flat [x]).length)).toArray).drew 30 30 3 26 5 w.heap.size ((i + 1) * 5) (l.length - i) (c - (i + 1)) ⟨g, i * 5, none⟩ (l.length - i) (l.length - i) (cur.toList.take (i * 5) ++ flat [x] ++ cur.toList.drop (i * 5 + (flat [x]).length)).toArray 26 (flat (l.drop i)) Try.underlying30 hsize5 hheap2 (by rw [hfd, show Nat.min (l.length - i) (l.length - i) = l.length - i from Nat.min_self _]) (cellsOf_in (hD.below hg (Below.drew hbl2))) (by rw [hc1s, hfd]; omega) (flat_ones _)
  have hown : (((w.drew.alloc (.cells cur 26)).setRow w.heap.size (cur.toList.take (i * 5) ++ flat [x] ++ cur.toList.drop (i * 5 + (flat [x]).length)).toArray).drew.setRow w.heap.size ((cur.toList.take (i * 5) ++ flat [x] ++ cur.toList.drop (i * 5 + (flat [x]).length)).toArray.toList.take ((i + 1) * 5) ++ flat (l.drop i) ++ (cur.toList.take (i * 5) ++ flat [x] ++ cur.toList.drop (i * 5 + (flat [x]).length)).toArray.toList.drop ((i + 1) * 5 + (flat (l.drop i)).length)).toArray).ownsRow w.heap.size 26 5 (.slice (some ⟨w.heap.size, 0, none⟩) (l.length + 1) c) (l.length + 1) (flat (l.take i ++ x :: l.drop i)) := by
    refine ⟨?_, .inr ⟨w.heap.size, c, _, rfl, Nat.le_refl _, setRow_heap _ _ _ _ _ _ hheap2, hc1, hc2, ?_, ?_⟩⟩
    · rw [flat_append, flat_cons, List.length_append, List.length_append, hft, hfd, ← flat_one, hfx]; omega
    · have h := hc1s
      simp only [List.size_toArray] at h ⊢
      simp only [List.length_append, List.length_take, List.length_drop, hfd, hfx, hcs, Array.length_toList] at h ⊢
      omega
    · have e1 : cur.toList.take (i * 5) ++ flat [x] ++ cur.toList.drop (i * 5 + (flat [x]).length) = flat (l.take i) ++ flat [x] ++ cur.toList.drop (i * 5 + (flat [x]).length) := by rw [htk]
      have e2 : (flat (l.take i) ++ flat [x]).length = (i + 1) * 5 := by rw [List.length_append, hft, hfx]; omega
      simp only [e1]
      rw [List.take_append_of_le_length (l₁ := flat (l.take i) ++ flat [x]) (by rw [e2]; exact Nat.le_refl _), List.take_of_length_le (l := flat (l.take i) ++ flat [x]) (by rw [e2]; exact Nat.le_refl _)]
      rw [List.take_append_of_le_length (by rw [List.length_append, e2, hfd]; omega), List.take_of_length_le (by rw [List.length_append, e2, hfd]; omega)]
      rw [flat_append, flat_cons x (l.drop i), flat_one, List.append_assoc]
  have hbl3 : Below w.heap.size w (((w.drew.alloc (.cells cur 26)).setRow w.heap.size (cur.toList.take (i * 5) ++ flat [x] ++ cur.toList.drop (i * 5 + (flat [x]).length)).toArray).drew.setRow w.heap.size ((cur.toList.take (i * 5) ++ flat [x] ++ cur.toList.drop (i * 5 + (flat [x]).length)).toArray.toList.take ((i + 1) * 5) ++ flat (l.drop i) ++ (cur.toList.take (i * 5) ++ flat [x] ++ cur.toList.drop (i * 5 + (flat [x]).length)).toArray.toList.drop ((i + 1) * 5 + (flat (l.drop i)).length)).toArray) := below_setRow (Below.drew hbl2) (Nat.le_refl _) _
  have Ho := hidP hown
  have HB := hidP hbl3
  have hcut1 := fun w => cut_from g l.length l.length i (by omega) (Nat.le_refl _) (by simp [maxLen]; omega) (i : Int) rfl w
  have hcut3 := fun w' => cut_from w.heap.size (l.length + 1) c i (by omega) hc1 hc2 (i : Int) rfl w'
  have hcut4 := fun w' => cut_from w.heap.size (l.length + 1) c (i + 1) (by omega) hc1 hc2 ((i : Int) + 1) (by omega) w'
  rw [if_neg (by omega)] at hcut1 hcut3 hcut4
  rw [show Nat.min 1 (l.length + 1 - i) = 1 from Nat.min_eq_left (by omega)] at hcp1
  rw [show l.length + 1 - (i + 1) = l.length - i by omega] at hcut4
  clear hown hbl3 hbl2 hbl1 hheap1 hheap2 hX1 hD hc1s hfx hfd hft hA hX htk
  generalize (((w.drew.alloc (.cells cur 26)).setRow w.heap.size (cur.toList.take (i * 5) ++ flat [x] ++ cur.toList.drop (i * 5 + (flat [x]).length)).toArray).drew.setRow w.heap.size ((cur.toList.take (i * 5) ++ flat [x] ++ cur.toList.drop (i * 5 + (flat [x]).length)).toArray.toList.take ((i + 1) * 5) ++ flat (l.drop i) ++ (cur.toList.take (i * 5) ++ flat [x] ++ cur.toList.drop (i * 5 + (flat [x]).length)).toArray.toList.drop ((i + 1) * 5 + (flat (l.drop i)).length)).toArray) = w3 at Ho HB hcp2
  generalize ((w.drew.alloc (.cells cur 26)).setRow w.heap.size (cur.toList.take (i * 5) ++ flat [x] ++ cur.toList.drop (i * 5 + (flat [x]).length)).toArray) = w2 at hcp1 hcp2
  generalize (w.drew.alloc (.cells cur 26)) = w1 at hap hcp1
  clear hcs
  go_enter Try.func39, Try.ntmps39
  go_wp2_with (at_builtin; refine wpList_room_is rfl _ _ _ _ rfl _ _ _ rfl rfl hap ?_)
  go_region
  go_wp2
  go_ret
  exact ⟨_, _, rfl, Ho.out, HB.out⟩
theorem insert_any (g gx i : Nat) (l : List MC) (x : MC) (hi : i ≤ l.length) (hl : l.length ≤ 1048576) (w : World) (hg : g < w.heap.size) (hgx : gx < w.heap.size) (hA : In w g 0 l) (hX : In w gx 0 [x]) :
    Calls Try.prog 39 #[.slice (some ⟨g, 0, none⟩) l.length l.length, .int .i64 (i : Int), .slice (some ⟨gx, 0, none⟩) 1 1] w fun e w' => ∃ g' c, e = .returned (.slice (some ⟨g', 0, none⟩) (l.length + 1) c) ∧ w'.ownsRow w.heap.size 26 5 (.slice (some ⟨g', 0, none⟩) (l.length + 1) c) (l.length + 1) (flat (l.take i ++ x :: l.drop i)) ∧ Below w.heap.size w w' := by
  by_cases h : i = l.length
  · exact insert_end g gx i l x h hl w hA hX
  · exact insert_mid g gx i l x (by omega) hl w hg hgx hA hX
end Go.Proofs.Ytpbbpjckkccjaaa.Gen
