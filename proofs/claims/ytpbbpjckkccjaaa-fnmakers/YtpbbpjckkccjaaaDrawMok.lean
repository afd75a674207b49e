/-
  What DrawMakerOk draws: a maker whose list is short and of its own, and a number.
-/
import Derived.Test.YtpbbpjckkccjaaaDrawMaker2
namespace Go.Proofs.Ytpbbpjckkccjaaa.Gen
open Go.ChangeShapes Go.WideShapes Go.ChangeAt Go.RowKit Go.Joins Go.Deep Base
set_option linter.unusedVariables false
set_option linter.unusedSimpArgs false

set_option maxRecDepth 100000 in
set_option maxHeartbeats 2000000 in
theorem drawMok_any (A : Option Addr) (cap : Nat) (l : List By) (hl : l.length ≤ 1048576) (hby : ∀ x ∈ l, x.right) (w : World) (hA : At w A l) :
    Calls Try.prog 11 #[.slice A l.length cap] w fun e w' => ∃ (row who epoch last wd : Int) (v : Value) (L : List Mk), e = .returned (.tuple #[.agg #[.int .i64 row, .int .i64 who, .int .i64 epoch, .int .i64 last, v], .int .i64 wd]) ∧ w'.ownsRow w.heap.size 61 2 v L.length (flat L) ∧ L.length ≤ 9 ∧ Below w.heap.size w w' := by
  have HA := hidP hA
  have Hby := hidP hby
  clear hA hby
  go_enter Try.func11, Try.ntmps11
  go_wp2_with fail
  refine (new_any A cap l hl Hby.out _ (HA.out.below (alloc0 (Below.refl _ _) _))).mono ?_
  rintro e w1 ⟨C, rfl, hC, g1, d1⟩
  rw [World.size_alloc] at hC
  have bR1 := (Blk.new w 26 #[.int .i64 0, .int .i64 0, .int .i64 0, .int .i64 0, .slice none 0 0]).below g1 (by simp)
  have HB1 := hidP (via0 g1 (alloc0 (Below.refl _ w) (.cells #[.int .i64 0, .int .i64 0, .int .i64 0, .int .i64 0, .slice none 0 0] 26)))
  have HD1 := hidP d1
  have hC1 := d1.lt
  clear g1 d1
  go_wp2_with fail
  refine (draw_any C A cap l _ HD1.out).mono ?_
  rintro e w2 ⟨row, who, epoch, last, v, L, rfl, hown, hL, _, k2, d2⟩
  obtain ⟨a, c, rfl, _⟩ := owns_form hown
  have bR2 := bR1.only k2 (show w.heap.size ≠ C by omega)
  have q2 := k2.size
  have bM4 := Blk.new w2 26 #[.int .i64 row, .int .i64 who, .int .i64 epoch, .int .i64 last, .slice a L.length c]
  have bR4 := bR2.alloc (.cells #[.int .i64 row, .int .i64 who, .int .i64 epoch, .int .i64 last, .slice a L.length c] 26)
  have Hown4 := hidP (owns_alloc (owns_mono hown (show C + 1 ≤ w1.heap.size by omega)) (.cells #[.int .i64 row, .int .i64 who, .int .i64 epoch, .int .i64 last, .slice a L.length c] 26))
  have HO4 := hidP (k2.below (alloc0 (Below.refl _ w2) (.cells #[.int .i64 row, .int .i64 who, .int .i64 epoch, .int .i64 last, .slice a L.length c] 26)))
  have HD4 := hidP (d2.below (alloc0 (Below.refl _ w2) (.cells #[.int .i64 row, .int .i64 who, .int .i64 epoch, .int .i64 last, .slice a L.length c] 26)))
  clear k2 d2 bR1 bR2 hown
  go_wp2_with fail
  generalize hMM : w2.heap.size = M at *
  generalize w2.alloc (.cells #[.int .i64 row, .int .i64 who, .int .i64 epoch, .int .i64 last, .slice a L.length c] 26) = w4 at *
  have qM := bM4.lt
  have qR := bR4.lt
  have hCM : C < M := by omega
  have hRM : w.heap.size < M := by omega
  clear hMM
  have bx := Blk.new w4 3 #[.int .i64 (3), .int .i64 (3), .int .i64 (1), .int .i64 (0), .int .i64 (-1)]
  have hin : In (w4.alloc (.cells #[.int .i64 (3), .int .i64 (3), .int .i64 (1), .int .i64 (0), .int .i64 (-1)] 3)).drew w4.heap.size 0 ([⟨3⟩, ⟨3⟩, ⟨1⟩, ⟨0⟩, ⟨-1⟩] : List Nu) := fun j u hu => bx.cell (i := 0 + j) (by simpa [flat, Cel.cs] using hu)
  refine wp_region_noPanic ?_
  refine wp_region_held_drew (S := fun w' => w'.cell? ⟨M, 0, none⟩ = some (.int .i64 row) ∧ w'.cell? ⟨M, 1, none⟩ = some (.int .i64 who) ∧ w'.cell? ⟨M, 2, none⟩ = some (.int .i64 epoch) ∧ w'.cell? ⟨M, 3, none⟩ = some (.int .i64 last) ∧ w'.cell? ⟨M, 4, none⟩ = some (.slice a L.length c)) (by kernel_rfl) ?_ (fun hH => ?_)
  · exact bM4.drew.row5
  refine' wpAnyH_take (i := 0) (v := _) rfl (by kernel_rfl) (by kernel_rfl) (by kernel_rfl) (fun _ _ _ h => h) (Or.inl ⟨by rfl, ?hy1⟩) (by assumption) ?rest1
  case hy1 => (intro w hSw; (try dsimp only at hSw); go_simp <;> with_reducible rfl)
  try simp only [Act.put, List.setIfInBounds_toArray, List.set_cons_zero, List.set_cons_succ, List.getElem_toArray, List.getElem_cons_succ, List.getElem_cons_zero]
  refine' wpAnyH_take (i := 1) (v := _) rfl (by kernel_rfl) (by kernel_rfl) (by kernel_rfl) (fun _ _ _ h => h) (Or.inl ⟨by rfl, ?hy2⟩) (by assumption) ?rest2
  case hy2 => (intro w hSw; (try dsimp only at hSw); go_simp <;> with_reducible rfl)
  try simp only [Act.put, List.setIfInBounds_toArray, List.set_cons_zero, List.set_cons_succ, List.getElem_toArray, List.getElem_cons_succ, List.getElem_cons_zero]
  refine wpAnyH_ready (rs := [2]) (by kernel_rfl) (by simp) (AllReadyH.cons rfl (fun K hK => ?_) AllReadyH.nil)
  simp only [List.getElem_toArray, List.getElem_cons_succ, List.getElem_cons_zero]
  go_simp
  skip
  refine hK.out _ _ ?_ (fun hH => ?_)
  · exact (bM4.alloc _).drew.row5
  clear hK K
  try simp only [Act.put, List.setIfInBounds_toArray, List.set_cons_zero, List.set_cons_succ, List.getElem_toArray, List.getElem_cons_succ, List.getElem_cons_zero]
  refine wpAnyH_ready (rs := [3]) (by kernel_rfl) (by simp) (AllReadyH.cons rfl (fun K hK => ?_) AllReadyH.nil)
  simp only [List.getElem_toArray, List.getElem_cons_succ, List.getElem_cons_zero]
  go_simp
  (go_at_call 32; refine (pick_any C A cap l w4.heap.size 0 5 ([⟨3⟩, ⟨3⟩, ⟨1⟩, ⟨0⟩, ⟨-1⟩] : List Nu) (by simp) (by simp) _ (HD4.out.below (Below.drew (alloc0 (Below.refl _ _) _))) (show w4.heap.size < (w4.alloc (.cells #[.int .i64 (3), .int .i64 (3), .int .i64 (1), .int .i64 (0), .int .i64 (-1)] 3)).heap.size by simp) (by omega) hin).mono ?_; rintro e w5 ⟨y2, _, rfl, k5, d5⟩; have bM5 := ((bM4.alloc (.cells #[.int .i64 (3), .int .i64 (3), .int .i64 (1), .int .i64 (0), .int .i64 (-1)] 3)).drew).only k5 (show M ≠ C by omega); have bR5 := ((bR4.alloc (.cells #[.int .i64 (3), .int .i64 (3), .int .i64 (1), .int .i64 (0), .int .i64 (-1)] 3)).drew).only k5 (show w.heap.size ≠ C by omega); have Hown5 := hidP (owns_only (owns_drew (owns_alloc Hown4.out (.cells #[.int .i64 (3), .int .i64 (3), .int .i64 (1), .int .i64 (0), .int .i64 (-1)] 3))) k5 (by omega)); have HO5 := hidP (((HO4.out.below (alloc0 (Below.refl _ _) (.cells #[.int .i64 (3), .int .i64 (3), .int .i64 (1), .int .i64 (0), .int .i64 (-1)] 3))).drew).trans k5); obtain ⟨r0, r1, r2, r3, r4⟩ := bR5.row5; have f0 := bR5.thaw 0; have f1 := bR5.thaw 1; have f2 := bR5.thaw 2; have f3 := bR5.thaw 3; have f4 := bR5.thaw 4)
  refine hK.out _ _ ?_ (fun hH => ?_)
  · exact bM5.row5
  clear hK K
  try simp only [Act.put, List.setIfInBounds_toArray, List.set_cons_zero, List.set_cons_succ, List.getElem_toArray, List.getElem_cons_succ, List.getElem_cons_zero]
  refine wpAnyH_ready (rs := [4]) (by kernel_rfl) (by simp) (AllReadyH.cons rfl (fun K hK => ?_) AllReadyH.nil)
  simp only [List.getElem_toArray, List.getElem_cons_succ, List.getElem_cons_zero]
  go_simp
  skip
  refine hK.out _ _ ?_ (fun hH => ?_)
  · exact Blk.row5 (((((bM5.other (B' := w.heap.size) (by omega) 0 (.int .i64 row)).other (B' := w.heap.size) (by omega) 1 (.int .i64 who)).other (B' := w.heap.size) (by omega) 2 (.int .i64 epoch)).other (B' := w.heap.size) (by omega) 3 (.int .i64 last)).other (B' := w.heap.size) (by omega) 4 (.slice a L.length c))
  clear hK K
  try simp only [Act.put, List.setIfInBounds_toArray, List.set_cons_zero, List.set_cons_succ, List.getElem_toArray, List.getElem_cons_succ, List.getElem_cons_zero]
  refine' wpAnyH_take (i := 5) (v := _) rfl (by kernel_rfl) (by kernel_rfl) (by kernel_rfl) (fun _ _ _ h => h) (Or.inl ⟨by rfl, ?hy3⟩) (by assumption) ?rest3
  case hy3 => (intro w hSw; (try dsimp only at hSw); go_simp <;> with_reducible rfl)
  try simp only [Act.put, List.setIfInBounds_toArray, List.set_cons_zero, List.set_cons_succ, List.getElem_toArray, List.getElem_cons_succ, List.getElem_cons_zero]
  refine wpAnyH_done (by kernel_rfl) ?_ _
  refine NoPanic.normal ?_
  have far := hidP (owns_far Hown5.out (show w.heap.size < C + 1 by omega))
  generalize y2.n = Y2 at *
  go_wp2
  have z : Blk _ w.heap.size 26 #[.int .i64 row, .int .i64 who, .int .i64 epoch, .int .i64 last, .slice a L.length c] := ((((bR5.setAt 0 (.int .i64 row)).setAt 1 (.int .i64 who)).setAt 2 (.int .i64 epoch)).setAt 3 (.int .i64 last)).setAt 4 (.slice a L.length c)
  obtain ⟨e0, e1, e2, e3, e4⟩ := z.row5
  have B5 : Below w.heap.size w w5 := HB1.out.trans (HO5.out.toBelow (by omega) HB1.out.size)
  exact bodyPost_ret (v := .tuple #[.agg #[.int .i64 row, .int .i64 who, .int .i64 epoch, .int .i64 last, .slice a L.length c], .int .i64 Y2]) (by simp [results, Try.results11, go_sem, e0, e1, e2, e3, e4]) rfl
    ⟨row, who, epoch, last, Y2, _, L, rfl, owns_mono (owns_set (owns_set (owns_set (owns_set (owns_set Hown5.out far.out) far.out) far.out) far.out) far.out) (by omega), hL, bl_set (bl_set (bl_set (bl_set (bl_set B5 (Nat.le_refl _) _) (Nat.le_refl _) _) (Nat.le_refl _) _) (Nat.le_refl _) _) (Nat.le_refl _) _⟩
end Go.Proofs.Ytpbbpjckkccjaaa.Gen
