/-
  What DrawRowPack draws: a row whose list is short and of its own, and a number.
-/
import Derived.Test.YtnmbbkagjpmhdaaDrawRow2
namespace Go.Proofs.Ytnmbbkagjpmhdaa.Gen
open Go.ChangeShapes Go.WideShapes Go.ChangeAt Go.RowKit Go.Joins Go.Deep Base
set_option linter.unusedVariables false
set_option linter.unusedSimpArgs false

set_option maxRecDepth 100000 in
set_option maxHeartbeats 2000000 in
theorem drawPack_any (A : Option Addr) (cap : Nat) (l : List By) (hl : l.length ≤ 1048576) (hby : ∀ x ∈ l, x.right) (w : World) (hA : At w A l) :
    Calls Try.prog 24 #[.slice A l.length cap] w fun e w' => ∃ (start next length : Int) (v : Value) (L : List Items.It), e = .returned (.tuple #[.agg #[.int .i64 start, .int .i64 next, v], .int .i64 length]) ∧ w'.ownsRow w.heap.size 34 5 v L.length (Items.flat L) ∧ I64 start ∧ I64 next ∧ L.length ≤ 81 ∧ Sizes L ∧ (0 ≤ length ∧ length ≤ 8) ∧ Below w.heap.size w w' := by
  have HA := hidP hA
  have Hby := hidP hby
  clear hA hby
  go_enter Try.func24, Try.ntmps24
  go_wp2_with fail
  refine (new_any A cap l hl Hby.out _ (HA.out.below (alloc0 (Below.refl _ _) _))).mono ?_
  rintro e w1 ⟨C, rfl, hC, g1, d1⟩
  rw [World.size_alloc] at hC
  have bR1 := (Blk.new w 26 #[.int .i64 0, .int .i64 0, .slice none 0 0]).below g1 (by simp)
  have HB1 := hidP (via0 g1 (alloc0 (Below.refl _ w) (.cells #[.int .i64 0, .int .i64 0, .slice none 0 0] 26)))
  have HD1 := hidP d1
  have hC1 := d1.lt
  clear g1 d1
  go_wp2_with fail
  refine (drawR_any C A cap l _ HD1.out).mono ?_
  rintro e w2 ⟨start, next, v, L, rfl, hown, hi1, hi2, hL, hsz, k2, d2⟩
  obtain ⟨a, c, rfl, _⟩ := owns_form hown
  have Hi := hidP (And.intro hi1 (And.intro hi2 hsz))
  have bR2 := bR1.only k2 (show w.heap.size ≠ C by omega)
  have HO2 := hidP k2
  have HD2 := hidP d2
  have q2 := k2.size
  have hfar1 : some w2.heap.size ≠ (Value.slice a L.length c).ownBlock := fun h => by have := owns_lt hown h.symm; omega
  have Hown2 := hidP (owns_mono hown (show w.heap.size + 1 ≤ w1.heap.size by omega))
  have HownC := hidP (owns_mono hown (show C + 1 ≤ w1.heap.size by omega))
  clear k2 d2 bR1 hown hi1 hi2 hsz
  go_wp2_with fail
  have bM4 := Blk.new w2 26 #[.int .i64 start, .int .i64 next, .slice a L.length c]
  have bR4 := bR2.alloc (.cells #[.int .i64 start, .int .i64 next, .slice a L.length c] 26)
  have Hown4 := hidP (owns_alloc HownC.out (.cells #[.int .i64 start, .int .i64 next, .slice a L.length c] 26))
  have HO4 := hidP (HO2.out.below (alloc0 (Below.refl _ _) (.cells #[.int .i64 start, .int .i64 next, .slice a L.length c] 26)))
  have HD4 := hidP (HD2.out.below (alloc0 (Below.refl _ _) (.cells #[.int .i64 start, .int .i64 next, .slice a L.length c] 26)))
  have qM := bM4.lt
  have qR := bR4.lt
  have hRM : w.heap.size < w2.heap.size := by omega
  have hCM : C < w2.heap.size := by omega
  generalize w2.alloc (.cells #[.int .i64 start, .int .i64 next, .slice a L.length c] 26) = w4 at *
  generalize w2.heap.size = M at *
  clear bR2 Hown2 HownC HO2 HD2
  have bx := Blk.new w4 3 #[.int .i64 (1), .int .i64 (2), .int .i64 (3), .int .i64 (8), .int .i64 (0)]
  have hin : In (w4.alloc (.cells #[.int .i64 (1), .int .i64 (2), .int .i64 (3), .int .i64 (8), .int .i64 (0)] 3)).drew w4.heap.size 0 ([⟨1⟩, ⟨2⟩, ⟨3⟩, ⟨8⟩, ⟨0⟩] : List Nu) := fun j u hu => bx.cell (i := 0 + j) (by simpa [flat, Cel.cs] using hu)
  go_wp2_with fail
  refine wp_region_noPanic ?_
  refine wp_region_held_drew (S := fun (w' : World) => w'.cell? ⟨M, 0, none⟩ = some (.int .i64 start) ∧ w'.cell? ⟨M, 1, none⟩ = some (.int .i64 next) ∧ w'.cell? ⟨M, 2, none⟩ = some (.slice a L.length c)) (by kernel_rfl) ?_ (fun hH => ?_)
  · exact bM4.drew.row3
  refine' wpAnyH_take (i := 0) (v := _) rfl (by kernel_rfl) (by kernel_rfl) (by kernel_rfl) (fun _ _ _ h => h) (Or.inl ⟨by rfl, ?hy6⟩) (by assumption) ?rest6
  case hy6 => (intro w hSw; (try dsimp only at hSw); go_simp <;> with_reducible rfl)
  try simp only [Act.put, List.setIfInBounds_toArray, List.set_cons_zero, List.set_cons_succ, List.getElem_toArray, List.getElem_cons_succ, List.getElem_cons_zero]
  refine' wpAnyH_take (i := 1) (v := _) rfl (by kernel_rfl) (by kernel_rfl) (by kernel_rfl) (fun _ _ _ h => h) (Or.inl ⟨by rfl, ?hy7⟩) (by assumption) ?rest7
  case hy7 => (intro w hSw; (try dsimp only at hSw); go_simp <;> with_reducible rfl)
  try simp only [Act.put, List.setIfInBounds_toArray, List.set_cons_zero, List.set_cons_succ, List.getElem_toArray, List.getElem_cons_succ, List.getElem_cons_zero]
  refine wpAnyH_ready (rs := [2]) (by kernel_rfl) (by simp) (AllReadyH.cons rfl (fun K hK => ?_) AllReadyH.nil)
  simp only [List.getElem_toArray, List.getElem_cons_succ, List.getElem_cons_zero]
  go_simp
  skip
  refine hK.out _ _ ?_ (fun hH => ?_)
  · exact (bM4.alloc _).drew.row3
  clear hK K
  try simp only [Act.put, List.setIfInBounds_toArray, List.set_cons_zero, List.set_cons_succ, List.getElem_toArray, List.getElem_cons_succ, List.getElem_cons_zero]
  refine wpAnyH_ready (rs := [3]) (by kernel_rfl) (by simp) (AllReadyH.cons rfl (fun K hK => ?_) AllReadyH.nil)
  simp only [List.getElem_toArray, List.getElem_cons_succ, List.getElem_cons_zero]
  go_simp
  (go_at_call 36; refine (pick_any C A cap l w4.heap.size 0 5 ([⟨1⟩, ⟨2⟩, ⟨3⟩, ⟨8⟩, ⟨0⟩] : List Nu) (by simp) (by simp) _ (HD4.out.below (Below.drew (alloc0 (Below.refl _ _) _))) (show w4.heap.size < (w4.alloc (.cells #[.int .i64 (1), .int .i64 (2), .int .i64 (3), .int .i64 (8), .int .i64 (0)] 3)).heap.size by simp) (by omega) hin).mono ?_; rintro e w5 ⟨y2, hy2, rfl, k5, d5⟩; have bM5 := ((bM4.alloc (.cells #[.int .i64 (1), .int .i64 (2), .int .i64 (3), .int .i64 (8), .int .i64 (0)] 3)).drew).only k5 (show M ≠ C by omega); have bR5 := ((bR4.alloc (.cells #[.int .i64 (1), .int .i64 (2), .int .i64 (3), .int .i64 (8), .int .i64 (0)] 3)).drew).only k5 (show w.heap.size ≠ C by omega); have Hown5 := hidP (owns_only (owns_drew (owns_alloc Hown4.out (.cells #[.int .i64 (1), .int .i64 (2), .int .i64 (3), .int .i64 (8), .int .i64 (0)] 3))) k5 (by omega)); have HO5 := hidP (((HO4.out.below (alloc0 (Below.refl _ _) (.cells #[.int .i64 (1), .int .i64 (2), .int .i64 (3), .int .i64 (8), .int .i64 (0)] 3))).drew).trans k5); obtain ⟨r0, r1, r2⟩ := bR5.row3; have f0 := bR5.thaw 0; have f1 := bR5.thaw 1; have f2 := bR5.thaw 2)
  refine hK.out _ _ ?_ (fun hH => ?_)
  · exact bM5.row3
  clear hK K
  try simp only [Act.put, List.setIfInBounds_toArray, List.set_cons_zero, List.set_cons_succ, List.getElem_toArray, List.getElem_cons_succ, List.getElem_cons_zero]
  refine wpAnyH_ready (rs := [4]) (by kernel_rfl) (by simp) (AllReadyH.cons rfl (fun K hK => ?_) AllReadyH.nil)
  simp only [List.getElem_toArray, List.getElem_cons_succ, List.getElem_cons_zero]
  go_simp
  skip
  refine hK.out _ _ ?_ (fun hH => ?_)
  · exact Blk.row3 (((bM5.other (B' := w.heap.size) (by omega) 0 (.int .i64 start)).other (B' := w.heap.size) (by omega) 1 (.int .i64 next)).other (B' := w.heap.size) (by omega) 2 (.slice a L.length c))
  clear hK K
  try simp only [Act.put, List.setIfInBounds_toArray, List.set_cons_zero, List.set_cons_succ, List.getElem_toArray, List.getElem_cons_succ, List.getElem_cons_zero]
  refine' wpAnyH_take (i := 5) (v := _) rfl (by kernel_rfl) (by kernel_rfl) (by kernel_rfl) (fun _ _ _ h => h) (Or.inl ⟨by rfl, ?hy8⟩) (by assumption) ?rest8
  case hy8 => (intro w hSw; (try dsimp only at hSw); go_simp <;> with_reducible rfl)
  try simp only [Act.put, List.setIfInBounds_toArray, List.set_cons_zero, List.set_cons_succ, List.getElem_toArray, List.getElem_cons_succ, List.getElem_cons_zero]
  refine wpAnyH_done (by kernel_rfl) ?_ _
  refine NoPanic.normal ?_
  have far := hidP (owns_far Hown5.out (show w.heap.size < C + 1 by omega))
  have hy2' : 0 ≤ y2.n ∧ y2.n ≤ 8 := by simp only [List.mem_cons, List.not_mem_nil, or_false] at hy2; rcases hy2 with rfl | rfl | rfl | rfl | rfl <;> decide
  clear hy2
  generalize y2.n = Y2 at *
  go_wp2
  have z : Blk _ w.heap.size 26 #[.int .i64 start, .int .i64 next, .slice a L.length c] := ((bR5.setAt 0 (.int .i64 start)).setAt 1 (.int .i64 next)).setAt 2 (.slice a L.length c)
  obtain ⟨e0, e1, e2⟩ := z.row3
  have B5 : Below w.heap.size w w5 := HB1.out.trans (HO5.out.toBelow (by omega) HB1.out.size)
  exact bodyPost_ret (v := .tuple #[.agg #[.int .i64 start, .int .i64 next, .slice a L.length c], .int .i64 Y2]) (by simp [results, Try.results24, go_sem, e0, e1, e2]) rfl
    ⟨start, next, Y2, _, L, rfl, owns_mono (owns_set (owns_set (owns_set Hown5.out far.out) far.out) far.out) (by omega), Hi.out.1, Hi.out.2.1, hL, Hi.out.2.2, hy2', bl_set (bl_set (bl_set B5 (Nat.le_refl _) _) (Nat.le_refl _) _) (Nat.le_refl _) _⟩
end Go.Proofs.Ytnmbbkagjpmhdaa.Gen
