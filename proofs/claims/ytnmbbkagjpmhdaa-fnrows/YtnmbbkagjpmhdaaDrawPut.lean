/-
  What DrawRowPut draws: a row whose list is short and of its own, two short texts, and two numbers.
-/
import Derived.Test.YtnmbbkagjpmhdaaDrawRow2
namespace Go.Proofs.Ytnmbbkagjpmhdaa.Gen
open Go.ChangeShapes Go.WideShapes Go.ChangeAt Go.RowKit Go.Joins Go.Deep Base
set_option linter.unusedVariables false
set_option linter.unusedSimpArgs false

def threeS : List St := [⟨⟨#[97]⟩⟩, ⟨⟨#[]⟩⟩, ⟨⟨#[65]⟩⟩]

set_option maxRecDepth 100000 in
set_option maxHeartbeats 2000000 in
theorem drawPut_any (A : Option Addr) (cap : Nat) (l : List By) (hl : l.length ≤ 1048576) (hby : ∀ x ∈ l, x.right) (w : World) (hA : At w A l) :
    Calls Try.prog 9 #[.slice A l.length cap] w fun e w' => ∃ (start next who time : Int) (key text : ByteArray) (v : Value) (L : List Items.It), e = .returned (.tuple #[.agg #[.int .i64 start, .int .i64 next, v], .string key, .string text, .int .i64 who, .int .i64 time]) ∧ w'.ownsRow w.heap.size 34 5 v L.length (Items.flat L) ∧ I64 start ∧ I64 next ∧ L.length ≤ 81 ∧ Sizes L ∧ key.size ≤ 30 ∧ (Items.textB text = true ∧ text.size ≤ 30) ∧ (-1 ≤ who ∧ who ≤ 4) ∧ (0 ≤ time ∧ time ≤ 100001) ∧ Below w.heap.size w w' := by
  have HA := hidP hA
  have Hby := hidP hby
  clear hA hby
  go_enter Try.func9, Try.ntmps9
  go_wp2_with fail
  refine (new_any A cap l hl Hby.out _ (HA.out.below (alloc0 (Below.refl _ _) _))).mono ?_
  rintro e w1 ⟨C, rfl, hC, g1, d1⟩
  rw [World.size_alloc] at hC
  have bR1 := (Blk.new w 26 #[.int .i64 0, .int .i64 0, .slice none 0 0]).below g1 (by simp)
  have HB1 := hidP (via0 g1 (alloc0 (Below.refl _ w) (.cells #[.int .i64 0, .int .i64 0, .slice none 0 0] 26)))
  have HD1 := hidP d1
  have hC1 := d1.lt
  clear g1 d1
  go_wp2_with fail
  refine (drawR_any C A cap l _ HD1.out).mono ?_
  rintro e w2 ⟨start, next, v, L, rfl, hown, hi1, hi2, hL, hsz, k2, d2⟩
  obtain ⟨a, c, rfl, _⟩ := owns_form hown
  have Hi := hidP (And.intro hi1 (And.intro hi2 hsz))
  have bR2 := bR1.only k2 (show w.heap.size ≠ C by omega)
  have HO2 := hidP k2
  have HD2 := hidP d2
  have q2 := k2.size
  have hfar1 : some w2.heap.size ≠ (Value.slice a L.length c).ownBlock := fun h => by have := owns_lt hown h.symm; omega
  have Hown2 := hidP (owns_mono hown (show w.heap.size + 1 ≤ w1.heap.size by omega))
  have HownC := hidP (owns_mono hown (show C + 1 ≤ w1.heap.size by omega))
  clear k2 d2 bR1 hown hi1 hi2 hsz
  go_wp2_with fail
  have bMa := (Blk.new w2 26 #[.int .i64 start, .int .i64 next, .slice a L.length c]).alloc (.cells #[.string ⟨#[97]⟩, .string ⟨#[]⟩, .string ⟨#[65]⟩] 9)
  have bx := Blk.new (w2.alloc (.cells #[.int .i64 start, .int .i64 next, .slice a L.length c] 26)) 9 #[.string ⟨#[97]⟩, .string ⟨#[]⟩, .string ⟨#[65]⟩]
  have hin : In ((w2.alloc (.cells #[.int .i64 start, .int .i64 next, .slice a L.length c] 26)).alloc (.cells #[.string ⟨#[97]⟩, .string ⟨#[]⟩, .string ⟨#[65]⟩] 9)) (w2.heap.size + 1) 0 threeS := fun j u hu => by
    rw [World.size_alloc] at bx
    exact bx.cell (i := 0 + j) (by simpa [flat, Cel.cs, threeS] using hu)
  refine (pickS_any C A cap l (w2.heap.size + 1) 0 3 threeS (by decide) (by decide) _ ((HD2.out.below (alloc0 (Below.refl _ _) _)).below (alloc0 (Below.refl _ _) _)) (by simp) (by omega) hin).mono ?_
  rintro e w3 ⟨y0, hy0, rfl, k3, d3⟩
  have hK : y0.s.size ≤ 30 := by simp only [threeS, List.mem_cons, List.not_mem_nil, or_false] at hy0; rcases hy0 with rfl | rfl | rfl <;> decide
  have bR3 := ((bR2.alloc (.cells #[.int .i64 start, .int .i64 next, .slice a L.length c] 26)).alloc (.cells #[.string ⟨#[97]⟩, .string ⟨#[]⟩, .string ⟨#[65]⟩] 9)).only k3 (show w.heap.size ≠ C by omega)
  have bM3 := bMa.only k3 (show w2.heap.size ≠ C by omega)
  have Hown3 := hidP (owns_only (owns_alloc (owns_alloc HownC.out (.cells #[.int .i64 start, .int .i64 next, .slice a L.length c] 26)) (.cells #[.string ⟨#[97]⟩, .string ⟨#[]⟩, .string ⟨#[65]⟩] 9)) k3 (by omega))
  have HO3 := hidP (((HO2.out.below (alloc0 (Below.refl _ _) (.cells #[.int .i64 start, .int .i64 next, .slice a L.length c] 26))).below (alloc0 (Below.refl _ _) (.cells #[.string ⟨#[97]⟩, .string ⟨#[]⟩, .string ⟨#[65]⟩] 9))).trans k3)
  have HD3 := hidP d3
  clear hy0
  generalize y0.s = K0 at *
  generalize hMM : w2.heap.size = M at *
  have qM := bM3.lt
  have qR := bR3.lt
  have hCM : C < M := by omega
  have hRM : w.heap.size < M := by omega
  clear k3 d3 hin bx bMa bR2 Hown2 HownC HO2 HD2 hMM
  go_wp2_with fail
  refine (text_any C A cap l _ HD3.out).mono ?_
  rintro e w6 ⟨X0, rfl, hX1, hX2, k6, d6⟩
  have bR6 := bR3.only k6 (show w.heap.size ≠ C by omega)
  have bM6 := bM3.only k6 (show M ≠ C by omega)
  have Hown6 := hidP (owns_only Hown3.out k6 (by omega))
  have HO6 := hidP (HO3.out.trans k6)
  have HD6 := hidP d6
  have HX := hidP (And.intro hX1 hX2)
  have qM6 := bM6.lt
  have qR6 := bR6.lt
  clear k6 d6 bR3 bM3 Hown3 HO3 HD3 hX1 hX2
  have bx := Blk.new w6 3 #[.int .i64 (0), .int .i64 (3), .int .i64 (4), .int .i64 (-1)]
  have hin : In (w6.alloc (.cells #[.int .i64 (0), .int .i64 (3), .int .i64 (4), .int .i64 (-1)] 3)) w6.heap.size 0 ([⟨0⟩, ⟨3⟩, ⟨4⟩, ⟨-1⟩] : List Nu) := fun j u hu => bx.cell (i := 0 + j) (by simpa [flat, Cel.cs] using hu)
  go_wp2_with fail
  refine (pick_any C A cap l w6.heap.size 0 4 ([⟨0⟩, ⟨3⟩, ⟨4⟩, ⟨-1⟩] : List Nu) (by simp) (by simp) _ (HD6.out.below (alloc0 (Below.refl _ _) _)) (by simp) (by omega) hin).mono ?_
  rintro e w4 ⟨y1, hy1, rfl, k4, d4⟩
  have hy1' : -1 ≤ y1.n ∧ y1.n ≤ 4 := by simp only [List.mem_cons, List.not_mem_nil, or_false] at hy1; rcases hy1 with rfl | rfl | rfl | rfl <;> decide
  have bR4 := (bR6.alloc (.cells #[.int .i64 (0), .int .i64 (3), .int .i64 (4), .int .i64 (-1)] 3)).only k4 (show w.heap.size ≠ C by omega)
  have bM4 := (bM6.alloc (.cells #[.int .i64 (0), .int .i64 (3), .int .i64 (4), .int .i64 (-1)] 3)).only k4 (show M ≠ C by omega)
  have Hown4 := hidP (owns_only (owns_alloc Hown6.out (.cells #[.int .i64 (0), .int .i64 (3), .int .i64 (4), .int .i64 (-1)] 3)) k4 (by omega))
  have HO4 := hidP ((HO6.out.below (alloc0 (Below.refl _ _) (.cells #[.int .i64 (0), .int .i64 (3), .int .i64 (4), .int .i64 (-1)] 3))).trans k4)
  have HD4 := hidP d4
  have qM4 := bM4.lt
  have qR4 := bR4.lt
  clear hy1 k4 d4 hin bx bR6 bM6 Hown6 HO6 HD6
  generalize y1.n = Y1 at *
  have bx := Blk.new w4 3 #[.int .i64 (0), .int .i64 (5), .int .i64 (100001)]
  have hin : In (w4.alloc (.cells #[.int .i64 (0), .int .i64 (5), .int .i64 (100001)] 3)).drew w4.heap.size 0 ([⟨0⟩, ⟨5⟩, ⟨100001⟩] : List Nu) := fun j u hu => bx.cell (i := 0 + j) (by simpa [flat, Cel.cs] using hu)
  go_wp2_with fail
  refine wp_region_noPanic ?_
  refine wp_region_held_drew (S := fun (w' : World) => w'.cell? ⟨M, 0, none⟩ = some (.int .i64 start) ∧ w'.cell? ⟨M, 1, none⟩ = some (.int .i64 next) ∧ w'.cell? ⟨M, 2, none⟩ = some (.slice a L.length c)) (by kernel_rfl) ?_ (fun hH => ?_)
  · exact bM4.drew.row3
  refine' wpAnyH_take (i := 0) (v := _) rfl (by kernel_rfl) (by kernel_rfl) (by kernel_rfl) (fun _ _ _ h => h) (Or.inl ⟨by rfl, ?hy6⟩) (by assumption) ?rest6
  case hy6 => (intro w hSw; (try dsimp only at hSw); go_simp <;> with_reducible rfl)
  try simp only [Act.put, List.setIfInBounds_toArray, List.set_cons_zero, List.set_cons_succ, List.getElem_toArray, List.getElem_cons_succ, List.getElem_cons_zero]
  refine' wpAnyH_take (i := 1) (v := _) rfl (by kernel_rfl) (by kernel_rfl) (by kernel_rfl) (fun _ _ _ h => h) (Or.inl ⟨by rfl, ?hy7⟩) (by assumption) ?rest7
  case hy7 => (intro w hSw; (try dsimp only at hSw); go_simp <;> with_reducible rfl)
  try simp only [Act.put, List.setIfInBounds_toArray, List.set_cons_zero, List.set_cons_succ, List.getElem_toArray, List.getElem_cons_succ, List.getElem_cons_zero]
  refine' wpAnyH_take (i := 2) (v := _) rfl (by kernel_rfl) (by kernel_rfl) (by kernel_rfl) (fun _ _ _ h => h) (Or.inl ⟨by rfl, ?hy8⟩) (by assumption) ?rest8
  case hy8 => (intro w hSw; (try dsimp only at hSw); go_simp <;> with_reducible rfl)
  try simp only [Act.put, List.setIfInBounds_toArray, List.set_cons_zero, List.set_cons_succ, List.getElem_toArray, List.getElem_cons_succ, List.getElem_cons_zero]
  refine' wpAnyH_take (i := 3) (v := _) rfl (by kernel_rfl) (by kernel_rfl) (by kernel_rfl) (fun _ _ _ h => h) (Or.inl ⟨by rfl, ?hy9⟩) (by assumption) ?rest9
  case hy9 => (intro w hSw; (try dsimp only at hSw); go_simp <;> with_reducible rfl)
  try simp only [Act.put, List.setIfInBounds_toArray, List.set_cons_zero, List.set_cons_succ, List.getElem_toArray, List.getElem_cons_succ, List.getElem_cons_zero]
  refine' wpAnyH_take (i := 4) (v := _) rfl (by kernel_rfl) (by kernel_rfl) (by kernel_rfl) (fun _ _ _ h => h) (Or.inl ⟨by rfl, ?hy10⟩) (by assumption) ?rest10
  case hy10 => (intro w hSw; (try dsimp only at hSw); go_simp <;> with_reducible rfl)
  try simp only [Act.put, List.setIfInBounds_toArray, List.set_cons_zero, List.set_cons_succ, List.getElem_toArray, List.getElem_cons_succ, List.getElem_cons_zero]
  refine wpAnyH_ready (rs := [5]) (by kernel_rfl) (by simp) (AllReadyH.cons rfl (fun K hK => ?_) AllReadyH.nil)
  simp only [List.getElem_toArray, List.getElem_cons_succ, List.getElem_cons_zero]
  go_simp
  skip
  refine hK.out _ _ ?_ (fun hH => ?_)
  · exact (bM4.alloc _).drew.row3
  clear hK K
  try simp only [Act.put, List.setIfInBounds_toArray, List.set_cons_zero, List.set_cons_succ, List.getElem_toArray, List.getElem_cons_succ, List.getElem_cons_zero]
  refine wpAnyH_ready (rs := [6]) (by kernel_rfl) (by simp) (AllReadyH.cons rfl (fun K hK => ?_) AllReadyH.nil)
  simp only [List.getElem_toArray, List.getElem_cons_succ, List.getElem_cons_zero]
  go_simp
  (go_at_call 36; refine (pick_any C A cap l w4.heap.size 0 3 ([⟨0⟩, ⟨5⟩, ⟨100001⟩] : List Nu) (by simp) (by simp) _ (HD4.out.below (Below.drew (alloc0 (Below.refl _ _) _))) (show w4.heap.size < (w4.alloc (.cells #[.int .i64 (0), .int .i64 (5), .int .i64 (100001)] 3)).heap.size by simp) (by omega) hin).mono ?_; rintro e w5 ⟨y2, hy2, rfl, k5, d5⟩; have bM5 := ((bM4.alloc (.cells #[.int .i64 (0), .int .i64 (5), .int .i64 (100001)] 3)).drew).only k5 (show M ≠ C by omega); have bR5 := ((bR4.alloc (.cells #[.int .i64 (0), .int .i64 (5), .int .i64 (100001)] 3)).drew).only k5 (show w.heap.size ≠ C by omega); have Hown5 := hidP (owns_only (owns_drew (owns_alloc Hown4.out (.cells #[.int .i64 (0), .int .i64 (5), .int .i64 (100001)] 3))) k5 (by omega)); have HO5 := hidP (((HO4.out.below (alloc0 (Below.refl _ _) (.cells #[.int .i64 (0), .int .i64 (5), .int .i64 (100001)] 3))).drew).trans k5); obtain ⟨r0, r1, r2⟩ := bR5.row3; have f0 := bR5.thaw 0; have f1 := bR5.thaw 1; have f2 := bR5.thaw 2)
  refine hK.out _ _ ?_ (fun hH => ?_)
  · exact bM5.row3
  clear hK K
  try simp only [Act.put, List.setIfInBounds_toArray, List.set_cons_zero, List.set_cons_succ, List.getElem_toArray, List.getElem_cons_succ, List.getElem_cons_zero]
  refine wpAnyH_ready (rs := [7]) (by kernel_rfl) (by simp) (AllReadyH.cons rfl (fun K hK => ?_) AllReadyH.nil)
  simp only [List.getElem_toArray, List.getElem_cons_succ, List.getElem_cons_zero]
  go_simp
  skip
  refine hK.out _ _ ?_ (fun hH => ?_)
  · exact Blk.row3 (((bM5.other (B' := w.heap.size) (by omega) 0 (.int .i64 start)).other (B' := w.heap.size) (by omega) 1 (.int .i64 next)).other (B' := w.heap.size) (by omega) 2 (.slice a L.length c))
  clear hK K
  try simp only [Act.put, List.setIfInBounds_toArray, List.set_cons_zero, List.set_cons_succ, List.getElem_toArray, List.getElem_cons_succ, List.getElem_cons_zero]
  refine' wpAnyH_take (i := 8) (v := _) rfl (by kernel_rfl) (by kernel_rfl) (by kernel_rfl) (fun _ _ _ h => h) (Or.inl ⟨by rfl, ?hy11⟩) (by assumption) ?rest11
  case hy11 => (intro w hSw; (try dsimp only at hSw); go_simp <;> with_reducible rfl)
  try simp only [Act.put, List.setIfInBounds_toArray, List.set_cons_zero, List.set_cons_succ, List.getElem_toArray, List.getElem_cons_succ, List.getElem_cons_zero]
  refine' wpAnyH_take (i := 9) (v := _) rfl (by kernel_rfl) (by kernel_rfl) (by kernel_rfl) (fun _ _ _ h => h) (Or.inl ⟨by rfl, ?hy12⟩) (by assumption) ?rest12
  case hy12 => (intro w hSw; (try dsimp only at hSw); go_simp <;> with_reducible rfl)
  try simp only [Act.put, List.setIfInBounds_toArray, List.set_cons_zero, List.set_cons_succ, List.getElem_toArray, List.getElem_cons_succ, List.getElem_cons_zero]
  refine' wpAnyH_take (i := 10) (v := _) rfl (by kernel_rfl) (by kernel_rfl) (by kernel_rfl) (fun _ _ _ h => h) (Or.inl ⟨by rfl, ?hy13⟩) (by assumption) ?rest13
  case hy13 => (intro w hSw; (try dsimp only at hSw); go_simp <;> with_reducible rfl)
  try simp only [Act.put, List.setIfInBounds_toArray, List.set_cons_zero, List.set_cons_succ, List.getElem_toArray, List.getElem_cons_succ, List.getElem_cons_zero]
  refine' wpAnyH_take (i := 11) (v := _) rfl (by kernel_rfl) (by kernel_rfl) (by kernel_rfl) (fun _ _ _ h => h) (Or.inl ⟨by rfl, ?hy14⟩) (by assumption) ?rest14
  case hy14 => (intro w hSw; (try dsimp only at hSw); go_simp <;> with_reducible rfl)
  try simp only [Act.put, List.setIfInBounds_toArray, List.set_cons_zero, List.set_cons_succ, List.getElem_toArray, List.getElem_cons_succ, List.getElem_cons_zero]
  refine wpAnyH_done (by kernel_rfl) ?_ _
  refine NoPanic.normal ?_
  have far := hidP (owns_far Hown5.out (show w.heap.size < C + 1 by omega))
  have hy2' : 0 ≤ y2.n ∧ y2.n ≤ 100001 := by simp only [List.mem_cons, List.not_mem_nil, or_false] at hy2; rcases hy2 with rfl | rfl | rfl <;> decide
  clear hy2
  generalize y2.n = Y2 at *
  go_wp2
  have z : Blk _ w.heap.size 26 #[.int .i64 start, .int .i64 next, .slice a L.length c] := ((bR5.setAt 0 (.int .i64 start)).setAt 1 (.int .i64 next)).setAt 2 (.slice a L.length c)
  obtain ⟨e0, e1, e2⟩ := z.row3
  have B5 : Below w.heap.size w w5 := HB1.out.trans (HO5.out.toBelow (by omega) HB1.out.size)
  exact bodyPost_ret (v := .tuple #[.agg #[.int .i64 start, .int .i64 next, .slice a L.length c], .string K0, .string X0, .int .i64 Y1, .int .i64 Y2]) (by simp [results, Try.results9, go_sem, e0, e1, e2]) rfl
    ⟨start, next, Y1, Y2, K0, X0, _, L, rfl, owns_mono (owns_set (owns_set (owns_set Hown5.out far.out) far.out) far.out) (by omega), Hi.out.1, Hi.out.2.1, hL, Hi.out.2.2, hK, HX.out, hy1', hy2', bl_set (bl_set (bl_set B5 (Nat.le_refl _) _) (Nat.le_refl _) _) (Nat.le_refl _) _⟩
end Go.Proofs.Ytnmbbkagjpmhdaa.Gen
