/-
  What DrawMakerPut draws: a maker whose list is short and of its own, and four numbers.
-/
import Derived.Test.YtpbbpjckkccjaaaDrawMaker2
import Derived.Test.YtpbbpjckkccjaaaInB
namespace Go.Proofs.Ytpbbpjckkccjaaa.Gen
open Go.ChangeShapes Go.WideShapes Go.ChangeAt Go.RowKit Go.Joins Go.Deep Base
set_option linter.unusedVariables false
set_option linter.unusedSimpArgs false

set_option maxRecDepth 100000 in
set_option maxHeartbeats 4000000 in
theorem drawMput_any (A : Option Addr) (cap : Nat) (l : List By) (hl : l.length ≤ 1048576) (hby : ∀ x ∈ l, x.right) (w : World) (hA : At w A l) :
    Calls Try.prog 6 #[.slice A l.length cap] w fun e w' => ∃ (row who epoch last wd ep sq off : Int) (v : Value) (L : List Mk), e = .returned (.tuple #[.agg #[.int .i64 row, .int .i64 who, .int .i64 epoch, .int .i64 last, v], .int .i64 wd, .int .i64 ep, .int .i64 sq, .int .i64 off]) ∧ w'.ownsRow w.heap.size 61 2 v L.length (flat L) ∧ L.length ≤ 9 ∧ Hid (I64 wd) ∧ Below w.heap.size w w' := by
  have HA := hidP hA
  have Hby := hidP hby
  clear hA hby
  go_enter Try.func6, Try.ntmps6
  go_wp2_with fail
  refine (new_any A cap l hl Hby.out _ (HA.out.below (alloc0 (Below.refl _ _) _))).mono ?_
  rintro e w1 ⟨C, rfl, hC, g1, d1⟩
  rw [World.size_alloc] at hC
  have bR1 := (Blk.new w 26 #[.int .i64 0, .int .i64 0, .int .i64 0, .int .i64 0, .slice none 0 0]).below g1 (by simp)
  have HB1 := hidP (via0 g1 (alloc0 (Below.refl _ w) (.cells #[.int .i64 0, .int .i64 0, .int .i64 0, .int .i64 0, .slice none 0 0] 26)))
  have HD1 := hidP d1
  have hC1 := d1.lt
  clear g1 d1
  go_wp2_with fail
  refine (draw_any C A cap l _ HD1.out).mono ?_
  rintro e w2 ⟨row, who, epoch, last, v, L, rfl, hown, hL, _, k2, d2⟩
  obtain ⟨a, c, rfl, _⟩ := owns_form hown
  have bR2 := bR1.only k2 (show w.heap.size ≠ C by omega)
  have q2 := k2.size
  have bM4 := Blk.new w2 26 #[.int .i64 row, .int .i64 who, .int .i64 epoch, .int .i64 last, .slice a L.length c]
  have bR4 := bR2.alloc (.cells #[.int .i64 row, .int .i64 who, .int .i64 epoch, .int .i64 last, .slice a L.length c] 26)
  have Hown4 := hidP (owns_alloc (owns_mono hown (show C + 1 ≤ w1.heap.size by omega)) (.cells #[.int .i64 row, .int .i64 who, .int .i64 epoch, .int .i64 last, .slice a L.length c] 26))
  have HO4 := hidP (k2.below (alloc0 (Below.refl _ w2) (.cells #[.int .i64 row, .int .i64 who, .int .i64 epoch, .int .i64 last, .slice a L.length c] 26)))
  have HD4 := hidP (d2.below (alloc0 (Below.refl _ w2) (.cells #[.int .i64 row, .int .i64 who, .int .i64 epoch, .int .i64 last, .slice a L.length c] 26)))
  clear k2 d2 bR1 bR2 hown
  go_wp2_with fail
  generalize hMM : w2.heap.size = M at *
  generalize w2.alloc (.cells #[.int .i64 row, .int .i64 who, .int .i64 epoch, .int .i64 last, .slice a L.length c] 26) = w4 at *
  have qM := bM4.lt
  have qR := bR4.lt
  have hCM : C < M := by omega
  have hRM : w.heap.size < M := by omega
  clear hMM
  obtain ⟨s0, s1, s2, s3, s4⟩ := bM4.row5
  cases hin9 : inB last (-1) 9
  · go_wp2_with (go_at_call 29; refine (in_any _ _ _ _).mono ?_; rw [hin9]; rintro e w' ⟨rfl, rfl⟩)
    refine (once_any C A cap l 4 (by omega) (by omega) _ HD4.out).mono ?_
    rintro e w5 ⟨x, rfl, k5, d5⟩
    have bM5 := bM4.only k5 (show M ≠ C by omega)
    have bR5 := bR4.only k5 (show w.heap.size ≠ C by omega)
    have Hown5 := hidP (owns_only (Hown4.out) k5 (by omega))
    have HO5 := hidP ((HO4.out).trans k5)
    have HD5 := hidP d5
    clear k5 d5
    cases x
    · have bx := Blk.new w5 3 #[.int .i64 (1), .int .i64 (2), .int .i64 (3), .int .i64 (0), .int .i64 (-1)]
      have hin : In (w5.alloc (.cells #[.int .i64 (1), .int .i64 (2), .int .i64 (3), .int .i64 (0), .int .i64 (-1)] 3)) w5.heap.size 0 ([⟨1⟩, ⟨2⟩, ⟨3⟩, ⟨0⟩, ⟨-1⟩] : List Nu) := fun j u hu => bx.cell (i := 0 + j) (by simpa [flat, Cel.cs] using hu)
      have qM5 := bM5.lt
      go_wp2_with fail
      refine (pick_any C A cap l w5.heap.size 0 5 ([⟨1⟩, ⟨2⟩, ⟨3⟩, ⟨0⟩, ⟨-1⟩] : List Nu) (by simp) (by simp) _ (HD5.out.below (alloc0 (Below.refl _ _) _)) (by simp) (by omega) hin).mono ?_
      rintro e w7 ⟨y, hy, rfl, k7, d7⟩
      have hwd : Hid (I64 y.n) := by (show I64 y.n); simp at hy; rcases hy with rfl | rfl | rfl | rfl | rfl <;> (unfold I64; decide)
      have bM7 := (bM5.alloc (.cells #[.int .i64 (1), .int .i64 (2), .int .i64 (3), .int .i64 (0), .int .i64 (-1)] 3)).only k7 (show M ≠ C by omega)
      have bR7 := (bR5.alloc (.cells #[.int .i64 (1), .int .i64 (2), .int .i64 (3), .int .i64 (0), .int .i64 (-1)] 3)).only k7 (show w.heap.size ≠ C by omega)
      have Hown7 := hidP (owns_only (owns_alloc Hown5.out (.cells #[.int .i64 (1), .int .i64 (2), .int .i64 (3), .int .i64 (0), .int .i64 (-1)] 3)) k7 (by omega))
      have HO7 := hidP ((HO5.out.below (alloc0 (Below.refl _ _) (.cells #[.int .i64 (1), .int .i64 (2), .int .i64 (3), .int .i64 (0), .int .i64 (-1)] 3))).trans k7)
      have HD7 := hidP d7
      generalize y.n = wd at *
      clear k7 d7 hin bx hy
      go_wp2_with fail
      refine wp_region_noPanic ?_
      refine wp_region_held_drew (S := fun w' => w'.cell? ⟨M, 0, none⟩ = some (.int .i64 row) ∧ w'.cell? ⟨M, 1, none⟩ = some (.int .i64 who) ∧ w'.cell? ⟨M, 2, none⟩ = some (.int .i64 epoch) ∧ w'.cell? ⟨M, 3, none⟩ = some (.int .i64 last) ∧ w'.cell? ⟨M, 4, none⟩ = some (.slice a L.length c)) (by kernel_rfl) ?_ (fun hH => ?_)
      · exact bM7.drew.row5
      refine' wpAnyH_take (i := 0) (v := _) rfl (by kernel_rfl) (by kernel_rfl) (by kernel_rfl) (fun _ _ _ h => h) (Or.inl ⟨by rfl, ?hy11⟩) (by assumption) ?rest11
      case hy11 => (intro w hSw; (try dsimp only at hSw); go_simp <;> with_reducible rfl)
      try simp only [Act.put, List.setIfInBounds_toArray, List.set_cons_zero, List.set_cons_succ, List.getElem_toArray, List.getElem_cons_succ, List.getElem_cons_zero]
      refine' wpAnyH_take (i := 1) (v := _) rfl (by kernel_rfl) (by kernel_rfl) (by kernel_rfl) (fun _ _ _ h => h) (Or.inl ⟨by rfl, ?hy12⟩) (by assumption) ?rest12
      case hy12 => (intro w hSw; (try dsimp only at hSw); go_simp <;> with_reducible rfl)
      try simp only [Act.put, List.setIfInBounds_toArray, List.set_cons_zero, List.set_cons_succ, List.getElem_toArray, List.getElem_cons_succ, List.getElem_cons_zero]
      refine' wpAnyH_take (i := 2) (v := _) rfl (by kernel_rfl) (by kernel_rfl) (by kernel_rfl) (fun _ _ _ h => h) (Or.inl ⟨by rfl, ?hy13⟩) (by assumption) ?rest13
      case hy13 => (intro w hSw; (try dsimp only at hSw); go_simp <;> with_reducible rfl)
      try simp only [Act.put, List.setIfInBounds_toArray, List.set_cons_zero, List.set_cons_succ, List.getElem_toArray, List.getElem_cons_succ, List.getElem_cons_zero]
      refine' wpAnyH_take (i := 3) (v := _) rfl (by kernel_rfl) (by kernel_rfl) (by kernel_rfl) (fun _ _ _ h => h) (Or.inl ⟨by rfl, ?hy14⟩) (by assumption) ?rest14
      case hy14 => (intro w hSw; (try dsimp only at hSw); go_simp <;> with_reducible rfl)
      try simp only [Act.put, List.setIfInBounds_toArray, List.set_cons_zero, List.set_cons_succ, List.getElem_toArray, List.getElem_cons_succ, List.getElem_cons_zero]
      refine' wpAnyH_take (i := 4) (v := _) rfl (by kernel_rfl) (by kernel_rfl) (by kernel_rfl) (fun _ _ _ h => h) (Or.inl ⟨by rfl, ?hy15⟩) (by assumption) ?rest15
      case hy15 => (intro w hSw; (try dsimp only at hSw); go_simp <;> with_reducible rfl)
      try simp only [Act.put, List.setIfInBounds_toArray, List.set_cons_zero, List.set_cons_succ, List.getElem_toArray, List.getElem_cons_succ, List.getElem_cons_zero]
      refine wpAnyH_ready (rs := [5]) (by kernel_rfl) (by simp) (AllReadyH.cons rfl (fun K hK => ?_) AllReadyH.nil)
      simp only [List.getElem_toArray, List.getElem_cons_succ, List.getElem_cons_zero]
      go_simp
      (go_at_call 31; refine (below_any C A cap l 3 (by omega) (by omega) _ (HD7.out.below (Below.drew (Below.refl _ _)))).mono ?_; rintro e w8 ⟨y8, rfl, hy80, hy81, k8, d8⟩; have bM8 := bM7.drew.only k8 (show M ≠ C by omega); have bR8 := bR7.drew.only k8 (show w.heap.size ≠ C by omega); have Hown8 := hidP (owns_only (owns_drew Hown7.out) k8 (by omega)); have HO8 := hidP ((HO7.out.drew).trans k8); obtain ⟨r0, r1, r2, r3, r4⟩ := bR8.row5; have f0 := bR8.thaw 0; have f1 := bR8.thaw 1; have f2 := bR8.thaw 2; have f3 := bR8.thaw 3; have f4 := bR8.thaw 4; have qR8 := bR8.lt)
      refine hK.out _ _ ?_ (fun hH => ?_)
      · exact bM8.row5
      clear hK K
      try simp only [Act.put, List.setIfInBounds_toArray, List.set_cons_zero, List.set_cons_succ, List.getElem_toArray, List.getElem_cons_succ, List.getElem_cons_zero]
      refine' wpAnyH_take (i := 6) (v := _) rfl (by kernel_rfl) (by kernel_rfl) (by kernel_rfl) (fun _ _ _ h => h) (Or.inl ⟨by rfl, ?hy16⟩) (by assumption) ?rest16
      case hy16 => (intro w hSw; (try dsimp only at hSw); go_simp <;> with_reducible rfl)
      try simp only [Act.put, List.setIfInBounds_toArray, List.set_cons_zero, List.set_cons_succ, List.getElem_toArray, List.getElem_cons_succ, List.getElem_cons_zero]
      refine wpAnyH_ready (rs := [7]) (by kernel_rfl) (by simp) (AllReadyH.cons rfl (fun K hK => ?_) AllReadyH.nil)
      simp only [List.getElem_toArray, List.getElem_cons_succ, List.getElem_cons_zero]
      go_simp
      skip
      refine hK.out _ _ ?_ (fun hH => ?_)
      · exact Blk.row5 (((((bM8.other (B' := w.heap.size) (by omega) 0 (.int .i64 row)).other (B' := w.heap.size) (by omega) 1 (.int .i64 who)).other (B' := w.heap.size) (by omega) 2 (.int .i64 epoch)).other (B' := w.heap.size) (by omega) 3 (.int .i64 last)).other (B' := w.heap.size) (by omega) 4 (.slice a L.length c))
      clear hK K
      try simp only [Act.put, List.setIfInBounds_toArray, List.set_cons_zero, List.set_cons_succ, List.getElem_toArray, List.getElem_cons_succ, List.getElem_cons_zero]
      refine' wpAnyH_take (i := 8) (v := _) rfl (by kernel_rfl) (by kernel_rfl) (by kernel_rfl) (fun _ _ _ h => h) (Or.inl ⟨by rfl, ?hy17⟩) (by assumption) ?rest17
      case hy17 => (intro w hSw; (try dsimp only at hSw); go_simp <;> with_reducible rfl)
      try simp only [Act.put, List.setIfInBounds_toArray, List.set_cons_zero, List.set_cons_succ, List.getElem_toArray, List.getElem_cons_succ, List.getElem_cons_zero]
      refine' wpAnyH_take (i := 9) (v := _) rfl (by kernel_rfl) (by kernel_rfl) (by kernel_rfl) (fun _ _ _ h => h) (Or.inl ⟨by rfl, ?hy18⟩) (by assumption) ?rest18
      case hy18 => (intro w hSw; (try dsimp only at hSw); go_simp <;> with_reducible rfl)
      try simp only [Act.put, List.setIfInBounds_toArray, List.set_cons_zero, List.set_cons_succ, List.getElem_toArray, List.getElem_cons_succ, List.getElem_cons_zero]
      refine' wpAnyH_take (i := 10) (v := _) rfl (by kernel_rfl) (by kernel_rfl) (by kernel_rfl) (fun _ _ _ h => h) (Or.inl ⟨by rfl, ?hy19⟩) (by assumption) ?rest19
      case hy19 => (intro w hSw; (try dsimp only at hSw); go_simp <;> with_reducible rfl)
      try simp only [Act.put, List.setIfInBounds_toArray, List.set_cons_zero, List.set_cons_succ, List.getElem_toArray, List.getElem_cons_succ, List.getElem_cons_zero]
      refine' wpAnyH_take (i := 11) (v := _) rfl (by kernel_rfl) (by kernel_rfl) (by kernel_rfl) (fun _ _ _ h => h) (Or.inl ⟨by rfl, ?hy20⟩) (by assumption) ?rest20
      case hy20 => (intro w hSw; (try dsimp only at hSw); go_simp <;> with_reducible rfl)
      try simp only [Act.put, List.setIfInBounds_toArray, List.set_cons_zero, List.set_cons_succ, List.getElem_toArray, List.getElem_cons_succ, List.getElem_cons_zero]
      refine wpAnyH_done (by kernel_rfl) ?_ _
      refine NoPanic.normal ?_
      have far := hidP (owns_far Hown8.out (show w.heap.size < C + 1 by omega))
      go_wp2
      have z : Blk _ w.heap.size 26 #[.int .i64 row, .int .i64 who, .int .i64 epoch, .int .i64 last, .slice a L.length c] := ((((bR8.setAt 0 (.int .i64 row)).setAt 1 (.int .i64 who)).setAt 2 (.int .i64 epoch)).setAt 3 (.int .i64 last)).setAt 4 (.slice a L.length c)
      obtain ⟨e0, e1, e2, e3, e4⟩ := z.row5
      have B8 : Below w.heap.size w w8 := HB1.out.trans (HO8.out.toBelow (by omega) HB1.out.size)
      exact bodyPost_ret (v := .tuple #[.agg #[.int .i64 row, .int .i64 who, .int .i64 epoch, .int .i64 last, .slice a L.length c], .int .i64 wd, .int .i64 (epoch), .int .i64 (last), .int .i64 _]) (by simp [results, Try.results6, go_sem, e0, e1, e2, e3, e4]; rfl) rfl
        ⟨row, who, epoch, last, wd, epoch, last, _, _, L, rfl, owns_mono (owns_set (owns_set (owns_set (owns_set (owns_set Hown8.out far.out) far.out) far.out) far.out) far.out) (by omega), hL, hwd, bl_set (bl_set (bl_set (bl_set (bl_set B8 (Nat.le_refl _) _) (Nat.le_refl _) _) (Nat.le_refl _) _) (Nat.le_refl _) _) (Nat.le_refl _) _⟩
    · go_wp2_with fail
      refine (below_any C A cap l 3 (by omega) (by omega) _ HD5.out).mono ?_
      rintro e w6 ⟨z1, rfl, hz10, hz11, k6, d6⟩
      have bM6 := bM5.only k6 (show M ≠ C by omega)
      have bR6 := bR5.only k6 (show w.heap.size ≠ C by omega)
      have Hown6 := hidP (owns_only (Hown5.out) k6 (by omega))
      have HO6 := hidP ((HO5.out).trans k6)
      have HD6 := hidP d6
      clear k6 d6
      go_wp2_with fail
      refine (below_any C A cap l 3 (by omega) (by omega) _ HD6.out).mono ?_
      rintro e w9 ⟨z2, rfl, hz20, hz21, k9, d9⟩
      have bM9 := bM6.only k9 (show M ≠ C by omega)
      have bR9 := bR6.only k9 (show w.heap.size ≠ C by omega)
      have Hown9 := hidP (owns_only (Hown6.out) k9 (by omega))
      have HO9 := hidP ((HO6.out).trans k9)
      have HD9 := hidP d9
      clear k9 d9
      have bx := Blk.new w9 3 #[.int .i64 (1), .int .i64 (2), .int .i64 (3), .int .i64 (0), .int .i64 (-1)]
      have hin : In (w9.alloc (.cells #[.int .i64 (1), .int .i64 (2), .int .i64 (3), .int .i64 (0), .int .i64 (-1)] 3)) w9.heap.size 0 ([⟨1⟩, ⟨2⟩, ⟨3⟩, ⟨0⟩, ⟨-1⟩] : List Nu) := fun j u hu => bx.cell (i := 0 + j) (by simpa [flat, Cel.cs] using hu)
      have qM9 := bM9.lt
      go_wp2_with fail
      refine (pick_any C A cap l w9.heap.size 0 5 ([⟨1⟩, ⟨2⟩, ⟨3⟩, ⟨0⟩, ⟨-1⟩] : List Nu) (by simp) (by simp) _ (HD9.out.below (alloc0 (Below.refl _ _) _)) (by simp) (by omega) hin).mono ?_
      rintro e w7 ⟨y, hy, rfl, k7, d7⟩
      have hwd : Hid (I64 y.n) := by (show I64 y.n); simp at hy; rcases hy with rfl | rfl | rfl | rfl | rfl <;> (unfold I64; decide)
      have bM7 := (bM9.alloc (.cells #[.int .i64 (1), .int .i64 (2), .int .i64 (3), .int .i64 (0), .int .i64 (-1)] 3)).only k7 (show M ≠ C by omega)
      have bR7 := (bR9.alloc (.cells #[.int .i64 (1), .int .i64 (2), .int .i64 (3), .int .i64 (0), .int .i64 (-1)] 3)).only k7 (show w.heap.size ≠ C by omega)
      have Hown7 := hidP (owns_only (owns_alloc Hown9.out (.cells #[.int .i64 (1), .int .i64 (2), .int .i64 (3), .int .i64 (0), .int .i64 (-1)] 3)) k7 (by omega))
      have HO7 := hidP ((HO9.out.below (alloc0 (Below.refl _ _) (.cells #[.int .i64 (1), .int .i64 (2), .int .i64 (3), .int .i64 (0), .int .i64 (-1)] 3))).trans k7)
      have HD7 := hidP d7
      generalize y.n = wd at *
      clear k7 d7 hin bx hy
      go_wp2_with fail
      refine wp_region_noPanic ?_
      refine wp_region_held_drew (S := fun w' => w'.cell? ⟨M, 0, none⟩ = some (.int .i64 row) ∧ w'.cell? ⟨M, 1, none⟩ = some (.int .i64 who) ∧ w'.cell? ⟨M, 2, none⟩ = some (.int .i64 epoch) ∧ w'.cell? ⟨M, 3, none⟩ = some (.int .i64 last) ∧ w'.cell? ⟨M, 4, none⟩ = some (.slice a L.length c)) (by kernel_rfl) ?_ (fun hH => ?_)
      · exact bM7.drew.row5
      refine' wpAnyH_take (i := 0) (v := _) rfl (by kernel_rfl) (by kernel_rfl) (by kernel_rfl) (fun _ _ _ h => h) (Or.inl ⟨by rfl, ?hy1⟩) (by assumption) ?rest1
      case hy1 => (intro w hSw; (try dsimp only at hSw); go_simp <;> with_reducible rfl)
      try simp only [Act.put, List.setIfInBounds_toArray, List.set_cons_zero, List.set_cons_succ, List.getElem_toArray, List.getElem_cons_succ, List.getElem_cons_zero]
      refine' wpAnyH_take (i := 1) (v := _) rfl (by kernel_rfl) (by kernel_rfl) (by kernel_rfl) (fun _ _ _ h => h) (Or.inl ⟨by rfl, ?hy2⟩) (by assumption) ?rest2
      case hy2 => (intro w hSw; (try dsimp only at hSw); go_simp <;> with_reducible rfl)
      try simp only [Act.put, List.setIfInBounds_toArray, List.set_cons_zero, List.set_cons_succ, List.getElem_toArray, List.getElem_cons_succ, List.getElem_cons_zero]
      refine' wpAnyH_take (i := 2) (v := _) rfl (by kernel_rfl) (by kernel_rfl) (by kernel_rfl) (fun _ _ _ h => h) (Or.inl ⟨by rfl, ?hy3⟩) (by assumption) ?rest3
      case hy3 => (intro w hSw; (try dsimp only at hSw); go_simp <;> with_reducible rfl)
      try simp only [Act.put, List.setIfInBounds_toArray, List.set_cons_zero, List.set_cons_succ, List.getElem_toArray, List.getElem_cons_succ, List.getElem_cons_zero]
      refine' wpAnyH_take (i := 3) (v := _) rfl (by kernel_rfl) (by kernel_rfl) (by kernel_rfl) (fun _ _ _ h => h) (Or.inl ⟨by rfl, ?hy4⟩) (by assumption) ?rest4
      case hy4 => (intro w hSw; (try dsimp only at hSw); go_simp <;> with_reducible rfl)
      try simp only [Act.put, List.setIfInBounds_toArray, List.set_cons_zero, List.set_cons_succ, List.getElem_toArray, List.getElem_cons_succ, List.getElem_cons_zero]
      refine' wpAnyH_take (i := 4) (v := _) rfl (by kernel_rfl) (by kernel_rfl) (by kernel_rfl) (fun _ _ _ h => h) (Or.inl ⟨by rfl, ?hy5⟩) (by assumption) ?rest5
      case hy5 => (intro w hSw; (try dsimp only at hSw); go_simp <;> with_reducible rfl)
      try simp only [Act.put, List.setIfInBounds_toArray, List.set_cons_zero, List.set_cons_succ, List.getElem_toArray, List.getElem_cons_succ, List.getElem_cons_zero]
      refine wpAnyH_ready (rs := [5]) (by kernel_rfl) (by simp) (AllReadyH.cons rfl (fun K hK => ?_) AllReadyH.nil)
      simp only [List.getElem_toArray, List.getElem_cons_succ, List.getElem_cons_zero]
      go_simp
      (go_at_call 31; refine (below_any C A cap l 3 (by omega) (by omega) _ (HD7.out.below (Below.drew (Below.refl _ _)))).mono ?_; rintro e w8 ⟨y8, rfl, hy80, hy81, k8, d8⟩; have bM8 := bM7.drew.only k8 (show M ≠ C by omega); have bR8 := bR7.drew.only k8 (show w.heap.size ≠ C by omega); have Hown8 := hidP (owns_only (owns_drew Hown7.out) k8 (by omega)); have HO8 := hidP ((HO7.out.drew).trans k8); obtain ⟨r0, r1, r2, r3, r4⟩ := bR8.row5; have f0 := bR8.thaw 0; have f1 := bR8.thaw 1; have f2 := bR8.thaw 2; have f3 := bR8.thaw 3; have f4 := bR8.thaw 4; have qR8 := bR8.lt)
      refine hK.out _ _ ?_ (fun hH => ?_)
      · exact bM8.row5
      clear hK K
      try simp only [Act.put, List.setIfInBounds_toArray, List.set_cons_zero, List.set_cons_succ, List.getElem_toArray, List.getElem_cons_succ, List.getElem_cons_zero]
      refine' wpAnyH_take (i := 6) (v := _) rfl (by kernel_rfl) (by kernel_rfl) (by kernel_rfl) (fun _ _ _ h => h) (Or.inl ⟨by rfl, ?hy6⟩) (by assumption) ?rest6
      case hy6 => (intro w hSw; (try dsimp only at hSw); go_simp <;> with_reducible rfl)
      try simp only [Act.put, List.setIfInBounds_toArray, List.set_cons_zero, List.set_cons_succ, List.getElem_toArray, List.getElem_cons_succ, List.getElem_cons_zero]
      refine wpAnyH_ready (rs := [7]) (by kernel_rfl) (by simp) (AllReadyH.cons rfl (fun K hK => ?_) AllReadyH.nil)
      simp only [List.getElem_toArray, List.getElem_cons_succ, List.getElem_cons_zero]
      go_simp
      skip
      refine hK.out _ _ ?_ (fun hH => ?_)
      · exact Blk.row5 (((((bM8.other (B' := w.heap.size) (by omega) 0 (.int .i64 row)).other (B' := w.heap.size) (by omega) 1 (.int .i64 who)).other (B' := w.heap.size) (by omega) 2 (.int .i64 epoch)).other (B' := w.heap.size) (by omega) 3 (.int .i64 last)).other (B' := w.heap.size) (by omega) 4 (.slice a L.length c))
      clear hK K
      try simp only [Act.put, List.setIfInBounds_toArray, List.set_cons_zero, List.set_cons_succ, List.getElem_toArray, List.getElem_cons_succ, List.getElem_cons_zero]
      refine' wpAnyH_take (i := 8) (v := _) rfl (by kernel_rfl) (by kernel_rfl) (by kernel_rfl) (fun _ _ _ h => h) (Or.inl ⟨by rfl, ?hy7⟩) (by assumption) ?rest7
      case hy7 => (intro w hSw; (try dsimp only at hSw); go_simp <;> with_reducible rfl)
      try simp only [Act.put, List.setIfInBounds_toArray, List.set_cons_zero, List.set_cons_succ, List.getElem_toArray, List.getElem_cons_succ, List.getElem_cons_zero]
      refine' wpAnyH_take (i := 9) (v := _) rfl (by kernel_rfl) (by kernel_rfl) (by kernel_rfl) (fun _ _ _ h => h) (Or.inl ⟨by rfl, ?hy8⟩) (by assumption) ?rest8
      case hy8 => (intro w hSw; (try dsimp only at hSw); go_simp <;> with_reducible rfl)
      try simp only [Act.put, List.setIfInBounds_toArray, List.set_cons_zero, List.set_cons_succ, List.getElem_toArray, List.getElem_cons_succ, List.getElem_cons_zero]
      refine' wpAnyH_take (i := 10) (v := _) rfl (by kernel_rfl) (by kernel_rfl) (by kernel_rfl) (fun _ _ _ h => h) (Or.inl ⟨by rfl, ?hy9⟩) (by assumption) ?rest9
      case hy9 => (intro w hSw; (try dsimp only at hSw); go_simp <;> with_reducible rfl)
      try simp only [Act.put, List.setIfInBounds_toArray, List.set_cons_zero, List.set_cons_succ, List.getElem_toArray, List.getElem_cons_succ, List.getElem_cons_zero]
      refine' wpAnyH_take (i := 11) (v := _) rfl (by kernel_rfl) (by kernel_rfl) (by kernel_rfl) (fun _ _ _ h => h) (Or.inl ⟨by rfl, ?hy10⟩) (by assumption) ?rest10
      case hy10 => (intro w hSw; (try dsimp only at hSw); go_simp <;> with_reducible rfl)
      try simp only [Act.put, List.setIfInBounds_toArray, List.set_cons_zero, List.set_cons_succ, List.getElem_toArray, List.getElem_cons_succ, List.getElem_cons_zero]
      refine wpAnyH_done (by kernel_rfl) ?_ _
      refine NoPanic.normal ?_
      have far := hidP (owns_far Hown8.out (show w.heap.size < C + 1 by omega))
      go_wp2
      have z : Blk _ w.heap.size 26 #[.int .i64 row, .int .i64 who, .int .i64 epoch, .int .i64 last, .slice a L.length c] := ((((bR8.setAt 0 (.int .i64 row)).setAt 1 (.int .i64 who)).setAt 2 (.int .i64 epoch)).setAt 3 (.int .i64 last)).setAt 4 (.slice a L.length c)
      obtain ⟨e0, e1, e2, e3, e4⟩ := z.row5
      have B8 : Below w.heap.size w w8 := HB1.out.trans (HO8.out.toBelow (by omega) HB1.out.size)
      exact bodyPost_ret (v := .tuple #[.agg #[.int .i64 row, .int .i64 who, .int .i64 epoch, .int .i64 last, .slice a L.length c], .int .i64 wd, .int .i64 (z1), .int .i64 (z2), .int .i64 _]) (by simp [results, Try.results6, go_sem, e0, e1, e2, e3, e4]; rfl) rfl
        ⟨row, who, epoch, last, wd, z1, z2, _, _, L, rfl, owns_mono (owns_set (owns_set (owns_set (owns_set (owns_set Hown8.out far.out) far.out) far.out) far.out) far.out) (by omega), hL, hwd, bl_set (bl_set (bl_set (bl_set (bl_set B8 (Nat.le_refl _) _) (Nat.le_refl _) _) (Nat.le_refl _) _) (Nat.le_refl _) _) (Nat.le_refl _) _⟩
  · go_wp2_with (go_at_call 29; refine (in_any _ _ _ _).mono ?_; rw [hin9]; rintro e w' ⟨rfl, rfl⟩)
    refine (once_any C A cap l 4 (by omega) (by omega) _ HD4.out).mono ?_
    rintro e w5 ⟨x, rfl, k5, d5⟩
    have bM5 := bM4.only k5 (show M ≠ C by omega)
    have bR5 := bR4.only k5 (show w.heap.size ≠ C by omega)
    have Hown5 := hidP (owns_only (Hown4.out) k5 (by omega))
    have HO5 := hidP ((HO4.out).trans k5)
    have HD5 := hidP d5
    clear k5 d5
    cases x
    · have bx := Blk.new w5 3 #[.int .i64 (1), .int .i64 (2), .int .i64 (3), .int .i64 (0), .int .i64 (-1)]
      have hin : In (w5.alloc (.cells #[.int .i64 (1), .int .i64 (2), .int .i64 (3), .int .i64 (0), .int .i64 (-1)] 3)) w5.heap.size 0 ([⟨1⟩, ⟨2⟩, ⟨3⟩, ⟨0⟩, ⟨-1⟩] : List Nu) := fun j u hu => bx.cell (i := 0 + j) (by simpa [flat, Cel.cs] using hu)
      have qM5 := bM5.lt
      go_wp2_with fail
      refine (pick_any C A cap l w5.heap.size 0 5 ([⟨1⟩, ⟨2⟩, ⟨3⟩, ⟨0⟩, ⟨-1⟩] : List Nu) (by simp) (by simp) _ (HD5.out.below (alloc0 (Below.refl _ _) _)) (by simp) (by omega) hin).mono ?_
      rintro e w7 ⟨y, hy, rfl, k7, d7⟩
      have hwd : Hid (I64 y.n) := by (show I64 y.n); simp at hy; rcases hy with rfl | rfl | rfl | rfl | rfl <;> (unfold I64; decide)
      have bM7 := (bM5.alloc (.cells #[.int .i64 (1), .int .i64 (2), .int .i64 (3), .int .i64 (0), .int .i64 (-1)] 3)).only k7 (show M ≠ C by omega)
      have bR7 := (bR5.alloc (.cells #[.int .i64 (1), .int .i64 (2), .int .i64 (3), .int .i64 (0), .int .i64 (-1)] 3)).only k7 (show w.heap.size ≠ C by omega)
      have Hown7 := hidP (owns_only (owns_alloc Hown5.out (.cells #[.int .i64 (1), .int .i64 (2), .int .i64 (3), .int .i64 (0), .int .i64 (-1)] 3)) k7 (by omega))
      have HO7 := hidP ((HO5.out.below (alloc0 (Below.refl _ _) (.cells #[.int .i64 (1), .int .i64 (2), .int .i64 (3), .int .i64 (0), .int .i64 (-1)] 3))).trans k7)
      have HD7 := hidP d7
      generalize y.n = wd at *
      clear k7 d7 hin bx hy
      go_wp2_with fail
      refine wp_region_noPanic ?_
      refine wp_region_held_drew (S := fun w' => w'.cell? ⟨M, 0, none⟩ = some (.int .i64 row) ∧ w'.cell? ⟨M, 1, none⟩ = some (.int .i64 who) ∧ w'.cell? ⟨M, 2, none⟩ = some (.int .i64 epoch) ∧ w'.cell? ⟨M, 3, none⟩ = some (.int .i64 last) ∧ w'.cell? ⟨M, 4, none⟩ = some (.slice a L.length c)) (by kernel_rfl) ?_ (fun hH => ?_)
      · exact bM7.drew.row5
      refine' wpAnyH_take (i := 0) (v := _) rfl (by kernel_rfl) (by kernel_rfl) (by kernel_rfl) (fun _ _ _ h => h) (Or.inl ⟨by rfl, ?hy31⟩) (by assumption) ?rest31
      case hy31 => (intro w hSw; (try dsimp only at hSw); go_simp <;> with_reducible rfl)
      try simp only [Act.put, List.setIfInBounds_toArray, List.set_cons_zero, List.set_cons_succ, List.getElem_toArray, List.getElem_cons_succ, List.getElem_cons_zero]
      refine' wpAnyH_take (i := 1) (v := _) rfl (by kernel_rfl) (by kernel_rfl) (by kernel_rfl) (fun _ _ _ h => h) (Or.inl ⟨by rfl, ?hy32⟩) (by assumption) ?rest32
      case hy32 => (intro w hSw; (try dsimp only at hSw); go_simp <;> with_reducible rfl)
      try simp only [Act.put, List.setIfInBounds_toArray, List.set_cons_zero, List.set_cons_succ, List.getElem_toArray, List.getElem_cons_succ, List.getElem_cons_zero]
      refine' wpAnyH_take (i := 2) (v := _) rfl (by kernel_rfl) (by kernel_rfl) (by kernel_rfl) (fun _ _ _ h => h) (Or.inl ⟨by rfl, ?hy33⟩) (by assumption) ?rest33
      case hy33 => (intro w hSw; (try dsimp only at hSw); go_simp <;> with_reducible rfl)
      try simp only [Act.put, List.setIfInBounds_toArray, List.set_cons_zero, List.set_cons_succ, List.getElem_toArray, List.getElem_cons_succ, List.getElem_cons_zero]
      refine' wpAnyH_take (i := 3) (v := _) rfl (by kernel_rfl) (by kernel_rfl) (by kernel_rfl) (fun _ _ _ h => h) (Or.inl ⟨by rfl, ?hy34⟩) (by assumption) ?rest34
      case hy34 => (intro w hSw; (try dsimp only at hSw); go_simp <;> with_reducible rfl)
      try simp only [Act.put, List.setIfInBounds_toArray, List.set_cons_zero, List.set_cons_succ, List.getElem_toArray, List.getElem_cons_succ, List.getElem_cons_zero]
      refine' wpAnyH_take (i := 4) (v := _) rfl (by kernel_rfl) (by kernel_rfl) (by kernel_rfl) (fun _ _ _ h => h) (Or.inl ⟨by rfl, ?hy35⟩) (by assumption) ?rest35
      case hy35 => (intro w hSw; (try dsimp only at hSw); go_simp <;> with_reducible rfl)
      try simp only [Act.put, List.setIfInBounds_toArray, List.set_cons_zero, List.set_cons_succ, List.getElem_toArray, List.getElem_cons_succ, List.getElem_cons_zero]
      refine wpAnyH_ready (rs := [5]) (by kernel_rfl) (by simp) (AllReadyH.cons rfl (fun K hK => ?_) AllReadyH.nil)
      simp only [List.getElem_toArray, List.getElem_cons_succ, List.getElem_cons_zero]
      go_simp
      (go_at_call 31; refine (below_any C A cap l 3 (by omega) (by omega) _ (HD7.out.below (Below.drew (Below.refl _ _)))).mono ?_; rintro e w8 ⟨y8, rfl, hy80, hy81, k8, d8⟩; have bM8 := bM7.drew.only k8 (show M ≠ C by omega); have bR8 := bR7.drew.only k8 (show w.heap.size ≠ C by omega); have Hown8 := hidP (owns_only (owns_drew Hown7.out) k8 (by omega)); have HO8 := hidP ((HO7.out.drew).trans k8); obtain ⟨r0, r1, r2, r3, r4⟩ := bR8.row5; have f0 := bR8.thaw 0; have f1 := bR8.thaw 1; have f2 := bR8.thaw 2; have f3 := bR8.thaw 3; have f4 := bR8.thaw 4; have qR8 := bR8.lt)
      refine hK.out _ _ ?_ (fun hH => ?_)
      · exact bM8.row5
      clear hK K
      try simp only [Act.put, List.setIfInBounds_toArray, List.set_cons_zero, List.set_cons_succ, List.getElem_toArray, List.getElem_cons_succ, List.getElem_cons_zero]
      refine' wpAnyH_take (i := 6) (v := _) rfl (by kernel_rfl) (by kernel_rfl) (by kernel_rfl) (fun _ _ _ h => h) (Or.inl ⟨by rfl, ?hy36⟩) (by assumption) ?rest36
      case hy36 => (intro w hSw; (try dsimp only at hSw); go_simp <;> with_reducible rfl)
      try simp only [Act.put, List.setIfInBounds_toArray, List.set_cons_zero, List.set_cons_succ, List.getElem_toArray, List.getElem_cons_succ, List.getElem_cons_zero]
      refine wpAnyH_ready (rs := [7]) (by kernel_rfl) (by simp) (AllReadyH.cons rfl (fun K hK => ?_) AllReadyH.nil)
      simp only [List.getElem_toArray, List.getElem_cons_succ, List.getElem_cons_zero]
      go_simp
      skip
      refine hK.out _ _ ?_ (fun hH => ?_)
      · exact Blk.row5 (((((bM8.other (B' := w.heap.size) (by omega) 0 (.int .i64 row)).other (B' := w.heap.size) (by omega) 1 (.int .i64 who)).other (B' := w.heap.size) (by omega) 2 (.int .i64 epoch)).other (B' := w.heap.size) (by omega) 3 (.int .i64 last)).other (B' := w.heap.size) (by omega) 4 (.slice a L.length c))
      clear hK K
      try simp only [Act.put, List.setIfInBounds_toArray, List.set_cons_zero, List.set_cons_succ, List.getElem_toArray, List.getElem_cons_succ, List.getElem_cons_zero]
      refine' wpAnyH_take (i := 8) (v := _) rfl (by kernel_rfl) (by kernel_rfl) (by kernel_rfl) (fun _ _ _ h => h) (Or.inl ⟨by rfl, ?hy37⟩) (by assumption) ?rest37
      case hy37 => (intro w hSw; (try dsimp only at hSw); go_simp <;> with_reducible rfl)
      try simp only [Act.put, List.setIfInBounds_toArray, List.set_cons_zero, List.set_cons_succ, List.getElem_toArray, List.getElem_cons_succ, List.getElem_cons_zero]
      refine' wpAnyH_take (i := 9) (v := _) rfl (by kernel_rfl) (by kernel_rfl) (by kernel_rfl) (fun _ _ _ h => h) (Or.inl ⟨by rfl, ?hy38⟩) (by assumption) ?rest38
      case hy38 => (intro w hSw; (try dsimp only at hSw); go_simp <;> with_reducible rfl)
      try simp only [Act.put, List.setIfInBounds_toArray, List.set_cons_zero, List.set_cons_succ, List.getElem_toArray, List.getElem_cons_succ, List.getElem_cons_zero]
      refine' wpAnyH_take (i := 10) (v := _) rfl (by kernel_rfl) (by kernel_rfl) (by kernel_rfl) (fun _ _ _ h => h) (Or.inl ⟨by rfl, ?hy39⟩) (by assumption) ?rest39
      case hy39 => (intro w hSw; (try dsimp only at hSw); go_simp <;> with_reducible rfl)
      try simp only [Act.put, List.setIfInBounds_toArray, List.set_cons_zero, List.set_cons_succ, List.getElem_toArray, List.getElem_cons_succ, List.getElem_cons_zero]
      refine' wpAnyH_take (i := 11) (v := _) rfl (by kernel_rfl) (by kernel_rfl) (by kernel_rfl) (fun _ _ _ h => h) (Or.inl ⟨by rfl, ?hy40⟩) (by assumption) ?rest40
      case hy40 => (intro w hSw; (try dsimp only at hSw); go_simp <;> with_reducible rfl)
      try simp only [Act.put, List.setIfInBounds_toArray, List.set_cons_zero, List.set_cons_succ, List.getElem_toArray, List.getElem_cons_succ, List.getElem_cons_zero]
      refine wpAnyH_done (by kernel_rfl) ?_ _
      refine NoPanic.normal ?_
      have far := hidP (owns_far Hown8.out (show w.heap.size < C + 1 by omega))
      go_wp2
      have z : Blk _ w.heap.size 26 #[.int .i64 row, .int .i64 who, .int .i64 epoch, .int .i64 last, .slice a L.length c] := ((((bR8.setAt 0 (.int .i64 row)).setAt 1 (.int .i64 who)).setAt 2 (.int .i64 epoch)).setAt 3 (.int .i64 last)).setAt 4 (.slice a L.length c)
      obtain ⟨e0, e1, e2, e3, e4⟩ := z.row5
      have B8 : Below w.heap.size w w8 := HB1.out.trans (HO8.out.toBelow (by omega) HB1.out.size)
      exact bodyPost_ret (v := .tuple #[.agg #[.int .i64 row, .int .i64 who, .int .i64 epoch, .int .i64 last, .slice a L.length c], .int .i64 wd, .int .i64 (epoch), .int .i64 (wrap64 (last + 1)), .int .i64 _]) (by simp [results, Try.results6, go_sem, e0, e1, e2, e3, e4]; rfl) rfl
        ⟨row, who, epoch, last, wd, epoch, wrap64 (last + 1), _, _, L, rfl, owns_mono (owns_set (owns_set (owns_set (owns_set (owns_set Hown8.out far.out) far.out) far.out) far.out) far.out) (by omega), hL, hwd, bl_set (bl_set (bl_set (bl_set (bl_set B8 (Nat.le_refl _) _) (Nat.le_refl _) _) (Nat.le_refl _) _) (Nat.le_refl _) _) (Nat.le_refl _) _⟩
    · go_wp2_with fail
      refine (below_any C A cap l 3 (by omega) (by omega) _ HD5.out).mono ?_
      rintro e w6 ⟨z1, rfl, hz10, hz11, k6, d6⟩
      have bM6 := bM5.only k6 (show M ≠ C by omega)
      have bR6 := bR5.only k6 (show w.heap.size ≠ C by omega)
      have Hown6 := hidP (owns_only (Hown5.out) k6 (by omega))
      have HO6 := hidP ((HO5.out).trans k6)
      have HD6 := hidP d6
      clear k6 d6
      go_wp2_with fail
      refine (below_any C A cap l 3 (by omega) (by omega) _ HD6.out).mono ?_
      rintro e w9 ⟨z2, rfl, hz20, hz21, k9, d9⟩
      have bM9 := bM6.only k9 (show M ≠ C by omega)
      have bR9 := bR6.only k9 (show w.heap.size ≠ C by omega)
      have Hown9 := hidP (owns_only (Hown6.out) k9 (by omega))
      have HO9 := hidP ((HO6.out).trans k9)
      have HD9 := hidP d9
      clear k9 d9
      have bx := Blk.new w9 3 #[.int .i64 (1), .int .i64 (2), .int .i64 (3), .int .i64 (0), .int .i64 (-1)]
      have hin : In (w9.alloc (.cells #[.int .i64 (1), .int .i64 (2), .int .i64 (3), .int .i64 (0), .int .i64 (-1)] 3)) w9.heap.size 0 ([⟨1⟩, ⟨2⟩, ⟨3⟩, ⟨0⟩, ⟨-1⟩] : List Nu) := fun j u hu => bx.cell (i := 0 + j) (by simpa [flat, Cel.cs] using hu)
      have qM9 := bM9.lt
      go_wp2_with fail
      refine (pick_any C A cap l w9.heap.size 0 5 ([⟨1⟩, ⟨2⟩, ⟨3⟩, ⟨0⟩, ⟨-1⟩] : List Nu) (by simp) (by simp) _ (HD9.out.below (alloc0 (Below.refl _ _) _)) (by simp) (by omega) hin).mono ?_
      rintro e w7 ⟨y, hy, rfl, k7, d7⟩
      have hwd : Hid (I64 y.n) := by (show I64 y.n); simp at hy; rcases hy with rfl | rfl | rfl | rfl | rfl <;> (unfold I64; decide)
      have bM7 := (bM9.alloc (.cells #[.int .i64 (1), .int .i64 (2), .int .i64 (3), .int .i64 (0), .int .i64 (-1)] 3)).only k7 (show M ≠ C by omega)
      have bR7 := (bR9.alloc (.cells #[.int .i64 (1), .int .i64 (2), .int .i64 (3), .int .i64 (0), .int .i64 (-1)] 3)).only k7 (show w.heap.size ≠ C by omega)
      have Hown7 := hidP (owns_only (owns_alloc Hown9.out (.cells #[.int .i64 (1), .int .i64 (2), .int .i64 (3), .int .i64 (0), .int .i64 (-1)] 3)) k7 (by omega))
      have HO7 := hidP ((HO9.out.below (alloc0 (Below.refl _ _) (.cells #[.int .i64 (1), .int .i64 (2), .int .i64 (3), .int .i64 (0), .int .i64 (-1)] 3))).trans k7)
      have HD7 := hidP d7
      generalize y.n = wd at *
      clear k7 d7 hin bx hy
      go_wp2_with fail
      refine wp_region_noPanic ?_
      refine wp_region_held_drew (S := fun w' => w'.cell? ⟨M, 0, none⟩ = some (.int .i64 row) ∧ w'.cell? ⟨M, 1, none⟩ = some (.int .i64 who) ∧ w'.cell? ⟨M, 2, none⟩ = some (.int .i64 epoch) ∧ w'.cell? ⟨M, 3, none⟩ = some (.int .i64 last) ∧ w'.cell? ⟨M, 4, none⟩ = some (.slice a L.length c)) (by kernel_rfl) ?_ (fun hH => ?_)
      · exact bM7.drew.row5
      refine' wpAnyH_take (i := 0) (v := _) rfl (by kernel_rfl) (by kernel_rfl) (by kernel_rfl) (fun _ _ _ h => h) (Or.inl ⟨by rfl, ?hy21⟩) (by assumption) ?rest21
      case hy21 => (intro w hSw; (try dsimp only at hSw); go_simp <;> with_reducible rfl)
      try simp only [Act.put, List.setIfInBounds_toArray, List.set_cons_zero, List.set_cons_succ, List.getElem_toArray, List.getElem_cons_succ, List.getElem_cons_zero]
      refine' wpAnyH_take (i := 1) (v := _) rfl (by kernel_rfl) (by kernel_rfl) (by kernel_rfl) (fun _ _ _ h => h) (Or.inl ⟨by rfl, ?hy22⟩) (by assumption) ?rest22
      case hy22 => (intro w hSw; (try dsimp only at hSw); go_simp <;> with_reducible rfl)
      try simp only [Act.put, List.setIfInBounds_toArray, List.set_cons_zero, List.set_cons_succ, List.getElem_toArray, List.getElem_cons_succ, List.getElem_cons_zero]
      refine' wpAnyH_take (i := 2) (v := _) rfl (by kernel_rfl) (by kernel_rfl) (by kernel_rfl) (fun _ _ _ h => h) (Or.inl ⟨by rfl, ?hy23⟩) (by assumption) ?rest23
      case hy23 => (intro w hSw; (try dsimp only at hSw); go_simp <;> with_reducible rfl)
      try simp only [Act.put, List.setIfInBounds_toArray, List.set_cons_zero, List.set_cons_succ, List.getElem_toArray, List.getElem_cons_succ, List.getElem_cons_zero]
      refine' wpAnyH_take (i := 3) (v := _) rfl (by kernel_rfl) (by kernel_rfl) (by kernel_rfl) (fun _ _ _ h => h) (Or.inl ⟨by rfl, ?hy24⟩) (by assumption) ?rest24
      case hy24 => (intro w hSw; (try dsimp only at hSw); go_simp <;> with_reducible rfl)
      try simp only [Act.put, List.setIfInBounds_toArray, List.set_cons_zero, List.set_cons_succ, List.getElem_toArray, List.getElem_cons_succ, List.getElem_cons_zero]
      refine' wpAnyH_take (i := 4) (v := _) rfl (by kernel_rfl) (by kernel_rfl) (by kernel_rfl) (fun _ _ _ h => h) (Or.inl ⟨by rfl, ?hy25⟩) (by assumption) ?rest25
      case hy25 => (intro w hSw; (try dsimp only at hSw); go_simp <;> with_reducible rfl)
      try simp only [Act.put, List.setIfInBounds_toArray, List.set_cons_zero, List.set_cons_succ, List.getElem_toArray, List.getElem_cons_succ, List.getElem_cons_zero]
      refine wpAnyH_ready (rs := [5]) (by kernel_rfl) (by simp) (AllReadyH.cons rfl (fun K hK => ?_) AllReadyH.nil)
      simp only [List.getElem_toArray, List.getElem_cons_succ, List.getElem_cons_zero]
      go_simp
      (go_at_call 31; refine (below_any C A cap l 3 (by omega) (by omega) _ (HD7.out.below (Below.drew (Below.refl _ _)))).mono ?_; rintro e w8 ⟨y8, rfl, hy80, hy81, k8, d8⟩; have bM8 := bM7.drew.only k8 (show M ≠ C by omega); have bR8 := bR7.drew.only k8 (show w.heap.size ≠ C by omega); have Hown8 := hidP (owns_only (owns_drew Hown7.out) k8 (by omega)); have HO8 := hidP ((HO7.out.drew).trans k8); obtain ⟨r0, r1, r2, r3, r4⟩ := bR8.row5; have f0 := bR8.thaw 0; have f1 := bR8.thaw 1; have f2 := bR8.thaw 2; have f3 := bR8.thaw 3; have f4 := bR8.thaw 4; have qR8 := bR8.lt)
      refine hK.out _ _ ?_ (fun hH => ?_)
      · exact bM8.row5
      clear hK K
      try simp only [Act.put, List.setIfInBounds_toArray, List.set_cons_zero, List.set_cons_succ, List.getElem_toArray, List.getElem_cons_succ, List.getElem_cons_zero]
      refine' wpAnyH_take (i := 6) (v := _) rfl (by kernel_rfl) (by kernel_rfl) (by kernel_rfl) (fun _ _ _ h => h) (Or.inl ⟨by rfl, ?hy26⟩) (by assumption) ?rest26
      case hy26 => (intro w hSw; (try dsimp only at hSw); go_simp <;> with_reducible rfl)
      try simp only [Act.put, List.setIfInBounds_toArray, List.set_cons_zero, List.set_cons_succ, List.getElem_toArray, List.getElem_cons_succ, List.getElem_cons_zero]
      refine wpAnyH_ready (rs := [7]) (by kernel_rfl) (by simp) (AllReadyH.cons rfl (fun K hK => ?_) AllReadyH.nil)
      simp only [List.getElem_toArray, List.getElem_cons_succ, List.getElem_cons_zero]
      go_simp
      skip
      refine hK.out _ _ ?_ (fun hH => ?_)
      · exact Blk.row5 (((((bM8.other (B' := w.heap.size) (by omega) 0 (.int .i64 row)).other (B' := w.heap.size) (by omega) 1 (.int .i64 who)).other (B' := w.heap.size) (by omega) 2 (.int .i64 epoch)).other (B' := w.heap.size) (by omega) 3 (.int .i64 last)).other (B' := w.heap.size) (by omega) 4 (.slice a L.length c))
      clear hK K
      try simp only [Act.put, List.setIfInBounds_toArray, List.set_cons_zero, List.set_cons_succ, List.getElem_toArray, List.getElem_cons_succ, List.getElem_cons_zero]
      refine' wpAnyH_take (i := 8) (v := _) rfl (by kernel_rfl) (by kernel_rfl) (by kernel_rfl) (fun _ _ _ h => h) (Or.inl ⟨by rfl, ?hy27⟩) (by assumption) ?rest27
      case hy27 => (intro w hSw; (try dsimp only at hSw); go_simp <;> with_reducible rfl)
      try simp only [Act.put, List.setIfInBounds_toArray, List.set_cons_zero, List.set_cons_succ, List.getElem_toArray, List.getElem_cons_succ, List.getElem_cons_zero]
      refine' wpAnyH_take (i := 9) (v := _) rfl (by kernel_rfl) (by kernel_rfl) (by kernel_rfl) (fun _ _ _ h => h) (Or.inl ⟨by rfl, ?hy28⟩) (by assumption) ?rest28
      case hy28 => (intro w hSw; (try dsimp only at hSw); go_simp <;> with_reducible rfl)
      try simp only [Act.put, List.setIfInBounds_toArray, List.set_cons_zero, List.set_cons_succ, List.getElem_toArray, List.getElem_cons_succ, List.getElem_cons_zero]
      refine' wpAnyH_take (i := 10) (v := _) rfl (by kernel_rfl) (by kernel_rfl) (by kernel_rfl) (fun _ _ _ h => h) (Or.inl ⟨by rfl, ?hy29⟩) (by assumption) ?rest29
      case hy29 => (intro w hSw; (try dsimp only at hSw); go_simp <;> with_reducible rfl)
      try simp only [Act.put, List.setIfInBounds_toArray, List.set_cons_zero, List.set_cons_succ, List.getElem_toArray, List.getElem_cons_succ, List.getElem_cons_zero]
      refine' wpAnyH_take (i := 11) (v := _) rfl (by kernel_rfl) (by kernel_rfl) (by kernel_rfl) (fun _ _ _ h => h) (Or.inl ⟨by rfl, ?hy30⟩) (by assumption) ?rest30
      case hy30 => (intro w hSw; (try dsimp only at hSw); go_simp <;> with_reducible rfl)
      try simp only [Act.put, List.setIfInBounds_toArray, List.set_cons_zero, List.set_cons_succ, List.getElem_toArray, List.getElem_cons_succ, List.getElem_cons_zero]
      refine wpAnyH_done (by kernel_rfl) ?_ _
      refine NoPanic.normal ?_
      have far := hidP (owns_far Hown8.out (show w.heap.size < C + 1 by omega))
      go_wp2
      have z : Blk _ w.heap.size 26 #[.int .i64 row, .int .i64 who, .int .i64 epoch, .int .i64 last, .slice a L.length c] := ((((bR8.setAt 0 (.int .i64 row)).setAt 1 (.int .i64 who)).setAt 2 (.int .i64 epoch)).setAt 3 (.int .i64 last)).setAt 4 (.slice a L.length c)
      obtain ⟨e0, e1, e2, e3, e4⟩ := z.row5
      have B8 : Below w.heap.size w w8 := HB1.out.trans (HO8.out.toBelow (by omega) HB1.out.size)
      exact bodyPost_ret (v := .tuple #[.agg #[.int .i64 row, .int .i64 who, .int .i64 epoch, .int .i64 last, .slice a L.length c], .int .i64 wd, .int .i64 (z1), .int .i64 (z2), .int .i64 _]) (by simp [results, Try.results6, go_sem, e0, e1, e2, e3, e4]; rfl) rfl
        ⟨row, who, epoch, last, wd, z1, z2, _, _, L, rfl, owns_mono (owns_set (owns_set (owns_set (owns_set (owns_set Hown8.out far.out) far.out) far.out) far.out) far.out) (by omega), hL, hwd, bl_set (bl_set (bl_set (bl_set (bl_set B8 (Nat.le_refl _) _) (Nat.le_refl _) _) (Nat.le_refl _) _) (Nat.le_refl _) _) (Nat.le_refl _) _⟩
end Go.Proofs.Ytpbbpjckkccjaaa.Gen
