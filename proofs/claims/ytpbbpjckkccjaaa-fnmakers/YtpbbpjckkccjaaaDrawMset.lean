/-
  What DrawMakerSet and DrawMakerOf draw.
-/
import Derived.Test.YtpbbpjckkccjaaaDrawList
namespace Go.Proofs.Ytpbbpjckkccjaaa.Gen
open Go.ChangeShapes Go.WideShapes Go.ChangeAt Go.RowKit Go.Joins Go.Deep Base
set_option linter.unusedVariables false
set_option linter.unusedSimpArgs false

set_option maxRecDepth 100000 in
set_option maxHeartbeats 1000000 in
theorem drawOf_any (A : Option Addr) (cap : Nat) (l : List By) (hl : l.length ≤ 1048576) (hby : ∀ x ∈ l, x.right) (w : World) (hA : At w A l) :
    Calls Try.prog 10 #[.slice A l.length cap] w fun e w' => ∃ (g c : Nat) (O : List MC) (row who : Int), e = .returned (.tuple #[.slice (some ⟨g, 0, none⟩) O.length c, .int .i64 row, .int .i64 who]) ∧ Out w.heap.size w' (.slice (some ⟨g, 0, none⟩) O.length c) O ∧ Hid (Dl O 4) ∧ Hid (I64 row ∧ I64 who) ∧ Below w.heap.size w w' := by
  have HA := hidP hA
  have Hby := hidP hby
  clear hA hby
  go_enter Try.func10, Try.ntmps10
  go_wp2_with fail
  refine (new_any A cap l hl Hby.out _ HA.out).mono ?_
  rintro e w1 ⟨C, rfl, hC, g1, d1⟩
  have HB1 := hidP g1
  have HD1 := hidP d1
  have hC1 := d1.lt
  clear g1 d1
  go_wp2_with fail
  refine (drawList_any C A cap l _ HD1.out).mono ?_
  rintro e w2 ⟨g, c, O, rfl, hO, hDl, k2, d2⟩
  have HO2 := hidP hO
  have HK2 := hidP k2
  have HD2 := hidP d2
  clear hO k2 d2
  go_wp2_with fail
  refine (below_any C A cap l 3 (by omega) (by omega) _ HD2.out).mono ?_
  rintro e w3 ⟨x3, rfl, hx30, hx31, k3, d3⟩
  have HO3 := hidP (HO2.out.only k3 (by omega))
  have HK3 := hidP (HK2.out.trans k3)
  have HD3 := hidP d3
  clear k3 d3
  go_wp2_with fail
  refine (below_any C A cap l 4 (by omega) (by omega) _ HD3.out).mono ?_
  rintro e w4 ⟨x4, rfl, hx40, hx41, k4, d4⟩
  have HO4 := hidP (HO3.out.only k4 (by omega))
  have HK4 := hidP (HK3.out.trans k4)
  clear k4 d4
  go_wp2
  have B4 : Below w.heap.size w w4 := HB1.out.trans (HK4.out.toBelow (by omega) HB1.out.size)
  exact bodyPost_ret (v := .tuple #[.slice (some ⟨g, 0, none⟩) O.length c, .int .i64 x3, .int .i64 x4]) (by simp [results, Try.results10, go_sem]) rfl
    ⟨g, c, O, x3, x4, rfl, HO4.out.mono HB1.out.size, hDl, by unfold Hid I64; omega, B4⟩

set_option maxRecDepth 100000 in
set_option maxHeartbeats 1000000 in
theorem drawSet_any (A : Option Addr) (cap : Nat) (l : List By) (hl : l.length ≤ 1048576) (hby : ∀ x ∈ l, x.right) (w : World) (hA : At w A l) :
    Calls Try.prog 8 #[.slice A l.length cap] w fun e w' => ∃ (g c : Nat) (O : List MC) (row who epoch last : Int) (a : Option Addr) (c2 : Nat) (L : List Mk), e = .returned (.tuple #[.slice (some ⟨g, 0, none⟩) O.length c, .agg #[.int .i64 row, .int .i64 who, .int .i64 epoch, .int .i64 last, .slice a L.length c2]]) ∧
      Out w.heap.size w' (.slice (some ⟨g, 0, none⟩) O.length c) O ∧ Hid (Dl O 4) ∧ Hid (I64 row ∧ I64 who) ∧ w'.ownsRow w.heap.size 61 2 (.slice a L.length c2) L.length (flat L) ∧ L.length ≤ 9 ∧ Below w.heap.size w w' := by
  have HA := hidP hA
  have Hby := hidP hby
  clear hA hby
  go_enter Try.func8, Try.ntmps8
  go_wp2_with fail
  refine (new_any A cap l hl Hby.out _ (HA.out.below (alloc0 (Below.refl _ _) _))).mono ?_
  rintro e w1 ⟨C, rfl, hC, g1, d1⟩
  rw [World.size_alloc] at hC
  have bR1 := (Blk.new w 26 #[.int .i64 0, .int .i64 0, .int .i64 0, .int .i64 0, .slice none 0 0]).below g1 (by simp)
  have HB1 := hidP (via0 g1 (alloc0 (Below.refl _ w) (.cells #[.int .i64 0, .int .i64 0, .int .i64 0, .int .i64 0, .slice none 0 0] 26)))
  have HD1 := hidP d1
  have hC1 := d1.lt
  clear g1 d1
  go_wp2_with fail
  refine (drawList_any C A cap l _ HD1.out).mono ?_
  rintro e w2 ⟨g, c, O, rfl, hO, hDl, k2, d2⟩
  have bR2 := bR1.only k2 (show w.heap.size ≠ C by omega)
  have HO2 := hidP hO
  have HK2 := hidP k2
  have HD2 := hidP d2
  have s2 := k2.size
  clear hO k2 d2 bR1
  go_wp2_with fail
  refine (draw_any C A cap l _ HD2.out).mono ?_
  rintro e w3 ⟨row, who, epoch, last, v, L, rfl, hown, hL, hN, k3, d3⟩
  obtain ⟨a, c2, rfl, _⟩ := owns_form hown
  have bR3 := bR2.only k3 (show w.heap.size ≠ C by omega)
  have HO3 := hidP (HO2.out.only k3 (by omega))
  have HK3 := hidP (HK2.out.trans k3)
  have hfar := hidP (owns_far hown (show w.heap.size < w2.heap.size by omega))
  have Hown := hidP hown
  have farO := hidP (owns_far HO3.out.own (show w.heap.size < w1.heap.size by omega))
  have farE : Hid (∀ x ∈ O, some w.heap.size ≠ (Value.slice x.A x.ms.length x.cap).ownBlock) := fun x hx => owns_far (HO3.out.each x hx) (show w.heap.size < w1.heap.size by omega)
  obtain ⟨r0, r1, r2, r3, r4⟩ := bR3.row5
  have f0 := bR3.thaw 0
  have f1 := bR3.thaw 1
  have f2 := bR3.thaw 2
  have f3 := bR3.thaw 3
  have f4 := bR3.thaw 4
  clear k3 d3 hown bR2
  go_wp2
  have z : Blk _ w.heap.size 26 #[.int .i64 row, .int .i64 who, .int .i64 epoch, .int .i64 last, .slice a L.length c2] := ((((bR3.setAt 0 (.int .i64 row)).setAt 1 (.int .i64 who)).setAt 2 (.int .i64 epoch)).setAt 3 (.int .i64 last)).setAt 4 (.slice a L.length c2)
  obtain ⟨e0, e1, e2, e3, e4⟩ := z.row5
  have B3 : Below w.heap.size w w3 := HB1.out.trans (HK3.out.toBelow (by omega) HB1.out.size)
  have s1 := HB1.out.size
  exact bodyPost_ret (v := .tuple #[.slice (some ⟨g, 0, none⟩) O.length c, .agg #[.int .i64 row, .int .i64 who, .int .i64 epoch, .int .i64 last, .slice a L.length c2]]) (by simp [results, Try.results8, go_sem, e0, e1, e2, e3, e4]) rfl
    ⟨g, c, O, row, who, epoch, last, a, c2, L, rfl,
      ⟨owns_mono (owns_set (owns_set (owns_set (owns_set (owns_set HO3.out.own farO.out) farO.out) farO.out) farO.out) farO.out) (by omega), fun x hx => owns_mono (owns_set (owns_set (owns_set (owns_set (owns_set (HO3.out.each x hx) (farE.out x hx)) (farE.out x hx)) (farE.out x hx)) (farE.out x hx)) (farE.out x hx)) (by omega)⟩,
      hDl, hN, owns_mono (owns_set (owns_set (owns_set (owns_set (owns_set Hown.out hfar.out) hfar.out) hfar.out) hfar.out) hfar.out) (by omega), hL, bl_set (bl_set (bl_set (bl_set (bl_set B3 (Nat.le_refl _) _) (Nat.le_refl _) _) (Nat.le_refl _) _) (Nat.le_refl _) _) (Nat.le_refl _) _⟩
end Go.Proofs.Ytpbbpjckkccjaaa.Gen
