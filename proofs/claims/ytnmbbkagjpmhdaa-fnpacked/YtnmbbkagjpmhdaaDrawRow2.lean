/-
  A row that is drawn, right or not.
-/
import Derived.Test.YtnmbbkagjpmhdaaDrawRow
import Derived.Test.YtnmbbkagjpmhdaaStartingAt
namespace Go.Proofs.Ytnmbbkagjpmhdaa.Gen
open Go.ChangeShapes Go.WideShapes Go.ChangeAt Go.RowKit Go.Joins Go.Deep Base
set_option linter.unusedVariables false
set_option linter.unusedSimpArgs false

theorem only_grown {c : Nat} {a W W' : World} {row : Option Nat} (h : Only c a W) (g : W.grownBy W' row) (hr : ∀ k, k < a.heap.size → some k ≠ row) : Only c a W' :=
  ⟨g.os.trans h.os, g.tape.trans h.tape, g.output.trans h.output, Nat.le_trans h.size g.size, fun k hk hc => (g.block k (Nat.lt_of_lt_of_le hk h.size) (hr k hk)).trans (h.block k hk hc)⟩
theorem drawn_grown {C cap : Nat} {A : Option Addr} {l : List By} {W W' : World} {row : Option Nat} (h : Drawn W C A cap l) (g : W.grownBy W' row) (hr : ∀ k, k ≤ C → some k ≠ row) : Drawn W' C A cap l := by
  have hlt := h.lt
  refine ⟨?_, h.code.imp id fun ⟨b, o, e, hb, hi⟩ => ⟨b, o, e, hb, fun j v hv => (World.cell?_of_block (g.block b (by omega) (hr b (by omega)))).trans (hi j v hv)⟩, h.len, h.byte⟩
  obtain ⟨j, x, hj, hb⟩ := h.cur
  exact ⟨j, x, hj, hb.kept g (hr C (Nat.le_refl _))⟩

def twoS : List St := [⟨⟨#[97]⟩⟩, ⟨⟨#[65]⟩⟩]
def Sizes (L : List Items.It) : Prop := ∀ x ∈ L, x.key.size ≤ 9223372036854775807 ∧ x.text.size ≤ 9223372036854775807

def Fill (C R M : Nat) (A : Option Addr) (cap : Nat) (l : List By) (w W : World) : Prop :=
  ∃ (start next : Int) (a : Option Addr) (c : Nat) (L : List Items.It), Blk W R 26 #[.int .i64 0, .int .i64 0, .slice none 0 0] ∧ Blk W M 26 #[.int .i64 start, .int .i64 next, .slice a L.length c] ∧
    W.ownsRow (R + 1) 34 5 (.slice a L.length c) L.length (Items.flat L) ∧ some M ≠ (Value.slice a L.length c).ownBlock ∧ Items.rowB start next L = true ∧ next ≤ 14 + (L.length : Int) ∧ Only C w W ∧ Drawn W C A cap l

theorem fill_any (start next : Int) (a : Option Addr) (c : Nat) (L : List Items.It) (hn : next < 100000) (hl : L.length < 80) (hr : Items.rowB start next L = true) (w : World) (hA : Items.At w a L) :
    Calls Try.prog 11 #[.agg #[.int .i64 start, .int .i64 next, .slice a L.length c], .string ⟨#[]⟩, .string ⟨#[]⟩, .int .i64 0, .int .i64 0] w fun e w' =>
      ∃ (v : Value) (u u' : Value), e = .returned (.tuple #[.agg #[.int .i64 start, .int .i64 (next + 1), v], u, u']) ∧ w'.ownsRow w.heap.size 34 5 v (L ++ [(⟨next, ⟨#[]⟩, ⟨#[]⟩, 0, 0⟩ : Items.It)]).length (Items.flat (L ++ [(⟨next, ⟨#[]⟩, ⟨#[]⟩, 0, 0⟩ : Items.It)])) ∧ Items.rowB start (next + 1) (L ++ [(⟨next, ⟨#[]⟩, ⟨#[]⟩, 0, 0⟩ : Items.It)]) = true ∧ Below w.heap.size w w' := by
  have hm := right_num hr
  have hp := Items.right_put (who := 0) (time := 0) (key := ⟨#[]⟩) (text := ⟨#[]⟩) hr (by decide +kernel) (by decide +kernel) (by decide) (by decide) hn hl
  have hw : wrap64 (next + 1) = next + 1 := by unfold wrap64; omega
  refine (Items.specRowPut_yes start next 0 0 ⟨#[]⟩ ⟨#[]⟩ a c L (by omega) (Items.right_sizes hr) ⟨by omega, by omega⟩ (by decide) (by decide) hr w hA).mono ?_
  rw [hw]
  rintro e w' (⟨h, v, rfl, ho, g⟩ | ⟨h, v, rfl, ho, g⟩)
  · exact ⟨v, _, _, rfl, by rw [List.length_append]; exact ho, hp, g⟩
  · rw [hp] at h; cases h

set_option maxRecDepth 100000 in
set_option maxHeartbeats 2000000 in
theorem drawR_any (C : Nat) (A : Option Addr) (cap : Nat) (l : List By) (w : World) (hD : Drawn w C A cap l) :
    Calls Try.prog 33 #[.pointer (some ⟨C, 0, none⟩)] w fun e w' => ∃ (start next : Int) (v : Value) (L : List Items.It), e = .returned (.agg #[.int .i64 start, .int .i64 next, v]) ∧ w'.ownsRow w.heap.size 34 5 v L.length (Items.flat L) ∧ I64 start ∧ I64 next ∧ L.length ≤ 81 ∧ Sizes L ∧ Only C w w' ∧ Drawn w' C A cap l := by
  have HD := hidP hD
  have hC := hD.lt
  clear hD
  go_enter Try.func33, Try.ntmps33
  go_wp2_with fail
  refine (drawRow_any C A cap l _ (HD.out.below (alloc0 (Below.refl _ _) _))).mono ?_
  rintro e w1 ⟨start, next, v, L, rfl, hown, hr, hn14, k1, d1⟩
  obtain ⟨a, c, rfl, _⟩ := owns_form hown
  rw [World.size_alloc] at hown
  have hnum := right_num hr
  have hi1 : I64 start := ⟨by omega, by omega⟩
  have hi2 : I64 next := ⟨by omega, by omega⟩
  have hsz : Sizes L := Items.right_sizes hr
  have bR1 := (Blk.new w 26 #[.int .i64 0, .int .i64 0, .slice none 0 0]).only k1 (by omega)
  have HO1 := hidP ((Only.of_below (c := C) (alloc0 (Below.refl _ w) (.cells #[.int .i64 0, .int .i64 0, .slice none 0 0] 26))).trans k1)
  have Hown1 := hidP hown
  have HD1 := hidP d1
  have q1 := bR1.lt
  have hfar1 : some w1.heap.size ≠ (Value.slice a L.length c).ownBlock := fun h => by have := owns_lt hown h.symm; omega
  clear k1 d1 hown
  go_wp2_with fail
  have bM1 := Blk.new w1 26 #[.int .i64 start, .int .i64 next, .slice a L.length c]
  refine (below_any C A cap l 14 (by omega) (by omega) _ (HD1.out.below (alloc0 (Below.refl _ _) _))).mono ?_
  rintro e w2 ⟨x, rfl, hx0, hx1, k2, d2⟩
  have bR2 := (bR1.alloc (.cells #[.int .i64 start, .int .i64 next, .slice a L.length c] 26)).only k2 (show w.heap.size ≠ C by omega)
  have bM2 := bM1.only k2 (show w1.heap.size ≠ C by omega)
  have Hown2 := hidP (owns_only (owns_alloc Hown1.out (.cells #[.int .i64 start, .int .i64 next, .slice a L.length c] 26)) k2 (by omega))
  have HO2 := hidP ((HO1.out.below (alloc0 (Below.refl _ _) _)).trans k2)
  have HD2 := hidP d2
  clear k2 d2 bR1 bM1 Hown1 HO1 HD1
  generalize hMM : w1.heap.size = M at *
  have hfar := hfar1
  have hRM : w.heap.size < M := q1
  have qM := bM2.lt
  have hne : w.heap.size ≠ M := by omega
  have hne' : M ≠ w.heap.size := by omega
  clear hMM hfar1 q1
  by_cases h0 : x = 0
  · subst h0
    go_wp2_with fail
    have bx := Blk.new w2 3 #[.int .i64 (-1), .int .i64 (0), .int .i64 (1), .int .i64 (99)]
    have hin : In (w2.alloc (.cells #[.int .i64 (-1), .int .i64 (0), .int .i64 (1), .int .i64 (99)] 3)) w2.heap.size 0 ([⟨-1⟩, ⟨0⟩, ⟨1⟩, ⟨99⟩] : List Nu) := fun j u hu => bx.cell (i := 0 + j) (by simpa [flat, Cel.cs] using hu)
    refine (pick_any C A cap l w2.heap.size 0 4 ([⟨-1⟩, ⟨0⟩, ⟨1⟩, ⟨99⟩] : List Nu) (by simp) (by simp) _ (HD2.out.below (alloc0 (Below.refl _ _) _)) (by simp) (by omega) hin).mono ?_
    rintro e w3 ⟨y, hy, rfl, k3, d3⟩
    have hY : I64 y.n := by simp only [List.mem_cons, List.not_mem_nil, or_false] at hy; rcases hy with rfl | rfl | rfl | rfl <;> (unfold I64; decide)
    have bR3 := (bR2.alloc (.cells #[.int .i64 (-1), .int .i64 (0), .int .i64 (1), .int .i64 (99)] 3)).only k3 (show w.heap.size ≠ C by omega)
    have bM3 := (bM2.alloc (.cells #[.int .i64 (-1), .int .i64 (0), .int .i64 (1), .int .i64 (99)] 3)).only k3 (show M ≠ C by omega)
    have Hown3 := hidP (owns_only (owns_alloc Hown2.out (.cells #[.int .i64 (-1), .int .i64 (0), .int .i64 (1), .int .i64 (99)] 3)) k3 (by omega))
    have HO3 := hidP ((HO2.out.below (alloc0 (Below.refl _ _) _)).trans k3)
    have HD3 := hidP d3
    obtain ⟨s0, s1, s2⟩ := bM3.row3
    have th := bM3.thaw 0
    clear hy
    generalize y.n = Y at *
    clear k3 d3 hin bx bR2 bM2 Hown2 HO2 HD2
    have bM4 : Blk _ M 26 #[.int .i64 Y, .int .i64 next, .slice a L.length c] := bM3.setAt 0 (.int .i64 Y)
    have bR4 := bR3.other (B' := M) (by omega) 0 (.int .i64 Y)
    have Hown4 := hidP (owns_set (C := M) (i := 0) (u := .int .i64 Y) Hown3.out hfar)
    have HO4 := hidP (only_far (M := M) (i := 0) (v := .int .i64 Y) HO3.out (by omega))
    have HD4 := hidP (drawn_far (M := M) (i := 0) (v := .int .i64 Y) HD3.out (by omega))
    obtain ⟨r0, r1, r2⟩ := bR3.row3
    have f0 := bR3.thaw 0
    have f1 := bR3.thaw 1
    have f2 := bR3.thaw 2
    have far := hidP (owns_far Hown4.out (show w.heap.size < w.heap.size + 1 by omega))
    go_wp2
    have z : Blk _ w.heap.size 26 #[.int .i64 Y, .int .i64 next, .slice a L.length c] := ((bR4.setAt 0 (.int .i64 Y)).setAt 1 (.int .i64 next)).setAt 2 (.slice a L.length c)
    obtain ⟨e0, e1, e2⟩ := z.row3
    exact bodyPost_ret (v := .agg #[.int .i64 Y, .int .i64 next, .slice a L.length c]) (by simp [results, Try.results33, go_sem, e0, e1, e2]) rfl
      ⟨Y, next, .slice a L.length c, L, rfl, owns_mono (owns_set (owns_set (owns_set Hown4.out far.out) far.out) far.out) (by omega), by assumption, by assumption, by omega, hsz, only_set3 HO4.out (by omega), drawn_set3 HD4.out (by omega)⟩
  by_cases h1 : x = 1
  · subst h1
    go_wp2_with fail
    have bx := Blk.new w2 3 #[.int .i64 (0), .int .i64 (3), .int .i64 (100000), .int .i64 (100001)]
    have hin : In (w2.alloc (.cells #[.int .i64 (0), .int .i64 (3), .int .i64 (100000), .int .i64 (100001)] 3)) w2.heap.size 0 ([⟨0⟩, ⟨3⟩, ⟨100000⟩, ⟨100001⟩] : List Nu) := fun j u hu => bx.cell (i := 0 + j) (by simpa [flat, Cel.cs] using hu)
    refine (pick_any C A cap l w2.heap.size 0 4 ([⟨0⟩, ⟨3⟩, ⟨100000⟩, ⟨100001⟩] : List Nu) (by simp) (by simp) _ (HD2.out.below (alloc0 (Below.refl _ _) _)) (by simp) (by omega) hin).mono ?_
    rintro e w3 ⟨y, hy, rfl, k3, d3⟩
    have hY : I64 y.n := by simp only [List.mem_cons, List.not_mem_nil, or_false] at hy; rcases hy with rfl | rfl | rfl | rfl <;> (unfold I64; decide)
    have bR3 := (bR2.alloc (.cells #[.int .i64 (0), .int .i64 (3), .int .i64 (100000), .int .i64 (100001)] 3)).only k3 (show w.heap.size ≠ C by omega)
    have bM3 := (bM2.alloc (.cells #[.int .i64 (0), .int .i64 (3), .int .i64 (100000), .int .i64 (100001)] 3)).only k3 (show M ≠ C by omega)
    have Hown3 := hidP (owns_only (owns_alloc Hown2.out (.cells #[.int .i64 (0), .int .i64 (3), .int .i64 (100000), .int .i64 (100001)] 3)) k3 (by omega))
    have HO3 := hidP ((HO2.out.below (alloc0 (Below.refl _ _) _)).trans k3)
    have HD3 := hidP d3
    obtain ⟨s0, s1, s2⟩ := bM3.row3
    have th := bM3.thaw 1
    clear hy
    generalize y.n = Y at *
    clear k3 d3 hin bx bR2 bM2 Hown2 HO2 HD2
    have bM4 : Blk _ M 26 #[.int .i64 start, .int .i64 Y, .slice a L.length c] := bM3.setAt 1 (.int .i64 Y)
    have bR4 := bR3.other (B' := M) (by omega) 1 (.int .i64 Y)
    have Hown4 := hidP (owns_set (C := M) (i := 1) (u := .int .i64 Y) Hown3.out hfar)
    have HO4 := hidP (only_far (M := M) (i := 1) (v := .int .i64 Y) HO3.out (by omega))
    have HD4 := hidP (drawn_far (M := M) (i := 1) (v := .int .i64 Y) HD3.out (by omega))
    obtain ⟨r0, r1, r2⟩ := bR3.row3
    have f0 := bR3.thaw 0
    have f1 := bR3.thaw 1
    have f2 := bR3.thaw 2
    have far := hidP (owns_far Hown4.out (show w.heap.size < w.heap.size + 1 by omega))
    go_wp2
    have z : Blk _ w.heap.size 26 #[.int .i64 start, .int .i64 Y, .slice a L.length c] := ((bR4.setAt 0 (.int .i64 start)).setAt 1 (.int .i64 Y)).setAt 2 (.slice a L.length c)
    obtain ⟨e0, e1, e2⟩ := z.row3
    exact bodyPost_ret (v := .agg #[.int .i64 start, .int .i64 Y, .slice a L.length c]) (by simp [results, Try.results33, go_sem, e0, e1, e2]) rfl
      ⟨start, Y, .slice a L.length c, L, rfl, owns_mono (owns_set (owns_set (owns_set Hown4.out far.out) far.out) far.out) (by omega), by assumption, by assumption, by omega, hsz, only_set3 HO4.out (by omega), drawn_set3 HD4.out (by omega)⟩
  by_cases h2 : x = 2
  · subst h2
    go_wp2_with fail
    refine wp_region_noPanic ?_
    have hH : (fun (w' : World) => w'.cell? ⟨M, 2, none⟩ = some (.slice a L.length c)) _ := bM2.drew.row3.2.2
    refine region_till 11 (fun (w' : World) => w'.cell? ⟨M, 2, none⟩ = some (.slice a L.length c)) (by kernel_rfl) ?_
    refine' till_taken (i := 0) (v := _) (by kernel_rfl) rfl (by kernel_rfl) (by decide) (by kernel_rfl) (by kernel_rfl) (by kernel_rfl) (fun _ _ _ h => h) (Or.inl ⟨by rfl, ?hy17⟩) (by assumption) ?rest17
    case hy17 => (intro w hSw; (try dsimp only at hSw); go_simp <;> with_reducible rfl)
    try simp only [Act.put, List.setIfInBounds_toArray, List.set_cons_zero, List.set_cons_succ, List.getElem_toArray, List.getElem_cons_succ, List.getElem_cons_zero]
    refine' till_taken (i := 1) (v := _) (by kernel_rfl) rfl (by kernel_rfl) (by decide) (by kernel_rfl) (by kernel_rfl) (by kernel_rfl) (fun _ _ _ h => h) (Or.inl ⟨by rfl, ?hy18⟩) (by assumption) ?rest18
    case hy18 => (intro w hSw; (try dsimp only at hSw); go_simp <;> with_reducible rfl)
    try simp only [Act.put, List.setIfInBounds_toArray, List.set_cons_zero, List.set_cons_succ, List.getElem_toArray, List.getElem_cons_succ, List.getElem_cons_zero]
    refine' till_taken (i := 2) (v := _) (by kernel_rfl) rfl (by kernel_rfl) (by decide) (by kernel_rfl) (by kernel_rfl) (by kernel_rfl) (fun _ _ _ h => h) (Or.inl ⟨by rfl, ?hy19⟩) (by assumption) ?rest19
    case hy19 => (intro w hSw; (try dsimp only at hSw); go_simp <;> with_reducible rfl)
    try simp only [Act.put, List.setIfInBounds_toArray, List.set_cons_zero, List.set_cons_succ, List.getElem_toArray, List.getElem_cons_succ, List.getElem_cons_zero]
    refine' till_taken (i := 4) (v := _) (by kernel_rfl) rfl (by kernel_rfl) (by decide) (by kernel_rfl) (by kernel_rfl) (by kernel_rfl) (fun _ _ _ h => h) (Or.inl ⟨by rfl, ?hy20⟩) (by assumption) ?rest20
    case hy20 => (intro w hSw; (try dsimp only at hSw); go_simp <;> with_reducible rfl)
    try simp only [Act.put, List.setIfInBounds_toArray, List.set_cons_zero, List.set_cons_succ, List.getElem_toArray, List.getElem_cons_succ, List.getElem_cons_zero]
    refine till_next2 (i := 3) (j := 5) (by kernel_rfl) rfl rfl (fun K hK => ?_) (fun K hK => ?_)
    · simp only [List.getElem_toArray, List.getElem_cons_succ, List.getElem_cons_zero]
      go_simp
      go_at_call 58
      refine (below_any C A cap l 20 (by omega) (by omega) _ (HD2.out.below (Below.drew (Below.refl _ _)))).mono ?_
      rintro e w3 ⟨y1, rfl, hy0, hy1, k3, d3⟩
      have bR3 := bR2.drew.only k3 (show w.heap.size ≠ C by omega)
      have bM3 := bM2.drew.only k3 (show M ≠ C by omega)
      have Hown3 := hidP (owns_only (owns_drew Hown2.out) k3 (by omega))
      have HO3 := hidP (HO2.out.drew.trans k3)
      have HD3 := hidP d3
      have qM3 := bM3.lt
      have hS3 : (fun (w' : World) => w'.cell? ⟨M, 2, none⟩ = some (.slice a L.length c)) w3 := bM3.row3.2.2
      clear k3 d3
      refine hK.out _ _ (.inr hS3) ?_
      clear hK K
      try simp only [Act.put, List.setIfInBounds_toArray, List.set_cons_zero, List.set_cons_succ, List.getElem_toArray, List.getElem_cons_succ, List.getElem_cons_zero]
      have bR4 := bR3.alloc (.cells #[.string ⟨#[97]⟩, .string ⟨#[65]⟩] 9)
      have bM4 := bM3.alloc (.cells #[.string ⟨#[97]⟩, .string ⟨#[65]⟩] 9)
      have Hown4 := hidP (owns_alloc Hown3.out (.cells #[.string ⟨#[97]⟩, .string ⟨#[65]⟩] 9))
      have HO4 := hidP (HO3.out.below (alloc0 (Below.refl _ _) (.cells #[.string ⟨#[97]⟩, .string ⟨#[65]⟩] 9)))
      have HD4 := hidP (HD3.out.below (alloc0 (Below.refl _ _) (.cells #[.string ⟨#[97]⟩, .string ⟨#[65]⟩] 9)))
      have qM4 := bM4.lt
      have hS4 : (fun (w' : World) => w'.cell? ⟨M, 2, none⟩ = some (.slice a L.length c)) _ := bM4.row3.2.2
      have bx := Blk.new w3 9 #[.string ⟨#[97]⟩, .string ⟨#[65]⟩]
      have Hin : Hid (In (w3.alloc (.cells #[.string ⟨#[97]⟩, .string ⟨#[65]⟩] 9)) w3.heap.size 0 twoS) := fun j u hu => bx.cell (i := 0 + j) (by simpa [flat, Cel.cs, twoS] using hu)
      have hbS : w3.heap.size < (w3.alloc (.cells #[.string ⟨#[97]⟩, .string ⟨#[65]⟩] 9)).heap.size := by simp
      have hbC : w3.heap.size ≠ C := by omega
      refine till_next (i := 5) (by kernel_rfl) rfl (fun K hK => ?_)
      simp only [List.getElem_toArray, List.getElem_cons_succ, List.getElem_cons_zero]
      go_simp
      refine hK.out _ _ (.inr hS4) ?_
      clear hK K
      try simp only [Act.put, List.setIfInBounds_toArray, List.set_cons_zero, List.set_cons_succ, List.getElem_toArray, List.getElem_cons_succ, List.getElem_cons_zero]
      clear bx hS3 bR3 bM3 Hown3 HO3 HD3
      generalize w3.alloc (.cells #[.string ⟨#[97]⟩, .string ⟨#[65]⟩] 9) = w4 at *
      generalize w3.heap.size = bS at *
      refine till_next (i := 6) (by kernel_rfl) rfl (fun K hK => ?_)
      simp only [List.getElem_toArray, List.getElem_cons_succ, List.getElem_cons_zero]
      go_simp
      go_at_call 34
      refine (pickS_any C A cap l bS 0 2 twoS (by decide) (by decide) _ HD4.out hbS (by omega) Hin.out).mono ?_
      rintro e w5 ⟨y2, hy2, rfl, k5, d5⟩
      have hk2 : y2.s.size ≤ 9223372036854775807 := by simp only [twoS, List.mem_cons, List.not_mem_nil, or_false] at hy2; rcases hy2 with rfl | rfl <;> decide
      clear hy2
      generalize y2.s = Y2 at *
      have bR5 := bR4.only k5 (show w.heap.size ≠ C by omega)
      have bM5 := bM4.only k5 (show M ≠ C by omega)
      have Hown5 := hidP (owns_only Hown4.out k5 (by omega))
      have HO5 := hidP (HO4.out.trans k5)
      have HD5 := hidP d5
      have qM5 := bM5.lt
      have hS5 : (fun (w' : World) => w'.cell? ⟨M, 2, none⟩ = some (.slice a L.length c)) w5 := bM5.row3.2.2
      have qR5 := bR5.lt
      clear k5 d5 bR4 bM4 Hown4 HO4 HD4 Hin
      refine hK.out _ _ (.inr hS5) ?_
      clear hK K
      try simp only [Act.put, List.setIfInBounds_toArray, List.set_cons_zero, List.set_cons_succ, List.getElem_toArray, List.getElem_cons_succ, List.getElem_cons_zero]
      refine' till_taken (i := 7) (v := _) (by kernel_rfl) rfl (by kernel_rfl) (by decide) (by kernel_rfl) (by kernel_rfl) (by kernel_rfl) (fun _ _ _ h => h) (Or.inl ⟨by rfl, ?hy21⟩) (by assumption) ?rest21
      case hy21 => (intro w hSw; (try dsimp only at hSw); go_simp <;> with_reducible rfl)
      try simp only [Act.put, List.setIfInBounds_toArray, List.set_cons_zero, List.set_cons_succ, List.getElem_toArray, List.getElem_cons_succ, List.getElem_cons_zero]
      have bR6 := bR5.alloc (.cells #[.int .i64 y1, .string Y2, .string ⟨#[]⟩, .int .i64 0, .int .i64 0] 34)
      have bM6 := bM5.alloc (.cells #[.int .i64 y1, .string Y2, .string ⟨#[]⟩, .int .i64 0, .int .i64 0] 34)
      have Hown6 := hidP (owns_alloc Hown5.out (.cells #[.int .i64 y1, .string Y2, .string ⟨#[]⟩, .int .i64 0, .int .i64 0] 34))
      have HO6 := hidP (HO5.out.below (alloc0 (Below.refl _ _) (.cells #[.int .i64 y1, .string Y2, .string ⟨#[]⟩, .int .i64 0, .int .i64 0] 34)))
      have HD6 := hidP (HD5.out.below (alloc0 (Below.refl _ _) (.cells #[.int .i64 y1, .string Y2, .string ⟨#[]⟩, .int .i64 0, .int .i64 0] 34)))
      have qM6 := bM6.lt
      have hS6 : (fun (w' : World) => w'.cell? ⟨M, 2, none⟩ = some (.slice a L.length c)) _ := bM6.row3.2.2
      refine till_next (i := 8) (by kernel_rfl) rfl (fun K hK => ?_)
      simp only [List.getElem_toArray, List.getElem_cons_succ, List.getElem_cons_zero]
      go_simp
      refine hK.out _ _ (.inr hS6) ?_
      clear hK K
      try simp only [Act.put, List.setIfInBounds_toArray, List.set_cons_zero, List.set_cons_succ, List.getElem_toArray, List.getElem_cons_succ, List.getElem_cons_zero]
      have bx := Blk.new w5 34 #[.int .i64 y1, .string Y2, .string ⟨#[]⟩, .int .i64 0, .int .i64 0]
      have hX : Items.At (w5.alloc (.cells #[.int .i64 y1, .string Y2, .string ⟨#[]⟩, .int .i64 0, .int .i64 0] 34)) (some ⟨w5.heap.size, 0, none⟩) ([⟨y1, Y2, ⟨#[]⟩, 0, 0⟩] : List Items.It) := .inr ⟨w5.heap.size, 0, rfl, by simp, fun j u hu => bx.cell (i := 0 + j) (by simpa [Items.flat, Items.It.cs] using hu)⟩
      obtain ⟨v', w7, hrn, hown7, hgrow, hat⟩ := Items.append_items (w.heap.size + 1) (.slice a L.length c) L [⟨y1, Y2, ⟨#[]⟩, 0, 0⟩] (some ⟨w5.heap.size, 0, none⟩) 1 (w5.alloc (.cells #[.int .i64 y1, .string Y2, .string ⟨#[]⟩, .int .i64 0, .int .i64 0] 34)) (by simp; omega) Hown6.out hX (by simp; omega)
      simp only [List.length_cons, List.length_nil, Nat.zero_add] at hown7 hrn
      obtain ⟨a', c', rfl, _⟩ := owns_form hown7
      have farR : some w.heap.size ≠ (Value.slice a L.length c).ownBlock := owns_far Hown6.out (by omega)
      have farC : ∀ k, k < w.heap.size + 1 → some k ≠ (Value.slice a L.length c).ownBlock := fun k hk => owns_far Hown6.out hk
      have bR7 := bR6.kept hgrow farR
      have bM7 := bM6.kept hgrow hfar
      have hsz7 : (w5.alloc (.cells #[.int .i64 y1, .string Y2, .string ⟨#[]⟩, .int .i64 0, .int .i64 0] 34)).heap.size = w5.heap.size + 1 := World.size_alloc _ _
      have HO7 := hidP (only_grown HO6.out hgrow (fun k hk => farC k (by omega)))
      have HD7 := hidP (drawn_grown HD6.out hgrow (fun k hk => farC k (by omega)))
      have farM : some M ≠ (Value.slice a' (L.length + 1) c').ownBlock := by
        rcases hat with e | e
        · rw [e]; exact hfar
        · rw [e, hsz7]; intro h; have : M = w5.heap.size + 1 := Option.some.inj h; omega
      have Hown7 := hidP hown7
      have hS7 : (fun (w' : World) => w'.cell? ⟨M, 2, none⟩ = some (.slice a L.length c)) w7 := bM7.row3.2.2
      have th := bM7.thaw 2
      obtain ⟨s0, s1, s2⟩ := bM7.row3
      clear hgrow hat hown7 hX bx
      refine till_next (i := 9) (by kernel_rfl) rfl (fun K hK => ?_)
      simp only [List.getElem_toArray, List.getElem_cons_succ, List.getElem_cons_zero]
      rw [if_pos (by rfl)]
      refine Items.wp_append_is _ _ _ (by rfl) _ _ _ (by rfl) (by rfl) hrn ?_
      refine hK.out _ _ (.inr hS7) ?_
      clear hK K
      try simp only [Act.put, List.setIfInBounds_toArray, List.set_cons_zero, List.set_cons_succ, List.getElem_toArray, List.getElem_cons_succ, List.getElem_cons_zero]
      refine' till_taken (i := 10) (v := _) (by kernel_rfl) rfl (by kernel_rfl) (by decide) (by kernel_rfl) (by kernel_rfl) (by kernel_rfl) (fun _ _ _ h => h) (Or.inl ⟨by rfl, ?hy22⟩) (by assumption) ?rest22
      case hy22 => (intro w hSw; (try dsimp only at hSw); go_simp <;> with_reducible rfl)
      try simp only [Act.put, List.setIfInBounds_toArray, List.set_cons_zero, List.set_cons_succ, List.getElem_toArray, List.getElem_cons_succ, List.getElem_cons_zero]
      refine till_next (i := 11) (by kernel_rfl) rfl (fun K hK => ?_)
      simp only [List.getElem_toArray, List.getElem_cons_succ, List.getElem_cons_zero]
      go_simp
      refine hK.out _ _ (.inl rfl) ?_
      clear hK K
      try simp only [Act.put, List.setIfInBounds_toArray, List.set_cons_zero, List.set_cons_succ, List.getElem_toArray, List.getElem_cons_succ, List.getElem_cons_zero]
      refine till_done (by kernel_rfl) ?_ _
      refine NoPanic.normal ?_
      clear hH hS4 hS5 hS6 hS7 s0 s1 s2 hrn
      have bM8 : Blk _ M 26 #[.int .i64 start, .int .i64 next, .slice a' (L.length + 1) c'] := bM7.setAt 2 (.slice a' (L.length + 1) c')
      have bR8 := bR7.other (B' := M) (by omega) 2 (.slice a' (L.length + 1) c')
      have Hown8 := hidP (owns_set (C := M) (i := 2) (u := .slice a' (L.length + 1) c') Hown7.out farM)
      have HO8 := hidP (only_far (M := M) (i := 2) (v := .slice a' (L.length + 1) c') HO7.out (by omega))
      have HD8 := hidP (drawn_far (M := M) (i := 2) (v := .slice a' (L.length + 1) c') HD7.out (by omega))
      generalize w7.setCell ⟨M, 2, none⟩ (.slice a' (L.length + 1) c') = W8 at *
      clear bM7 bR7 bM6 bR6 bM5 bR5 th bM2 bR2
      have hlen : L.length + 1 = (L ++ [(⟨y1, Y2, ⟨#[]⟩, 0, 0⟩ : Items.It)]).length := by simp
      rw [hlen] at Hown8 bM8
      have hsz' : Sizes (L ++ [(⟨y1, Y2, ⟨#[]⟩, 0, 0⟩ : Items.It)]) := by
        intro x hx
        rcases List.mem_append.1 hx with h | h
        · exact hsz x h
        · simp at h; subst h; exact ⟨hk2, by show (0 : Nat) ≤ _; omega⟩
      have hl81 : (L ++ [(⟨y1, Y2, ⟨#[]⟩, 0, 0⟩ : Items.It)]).length ≤ 81 := by simp; omega
      generalize L ++ [(⟨y1, Y2, ⟨#[]⟩, 0, 0⟩ : Items.It)] = L' at *
      obtain ⟨r0, r1, r2⟩ := bR8.row3
      obtain ⟨t0, t1, t2⟩ := bM8.row3
      have f0 := bR8.thaw 0
      have f1 := bR8.thaw 1
      have f2 := bR8.thaw 2
      have far := hidP (owns_far Hown8.out (show w.heap.size < w.heap.size + 1 by omega))
      go_wp2
      have z : Blk _ w.heap.size 26 #[.int .i64 start, .int .i64 next, .slice a' L'.length c'] := ((bR8.setAt 0 (.int .i64 start)).setAt 1 (.int .i64 next)).setAt 2 (.slice a' L'.length c')
      obtain ⟨e0, e1, e2⟩ := z.row3
      exact bodyPost_ret (v := .agg #[.int .i64 start, .int .i64 next, .slice a' L'.length c']) (by simp [results, Try.results33, go_sem, e0, e1, e2]) rfl
        ⟨start, next, .slice a' L'.length c', L', rfl, owns_mono (owns_set (owns_set (owns_set Hown8.out far.out) far.out) far.out) (by omega), hi1, hi2, hl81, hsz', only_set3 HO8.out (by omega), drawn_set3 HD8.out (by omega)⟩
    · simp only [List.getElem_toArray, List.getElem_cons_succ, List.getElem_cons_zero]
      have bR3 := bR2.drew.alloc (.cells #[.string ⟨#[97]⟩, .string ⟨#[65]⟩] 9)
      have bM3 := bM2.drew.alloc (.cells #[.string ⟨#[97]⟩, .string ⟨#[65]⟩] 9)
      have Hown3 := hidP (owns_alloc (owns_drew Hown2.out) (.cells #[.string ⟨#[97]⟩, .string ⟨#[65]⟩] 9))
      have HO3 := hidP (HO2.out.drew.below (alloc0 (Below.refl _ _) (.cells #[.string ⟨#[97]⟩, .string ⟨#[65]⟩] 9)))
      have HD3 := hidP ((HD2.out.below (Below.drew (Below.refl _ _))).below (alloc0 (Below.refl _ _) (.cells #[.string ⟨#[97]⟩, .string ⟨#[65]⟩] 9)))
      have qM3 := bM3.lt
      have hS3 : (fun (w' : World) => w'.cell? ⟨M, 2, none⟩ = some (.slice a L.length c)) _ := bM3.row3.2.2
      have bx := Blk.new w2.drew 9 #[.string ⟨#[97]⟩, .string ⟨#[65]⟩]
      have Hin3 : Hid (In (w2.drew.alloc (.cells #[.string ⟨#[97]⟩, .string ⟨#[65]⟩] 9)) w2.heap.size 0 twoS) := fun j u hu => bx.cell (i := 0 + j) (by simpa [flat, Cel.cs, twoS] using hu)
      have hbS3 : w2.heap.size < (w2.drew.alloc (.cells #[.string ⟨#[97]⟩, .string ⟨#[65]⟩] 9)).heap.size := Nat.lt_of_lt_of_eq (Nat.lt_succ_self _) (World.size_alloc w2.drew _).symm
      have hbC : w2.heap.size ≠ C := by omega
      go_simp
      refine hK.out _ _ (.inr hS3) ?_
      clear hK K
      try simp only [Act.put, List.setIfInBounds_toArray, List.set_cons_zero, List.set_cons_succ, List.getElem_toArray, List.getElem_cons_succ, List.getElem_cons_zero]
      clear bx
      refine till_next (i := 3) (by kernel_rfl) rfl (fun K hK => ?_)
      simp only [List.getElem_toArray, List.getElem_cons_succ, List.getElem_cons_zero]
      go_simp
      go_at_call 58
      refine (below_any C A cap l 20 (by omega) (by omega) _ (HD3.out)).mono ?_
      rintro e w4 ⟨y1, rfl, hy0, hy1, k4, d4⟩
      have bR4 := bR3.only k4 (show w.heap.size ≠ C by omega)
      have bM4 := bM3.only k4 (show M ≠ C by omega)
      have Hown4 := hidP (owns_only Hown3.out k4 (by omega))
      have HO4 := hidP (HO3.out.trans k4)
      have HD4 := hidP d4
      have qM4 := bM4.lt
      have hS4 : (fun (w' : World) => w'.cell? ⟨M, 2, none⟩ = some (.slice a L.length c)) w4 := bM4.row3.2.2
      have Hin := hidP (Hin3.out.only k4 hbS3 hbC)
      have hbS := Nat.lt_of_lt_of_le hbS3 k4.size
      clear k4 d4
      refine hK.out _ _ (.inr hS4) ?_
      clear hK K
      try simp only [Act.put, List.setIfInBounds_toArray, List.set_cons_zero, List.set_cons_succ, List.getElem_toArray, List.getElem_cons_succ, List.getElem_cons_zero]
      clear hS3 bR3 bM3 Hown3 HO3 HD3 Hin3 hbS3
      generalize w2.heap.size = bS at *
      refine till_next (i := 6) (by kernel_rfl) rfl (fun K hK => ?_)
      simp only [List.getElem_toArray, List.getElem_cons_succ, List.getElem_cons_zero]
      go_simp
      go_at_call 34
      refine (pickS_any C A cap l bS 0 2 twoS (by decide) (by decide) _ HD4.out hbS (by omega) Hin.out).mono ?_
      rintro e w5 ⟨y2, hy2, rfl, k5, d5⟩
      have hk2 : y2.s.size ≤ 9223372036854775807 := by simp only [twoS, List.mem_cons, List.not_mem_nil, or_false] at hy2; rcases hy2 with rfl | rfl <;> decide
      clear hy2
      generalize y2.s = Y2 at *
      have bR5 := bR4.only k5 (show w.heap.size ≠ C by omega)
      have bM5 := bM4.only k5 (show M ≠ C by omega)
      have Hown5 := hidP (owns_only Hown4.out k5 (by omega))
      have HO5 := hidP (HO4.out.trans k5)
      have HD5 := hidP d5
      have qM5 := bM5.lt
      have hS5 : (fun (w' : World) => w'.cell? ⟨M, 2, none⟩ = some (.slice a L.length c)) w5 := bM5.row3.2.2
      have qR5 := bR5.lt
      clear k5 d5 bR4 bM4 Hown4 HO4 HD4 Hin
      refine hK.out _ _ (.inr hS5) ?_
      clear hK K
      try simp only [Act.put, List.setIfInBounds_toArray, List.set_cons_zero, List.set_cons_succ, List.getElem_toArray, List.getElem_cons_succ, List.getElem_cons_zero]
      refine' till_taken (i := 7) (v := _) (by kernel_rfl) rfl (by kernel_rfl) (by decide) (by kernel_rfl) (by kernel_rfl) (by kernel_rfl) (fun _ _ _ h => h) (Or.inl ⟨by rfl, ?hy23⟩) (by assumption) ?rest23
      case hy23 => (intro w hSw; (try dsimp only at hSw); go_simp <;> with_reducible rfl)
      try simp only [Act.put, List.setIfInBounds_toArray, List.set_cons_zero, List.set_cons_succ, List.getElem_toArray, List.getElem_cons_succ, List.getElem_cons_zero]
      have bR6 := bR5.alloc (.cells #[.int .i64 y1, .string Y2, .string ⟨#[]⟩, .int .i64 0, .int .i64 0] 34)
      have bM6 := bM5.alloc (.cells #[.int .i64 y1, .string Y2, .string ⟨#[]⟩, .int .i64 0, .int .i64 0] 34)
      have Hown6 := hidP (owns_alloc Hown5.out (.cells #[.int .i64 y1, .string Y2, .string ⟨#[]⟩, .int .i64 0, .int .i64 0] 34))
      have HO6 := hidP (HO5.out.below (alloc0 (Below.refl _ _) (.cells #[.int .i64 y1, .string Y2, .string ⟨#[]⟩, .int .i64 0, .int .i64 0] 34)))
      have HD6 := hidP (HD5.out.below (alloc0 (Below.refl _ _) (.cells #[.int .i64 y1, .string Y2, .string ⟨#[]⟩, .int .i64 0, .int .i64 0] 34)))
      have qM6 := bM6.lt
      have hS6 : (fun (w' : World) => w'.cell? ⟨M, 2, none⟩ = some (.slice a L.length c)) _ := bM6.row3.2.2
      refine till_next (i := 8) (by kernel_rfl) rfl (fun K hK => ?_)
      simp only [List.getElem_toArray, List.getElem_cons_succ, List.getElem_cons_zero]
      go_simp
      refine hK.out _ _ (.inr hS6) ?_
      clear hK K
      try simp only [Act.put, List.setIfInBounds_toArray, List.set_cons_zero, List.set_cons_succ, List.getElem_toArray, List.getElem_cons_succ, List.getElem_cons_zero]
      have bx := Blk.new w5 34 #[.int .i64 y1, .string Y2, .string ⟨#[]⟩, .int .i64 0, .int .i64 0]
      have hX : Items.At (w5.alloc (.cells #[.int .i64 y1, .string Y2, .string ⟨#[]⟩, .int .i64 0, .int .i64 0] 34)) (some ⟨w5.heap.size, 0, none⟩) ([⟨y1, Y2, ⟨#[]⟩, 0, 0⟩] : List Items.It) := .inr ⟨w5.heap.size, 0, rfl, by simp, fun j u hu => bx.cell (i := 0 + j) (by simpa [Items.flat, Items.It.cs] using hu)⟩
      obtain ⟨v', w7, hrn, hown7, hgrow, hat⟩ := Items.append_items (w.heap.size + 1) (.slice a L.length c) L [⟨y1, Y2, ⟨#[]⟩, 0, 0⟩] (some ⟨w5.heap.size, 0, none⟩) 1 (w5.alloc (.cells #[.int .i64 y1, .string Y2, .string ⟨#[]⟩, .int .i64 0, .int .i64 0] 34)) (by simp; omega) Hown6.out hX (by simp; omega)
      simp only [List.length_cons, List.length_nil, Nat.zero_add] at hown7 hrn
      obtain ⟨a', c', rfl, _⟩ := owns_form hown7
      have farR : some w.heap.size ≠ (Value.slice a L.length c).ownBlock := owns_far Hown6.out (by omega)
      have farC : ∀ k, k < w.heap.size + 1 → some k ≠ (Value.slice a L.length c).ownBlock := fun k hk => owns_far Hown6.out hk
      have bR7 := bR6.kept hgrow farR
      have bM7 := bM6.kept hgrow hfar
      have hsz7 : (w5.alloc (.cells #[.int .i64 y1, .string Y2, .string ⟨#[]⟩, .int .i64 0, .int .i64 0] 34)).heap.size = w5.heap.size + 1 := World.size_alloc _ _
      have HO7 := hidP (only_grown HO6.out hgrow (fun k hk => farC k (by omega)))
      have HD7 := hidP (drawn_grown HD6.out hgrow (fun k hk => farC k (by omega)))
      have farM : some M ≠ (Value.slice a' (L.length + 1) c').ownBlock := by
        rcases hat with e | e
        · rw [e]; exact hfar
        · rw [e, hsz7]; intro h; have : M = w5.heap.size + 1 := Option.some.inj h; omega
      have Hown7 := hidP hown7
      have hS7 : (fun (w' : World) => w'.cell? ⟨M, 2, none⟩ = some (.slice a L.length c)) w7 := bM7.row3.2.2
      have th := bM7.thaw 2
      obtain ⟨s0, s1, s2⟩ := bM7.row3
      clear hgrow hat hown7 hX bx
      refine till_next (i := 9) (by kernel_rfl) rfl (fun K hK => ?_)
      simp only [List.getElem_toArray, List.getElem_cons_succ, List.getElem_cons_zero]
      rw [if_pos (by rfl)]
      refine Items.wp_append_is _ _ _ (by rfl) _ _ _ (by rfl) (by rfl) hrn ?_
      refine hK.out _ _ (.inr hS7) ?_
      clear hK K
      try simp only [Act.put, List.setIfInBounds_toArray, List.set_cons_zero, List.set_cons_succ, List.getElem_toArray, List.getElem_cons_succ, List.getElem_cons_zero]
      refine' till_taken (i := 10) (v := _) (by kernel_rfl) rfl (by kernel_rfl) (by decide) (by kernel_rfl) (by kernel_rfl) (by kernel_rfl) (fun _ _ _ h => h) (Or.inl ⟨by rfl, ?hy24⟩) (by assumption) ?rest24
      case hy24 => (intro w hSw; (try dsimp only at hSw); go_simp <;> with_reducible rfl)
      try simp only [Act.put, List.setIfInBounds_toArray, List.set_cons_zero, List.set_cons_succ, List.getElem_toArray, List.getElem_cons_succ, List.getElem_cons_zero]
      refine till_next (i := 11) (by kernel_rfl) rfl (fun K hK => ?_)
      simp only [List.getElem_toArray, List.getElem_cons_succ, List.getElem_cons_zero]
      go_simp
      refine hK.out _ _ (.inl rfl) ?_
      clear hK K
      try simp only [Act.put, List.setIfInBounds_toArray, List.set_cons_zero, List.set_cons_succ, List.getElem_toArray, List.getElem_cons_succ, List.getElem_cons_zero]
      refine till_done (by kernel_rfl) ?_ _
      refine NoPanic.normal ?_
      clear hH hS4 hS5 hS6 hS7 s0 s1 s2 hrn
      have bM8 : Blk _ M 26 #[.int .i64 start, .int .i64 next, .slice a' (L.length + 1) c'] := bM7.setAt 2 (.slice a' (L.length + 1) c')
      have bR8 := bR7.other (B' := M) (by omega) 2 (.slice a' (L.length + 1) c')
      have Hown8 := hidP (owns_set (C := M) (i := 2) (u := .slice a' (L.length + 1) c') Hown7.out farM)
      have HO8 := hidP (only_far (M := M) (i := 2) (v := .slice a' (L.length + 1) c') HO7.out (by omega))
      have HD8 := hidP (drawn_far (M := M) (i := 2) (v := .slice a' (L.length + 1) c') HD7.out (by omega))
      generalize w7.setCell ⟨M, 2, none⟩ (.slice a' (L.length + 1) c') = W8 at *
      clear bM7 bR7 bM6 bR6 bM5 bR5 th bM2 bR2
      have hlen : L.length + 1 = (L ++ [(⟨y1, Y2, ⟨#[]⟩, 0, 0⟩ : Items.It)]).length := by simp
      rw [hlen] at Hown8 bM8
      have hsz' : Sizes (L ++ [(⟨y1, Y2, ⟨#[]⟩, 0, 0⟩ : Items.It)]) := by
        intro x hx
        rcases List.mem_append.1 hx with h | h
        · exact hsz x h
        · simp at h; subst h; exact ⟨hk2, by show (0 : Nat) ≤ _; omega⟩
      have hl81 : (L ++ [(⟨y1, Y2, ⟨#[]⟩, 0, 0⟩ : Items.It)]).length ≤ 81 := by simp; omega
      generalize L ++ [(⟨y1, Y2, ⟨#[]⟩, 0, 0⟩ : Items.It)] = L' at *
      obtain ⟨r0, r1, r2⟩ := bR8.row3
      obtain ⟨t0, t1, t2⟩ := bM8.row3
      have f0 := bR8.thaw 0
      have f1 := bR8.thaw 1
      have f2 := bR8.thaw 2
      have far := hidP (owns_far Hown8.out (show w.heap.size < w.heap.size + 1 by omega))
      go_wp2
      have z : Blk _ w.heap.size 26 #[.int .i64 start, .int .i64 next, .slice a' L'.length c'] := ((bR8.setAt 0 (.int .i64 start)).setAt 1 (.int .i64 next)).setAt 2 (.slice a' L'.length c')
      obtain ⟨e0, e1, e2⟩ := z.row3
      exact bodyPost_ret (v := .agg #[.int .i64 start, .int .i64 next, .slice a' L'.length c']) (by simp [results, Try.results33, go_sem, e0, e1, e2]) rfl
        ⟨start, next, .slice a' L'.length c', L', rfl, owns_mono (owns_set (owns_set (owns_set Hown8.out far.out) far.out) far.out) (by omega), hi1, hi2, hl81, hsz', only_set3 HO8.out (by omega), drawn_set3 HD8.out (by omega)⟩
  by_cases h3 : x = 3
  · subst h3
    have S0 : Hid (Fill C w.heap.size M A cap l w w2) := ⟨start, next, a, c, L, bR2, bM2, Hown2.out, hfar, hr, by omega, HO2.out, HD2.out⟩
    clear bR2 bM2 Hown2 HO2 HD2 hfar hr hnum hn14 hi1 hi2 hsz
    go_wp2_with fail
    go_loopw [] (fun wr => Hid (Fill C w.heap.size M A cap l w wr)) (fun wr => 80 - Items.lenAt wr M)
    case atStart => exact S0
    case round =>
      obtain ⟨start, next, a, c, L, bR2, bM2, hown, hfar, hr, hn14, hO, hDr⟩ := hrel
      have Hown2 := hidP hown
      have HO2 := hidP hO
      have HD2 := hidP hDr
      have hnum := right_num hr
      have hi1 : I64 start := ⟨by omega, by omega⟩
      have hi2 : I64 next := ⟨by omega, by omega⟩
      have hsz : Sizes L := Items.right_sizes hr
      have qM2 := bM2.lt
      have hlen := Items.lenAt_is bM2.row3.2.2
      obtain ⟨s0, s1, s2⟩ := bM2.row3
      clear hown hO hDr
      by_cases hlt : (L.length : Int) < 80
      · go_wp2_with fail
        refine (fill_any start next a c L (by omega) (by omega) hr _ (Items.owns_at Hown2.out)).mono ?_
        rintro e w3 ⟨v3, u3, u4, rfl, hown3, hr3, g3⟩
        obtain ⟨a3, c3, rfl, _⟩ := owns_form hown3
        have bM3 := bM2.below g3 qM2
        have bR3 := bR2.below g3 bR2.lt
        have far3 := owns_far hown3 qM2
        have hlen3 : Hid ((L ++ [(⟨next, ⟨#[]⟩, ⟨#[]⟩, 0, 0⟩ : Items.It)]).length = L.length + 1) := by show (L ++ [_]).length = L.length + 1; simp
        generalize L ++ [(⟨next, ⟨#[]⟩, ⟨#[]⟩, 0, 0⟩ : Items.It)] = L3 at *
        have Hown3 := hidP (owns_mono hown3 (show w.heap.size + 1 ≤ _ by omega))
        have HO3 := hidP (HO2.out.below g3)
        have HD3 := hidP (HD2.out.below g3)
        obtain ⟨s0, s1, s2⟩ := bM3.row3
        have th0 := bM3.thaw 0
        have th1 := bM3.thaw 1
        have th2 := bM3.thaw 2
        clear hown3 g3 Hown2 HO2 HD2 bR2
        go_wp2
        have hlen3' := hlen3.out
        have z : Blk _ M 26 #[.int .i64 start, .int .i64 (next + 1), .slice a3 L3.length c3] := ((bM3.setAt 0 (.int .i64 start)).setAt 1 (.int .i64 (next + 1))).setAt 2 (.slice a3 L3.length c3)
        have zR := ((bR3.other (B' := M) (by omega) 0 (.int .i64 start)).other (B' := M) (by omega) 1 (.int .i64 (next + 1))).other (B' := M) (by omega) 2 (.slice a3 L3.length c3)
        refine ⟨⟨start, next + 1, a3, c3, L3, zR, z, owns_set (owns_set (owns_set Hown3.out far3) far3) far3, far3, hr3, by omega, only_set3 HO3.out (by omega), drawn_set3 HD3.out (by omega)⟩, ?_⟩
        rw [Items.lenAt_is z.row3.2.2, hlen]
        omega
      · obtain ⟨r0, r1, r2⟩ := bR2.row3
        obtain ⟨t0, t1, t2⟩ := bM2.row3
        have f0 := bR2.thaw 0
        have f1 := bR2.thaw 1
        have f2 := bR2.thaw 2
        have far := hidP (owns_far Hown2.out (show w.heap.size < w.heap.size + 1 by omega))
        go_wp2
        have z : Blk _ w.heap.size 26 #[.int .i64 start, .int .i64 next, .slice a L.length c] := ((bR2.setAt 0 (.int .i64 start)).setAt 1 (.int .i64 next)).setAt 2 (.slice a L.length c)
        obtain ⟨e0, e1, e2⟩ := z.row3
        exact bodyPost_ret (v := .agg #[.int .i64 start, .int .i64 next, .slice a L.length c]) (by simp [results, Try.results33, go_sem, e0, e1, e2]) rfl
          ⟨start, next, .slice a L.length c, rfl, L, owns_mono (owns_set (owns_set (owns_set Hown2.out far.out) far.out) far.out) (by omega), hi1, hi2, by omega, hsz, only_set3 HO2.out (by omega), drawn_set3 HD2.out (by omega)⟩
  obtain ⟨r0, r1, r2⟩ := bR2.row3
  obtain ⟨t0, t1, t2⟩ := bM2.row3
  have f0 := bR2.thaw 0
  have f1 := bR2.thaw 1
  have f2 := bR2.thaw 2
  have far := hidP (owns_far Hown2.out (show w.heap.size < w.heap.size + 1 by omega))
  go_wp2
  have z : Blk _ w.heap.size 26 #[.int .i64 start, .int .i64 next, .slice a L.length c] := ((bR2.setAt 0 (.int .i64 start)).setAt 1 (.int .i64 next)).setAt 2 (.slice a L.length c)
  obtain ⟨e0, e1, e2⟩ := z.row3
  exact bodyPost_ret (v := .agg #[.int .i64 start, .int .i64 next, .slice a L.length c]) (by simp [results, Try.results33, go_sem, e0, e1, e2]) rfl
    ⟨start, next, .slice a L.length c, L, rfl, owns_mono (owns_set (owns_set (owns_set Hown2.out far.out) far.out) far.out) (by omega), hi1, hi2, by omega, hsz, only_set3 HO2.out (by omega), drawn_set3 HD2.out (by omega)⟩
end Go.Proofs.Ytnmbbkagjpmhdaa.Gen
