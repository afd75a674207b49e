/-
  A maker that is drawn, right or not.
-/
import Derived.Test.YtpbbpjckkccjaaaDrawMaker
namespace Go.Proofs.Ytpbbpjckkccjaaa.Gen
open Go.ChangeShapes Go.WideShapes Go.ChangeAt Go.RowKit Go.Joins Go.Deep Base
set_option linter.unusedVariables false
set_option linter.unusedSimpArgs false

theorem only_grown {c : Nat} {a W W' : World} {row : Option Nat} (h : Only c a W) (g : W.grownBy W' row) (hr : ∀ k, k < a.heap.size → some k ≠ row) : Only c a W' :=
  ⟨g.os.trans h.os, g.tape.trans h.tape, g.output.trans h.output, Nat.le_trans h.size g.size, fun k hk hc => (g.block k (Nat.lt_of_lt_of_le hk h.size) (hr k hk)).trans (h.block k hk hc)⟩
theorem drawn_grown {C cap : Nat} {A : Option Addr} {l : List By} {W W' : World} {row : Option Nat} (h : Drawn W C A cap l) (g : W.grownBy W' row) (hr : ∀ k, k ≤ C → some k ≠ row) : Drawn W' C A cap l := by
  have hlt := h.lt
  refine ⟨?_, h.code.imp id fun ⟨b, o, e, hb, hi⟩ => ⟨b, o, e, hb, fun j v hv => (World.cell?_of_block (g.block b (by omega) (hr b (by omega)))).trans (hi j v hv)⟩, h.len, h.byte⟩
  obtain ⟨j, x, hj, hb⟩ := h.cur
  exact ⟨j, x, hj, hb.kept g (hr C (Nat.le_refl _))⟩

set_option maxRecDepth 100000 in
set_option maxHeartbeats 2000000 in
theorem draw_any (C : Nat) (A : Option Addr) (cap : Nat) (l : List By) (w : World) (hD : Drawn w C A cap l) :
    Calls Try.prog 28 #[.pointer (some ⟨C, 0, none⟩)] w fun e w' => ∃ (row who epoch last : Int) (v : Value) (L : List Mk), e = .returned (.agg #[.int .i64 row, .int .i64 who, .int .i64 epoch, .int .i64 last, v]) ∧ w'.ownsRow w.heap.size 61 2 v L.length (flat L) ∧ L.length ≤ 9 ∧ Hid (I64 row ∧ I64 who) ∧ Only C w w' ∧ Drawn w' C A cap l := by
  have HD := hidP hD
  have hC := hD.lt
  clear hD
  go_enter Try.func28, Try.ntmps28
  go_wp2_with fail
  refine (drawRight_any C A cap l _ (HD.out.below (alloc0 (Below.refl _ _) _))).mono ?_
  rintro e w1 ⟨row, who, epoch, last, v, L, rfl, hown, hL, hN, k1, d1⟩
  obtain ⟨a, c, rfl, _⟩ := owns_form hown
  rw [World.size_alloc] at hown
  have bR1 := (Blk.new w 26 #[.int .i64 0, .int .i64 0, .int .i64 0, .int .i64 0, .slice none 0 0]).only k1 (by omega)
  have HO1 := hidP ((Only.of_below (c := C) (alloc0 (Below.refl _ w) (.cells #[.int .i64 0, .int .i64 0, .int .i64 0, .int .i64 0, .slice none 0 0] 26))).trans k1)
  have Hown1 := hidP hown
  have HD1 := hidP d1
  have q1 := bR1.lt
  have hfar1 : some w1.heap.size ≠ (Value.slice a L.length c).ownBlock := fun h => by have := owns_lt hown h.symm; omega
  clear k1 d1 hown
  go_wp2_with fail
  have bM1 := Blk.new w1 26 #[.int .i64 row, .int .i64 who, .int .i64 epoch, .int .i64 last, .slice a L.length c]
  refine (below_any C A cap l 12 (by omega) (by omega) _ (HD1.out.below (alloc0 (Below.refl _ _) _))).mono ?_
  rintro e w2 ⟨x, rfl, hx0, hx1, k2, d2⟩
  have bR2 := (bR1.alloc (.cells #[.int .i64 row, .int .i64 who, .int .i64 epoch, .int .i64 last, .slice a L.length c] 26)).only k2 (show w.heap.size ≠ C by omega)
  have bM2 := bM1.only k2 (show w1.heap.size ≠ C by omega)
  have Hown2 := hidP (owns_only (owns_alloc Hown1.out (.cells #[.int .i64 row, .int .i64 who, .int .i64 epoch, .int .i64 last, .slice a L.length c] 26)) k2 (by omega))
  have HO2 := hidP ((HO1.out.below (alloc0 (Below.refl _ _) _)).trans k2)
  have HD2 := hidP d2
  clear k2 d2 bR1 bM1 Hown1 HO1 HD1
  generalize hMM : w1.heap.size = M at *
  have hfar := hfar1
  have hRM : w.heap.size < M := q1
  have qM := bM2.lt
  have hne : w.heap.size ≠ M := by omega
  have hne' : M ≠ w.heap.size := by omega
  clear hMM hfar1 q1
  by_cases h0 : x = 0
  · subst h0
    go_wp2_with fail
    have bx := Blk.new w2 3 #[.int .i64 (-2), .int .i64 (-1), .int .i64 (5), .int .i64 (100000), .int .i64 (9223372036854775807), .int .i64 (-9223372036854775808)]
    have hin : In (w2.alloc (.cells #[.int .i64 (-2), .int .i64 (-1), .int .i64 (5), .int .i64 (100000), .int .i64 (9223372036854775807), .int .i64 (-9223372036854775808)] 3)) w2.heap.size 0 ([⟨-2⟩, ⟨-1⟩, ⟨5⟩, ⟨100000⟩, ⟨9223372036854775807⟩, ⟨-9223372036854775808⟩] : List Nu) := fun j u hu => bx.cell (i := 0 + j) (by simpa [flat, Cel.cs] using hu)
    refine (pick_any C A cap l w2.heap.size 0 6 ([⟨-2⟩, ⟨-1⟩, ⟨5⟩, ⟨100000⟩, ⟨9223372036854775807⟩, ⟨-9223372036854775808⟩] : List Nu) (by simp) (by simp) _ (HD2.out.below (alloc0 (Below.refl _ _) _)) (by simp) (by omega) hin).mono ?_
    rintro e w3 ⟨y, _, rfl, k3, d3⟩
    have bR3 := (bR2.alloc (.cells #[.int .i64 (-2), .int .i64 (-1), .int .i64 (5), .int .i64 (100000), .int .i64 (9223372036854775807), .int .i64 (-9223372036854775808)] 3)).only k3 (show w.heap.size ≠ C by omega)
    have bM3 := (bM2.alloc (.cells #[.int .i64 (-2), .int .i64 (-1), .int .i64 (5), .int .i64 (100000), .int .i64 (9223372036854775807), .int .i64 (-9223372036854775808)] 3)).only k3 (show M ≠ C by omega)
    have Hown3 := hidP (owns_only (owns_alloc Hown2.out (.cells #[.int .i64 (-2), .int .i64 (-1), .int .i64 (5), .int .i64 (100000), .int .i64 (9223372036854775807), .int .i64 (-9223372036854775808)] 3)) k3 (by omega))
    have HO3 := hidP ((HO2.out.below (alloc0 (Below.refl _ _) _)).trans k3)
    have HD3 := hidP d3
    obtain ⟨s0, s1, s2, s3, s4⟩ := bM3.row5
    have th := bM3.thaw 3
    generalize y.n = Y at *
    clear k3 d3 hin bx bR2 bM2 Hown2 HO2 HD2
    have bM4 : Blk _ M 26 #[.int .i64 row, .int .i64 who, .int .i64 epoch, .int .i64 Y, .slice a L.length c] := bM3.setAt 3 (.int .i64 Y)
    have bR4 := bR3.other (B' := M) (by omega) 3 (.int .i64 Y)
    have Hown4 := hidP (owns_set (C := M) (i := 3) (u := .int .i64 Y) Hown3.out hfar)
    have HO4 := hidP (only_far (M := M) (i := 3) (v := .int .i64 Y) HO3.out (by omega))
    have HD4 := hidP (drawn_far (M := M) (i := 3) (v := .int .i64 Y) HD3.out (by omega))
    obtain ⟨r0, r1, r2, r3, r4⟩ := bR3.row5
    have f0 := bR3.thaw 0
    have f1 := bR3.thaw 1
    have f2 := bR3.thaw 2
    have f3 := bR3.thaw 3
    have f4 := bR3.thaw 4
    have far := hidP (owns_far Hown4.out (show w.heap.size < w.heap.size + 1 by omega))
    go_wp2
    have z : Blk _ w.heap.size 26 #[.int .i64 row, .int .i64 who, .int .i64 epoch, .int .i64 Y, .slice a L.length c] := ((((bR4.setAt 0 (.int .i64 row)).setAt 1 (.int .i64 who)).setAt 2 (.int .i64 epoch)).setAt 3 (.int .i64 Y)).setAt 4 (.slice a L.length c)
    obtain ⟨e0, e1, e2, e3, e4⟩ := z.row5
    exact bodyPost_ret (v := .agg #[.int .i64 row, .int .i64 who, .int .i64 epoch, .int .i64 Y, .slice a L.length c]) (by simp [results, Try.results28, go_sem, e0, e1, e2, e3, e4]) rfl
      ⟨row, who, epoch, Y, _, L, rfl, owns_mono (owns_set (owns_set (owns_set (owns_set (owns_set Hown4.out far.out) far.out) far.out) far.out) far.out) (by omega), by omega, hN, only_set5 HO4.out (by omega), drawn_set5 HD4.out (by omega)⟩
  by_cases h1 : x = 1
  · subst h1
    go_wp2_with fail
    have bx := Blk.new w2 3 #[.int .i64 (-1), .int .i64 (0), .int .i64 (2)]
    have hin : In (w2.alloc (.cells #[.int .i64 (-1), .int .i64 (0), .int .i64 (2)] 3)) w2.heap.size 0 ([⟨-1⟩, ⟨0⟩, ⟨2⟩] : List Nu) := fun j u hu => bx.cell (i := 0 + j) (by simpa [flat, Cel.cs] using hu)
    refine (pick_any C A cap l w2.heap.size 0 3 ([⟨-1⟩, ⟨0⟩, ⟨2⟩] : List Nu) (by simp) (by simp) _ (HD2.out.below (alloc0 (Below.refl _ _) _)) (by simp) (by omega) hin).mono ?_
    rintro e w3 ⟨y, _, rfl, k3, d3⟩
    have bR3 := (bR2.alloc (.cells #[.int .i64 (-1), .int .i64 (0), .int .i64 (2)] 3)).only k3 (show w.heap.size ≠ C by omega)
    have bM3 := (bM2.alloc (.cells #[.int .i64 (-1), .int .i64 (0), .int .i64 (2)] 3)).only k3 (show M ≠ C by omega)
    have Hown3 := hidP (owns_only (owns_alloc Hown2.out (.cells #[.int .i64 (-1), .int .i64 (0), .int .i64 (2)] 3)) k3 (by omega))
    have HO3 := hidP ((HO2.out.below (alloc0 (Below.refl _ _) _)).trans k3)
    have HD3 := hidP d3
    obtain ⟨s0, s1, s2, s3, s4⟩ := bM3.row5
    have th := bM3.thaw 2
    generalize y.n = Y at *
    clear k3 d3 hin bx bR2 bM2 Hown2 HO2 HD2
    have bM4 : Blk _ M 26 #[.int .i64 row, .int .i64 who, .int .i64 Y, .int .i64 last, .slice a L.length c] := bM3.setAt 2 (.int .i64 Y)
    have bR4 := bR3.other (B' := M) (by omega) 2 (.int .i64 Y)
    have Hown4 := hidP (owns_set (C := M) (i := 2) (u := .int .i64 Y) Hown3.out hfar)
    have HO4 := hidP (only_far (M := M) (i := 2) (v := .int .i64 Y) HO3.out (by omega))
    have HD4 := hidP (drawn_far (M := M) (i := 2) (v := .int .i64 Y) HD3.out (by omega))
    obtain ⟨r0, r1, r2, r3, r4⟩ := bR3.row5
    have f0 := bR3.thaw 0
    have f1 := bR3.thaw 1
    have f2 := bR3.thaw 2
    have f3 := bR3.thaw 3
    have f4 := bR3.thaw 4
    have far := hidP (owns_far Hown4.out (show w.heap.size < w.heap.size + 1 by omega))
    go_wp2
    have z : Blk _ w.heap.size 26 #[.int .i64 row, .int .i64 who, .int .i64 Y, .int .i64 last, .slice a L.length c] := ((((bR4.setAt 0 (.int .i64 row)).setAt 1 (.int .i64 who)).setAt 2 (.int .i64 Y)).setAt 3 (.int .i64 last)).setAt 4 (.slice a L.length c)
    obtain ⟨e0, e1, e2, e3, e4⟩ := z.row5
    exact bodyPost_ret (v := .agg #[.int .i64 row, .int .i64 who, .int .i64 Y, .int .i64 last, .slice a L.length c]) (by simp [results, Try.results28, go_sem, e0, e1, e2, e3, e4]) rfl
      ⟨row, who, Y, last, _, L, rfl, owns_mono (owns_set (owns_set (owns_set (owns_set (owns_set Hown4.out far.out) far.out) far.out) far.out) far.out) (by omega), by omega, hN, only_set5 HO4.out (by omega), drawn_set5 HD4.out (by omega)⟩
  by_cases h2 : x = 2
  · subst h2
    go_wp2_with fail
    refine wp_region_noPanic ?_
    have hH : (fun w' => w'.cell? ⟨M, 4, none⟩ = some (.slice a L.length c)) w2.drew := bM2.drew.row5.2.2.2.2
    refine region_upTo 10 (fun w' => w'.cell? ⟨M, 4, none⟩ = some (.slice a L.length c)) (by kernel_rfl) ?_
    refine' upTo_taken (i := 0) (v := _) (by kernel_rfl) rfl (by kernel_rfl) (by decide) (by kernel_rfl) (by kernel_rfl) (fun _ _ _ h => h) (Or.inl ⟨by rfl, ?hy1⟩) (by assumption) ?rest1
    case hy1 => (intro w hSw; (try dsimp only at hSw); go_simp <;> with_reducible rfl)
    try simp only [Act.put, List.setIfInBounds_toArray, List.set_cons_zero, List.set_cons_succ, List.getElem_toArray, List.getElem_cons_succ, List.getElem_cons_zero]
    refine' upTo_taken (i := 1) (v := _) (by kernel_rfl) rfl (by kernel_rfl) (by decide) (by kernel_rfl) (by kernel_rfl) (fun _ _ _ h => h) (Or.inl ⟨by rfl, ?hy2⟩) (by assumption) ?rest2
    case hy2 => (intro w hSw; (try dsimp only at hSw); go_simp <;> with_reducible rfl)
    try simp only [Act.put, List.setIfInBounds_toArray, List.set_cons_zero, List.set_cons_succ, List.getElem_toArray, List.getElem_cons_succ, List.getElem_cons_zero]
    refine' upTo_taken (i := 2) (v := _) (by kernel_rfl) rfl (by kernel_rfl) (by decide) (by kernel_rfl) (by kernel_rfl) (fun _ _ _ h => h) (Or.inl ⟨by rfl, ?hy3⟩) (by assumption) ?rest3
    case hy3 => (intro w hSw; (try dsimp only at hSw); go_simp <;> with_reducible rfl)
    try simp only [Act.put, List.setIfInBounds_toArray, List.set_cons_zero, List.set_cons_succ, List.getElem_toArray, List.getElem_cons_succ, List.getElem_cons_zero]
    refine' upTo_taken (i := 4) (v := _) (by kernel_rfl) rfl (by kernel_rfl) (by decide) (by kernel_rfl) (by kernel_rfl) (fun _ _ _ h => h) (Or.inl ⟨by rfl, ?hy4⟩) (by assumption) ?rest4
    case hy4 => (intro w hSw; (try dsimp only at hSw); go_simp <;> with_reducible rfl)
    try simp only [Act.put, List.setIfInBounds_toArray, List.set_cons_zero, List.set_cons_succ, List.getElem_toArray, List.getElem_cons_succ, List.getElem_cons_zero]
    refine upTo_next (i := 3) (by kernel_rfl) rfl (fun K hK => ?_)
    simp only [List.getElem_toArray, List.getElem_cons_succ, List.getElem_cons_zero]
    go_simp
    go_at_call 31
    refine (below_any C A cap l 9 (by omega) (by omega) _ (HD2.out.below (Below.drew (Below.refl _ _)))).mono ?_
    rintro e w3 ⟨y1, rfl, _, _, k3, d3⟩
    have bR3 := bR2.drew.only k3 (show w.heap.size ≠ C by omega)
    have bM3 := bM2.drew.only k3 (show M ≠ C by omega)
    have Hown3 := hidP (owns_only (owns_drew Hown2.out) k3 (by omega))
    have HO3 := hidP (HO2.out.drew.trans k3)
    have HD3 := hidP d3
    have hS3 : (fun w' => w'.cell? ⟨M, 4, none⟩ = some (.slice a L.length c)) w3 := bM3.row5.2.2.2.2
    clear k3 d3
    refine hK.out _ _ (.inr hS3) ?_
    clear hK K
    try simp only [Act.put, List.setIfInBounds_toArray, List.set_cons_zero, List.set_cons_succ, List.getElem_toArray, List.getElem_cons_succ, List.getElem_cons_zero]
    refine upTo_next (i := 5) (by kernel_rfl) rfl (fun K hK => ?_)
    simp only [List.getElem_toArray, List.getElem_cons_succ, List.getElem_cons_zero]
    go_simp
    go_at_call 31
    refine (below_any C A cap l 9 (by omega) (by omega) _ (HD3.out)).mono ?_
    rintro e w4 ⟨y2, rfl, _, _, k4, d4⟩
    have bR4 := bR3.only k4 (show w.heap.size ≠ C by omega)
    have bM4 := bM3.only k4 (show M ≠ C by omega)
    have Hown4 := hidP (owns_only (Hown3.out) k4 (by omega))
    have HO4 := hidP (HO3.out.trans k4)
    have HD4 := hidP d4
    have hS4 : (fun w' => w'.cell? ⟨M, 4, none⟩ = some (.slice a L.length c)) w4 := bM4.row5.2.2.2.2
    clear k4 d4
    refine hK.out _ _ (.inr hS4) ?_
    clear hK K
    try simp only [Act.put, List.setIfInBounds_toArray, List.set_cons_zero, List.set_cons_succ, List.getElem_toArray, List.getElem_cons_succ, List.getElem_cons_zero]
    refine' upTo_taken (i := 6) (v := _) (by kernel_rfl) rfl (by kernel_rfl) (by decide) (by kernel_rfl) (by kernel_rfl) (fun _ _ _ h => h) (Or.inl ⟨by rfl, ?hy5⟩) (by assumption) ?rest5
    case hy5 => (intro w hSw; (try dsimp only at hSw); go_simp <;> with_reducible rfl)
    try simp only [Act.put, List.setIfInBounds_toArray, List.set_cons_zero, List.set_cons_succ, List.getElem_toArray, List.getElem_cons_succ, List.getElem_cons_zero]
    have q4 := bM4.lt
    have q4' := bR4.lt
    have hSA : (fun w' => w'.cell? ⟨M, 4, none⟩ = some (.slice a L.length c)) (w4.alloc (.cells #[.int .i64 y1, .int .i64 y2] 61)) := (bM4.alloc _).row5.2.2.2.2
    refine upTo_next (i := 7) (by kernel_rfl) rfl (fun K hK => ?_)
    simp only [List.getElem_toArray, List.getElem_cons_succ, List.getElem_cons_zero]
    go_simp
    refine hK.out _ _ (.inr hSA) ?_
    clear hK K
    try simp only [Act.put, List.setIfInBounds_toArray, List.set_cons_zero, List.set_cons_succ, List.getElem_toArray, List.getElem_cons_succ, List.getElem_cons_zero]
    have bx := Blk.new w4 61 #[.int .i64 y1, .int .i64 y2]
    have hX : At (w4.alloc (.cells #[.int .i64 y1, .int .i64 y2] 61)) (some ⟨w4.heap.size, 0, none⟩) ([⟨y1, y2⟩] : List Mk) := .inr ⟨w4.heap.size, 0, rfl, by simp, fun j u hu => bx.cell (i := 0 + j) (by simpa [flat, Cel.cs] using hu)⟩
    obtain ⟨v', w5, hr, hown5, hgrow, hat⟩ := app_mk (w.heap.size + 1) (.slice a L.length c) L [⟨y1, y2⟩] (some ⟨w4.heap.size, 0, none⟩) 1 (w4.alloc (.cells #[.int .i64 y1, .int .i64 y2] 61)) (by simp; omega) (owns_alloc Hown4.out _) hX (by simp; omega)
    simp only [List.length_cons, List.length_nil, Nat.zero_add] at hown5 hr
    obtain ⟨a', c', rfl, _⟩ := owns_form hown5
    have farR : some w.heap.size ≠ (Value.slice a L.length c).ownBlock := owns_far Hown4.out (by omega)
    have farC : ∀ k, k < w.heap.size + 1 → some k ≠ (Value.slice a L.length c).ownBlock := fun k hk => owns_far Hown4.out hk
    have bR5 := (bR4.alloc (.cells #[.int .i64 y1, .int .i64 y2] 61)).kept hgrow farR
    have bM5 := (bM4.alloc (.cells #[.int .i64 y1, .int .i64 y2] 61)).kept hgrow hfar
    have hsz5 : (w4.alloc (.cells #[.int .i64 y1, .int .i64 y2] 61)).heap.size = w4.heap.size + 1 := World.size_alloc _ _
    have HO5 := hidP (only_grown (HO4.out.below (alloc0 (Below.refl _ _) (.cells #[.int .i64 y1, .int .i64 y2] 61))) hgrow (fun k hk => farC k (by omega)))
    have HD5 := hidP (drawn_grown (HD4.out.below (alloc0 (Below.refl _ _) (.cells #[.int .i64 y1, .int .i64 y2] 61))) hgrow (fun k hk => farC k (by omega)))
    have farM : some M ≠ (Value.slice a' (L.length + 1) c').ownBlock := by
      rcases hat with e | e
      · rw [e]; exact hfar
      · rw [e, hsz5]; intro h; have : M = w4.heap.size + 1 := Option.some.inj h; omega
    have Hown5 := hidP hown5
    have hS5 : (fun w' => w'.cell? ⟨M, 4, none⟩ = some (.slice a L.length c)) w5 := bM5.row5.2.2.2.2
    have th := bM5.thaw 4
    obtain ⟨s0, s1, s2, s3, s4⟩ := bM5.row5
    clear hgrow hat hown5 hX bx
    refine upTo_next (i := 8) (by kernel_rfl) rfl (fun K hK => ?_)
    simp only [List.getElem_toArray, List.getElem_cons_succ, List.getElem_cons_zero]
    rw [if_pos (by rfl)]
    refine wp_append_is _ _ _ (by rfl) _ _ _ (by rfl) (by rfl) hr ?_
    refine hK.out _ _ (.inr hS5) ?_
    clear hK K
    try simp only [Act.put, List.setIfInBounds_toArray, List.set_cons_zero, List.set_cons_succ, List.getElem_toArray, List.getElem_cons_succ, List.getElem_cons_zero]
    refine' upTo_taken (i := 9) (v := _) (by kernel_rfl) rfl (by kernel_rfl) (by decide) (by kernel_rfl) (by kernel_rfl) (fun _ _ _ h => h) (Or.inl ⟨by rfl, ?hy6⟩) (by assumption) ?rest6
    case hy6 => (intro w hSw; (try dsimp only at hSw); go_simp <;> with_reducible rfl)
    try simp only [Act.put, List.setIfInBounds_toArray, List.set_cons_zero, List.set_cons_succ, List.getElem_toArray, List.getElem_cons_succ, List.getElem_cons_zero]
    refine upTo_next (i := 10) (by kernel_rfl) rfl (fun K hK => ?_)
    simp only [List.getElem_toArray, List.getElem_cons_succ, List.getElem_cons_zero]
    go_simp
    refine hK.out _ _ (.inl rfl) ?_
    clear hK K
    try simp only [Act.put, List.setIfInBounds_toArray, List.set_cons_zero, List.set_cons_succ, List.getElem_toArray, List.getElem_cons_succ, List.getElem_cons_zero]
    refine upTo_done (by kernel_rfl) ?_ _
    refine NoPanic.normal ?_
    clear hH hS3 hS4 hSA hS5 s0 s1 s2 s3 s4 hr
    have bM6 : Blk _ M 26 #[.int .i64 row, .int .i64 who, .int .i64 epoch, .int .i64 last, .slice a' (L.length + 1) c'] := bM5.setAt 4 (.slice a' (L.length + 1) c')
    have bR6 := bR5.other (B' := M) (by omega) 4 (.slice a' (L.length + 1) c')
    have Hown6 := hidP (owns_n (l := L ++ [⟨y1, y2⟩]) (by simp) (owns_set (C := M) (i := 4) (u := .slice a' (L.length + 1) c') Hown5.out farM))
    have HO6 := hidP (only_far (M := M) (i := 4) (v := .slice a' (L.length + 1) c') HO5.out (by omega))
    have HD6 := hidP (drawn_far (M := M) (i := 4) (v := .slice a' (L.length + 1) c') HD5.out (by omega))
    generalize w5.setCell ⟨M, 4, none⟩ (.slice a' (L.length + 1) c') = W6 at *
    clear bM5 bR5 bM4 bR4 bM3 bR3 bM2 bR2 th
    obtain ⟨r0, r1, r2, r3, r4⟩ := bR6.row5
    obtain ⟨t0, t1, t2, t3, t4⟩ := bM6.row5
    have f0 := bR6.thaw 0
    have f1 := bR6.thaw 1
    have f2 := bR6.thaw 2
    have f3 := bR6.thaw 3
    have f4 := bR6.thaw 4
    have far := hidP (owns_far Hown6.out (show w.heap.size < w.heap.size + 1 by omega))
    go_wp2
    have z : Blk _ w.heap.size 26 #[.int .i64 row, .int .i64 who, .int .i64 epoch, .int .i64 last, .slice a' (L.length + 1) c'] := ((((bR6.setAt 0 (.int .i64 row)).setAt 1 (.int .i64 who)).setAt 2 (.int .i64 epoch)).setAt 3 (.int .i64 last)).setAt 4 (.slice a' (L.length + 1) c')
    obtain ⟨e0, e1, e2, e3, e4⟩ := z.row5
    exact bodyPost_ret (v := .agg #[.int .i64 row, .int .i64 who, .int .i64 epoch, .int .i64 last, .slice a' (L.length + 1) c']) (by simp [results, Try.results28, go_sem, e0, e1, e2, e3, e4]) rfl
      ⟨row, who, epoch, last, _, (L ++ [⟨y1, y2⟩]), rfl, owns_mono (owns_set (owns_set (owns_set (owns_set (owns_set Hown6.out far.out) far.out) far.out) far.out) far.out) (by omega), (by simp; omega), hN, only_set5 HO6.out (by omega), drawn_set5 HD6.out (by omega)⟩
  by_cases h3 : x = 3
  · subst h3
    go_wp2_with fail
    have bx := Blk.new w2 3 #[.int .i64 (-1), .int .i64 (3), .int .i64 (4)]
    have hin : In (w2.alloc (.cells #[.int .i64 (-1), .int .i64 (3), .int .i64 (4)] 3)) w2.heap.size 0 ([⟨-1⟩, ⟨3⟩, ⟨4⟩] : List Nu) := fun j u hu => bx.cell (i := 0 + j) (by simpa [flat, Cel.cs] using hu)
    refine (pick_any C A cap l w2.heap.size 0 3 ([⟨-1⟩, ⟨3⟩, ⟨4⟩] : List Nu) (by simp) (by simp) _ (HD2.out.below (alloc0 (Below.refl _ _) _)) (by simp) (by omega) hin).mono ?_
    rintro e w3 ⟨y, hy, rfl, k3, d3⟩
    have hN' : Hid (I64 y.n ∧ I64 who) := ⟨by simp at hy; rcases hy with rfl | rfl | rfl <;> (unfold I64; decide), hN.out.2⟩
    clear hy
    have bR3 := (bR2.alloc (.cells #[.int .i64 (-1), .int .i64 (3), .int .i64 (4)] 3)).only k3 (show w.heap.size ≠ C by omega)
    have bM3 := (bM2.alloc (.cells #[.int .i64 (-1), .int .i64 (3), .int .i64 (4)] 3)).only k3 (show M ≠ C by omega)
    have Hown3 := hidP (owns_only (owns_alloc Hown2.out (.cells #[.int .i64 (-1), .int .i64 (3), .int .i64 (4)] 3)) k3 (by omega))
    have HO3 := hidP ((HO2.out.below (alloc0 (Below.refl _ _) _)).trans k3)
    have HD3 := hidP d3
    obtain ⟨s0, s1, s2, s3, s4⟩ := bM3.row5
    have th := bM3.thaw 0
    generalize y.n = Y at *
    clear k3 d3 hin bx bR2 bM2 Hown2 HO2 HD2
    have bM4 : Blk _ M 26 #[.int .i64 Y, .int .i64 who, .int .i64 epoch, .int .i64 last, .slice a L.length c] := bM3.setAt 0 (.int .i64 Y)
    have bR4 := bR3.other (B' := M) (by omega) 0 (.int .i64 Y)
    have Hown4 := hidP (owns_set (C := M) (i := 0) (u := .int .i64 Y) Hown3.out hfar)
    have HO4 := hidP (only_far (M := M) (i := 0) (v := .int .i64 Y) HO3.out (by omega))
    have HD4 := hidP (drawn_far (M := M) (i := 0) (v := .int .i64 Y) HD3.out (by omega))
    obtain ⟨r0, r1, r2, r3, r4⟩ := bR3.row5
    have f0 := bR3.thaw 0
    have f1 := bR3.thaw 1
    have f2 := bR3.thaw 2
    have f3 := bR3.thaw 3
    have f4 := bR3.thaw 4
    have far := hidP (owns_far Hown4.out (show w.heap.size < w.heap.size + 1 by omega))
    go_wp2
    have z : Blk _ w.heap.size 26 #[.int .i64 Y, .int .i64 who, .int .i64 epoch, .int .i64 last, .slice a L.length c] := ((((bR4.setAt 0 (.int .i64 Y)).setAt 1 (.int .i64 who)).setAt 2 (.int .i64 epoch)).setAt 3 (.int .i64 last)).setAt 4 (.slice a L.length c)
    obtain ⟨e0, e1, e2, e3, e4⟩ := z.row5
    exact bodyPost_ret (v := .agg #[.int .i64 Y, .int .i64 who, .int .i64 epoch, .int .i64 last, .slice a L.length c]) (by simp [results, Try.results28, go_sem, e0, e1, e2, e3, e4]) rfl
      ⟨Y, who, epoch, last, _, L, rfl, owns_mono (owns_set (owns_set (owns_set (owns_set (owns_set Hown4.out far.out) far.out) far.out) far.out) far.out) (by omega), by omega, hN', only_set5 HO4.out (by omega), drawn_set5 HD4.out (by omega)⟩
  obtain ⟨r0, r1, r2, r3, r4⟩ := bR2.row5
  obtain ⟨t0, t1, t2, t3, t4⟩ := bM2.row5
  have f0 := bR2.thaw 0
  have f1 := bR2.thaw 1
  have f2 := bR2.thaw 2
  have f3 := bR2.thaw 3
  have f4 := bR2.thaw 4
  have far := hidP (owns_far Hown2.out (show w.heap.size < w.heap.size + 1 by omega))
  go_wp2
  have z : Blk _ w.heap.size 26 #[.int .i64 row, .int .i64 who, .int .i64 epoch, .int .i64 last, .slice a L.length c] := ((((bR2.setAt 0 (.int .i64 row)).setAt 1 (.int .i64 who)).setAt 2 (.int .i64 epoch)).setAt 3 (.int .i64 last)).setAt 4 (.slice a L.length c)
  obtain ⟨e0, e1, e2, e3, e4⟩ := z.row5
  exact bodyPost_ret (v := .agg #[.int .i64 row, .int .i64 who, .int .i64 epoch, .int .i64 last, .slice a L.length c]) (by simp [results, Try.results28, go_sem, e0, e1, e2, e3, e4]) rfl
    ⟨row, who, epoch, last, _, L, rfl, owns_mono (owns_set (owns_set (owns_set (owns_set (owns_set Hown2.out far.out) far.out) far.out) far.out) far.out) (by omega), by omega, hN, only_set5 HO2.out (by omega), drawn_set5 HD2.out (by omega)⟩
end Go.Proofs.Ytpbbpjckkccjaaa.Gen
