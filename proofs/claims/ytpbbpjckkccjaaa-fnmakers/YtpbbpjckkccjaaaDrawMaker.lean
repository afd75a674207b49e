/-
  A maker that is drawn: its list is of its own, and short.
-/
import Derived.Test.YtpbbpjckkccjaaaDraws
import Derived.Test.YtpbbpjckkccjaaaSpecPut
import Derived.Test.YtpbbpjckkccjaaaLastOp
namespace Go.Proofs.Ytpbbpjckkccjaaa.Gen
open Go.ChangeShapes Go.WideShapes Go.ChangeAt Go.RowKit Go.Joins Go.Deep Base
set_option linter.unusedVariables false
set_option linter.unusedSimpArgs false

theorem wrapI (x : Int) : I64 (IntKind.i64.wrap x) := by rw [IntKind.wrap_i64]; unfold I64; omega
theorem owns_drew {B : Nat} {W : World} {v : Value} {t : TypeId} {k n : Nat} {xs : List Value} (h : W.ownsRow B t k v n xs) : W.drew.ownsRow B t k v n xs := h
theorem owns_only {B c : Nat} {W W' : World} {v : Value} {t : TypeId} {k n : Nat} {xs : List Value} (h : W.ownsRow B t k v n xs) (q : Only c W W') (hc : c < B) : W'.ownsRow B t k v n xs := by
  refine ⟨h.1, ?_⟩
  rcases h.2 with ⟨rfl, rfl⟩ | ⟨g, cp, cur, rfl, hB, hg, hcc, hm, hsz, ht⟩
  · exact .inl ⟨rfl, rfl⟩
  · exact .inr ⟨g, cp, cur, rfl, hB, Blk.only (show Blk W g t cur from hg) q (by omega), hcc, hm, hsz, ht⟩
theorem only_far {c M i : Nat} {a W : World} {v : Value} (h : Only c a W) (hM : a.heap.size ≤ M) : Only c a (W.setCell ⟨M, i, none⟩ v) :=
  ⟨h.os, h.tape, h.output, by simpa using h.size, fun j hj hb => (Below.heap_setCell W ⟨M, i, none⟩ v j (by show j ≠ M; omega)).trans (h.block j hj hb)⟩
theorem only_set5 {c M : Nat} {a W : World} {v0 v1 v2 v3 v4 : Value} (h : Only c a W) (hM : a.heap.size ≤ M) : Only c a (((((W.setCell ⟨M, 0, none⟩ v0).setCell ⟨M, 1, none⟩ v1).setCell ⟨M, 2, none⟩ v2).setCell ⟨M, 3, none⟩ v3).setCell ⟨M, 4, none⟩ v4) :=
  only_far (only_far (only_far (only_far (only_far h hM) hM) hM) hM) hM
theorem drawn_far {W : World} {C cap M i : Nat} {A : Option Addr} {l : List By} {v : Value} (h : Drawn W C A cap l) (hM : C < M) : Drawn (W.setCell ⟨M, i, none⟩ v) C A cap l := by
  refine ⟨?_, h.code.imp id fun ⟨b, o, e, hb, hi⟩ => ⟨b, o, e, hb, hi.set ⟨M, i, none⟩ v (by show M ≠ b; omega)⟩, h.len, h.byte⟩
  obtain ⟨j, x, hj, hb⟩ := h.cur
  exact ⟨j, x, hj, hb.other (by omega) i v⟩
theorem drawn_set5 {W : World} {C cap M : Nat} {A : Option Addr} {l : List By} {v0 v1 v2 v3 v4 : Value} (h : Drawn W C A cap l) (hM : C < M) : Drawn (((((W.setCell ⟨M, 0, none⟩ v0).setCell ⟨M, 1, none⟩ v1).setCell ⟨M, 2, none⟩ v2).setCell ⟨M, 3, none⟩ v3).setCell ⟨M, 4, none⟩ v4) C A cap l :=
  drawn_far (drawn_far (drawn_far (drawn_far (drawn_far h hM) hM) hM) hM) hM
theorem putM_len (window epoch last : Int) (l : List Mk) (ep seq off : Int) : (putM window epoch last l ep seq off).length ≤ l.length + 1 := by
  unfold putM lastN putB
  split
  · rw [List.length_drop]; split <;> simp <;> omega
  · omega

/-- What a round of drawing holds: the result's box R, the maker's box R + 1 .. -/
def DrawM (C R M : Nat) (A : Option Addr) (cap : Nat) (l : List By) (w W : World) (k : Nat) : Prop :=
  ∃ (row who epoch last : Int) (a : Option Addr) (c : Nat) (L : List Mk), Blk W R 26 #[.int .i64 0, .int .i64 0, .int .i64 0, .int .i64 0, .slice none 0 0] ∧ Blk W M 26 #[.int .i64 row, .int .i64 who, .int .i64 epoch, .int .i64 last, .slice a L.length c] ∧
    W.ownsRow (R + 1) 61 2 (.slice a L.length c) L.length (flat L) ∧ some M ≠ (Value.slice a L.length c).ownBlock ∧ L.length ≤ k ∧ Hid (I64 row ∧ I64 who) ∧ Only C w W ∧ Drawn W C A cap l

set_option maxRecDepth 100000 in
set_option maxHeartbeats 1000000 in
theorem drawRight_any (C : Nat) (A : Option Addr) (cap : Nat) (l : List By) (w : World) (hD : Drawn w C A cap l) :
    Calls Try.prog 54 #[.pointer (some ⟨C, 0, none⟩)] w fun e w' => ∃ (row who epoch last : Int) (v : Value) (L : List Mk), e = .returned (.agg #[.int .i64 row, .int .i64 who, .int .i64 epoch, .int .i64 last, v]) ∧ w'.ownsRow w.heap.size 61 2 v L.length (flat L) ∧ L.length ≤ 8 ∧ Hid (I64 row ∧ I64 who) ∧ Only C w w' ∧ Drawn w' C A cap l := by
  have HD := hidP hD
  have hC := hD.lt
  clear hD
  go_enter Try.func54, Try.ntmps54
  go_wp2_with fail
  refine (below_any C A cap l 3 (by omega) (by omega) _ (HD.out.below (alloc0 (Below.refl _ _) _))).mono ?_
  rintro e w1 ⟨x1, rfl, hx10, hx11, k1, d1⟩
  have R1 := (Blk.new w 26 #[.int .i64 0, .int .i64 0, .int .i64 0, .int .i64 0, .slice none 0 0]).only k1 (by omega)
  have O1 : Only C w w1 := (Only.of_below (alloc0 (Below.refl _ _) _)).trans k1
  have HK1 := hidP O1
  have HD1 := hidP d1
  clear k1 d1 O1
  go_wp2_with fail
  refine (below_any C A cap l 4 (by omega) (by omega) _ HD1.out).mono ?_
  rintro e w2 ⟨x2, rfl, hx20, hx21, k2, d2⟩
  have R2 := R1.only k2 (by omega)
  have HK2 := hidP (HK1.out.trans k2)
  have HD2 := hidP d2
  clear k2 d2
  have q2 := R2.lt
  go_wp2_with fail
  have S0 : Hid (DrawM C w.heap.size w2.heap.size A cap l w (w2.alloc (.cells #[.int .i64 x1, .int .i64 x2, .int .i64 0, .int .i64 (-1), .slice none 0 0] 26)) 0) :=
    ⟨x1, x2, 0, -1, none, 0, [], R2.alloc _, Blk.new w2 _ _, World.ownsRow_nil _ _ _ _, by simp [Value.ownBlock], Nat.le_refl _, (by unfold Hid I64; omega), HK2.out.below (alloc0 (Below.refl _ _) _), HD2.out.below (alloc0 (Below.refl _ _) _)⟩
  generalize w2.alloc (.cells #[.int .i64 x1, .int .i64 x2, .int .i64 0, .int .i64 (-1), .slice none 0 0] 26) = W3 at *
  generalize hM : w2.heap.size = M at *
  have hRM : w.heap.size < M := q2
  clear hM R1 R2 HK1 HK2 HD1 HD2 q2
  go_loopw [4] (fun i W => ∃ n : Nat, i = .int .i64 (n : Int) ∧ n ≤ 8 ∧ Hid (DrawM C w.heap.size M A cap l w W n)) (fun i _ => 8 - (intOf i).toNat)
  case atStart => exact ⟨0, rfl, by omega, S0⟩
  case round =>
    obtain ⟨n, rfl, hn, row, who, epoch, last, a, c, L, bR, bM, hown, hfar, hL, hN, hO, hDr⟩ := hrel
    have hRl := bR.lt
    have hMl := bM.lt
    have Hown := hidP hown
    have HO := hidP hO
    have HDr := hidP hDr
    have hi0 : (0 : Int) ≤ (n : Int) := by omega
    have hi8 : (n : Int) ≤ 8 := by omega
    clear hown hO hDr
    go_wp2_with fail
    refine (below_any C A cap l 8 (by omega) (by omega) _ HDr.out).mono ?_
    rintro e w4 ⟨x4, rfl, hx40, hx41, k4, d4⟩
    have bM4 := bM.only k4 (show M ≠ C by omega)
    have bR4 := bR.only k4 (show w.heap.size ≠ C by omega)
    have Hown4 := hidP (owns_only Hown.out k4 (by omega))
    have HO4 := hidP (HO.out.trans k4)
    have HD4 := hidP d4
    have hM4 := bM4.lt
    clear k4 d4 bM bR Hown HO HDr hRl hMl
    obtain ⟨s0, s1, s2, s3, s4⟩ := bM4.row5
    by_cases hlt : (n : Int) < x4
    · have hc2 := hidP s2
      go_wp2_with fail
      go_region_held3 (fun w' => w'.cell? ⟨M, 2, none⟩ = some (.int .i64 epoch) ∧ w'.cell? ⟨M, 3, none⟩ = some (.int .i64 last)) (first | exact ⟨s2, s3⟩ | exact CC.out)
        ((go_at_call 31; refine (below_any C A cap l 9 (by omega) (by omega) _ (HD4.out.below (Below.drew (Below.refl _ _)))).mono ?_; rintro e w5 ⟨x5, rfl, hx50, hx51, k5, d5⟩; have CC : Hid (w5.cell? ⟨M, 2, none⟩ = some (.int .i64 epoch) ∧ w5.cell? ⟨M, 3, none⟩ = some (.int .i64 last)) := ⟨(k5.cell (p := ⟨M, 2, none⟩) hM4 (by show M ≠ C; omega)).trans s2, (k5.cell (p := ⟨M, 3, none⟩) hM4 (by show M ≠ C; omega)).trans s3⟩))
      have bM5 := bM4.drew.only k5 (show M ≠ C by omega)
      have bR5 := bR4.drew.only k5 (show w.heap.size ≠ C by omega)
      have Hown5 := hidP (owns_only (owns_drew Hown4.out) k5 (by omega))
      have HO5 := hidP (HO4.out.drew.trans k5)
      have HD5 := hidP d5
      have hM5 := bM5.lt
      clear k5 d5 bM4 bR4 Hown4 HO4 HD4 hM4 s0 s1 s2 s3 s4 CC hc2
      obtain ⟨s0, s1, s2, s3, s4⟩ := bM5.row5
      generalize IntKind.i64.wrap (epoch + IntKind.i64.wrap (x5.tdiv 8)) = E
      by_cases hE : E > epoch
      · go_wp2_with fail
        refine wp_region_noPanic ?_
        have hH : (fun w' => w'.cell? ⟨M, 0, none⟩ = some (.int .i64 row) ∧ w'.cell? ⟨M, 1, none⟩ = some (.int .i64 who) ∧ w'.cell? ⟨M, 2, none⟩ = some (.int .i64 epoch) ∧ w'.cell? ⟨M, 3, none⟩ = some (.int .i64 last) ∧ w'.cell? ⟨M, 4, none⟩ = some (.slice a L.length c)) w5.drew := bM5.drew.row5
        refine region_upTo 9 (fun w' => w'.cell? ⟨M, 0, none⟩ = some (.int .i64 row) ∧ w'.cell? ⟨M, 1, none⟩ = some (.int .i64 who) ∧ w'.cell? ⟨M, 2, none⟩ = some (.int .i64 epoch) ∧ w'.cell? ⟨M, 3, none⟩ = some (.int .i64 last) ∧ w'.cell? ⟨M, 4, none⟩ = some (.slice a L.length c)) (by kernel_rfl) ?_
        refine' upTo_taken (i := 0) (v := _) (by kernel_rfl) rfl (by kernel_rfl) (by decide) (by kernel_rfl) (by kernel_rfl) (fun _ _ _ h => h) (Or.inl ⟨by rfl, ?hy1⟩) (by assumption) ?rest1
        case hy1 => (intro w hSw; (try dsimp only at hSw); go_simp <;> with_reducible rfl)
        try simp only [Act.put, List.setIfInBounds_toArray, List.set_cons_zero, List.set_cons_succ, List.getElem_toArray, List.getElem_cons_succ, List.getElem_cons_zero]
        refine' upTo_taken (i := 1) (v := _) (by kernel_rfl) rfl (by kernel_rfl) (by decide) (by kernel_rfl) (by kernel_rfl) (fun _ _ _ h => h) (Or.inl ⟨by rfl, ?hy2⟩) (by assumption) ?rest2
        case hy2 => (intro w hSw; (try dsimp only at hSw); go_simp <;> with_reducible rfl)
        try simp only [Act.put, List.setIfInBounds_toArray, List.set_cons_zero, List.set_cons_succ, List.getElem_toArray, List.getElem_cons_succ, List.getElem_cons_zero]
        refine' upTo_taken (i := 4) (v := _) (by kernel_rfl) rfl (by kernel_rfl) (by decide) (by kernel_rfl) (by kernel_rfl) (fun _ _ _ h => h) (Or.inl ⟨by rfl, ?hy3⟩) (by assumption) ?rest3
        case hy3 => (intro w hSw; (try dsimp only at hSw); go_simp <;> with_reducible rfl)
        try simp only [Act.put, List.setIfInBounds_toArray, List.set_cons_zero, List.set_cons_succ, List.getElem_toArray, List.getElem_cons_succ, List.getElem_cons_zero]
        refine' upTo_taken (i := 5) (v := _) (by kernel_rfl) rfl (by kernel_rfl) (by decide) (by kernel_rfl) (by kernel_rfl) (fun _ _ _ h => h) (Or.inl ⟨by rfl, ?hy4⟩) (by assumption) ?rest4
        case hy4 => (intro w hSw; (try dsimp only at hSw); go_simp <;> with_reducible rfl)
        try simp only [Act.put, List.setIfInBounds_toArray, List.set_cons_zero, List.set_cons_succ, List.getElem_toArray, List.getElem_cons_succ, List.getElem_cons_zero]
        refine' upTo_taken (i := 6) (v := _) (by kernel_rfl) rfl (by kernel_rfl) (by decide) (by kernel_rfl) (by kernel_rfl) (fun _ _ _ h => h) (Or.inl ⟨by rfl, ?hy5⟩) (by assumption) ?rest5
        case hy5 => (intro w hSw; (try dsimp only at hSw); go_simp <;> with_reducible rfl)
        try simp only [Act.put, List.setIfInBounds_toArray, List.set_cons_zero, List.set_cons_succ, List.getElem_toArray, List.getElem_cons_succ, List.getElem_cons_zero]
        refine' upTo_taken (i := 7) (v := _) (by kernel_rfl) rfl (by kernel_rfl) (by decide) (by kernel_rfl) (by kernel_rfl) (fun _ _ _ h => h) (Or.inl ⟨by rfl, ?hy6⟩) (by assumption) ?rest6
        case hy6 => (intro w hSw; (try dsimp only at hSw); go_simp <;> with_reducible rfl)
        try simp only [Act.put, List.setIfInBounds_toArray, List.set_cons_zero, List.set_cons_succ, List.getElem_toArray, List.getElem_cons_succ, List.getElem_cons_zero]
        refine upTo_next (i := 2) (by kernel_rfl) rfl (fun K hK => ?_)
        simp only [List.getElem_toArray, List.getElem_cons_succ, List.getElem_cons_zero]
        go_simp
        go_at_call 31
        refine (below_any C A cap l 3 (by omega) (by omega) _ (HD5.out.below (Below.drew (Below.refl _ _)))).mono ?_
        rintro e w6 ⟨x6, rfl, hx60, hx61, k6, d6⟩
        have bM6 := bM5.drew.only k6 (show M ≠ C by omega)
        have bR6 := bR5.drew.only k6 (show w.heap.size ≠ C by omega)
        have hM6 := bM6.lt
        have Hown6 := hidP (owns_only (owns_drew Hown5.out) k6 (by omega))
        have HO6 := hidP (HO5.out.drew.trans k6)
        have HD6 := hidP d6
        have hS6 : (fun w' => w'.cell? ⟨M, 0, none⟩ = some (.int .i64 row) ∧ w'.cell? ⟨M, 1, none⟩ = some (.int .i64 who) ∧ w'.cell? ⟨M, 2, none⟩ = some (.int .i64 epoch) ∧ w'.cell? ⟨M, 3, none⟩ = some (.int .i64 last) ∧ w'.cell? ⟨M, 4, none⟩ = some (.slice a L.length c)) w6 := bM6.row5
        clear k6 d6
        refine hK.out _ _ (.inr hS6) ?_
        clear hK K
        try simp only [Act.put, List.setIfInBounds_toArray, List.set_cons_zero, List.set_cons_succ, List.getElem_toArray, List.getElem_cons_succ, List.getElem_cons_zero]
        refine' upTo_taken (i := 3) (v := _) (by kernel_rfl) rfl (by kernel_rfl) (by decide) (by kernel_rfl) (by kernel_rfl) (fun _ _ _ h => h) (Or.inl ⟨by rfl, ?hy7⟩) (by assumption) ?rest7
        case hy7 => (intro w hSw; (try dsimp only at hSw); go_simp <;> with_reducible rfl)
        try simp only [Act.put, List.setIfInBounds_toArray, List.set_cons_zero, List.set_cons_succ, List.getElem_toArray, List.getElem_cons_succ, List.getElem_cons_zero]
        refine upTo_next (i := 8) (by kernel_rfl) rfl (fun K hK => ?_)
        simp only [List.getElem_toArray, List.getElem_cons_succ, List.getElem_cons_zero]
        go_simp
        go_at_call 13
        refine (specPut_own row who epoch last _ _ _ _ (wrapI _) a c L (by omega) _ (owns_at rfl Hown6.out)).mono ?_
        rintro e w7 ⟨v7, rfl, hown7, g7⟩
        have hl7 := putM_len (IntKind.i64.wrap (1 + x6)) epoch last L E 0 (IntKind.i64.wrap (2 * (n : Int)))
        have bM7 := bM6.below g7 hM6
        have bR7 := bR6.below g7 bR6.lt
        have HO7 := hidP (HO6.out.below g7)
        have HD7 := hidP (HD6.out.below g7)
        generalize putM (IntKind.i64.wrap (1 + x6)) epoch last L E 0 (IntKind.i64.wrap (2 * (n : Int))) = L7 at *
        generalize putE epoch last L E 0 = E7 at *
        generalize putS epoch last L E 0 = T7 at *
        obtain ⟨a7, c7, rfl, _⟩ := owns_form hown7
        have far7 := owns_far hown7 hM6
        have Hown7 := hidP (owns_mono hown7 (show w.heap.size + 1 ≤ w6.heap.size by omega))
        have hS7 : (fun w' => w'.cell? ⟨M, 0, none⟩ = some (.int .i64 row) ∧ w'.cell? ⟨M, 1, none⟩ = some (.int .i64 who) ∧ w'.cell? ⟨M, 2, none⟩ = some (.int .i64 epoch) ∧ w'.cell? ⟨M, 3, none⟩ = some (.int .i64 last) ∧ w'.cell? ⟨M, 4, none⟩ = some (.slice a L.length c)) w7 := bM7.row5
        obtain ⟨s0, s1, s2, s3, s4⟩ := bM7.row5
        have th0 := bM7.thaw 0
        have th1 := bM7.thaw 1
        have th2 := bM7.thaw 2
        have th3 := bM7.thaw 3
        have th4 := bM7.thaw 4
        clear hown7 g7
        refine hK.out _ _ (.inr hS7) ?_
        clear hK K
        try simp only [Act.put, List.setIfInBounds_toArray, List.set_cons_zero, List.set_cons_succ, List.getElem_toArray, List.getElem_cons_succ, List.getElem_cons_zero]
        refine upTo_next (i := 9) (by kernel_rfl) rfl (fun K hK => ?_)
        simp only [List.getElem_toArray, List.getElem_cons_succ, List.getElem_cons_zero]
        go_simp
        refine hK.out _ _ (.inl rfl) ?_
        clear hK K
        try simp only [Act.put, List.setIfInBounds_toArray, List.set_cons_zero, List.set_cons_succ, List.getElem_toArray, List.getElem_cons_succ, List.getElem_cons_zero]
        refine upTo_done (by kernel_rfl) ?_ _
        refine NoPanic.normal ?_
        clear hH hS6 hS7
        go_wp2
        have z : Blk _ M 26 #[.int .i64 row, .int .i64 who, .int .i64 E7, .int .i64 T7, .slice a7 L7.length c7] := ((((bM7.setAt 0 (.int .i64 row)).setAt 1 (.int .i64 who)).setAt 2 (.int .i64 E7)).setAt 3 (.int .i64 T7)).setAt 4 (.slice a7 L7.length c7)
        have zR := ((((bR7.other (B' := M) (by omega) 0 (.int .i64 row)).other (B' := M) (by omega) 1 (.int .i64 who)).other (B' := M) (by omega) 2 (.int .i64 E7)).other (B' := M) (by omega) 3 (.int .i64 T7)).other (B' := M) (by omega) 4 (.slice a7 L7.length c7)
        exact ⟨⟨n + 1, by go_num, by omega, row, who, E7, T7, a7, c7, L7, zR, z, owns_set (owns_set (owns_set (owns_set (owns_set Hown7.out far7) far7) far7) far7) far7, far7, by omega, hN, only_set5 HO7.out (by omega), drawn_set5 HD7.out (by omega)⟩, by simp [intOf]; omega⟩
      · go_wp2_with fail
        refine wp_region_noPanic ?_
        have hH : (fun w' => w'.cell? ⟨M, 0, none⟩ = some (.int .i64 row) ∧ w'.cell? ⟨M, 1, none⟩ = some (.int .i64 who) ∧ w'.cell? ⟨M, 2, none⟩ = some (.int .i64 epoch) ∧ w'.cell? ⟨M, 3, none⟩ = some (.int .i64 last) ∧ w'.cell? ⟨M, 4, none⟩ = some (.slice a L.length c)) w5.drew := bM5.drew.row5
        refine region_upTo 9 (fun w' => w'.cell? ⟨M, 0, none⟩ = some (.int .i64 row) ∧ w'.cell? ⟨M, 1, none⟩ = some (.int .i64 who) ∧ w'.cell? ⟨M, 2, none⟩ = some (.int .i64 epoch) ∧ w'.cell? ⟨M, 3, none⟩ = some (.int .i64 last) ∧ w'.cell? ⟨M, 4, none⟩ = some (.slice a L.length c)) (by kernel_rfl) ?_
        refine' upTo_taken (i := 0) (v := _) (by kernel_rfl) rfl (by kernel_rfl) (by decide) (by kernel_rfl) (by kernel_rfl) (fun _ _ _ h => h) (Or.inl ⟨by rfl, ?hy8⟩) (by assumption) ?rest8
        case hy8 => (intro w hSw; (try dsimp only at hSw); go_simp <;> with_reducible rfl)
        try simp only [Act.put, List.setIfInBounds_toArray, List.set_cons_zero, List.set_cons_succ, List.getElem_toArray, List.getElem_cons_succ, List.getElem_cons_zero]
        refine' upTo_taken (i := 1) (v := _) (by kernel_rfl) rfl (by kernel_rfl) (by decide) (by kernel_rfl) (by kernel_rfl) (fun _ _ _ h => h) (Or.inl ⟨by rfl, ?hy9⟩) (by assumption) ?rest9
        case hy9 => (intro w hSw; (try dsimp only at hSw); go_simp <;> with_reducible rfl)
        try simp only [Act.put, List.setIfInBounds_toArray, List.set_cons_zero, List.set_cons_succ, List.getElem_toArray, List.getElem_cons_succ, List.getElem_cons_zero]
        refine' upTo_taken (i := 4) (v := _) (by kernel_rfl) rfl (by kernel_rfl) (by decide) (by kernel_rfl) (by kernel_rfl) (fun _ _ _ h => h) (Or.inl ⟨by rfl, ?hy10⟩) (by assumption) ?rest10
        case hy10 => (intro w hSw; (try dsimp only at hSw); go_simp <;> with_reducible rfl)
        try simp only [Act.put, List.setIfInBounds_toArray, List.set_cons_zero, List.set_cons_succ, List.getElem_toArray, List.getElem_cons_succ, List.getElem_cons_zero]
        refine' upTo_taken (i := 5) (v := _) (by kernel_rfl) rfl (by kernel_rfl) (by decide) (by kernel_rfl) (by kernel_rfl) (fun _ _ _ h => h) (Or.inl ⟨by rfl, ?hy11⟩) (by assumption) ?rest11
        case hy11 => (intro w hSw; (try dsimp only at hSw); go_simp <;> with_reducible rfl)
        try simp only [Act.put, List.setIfInBounds_toArray, List.set_cons_zero, List.set_cons_succ, List.getElem_toArray, List.getElem_cons_succ, List.getElem_cons_zero]
        refine' upTo_taken (i := 6) (v := _) (by kernel_rfl) rfl (by kernel_rfl) (by decide) (by kernel_rfl) (by kernel_rfl) (fun _ _ _ h => h) (Or.inl ⟨by rfl, ?hy12⟩) (by assumption) ?rest12
        case hy12 => (intro w hSw; (try dsimp only at hSw); go_simp <;> with_reducible rfl)
        try simp only [Act.put, List.setIfInBounds_toArray, List.set_cons_zero, List.set_cons_succ, List.getElem_toArray, List.getElem_cons_succ, List.getElem_cons_zero]
        refine' upTo_taken (i := 7) (v := _) (by kernel_rfl) rfl (by kernel_rfl) (by decide) (by kernel_rfl) (by kernel_rfl) (fun _ _ _ h => h) (Or.inl ⟨by rfl, ?hy13⟩) (by assumption) ?rest13
        case hy13 => (intro w hSw; (try dsimp only at hSw); go_simp <;> with_reducible rfl)
        try simp only [Act.put, List.setIfInBounds_toArray, List.set_cons_zero, List.set_cons_succ, List.getElem_toArray, List.getElem_cons_succ, List.getElem_cons_zero]
        refine upTo_next (i := 2) (by kernel_rfl) rfl (fun K hK => ?_)
        simp only [List.getElem_toArray, List.getElem_cons_succ, List.getElem_cons_zero]
        go_simp
        go_at_call 31
        refine (below_any C A cap l 3 (by omega) (by omega) _ (HD5.out.below (Below.drew (Below.refl _ _)))).mono ?_
        rintro e w6 ⟨x6, rfl, hx60, hx61, k6, d6⟩
        have bM6 := bM5.drew.only k6 (show M ≠ C by omega)
        have bR6 := bR5.drew.only k6 (show w.heap.size ≠ C by omega)
        have hM6 := bM6.lt
        have Hown6 := hidP (owns_only (owns_drew Hown5.out) k6 (by omega))
        have HO6 := hidP (HO5.out.drew.trans k6)
        have HD6 := hidP d6
        have hS6 : (fun w' => w'.cell? ⟨M, 0, none⟩ = some (.int .i64 row) ∧ w'.cell? ⟨M, 1, none⟩ = some (.int .i64 who) ∧ w'.cell? ⟨M, 2, none⟩ = some (.int .i64 epoch) ∧ w'.cell? ⟨M, 3, none⟩ = some (.int .i64 last) ∧ w'.cell? ⟨M, 4, none⟩ = some (.slice a L.length c)) w6 := bM6.row5
        clear k6 d6
        refine hK.out _ _ (.inr hS6) ?_
        clear hK K
        try simp only [Act.put, List.setIfInBounds_toArray, List.set_cons_zero, List.set_cons_succ, List.getElem_toArray, List.getElem_cons_succ, List.getElem_cons_zero]
        refine' upTo_taken (i := 3) (v := _) (by kernel_rfl) rfl (by kernel_rfl) (by decide) (by kernel_rfl) (by kernel_rfl) (fun _ _ _ h => h) (Or.inl ⟨by rfl, ?hy14⟩) (by assumption) ?rest14
        case hy14 => (intro w hSw; (try dsimp only at hSw); go_simp <;> with_reducible rfl)
        try simp only [Act.put, List.setIfInBounds_toArray, List.set_cons_zero, List.set_cons_succ, List.getElem_toArray, List.getElem_cons_succ, List.getElem_cons_zero]
        refine upTo_next (i := 8) (by kernel_rfl) rfl (fun K hK => ?_)
        simp only [List.getElem_toArray, List.getElem_cons_succ, List.getElem_cons_zero]
        go_simp
        go_at_call 13
        refine (specPut_own row who epoch last _ _ _ _ (wrapI _) a c L (by omega) _ (owns_at rfl Hown6.out)).mono ?_
        rintro e w7 ⟨v7, rfl, hown7, g7⟩
        have hl7 := putM_len (IntKind.i64.wrap (1 + x6)) epoch last L E (wrap64 (last + 1)) (IntKind.i64.wrap (2 * (n : Int)))
        have bM7 := bM6.below g7 hM6
        have bR7 := bR6.below g7 bR6.lt
        have HO7 := hidP (HO6.out.below g7)
        have HD7 := hidP (HD6.out.below g7)
        generalize putM (IntKind.i64.wrap (1 + x6)) epoch last L E (wrap64 (last + 1)) (IntKind.i64.wrap (2 * (n : Int))) = L7 at *
        generalize putE epoch last L E (wrap64 (last + 1)) = E7 at *
        generalize putS epoch last L E (wrap64 (last + 1)) = T7 at *
        obtain ⟨a7, c7, rfl, _⟩ := owns_form hown7
        have far7 := owns_far hown7 hM6
        have Hown7 := hidP (owns_mono hown7 (show w.heap.size + 1 ≤ w6.heap.size by omega))
        have hS7 : (fun w' => w'.cell? ⟨M, 0, none⟩ = some (.int .i64 row) ∧ w'.cell? ⟨M, 1, none⟩ = some (.int .i64 who) ∧ w'.cell? ⟨M, 2, none⟩ = some (.int .i64 epoch) ∧ w'.cell? ⟨M, 3, none⟩ = some (.int .i64 last) ∧ w'.cell? ⟨M, 4, none⟩ = some (.slice a L.length c)) w7 := bM7.row5
        obtain ⟨s0, s1, s2, s3, s4⟩ := bM7.row5
        have th0 := bM7.thaw 0
        have th1 := bM7.thaw 1
        have th2 := bM7.thaw 2
        have th3 := bM7.thaw 3
        have th4 := bM7.thaw 4
        clear hown7 g7
        refine hK.out _ _ (.inr hS7) ?_
        clear hK K
        try simp only [Act.put, List.setIfInBounds_toArray, List.set_cons_zero, List.set_cons_succ, List.getElem_toArray, List.getElem_cons_succ, List.getElem_cons_zero]
        refine upTo_next (i := 9) (by kernel_rfl) rfl (fun K hK => ?_)
        simp only [List.getElem_toArray, List.getElem_cons_succ, List.getElem_cons_zero]
        go_simp
        refine hK.out _ _ (.inl rfl) ?_
        clear hK K
        try simp only [Act.put, List.setIfInBounds_toArray, List.set_cons_zero, List.set_cons_succ, List.getElem_toArray, List.getElem_cons_succ, List.getElem_cons_zero]
        refine upTo_done (by kernel_rfl) ?_ _
        refine NoPanic.normal ?_
        clear hH hS6 hS7
        go_wp2
        have z : Blk _ M 26 #[.int .i64 row, .int .i64 who, .int .i64 E7, .int .i64 T7, .slice a7 L7.length c7] := ((((bM7.setAt 0 (.int .i64 row)).setAt 1 (.int .i64 who)).setAt 2 (.int .i64 E7)).setAt 3 (.int .i64 T7)).setAt 4 (.slice a7 L7.length c7)
        have zR := ((((bR7.other (B' := M) (by omega) 0 (.int .i64 row)).other (B' := M) (by omega) 1 (.int .i64 who)).other (B' := M) (by omega) 2 (.int .i64 E7)).other (B' := M) (by omega) 3 (.int .i64 T7)).other (B' := M) (by omega) 4 (.slice a7 L7.length c7)
        exact ⟨⟨n + 1, by go_num, by omega, row, who, E7, T7, a7, c7, L7, zR, z, owns_set (owns_set (owns_set (owns_set (owns_set Hown7.out far7) far7) far7) far7) far7, far7, by omega, hN, only_set5 HO7.out (by omega), drawn_set5 HD7.out (by omega)⟩, by simp [intOf]; omega⟩
    · obtain ⟨r0, r1, r2, r3, r4⟩ := bR4.row5
      have f0 := bR4.thaw 0
      have f1 := bR4.thaw 1
      have f2 := bR4.thaw 2
      have f3 := bR4.thaw 3
      have f4 := bR4.thaw 4
      have far := hidP (owns_far Hown4.out (show w.heap.size < w.heap.size + 1 by omega))
      have hne : w.heap.size ≠ M := by omega
      have hne' : M ≠ w.heap.size := by omega
      go_wp2
      have z : Blk _ w.heap.size 26 #[.int .i64 row, .int .i64 who, .int .i64 epoch, .int .i64 last, .slice a L.length c] := ((((bR4.setAt 0 (.int .i64 row)).setAt 1 (.int .i64 who)).setAt 2 (.int .i64 epoch)).setAt 3 (.int .i64 last)).setAt 4 (.slice a L.length c)
      obtain ⟨e0, e1, e2, e3, e4⟩ := z.row5
      exact bodyPost_ret (v := .agg #[.int .i64 row, .int .i64 who, .int .i64 epoch, .int .i64 last, .slice a L.length c]) (by simp [results, Try.results54, go_sem, e0, e1, e2, e3, e4]) rfl
        ⟨row, who, epoch, last, _, L, rfl, owns_mono (owns_set (owns_set (owns_set (owns_set (owns_set Hown4.out far.out) far.out) far.out) far.out) far.out) (by omega), by omega, hN, only_set5 HO4.out (by omega), drawn_set5 HD4.out (by omega)⟩
end Go.Proofs.Ytpbbpjckkccjaaa.Gen
