/-
  A right row that is drawn.
-/
import Derived.Test.YtnmbbkagjpmhdaaRowDraw1
import Derived.Test.YtnmbbkagjpmhdaaRowPure
import Derived.Test.YtnmbbkagjpmhdaaTillOp
import Derived.Test.YtnmbbkagjpmhdaaSpecRowPut
import Derived.Test.YtnmbbkagjpmhdaaSpecRowTrim2
import Derived.Test.YtnmbbkagjpmhdaaSpecPack
namespace Go.Proofs.Ytnmbbkagjpmhdaa.Gen
open Go.ChangeShapes Go.WideShapes Go.ChangeAt Go.RowKit Go.Joins Go.Deep Base
set_option linter.unusedVariables false
set_option linter.unusedSimpArgs false

theorem wrapI (x : Int) : I64 (IntKind.i64.wrap x) := by rw [IntKind.wrap_i64]; unfold I64; omega
theorem wrap_small {x : Int} (h0 : -1000 ≤ x) (h1 : x ≤ 1000) : IntKind.i64.wrap x = x := by rw [IntKind.wrap_i64]; omega
theorem owns_drew {B : Nat} {W : World} {v : Value} {t : TypeId} {k n : Nat} {xs : List Value} (h : W.ownsRow B t k v n xs) : W.drew.ownsRow B t k v n xs := h
theorem owns_only {B c : Nat} {W W' : World} {v : Value} {t : TypeId} {k n : Nat} {xs : List Value} (h : W.ownsRow B t k v n xs) (q : Only c W W') (hc : c < B) : W'.ownsRow B t k v n xs := by
  refine ⟨h.1, ?_⟩
  rcases h.2 with ⟨rfl, rfl⟩ | ⟨g, cp, cur, rfl, hB, hg, hcc, hm, hsz, ht⟩
  · exact .inl ⟨rfl, rfl⟩
  · exact .inr ⟨g, cp, cur, rfl, hB, Blk.only (show Blk W g t cur from hg) q (by omega), hcc, hm, hsz, ht⟩
theorem only_far {c M i : Nat} {a W : World} {v : Value} (h : Only c a W) (hM : a.heap.size ≤ M) : Only c a (W.setCell ⟨M, i, none⟩ v) :=
  ⟨h.os, h.tape, h.output, by simpa using h.size, fun j hj hb => (Below.heap_setCell W ⟨M, i, none⟩ v j (by show j ≠ M; omega)).trans (h.block j hj hb)⟩
theorem only_set3 {c M : Nat} {a W : World} {v0 v1 v2 : Value} (h : Only c a W) (hM : a.heap.size ≤ M) : Only c a (((W.setCell ⟨M, 0, none⟩ v0).setCell ⟨M, 1, none⟩ v1).setCell ⟨M, 2, none⟩ v2) :=
  only_far (only_far (only_far h hM) hM) hM
theorem drawn_far {W : World} {C cap M i : Nat} {A : Option Addr} {l : List By} {v : Value} (h : Drawn W C A cap l) (hM : C < M) : Drawn (W.setCell ⟨M, i, none⟩ v) C A cap l := by
  refine ⟨?_, h.code.imp id fun ⟨b, o, e, hb, hi⟩ => ⟨b, o, e, hb, hi.set ⟨M, i, none⟩ v (by show M ≠ b; omega)⟩, h.len, h.byte⟩
  obtain ⟨j, x, hj, hb⟩ := h.cur
  exact ⟨j, x, hj, hb.other (by omega) i v⟩
theorem drawn_set3 {W : World} {C cap M : Nat} {A : Option Addr} {l : List By} {v0 v1 v2 : Value} (h : Drawn W C A cap l) (hM : C < M) : Drawn (((W.setCell ⟨M, 0, none⟩ v0).setCell ⟨M, 1, none⟩ v1).setCell ⟨M, 2, none⟩ v2) C A cap l :=
  drawn_far (drawn_far (drawn_far h hM) hM) hM

theorem right_num {start next : Int} {L : List Items.It} (h : Items.rowB start next L = true) : 0 ≤ start ∧ start ≤ next ∧ next ≤ 100000 ∧ L.length ≤ 80 :=
  have := (Items.rowB_iff _ _ _).1 h
  ⟨this.2.2.1, this.2.2.2.1, this.2.2.2.2.1, this.2.2.2.2.2⟩

theorem put_any (start next who time : Int) (key text : ByteArray) (a : Option Addr) (c : Nat) (L : List Items.It) (hk : key.size ≤ 30) (ht : text.size ≤ 30) (hr : Items.rowB start next L = true) (w : World) (hA : Items.At w a L) :
    Calls Try.prog 11 #[.agg #[.int .i64 start, .int .i64 next, .slice a L.length c], .string key, .string text, .int .i64 who, .int .i64 time] w fun e w' =>
      ∃ (next' : Int) (v : Value) (L' : List Items.It) (u u' : Value), e = .returned (.tuple #[.agg #[.int .i64 start, .int .i64 next', v], u, u']) ∧ w'.ownsRow w.heap.size 34 5 v L'.length (Items.flat L') ∧ Items.rowB start next' L' = true ∧ next' ≤ next + 1 ∧ Below w.heap.size w w' := by
  have hn := right_num hr
  refine (Items.specRowPut_yes start next who time key text a c L (by omega) (Items.right_sizes hr) ⟨by omega, by omega⟩ (by omega) (by omega) hr w hA).mono ?_
  have hw : wrap64 (next + 1) = next + 1 := by unfold wrap64; omega
  rintro e w' (⟨h, v, rfl, ho, g⟩ | ⟨h, v, rfl, ho, g⟩)
  · exact ⟨_, v, _, _, _, rfl, by rw [List.length_append]; exact ho, h, by omega, g⟩
  · exact ⟨_, v, _, _, _, rfl, ho, hr, by omega, g⟩

theorem trim_any (start next length keep : Int) (h1 : 1 ≤ length) (h2 : length ≤ 9223372036854775807) (hk : 0 ≤ keep) (a : Option Addr) (c : Nat) (L : List Items.It) (hr : Items.rowB start next L = true) (w : World) (hA : Items.At w a L) :
    Calls Try.prog 23 #[.agg #[.int .i64 start, .int .i64 next, .slice a L.length c], .int .i64 length, .int .i64 keep] w fun e w' =>
      ∃ (start' : Int) (v : Value) (L' : List Items.It), e = .returned (.agg #[.int .i64 start', .int .i64 next, v]) ∧ w'.ownsRow w.heap.size 34 5 v L'.length (Items.flat L') ∧ Items.rowB start' next L' = true ∧ Below w.heap.size w w' := by
  have hn := right_num hr
  refine (Items.specRowTrim_yes start next length keep h1 h2 hk a c L (by omega) (Items.right_sizes hr) ⟨by omega, by omega⟩ hr w hA).mono ?_
  rintro e w' ⟨v, rfl, ho, g⟩
  exact ⟨_, v, _, rfl, ho, (Items.right_trim next length keep h1 h2 _ _ _ hr).1, g⟩

theorem pack_any (start next length : Int) (h1 : 1 ≤ length) (a : Option Addr) (c : Nat) (L : List Items.It) (hr : Items.rowB start next L = true) (w : World) (hA : Items.At w a L) :
    Calls Try.prog 26 #[.agg #[.int .i64 start, .int .i64 next, .slice a L.length c], .int .i64 length] w fun e w' =>
      ∃ (v : Value) (L' : List Items.It), e = .returned (.agg #[.int .i64 start, .int .i64 next, v]) ∧ w'.ownsRow w.heap.size 34 5 v L'.length (Items.flat L') ∧ Items.rowB start next L' = true ∧ Below w.heap.size w w' := by
  have hn := right_num hr
  refine (Items.specPack_yes start next length a c L (by omega) (Items.right_sizes hr) ⟨by omega, by omega⟩ (by simp [Items.packB, h1, hr]) w hA).mono ?_
  rintro e w' ⟨v, rfl, ho, g⟩
  exact ⟨v, _, rfl, ho, Items.right_pack hr, g⟩

/-- What a round of drawing holds: the result's box R, the row's box M. -/
def DrawR (C R M : Nat) (A : Option Addr) (cap : Nat) (l : List By) (w W : World) (k : Nat) : Prop :=
  ∃ (start next : Int) (a : Option Addr) (c : Nat) (L : List Items.It), Blk W R 26 #[.int .i64 0, .int .i64 0, .slice none 0 0] ∧ Blk W M 26 #[.int .i64 start, .int .i64 next, .slice a L.length c] ∧
    W.ownsRow (R + 1) 34 5 (.slice a L.length c) L.length (Items.flat L) ∧ some M ≠ (Value.slice a L.length c).ownBlock ∧ Items.rowB start next L = true ∧ next ≤ (k : Int) ∧ Only C w W ∧ Drawn W C A cap l

set_option maxRecDepth 100000 in
set_option maxHeartbeats 2000000 in
theorem drawRow_any (C : Nat) (A : Option Addr) (cap : Nat) (l : List By) (w : World) (hD : Drawn w C A cap l) :
    Calls Try.prog 57 #[.pointer (some ⟨C, 0, none⟩)] w fun e w' => ∃ (start next : Int) (v : Value) (L : List Items.It), e = .returned (.agg #[.int .i64 start, .int .i64 next, v]) ∧ w'.ownsRow w.heap.size 34 5 v L.length (Items.flat L) ∧ Items.rowB start next L = true ∧ next ≤ 14 ∧ Only C w w' ∧ Drawn w' C A cap l := by
  have HD := hidP hD
  have hC := hD.lt
  clear hD
  go_enter Try.func57, Try.ntmps57
  go_wp2_with fail
  refine (below_any C A cap l 14 (by omega) (by omega) _ (HD.out.below (alloc0 (alloc0 (Below.refl _ _) _) _))).mono ?_
  rintro e w2 ⟨x2, rfl, hx20, hx21, k2, d2⟩
  have S0 : Hid (DrawR C w.heap.size (w.heap.size + 1) A cap l w w2 0) :=
    ⟨0, 0, none, 0, [], ((Blk.new w 26 #[.int .i64 0, .int .i64 0, .slice none 0 0]).alloc _).only k2 (by omega), (by have := Blk.new (w.alloc (.cells #[.int .i64 0, .int .i64 0, .slice none 0 0] 26)) 26 #[.int .i64 0, .int .i64 0, .slice none 0 0]; simpa using this.only k2 (by simp; omega)), World.ownsRow_nil _ _ _ _, by simp [Value.ownBlock], by decide, by omega, (Only.of_below (alloc0 (alloc0 (Below.refl _ _) _) _)).trans k2, d2⟩
  clear k2 d2
  generalize hM : w.heap.size + 1 = M at *
  have hRM : w.heap.size < M := by omega
  go_wp2_with fail
  go_loopw [5] (fun i W => ∃ n : Nat, i = .int .i64 (n : Int) ∧ n ≤ 14 ∧ Hid (DrawR C w.heap.size M A cap l w W n)) (fun i _ => 14 - (intOf i).toNat)
  case atStart => exact ⟨0, rfl, by omega, S0⟩
  case round =>
    obtain ⟨n, rfl, hn, start, next, a, c, L, bR0, bM0, hown, hfar, hr, hnx, hO, hDr⟩ := hrel

    have hM0 := bM0.lt
    have Hown0 := hidP hown
    have HO0 := hidP hO
    have HD0 := hidP hDr
    have hi0 : (0 : Int) ≤ (n : Int) := by omega
    have hi8 : (n : Int) ≤ 14 := by omega
    clear hown hO hDr
    by_cases hlt : (n : Int) < x2
    · go_wp2_with fail
      refine wp_region_noPanic ?_
      have hH : (fun (w' : World) => w'.cell? ⟨M, 0, none⟩ = some (.int .i64 start) ∧ w'.cell? ⟨M, 1, none⟩ = some (.int .i64 next) ∧ w'.cell? ⟨M, 2, none⟩ = some (.slice a L.length c)) _ := bM0.drew.row3
      refine region_till 13 (fun (w' : World) => w'.cell? ⟨M, 0, none⟩ = some (.int .i64 start) ∧ w'.cell? ⟨M, 1, none⟩ = some (.int .i64 next) ∧ w'.cell? ⟨M, 2, none⟩ = some (.slice a L.length c)) (by kernel_rfl) ?_
      refine' till_taken (i := 0) (v := _) (by kernel_rfl) rfl (by kernel_rfl) (by decide) (by kernel_rfl) (by kernel_rfl) (by kernel_rfl) (fun _ _ _ h => h) (Or.inl ⟨by rfl, ?hy1⟩) (by assumption) ?rest1
      case hy1 => (intro w hSw; (try dsimp only at hSw); go_simp <;> with_reducible rfl)
      try simp only [Act.put, List.setIfInBounds_toArray, List.set_cons_zero, List.set_cons_succ, List.getElem_toArray, List.getElem_cons_succ, List.getElem_cons_zero]
      refine' till_taken (i := 1) (v := _) (by kernel_rfl) rfl (by kernel_rfl) (by decide) (by kernel_rfl) (by kernel_rfl) (by kernel_rfl) (fun _ _ _ h => h) (Or.inl ⟨by rfl, ?hy2⟩) (by assumption) ?rest2
      case hy2 => (intro w hSw; (try dsimp only at hSw); go_simp <;> with_reducible rfl)
      try simp only [Act.put, List.setIfInBounds_toArray, List.set_cons_zero, List.set_cons_succ, List.getElem_toArray, List.getElem_cons_succ, List.getElem_cons_zero]
      refine' till_taken (i := 3) (v := _) (by kernel_rfl) rfl (by kernel_rfl) (by decide) (by kernel_rfl) (by kernel_rfl) (by kernel_rfl) (fun _ _ _ h => h) (Or.inl ⟨by rfl, ?hy3⟩) (by assumption) ?rest3
      case hy3 => (intro w hSw; (try dsimp only at hSw); go_simp <;> with_reducible rfl)
      try simp only [Act.put, List.setIfInBounds_toArray, List.set_cons_zero, List.set_cons_succ, List.getElem_toArray, List.getElem_cons_succ, List.getElem_cons_zero]
      refine' till_taken (i := 5) (v := _) (by kernel_rfl) rfl (by kernel_rfl) (by decide) (by kernel_rfl) (by kernel_rfl) (by kernel_rfl) (fun _ _ _ h => h) (Or.inl ⟨by rfl, ?hy4⟩) (by assumption) ?rest4
      case hy4 => (intro w hSw; (try dsimp only at hSw); go_simp <;> with_reducible rfl)
      try simp only [Act.put, List.setIfInBounds_toArray, List.set_cons_zero, List.set_cons_succ, List.getElem_toArray, List.getElem_cons_succ, List.getElem_cons_zero]
      refine' till_taken (i := 7) (v := _) (by kernel_rfl) rfl (by kernel_rfl) (by decide) (by kernel_rfl) (by kernel_rfl) (by kernel_rfl) (fun _ _ _ h => h) (Or.inl ⟨by rfl, ?hy5⟩) (by assumption) ?rest5
      case hy5 => (intro w hSw; (try dsimp only at hSw); go_simp <;> with_reducible rfl)
      try simp only [Act.put, List.setIfInBounds_toArray, List.set_cons_zero, List.set_cons_succ, List.getElem_toArray, List.getElem_cons_succ, List.getElem_cons_zero]
      refine till_next (i := 2) (by kernel_rfl) rfl (fun K hK => ?_)
      simp only [List.getElem_toArray, List.getElem_cons_succ, List.getElem_cons_zero]
      go_simp
      go_at_call 35
      refine (text_any C A cap l _ (HD0.out.below (Below.drew (Below.refl _ _)))).mono ?_
      rintro e w1 ⟨t1, rfl, ht1a, ht1b, k1, d1⟩
      have bM1 := bM0.drew.only k1 (show M ≠ C by omega)
      have bR1 := bR0.drew.only k1 (show w.heap.size ≠ C by omega)
      have hM1 := bM1.lt
      have Hown1 := hidP (owns_only (owns_drew Hown0.out) k1 (by omega))
      have HO1 := hidP (HO0.out.drew.trans k1)
      have HD1 := hidP d1
      have hS1 : (fun (w' : World) => w'.cell? ⟨M, 0, none⟩ = some (.int .i64 start) ∧ w'.cell? ⟨M, 1, none⟩ = some (.int .i64 next) ∧ w'.cell? ⟨M, 2, none⟩ = some (.slice a L.length c)) w1 := bM1.row3
      clear k1 d1
      refine hK.out _ _ (.inr hS1) ?_
      clear hK K
      try simp only [Act.put, List.setIfInBounds_toArray, List.set_cons_zero, List.set_cons_succ, List.getElem_toArray, List.getElem_cons_succ, List.getElem_cons_zero]
      refine till_next (i := 4) (by kernel_rfl) rfl (fun K hK => ?_)
      simp only [List.getElem_toArray, List.getElem_cons_succ, List.getElem_cons_zero]
      go_simp
      go_at_call 35
      refine (text_any C A cap l _ (HD1.out)).mono ?_
      rintro e w2 ⟨t2, rfl, ht2a, ht2b, k2, d2⟩
      have bM2 := bM1.only k2 (show M ≠ C by omega)
      have bR2 := bR1.only k2 (show w.heap.size ≠ C by omega)
      have hM2 := bM2.lt
      have Hown2 := hidP (owns_only Hown1.out k2 (by omega))
      have HO2 := hidP (HO1.out.trans k2)
      have HD2 := hidP d2
      have hS2 : (fun (w' : World) => w'.cell? ⟨M, 0, none⟩ = some (.int .i64 start) ∧ w'.cell? ⟨M, 1, none⟩ = some (.int .i64 next) ∧ w'.cell? ⟨M, 2, none⟩ = some (.slice a L.length c)) w2 := bM2.row3
      clear k2 d2
      refine hK.out _ _ (.inr hS2) ?_
      clear hK K
      try simp only [Act.put, List.setIfInBounds_toArray, List.set_cons_zero, List.set_cons_succ, List.getElem_toArray, List.getElem_cons_succ, List.getElem_cons_zero]
      refine till_next (i := 6) (by kernel_rfl) rfl (fun K hK => ?_)
      simp only [List.getElem_toArray, List.getElem_cons_succ, List.getElem_cons_zero]
      go_simp
      go_at_call 58
      refine (below_any C A cap l 4 (by omega) (by omega) _ (HD2.out)).mono ?_
      rintro e w3 ⟨x3, rfl, hx30, hx31, k3, d3⟩
      have bM3 := bM2.only k3 (show M ≠ C by omega)
      have bR3 := bR2.only k3 (show w.heap.size ≠ C by omega)
      have hM3 := bM3.lt
      have Hown3 := hidP (owns_only Hown2.out k3 (by omega))
      have HO3 := hidP (HO2.out.trans k3)
      have HD3 := hidP d3
      have hS3 : (fun (w' : World) => w'.cell? ⟨M, 0, none⟩ = some (.int .i64 start) ∧ w'.cell? ⟨M, 1, none⟩ = some (.int .i64 next) ∧ w'.cell? ⟨M, 2, none⟩ = some (.slice a L.length c)) w3 := bM3.row3
      clear k3 d3
      refine hK.out _ _ (.inr hS3) ?_
      clear hK K
      try simp only [Act.put, List.setIfInBounds_toArray, List.set_cons_zero, List.set_cons_succ, List.getElem_toArray, List.getElem_cons_succ, List.getElem_cons_zero]
      refine till_next (i := 8) (by kernel_rfl) rfl (fun K hK => ?_)
      simp only [List.getElem_toArray, List.getElem_cons_succ, List.getElem_cons_zero]
      go_simp
      go_at_call 11
      refine (put_any start next x3 _ t1 t2 a c L ht1b ht2b hr _ (Items.owns_at Hown3.out)).mono ?_
      rintro e w4 ⟨next4, v4, L4, u4, u5, rfl, hown4, hr4, hn4, g4⟩
      have bM4 := bM3.below g4 hM3
      have bR4 := bR3.below g4 bR3.lt
      have HO4 := hidP (HO3.out.below g4)
      have HD4 := hidP (HD3.out.below g4)
      obtain ⟨a4, c4, rfl, _⟩ := owns_form hown4
      have far4 := owns_far hown4 hM3
      have Hown4 := hidP (owns_mono hown4 (show w.heap.size + 1 ≤ w3.heap.size by omega))
      have hS4 : (fun (w' : World) => w'.cell? ⟨M, 0, none⟩ = some (.int .i64 start) ∧ w'.cell? ⟨M, 1, none⟩ = some (.int .i64 next) ∧ w'.cell? ⟨M, 2, none⟩ = some (.slice a L.length c)) w4 := bM4.row3
      obtain ⟨s0, s1, s2⟩ := bM4.row3
      have th0 := bM4.thaw 0
      have th1 := bM4.thaw 1
      have th2 := bM4.thaw 2
      clear hown4 g4
      refine hK.out _ _ (.inr hS4) ?_
      clear hK K
      try simp only [Act.put, List.setIfInBounds_toArray, List.set_cons_zero, List.set_cons_succ, List.getElem_toArray, List.getElem_cons_succ, List.getElem_cons_zero]
      refine' till_taken (i := 9) (v := _) (by kernel_rfl) rfl (by kernel_rfl) (by decide) (by kernel_rfl) (by kernel_rfl) (by kernel_rfl) (fun _ _ _ h => h) (Or.inl ⟨by rfl, ?hy6⟩) (by assumption) ?rest6
      case hy6 => (intro w hSw; (try dsimp only at hSw); go_simp <;> with_reducible rfl)
      try simp only [Act.put, List.setIfInBounds_toArray, List.set_cons_zero, List.set_cons_succ, List.getElem_toArray, List.getElem_cons_succ, List.getElem_cons_zero]
      refine' till_taken (i := 10) (v := _) (by kernel_rfl) rfl (by kernel_rfl) (by decide) (by kernel_rfl) (by kernel_rfl) (by kernel_rfl) (fun _ _ _ h => h) (Or.inl ⟨by rfl, ?hy7⟩) (by assumption) ?rest7
      case hy7 => (intro w hSw; (try dsimp only at hSw); go_simp <;> with_reducible rfl)
      try simp only [Act.put, List.setIfInBounds_toArray, List.set_cons_zero, List.set_cons_succ, List.getElem_toArray, List.getElem_cons_succ, List.getElem_cons_zero]
      refine' till_freed (i := 11) (v := _) rfl (by kernel_rfl) (by decide) (by kernel_rfl) (by kernel_rfl) (fun _ _ _ h => h) (Or.inl ⟨by rfl, ?hy8⟩) (by assumption) ?rest8
      case hy8 => (intro w hSw; go_simp <;> with_reducible rfl)
      try simp only [Act.put, List.setIfInBounds_toArray, List.set_cons_zero, List.set_cons_succ, List.getElem_toArray, List.getElem_cons_succ, List.getElem_cons_zero]
      refine' till_freed (i := 12) (v := _) rfl (by kernel_rfl) (by decide) (by kernel_rfl) (by kernel_rfl) (fun _ _ _ h => h) (Or.inl ⟨by rfl, ?hy9⟩) (by assumption) ?rest9
      case hy9 => (intro w hSw; go_simp <;> with_reducible rfl)
      try simp only [Act.put, List.setIfInBounds_toArray, List.set_cons_zero, List.set_cons_succ, List.getElem_toArray, List.getElem_cons_succ, List.getElem_cons_zero]
      refine till_next (i := 13) (by kernel_rfl) rfl (fun K hK => ?_)
      simp only [List.getElem_toArray, List.getElem_cons_succ, List.getElem_cons_zero]
      go_simp
      refine hK.out _ _ (.inl rfl) ?_
      clear hK K
      try simp only [Act.put, List.setIfInBounds_toArray, List.set_cons_zero, List.set_cons_succ, List.getElem_toArray, List.getElem_cons_succ, List.getElem_cons_zero]
      refine till_done (by kernel_rfl) ?_ _
      refine NoPanic.normal ?_
      have z : Blk _ M 26 #[.int .i64 start, .int .i64 next4, .slice a4 L4.length c4] := ((bM4.setAt 0 (.int .i64 start)).setAt 1 (.int .i64 next4)).setAt 2 (.slice a4 L4.length c4)
      have zR := ((bR4.other (B' := M) (by omega) 0 (.int .i64 start)).other (B' := M) (by omega) 1 (.int .i64 next4)).other (B' := M) (by omega) 2 (.slice a4 L4.length c4)
      have Z : Hid (DrawR C w.heap.size M A cap l w _ (n + 1)) := ⟨start, next4, a4, c4, L4, zR, z, owns_set (owns_set (owns_set Hown4.out far4) far4) far4, far4, hr4, by omega, only_set3 HO4.out (by omega), drawn_set3 HD4.out (by omega)⟩
      clear hH hS1 hS2 hS3 hS4 hM0 hM3 s0 s1 s2 th0 th1 th2 z zR Hown0 Hown1 Hown2 Hown3 Hown4 HO0 HO1 HO2 HO3 HO4 HD0 HD1 HD2 HD3 HD4 bM0 bM1 bM2 bM3 bM4 bR0 bR1 bR2 bR3 bR4 hr hr4 hn4 hnx far4 hfar
      revert Z
      generalize (((w4.setCell ⟨M, 0, none⟩ (.int .i64 start)).setCell ⟨M, 1, none⟩ (.int .i64 next4)).setCell ⟨M, 2, none⟩ (.slice a4 L4.length c4)) = W6
      intro Z
      obtain ⟨start, next, a, c, L, bR0, bM0, hown, hfar, hr, hnx, hO, hDr⟩ := Z
      have Hown0 := hidP hown
      have HO0 := hidP hO
      have HD0 := hidP hDr
      clear hown hO hDr
      go_wp2_with fail
      refine (below_any C A cap l 12 (by omega) (by omega) _ HD0.out).mono ?_
      rintro e w5 ⟨x5, rfl, hx50, hx51, k5, d5⟩
      have bM5 := bM0.only k5 (show M ≠ C by omega)
      have bR5 := bR0.only k5 (show w.heap.size ≠ C by omega)
      have hM5 := bM5.lt
      have Hown5 := hidP (owns_only Hown0.out k5 (by omega))
      have HO5 := hidP (HO0.out.trans k5)
      have HD5 := hidP d5
      have hM5 := bM5.lt
      clear k5 d5 bM0 bR0 Hown0 HO0 HD0
      by_cases h50 : x5 = 0
      · subst h50
        go_wp2_with fail
        refine wp_region_noPanic ?_
        have hH : (fun (w' : World) => w'.cell? ⟨M, 0, none⟩ = some (.int .i64 start) ∧ w'.cell? ⟨M, 1, none⟩ = some (.int .i64 next) ∧ w'.cell? ⟨M, 2, none⟩ = some (.slice a L.length c)) w5.drew := bM5.drew.row3
        refine region_till 7 (fun (w' : World) => w'.cell? ⟨M, 0, none⟩ = some (.int .i64 start) ∧ w'.cell? ⟨M, 1, none⟩ = some (.int .i64 next) ∧ w'.cell? ⟨M, 2, none⟩ = some (.slice a L.length c)) (by kernel_rfl) ?_
        refine' till_taken (i := 0) (v := _) (by kernel_rfl) rfl (by kernel_rfl) (by decide) (by kernel_rfl) (by kernel_rfl) (by kernel_rfl) (fun _ _ _ h => h) (Or.inl ⟨by rfl, ?hy10⟩) (by assumption) ?rest10
        case hy10 => (intro w hSw; (try dsimp only at hSw); go_simp <;> with_reducible rfl)
        try simp only [Act.put, List.setIfInBounds_toArray, List.set_cons_zero, List.set_cons_succ, List.getElem_toArray, List.getElem_cons_succ, List.getElem_cons_zero]
        refine' till_taken (i := 1) (v := _) (by kernel_rfl) rfl (by kernel_rfl) (by decide) (by kernel_rfl) (by kernel_rfl) (by kernel_rfl) (fun _ _ _ h => h) (Or.inl ⟨by rfl, ?hy11⟩) (by assumption) ?rest11
        case hy11 => (intro w hSw; (try dsimp only at hSw); go_simp <;> with_reducible rfl)
        try simp only [Act.put, List.setIfInBounds_toArray, List.set_cons_zero, List.set_cons_succ, List.getElem_toArray, List.getElem_cons_succ, List.getElem_cons_zero]
        refine' till_taken (i := 4) (v := _) (by kernel_rfl) rfl (by kernel_rfl) (by decide) (by kernel_rfl) (by kernel_rfl) (by kernel_rfl) (fun _ _ _ h => h) (Or.inl ⟨by rfl, ?hy12⟩) (by assumption) ?rest12
        case hy12 => (intro w hSw; (try dsimp only at hSw); go_simp <;> with_reducible rfl)
        try simp only [Act.put, List.setIfInBounds_toArray, List.set_cons_zero, List.set_cons_succ, List.getElem_toArray, List.getElem_cons_succ, List.getElem_cons_zero]
        refine till_next (i := 2) (by kernel_rfl) rfl (fun K hK => ?_)
        simp only [List.getElem_toArray, List.getElem_cons_succ, List.getElem_cons_zero]
        go_simp
        go_at_call 58
        refine (below_any C A cap l 3 (by omega) (by omega) _ (HD5.out.below (Below.drew (Below.refl _ _)))).mono ?_
        rintro e w6 ⟨x6, rfl, hx60, hx61, k6, d6⟩
        have bM6 := bM5.drew.only k6 (show M ≠ C by omega)
        have bR6 := bR5.drew.only k6 (show w.heap.size ≠ C by omega)
        have hM6 := bM6.lt
        have Hown6 := hidP (owns_only (owns_drew Hown5.out) k6 (by omega))
        have HO6 := hidP (HO5.out.drew.trans k6)
        have HD6 := hidP d6
        have hS6 : (fun (w' : World) => w'.cell? ⟨M, 0, none⟩ = some (.int .i64 start) ∧ w'.cell? ⟨M, 1, none⟩ = some (.int .i64 next) ∧ w'.cell? ⟨M, 2, none⟩ = some (.slice a L.length c)) w6 := bM6.row3
        clear k6 d6
        refine hK.out _ _ (.inr hS6) ?_
        clear hK K
        try simp only [Act.put, List.setIfInBounds_toArray, List.set_cons_zero, List.set_cons_succ, List.getElem_toArray, List.getElem_cons_succ, List.getElem_cons_zero]
        refine' till_taken (i := 3) (v := _) (by kernel_rfl) rfl (by kernel_rfl) (by decide) (by kernel_rfl) (by kernel_rfl) (by kernel_rfl) (fun _ _ _ h => h) (Or.inl ⟨by rfl, ?hy13⟩) (by assumption) ?rest13
        case hy13 => (intro w hSw; (try dsimp only at hSw); go_simp <;> with_reducible rfl)
        try simp only [Act.put, List.setIfInBounds_toArray, List.set_cons_zero, List.set_cons_succ, List.getElem_toArray, List.getElem_cons_succ, List.getElem_cons_zero]
        refine till_next (i := 5) (by kernel_rfl) rfl (fun K hK => ?_)
        simp only [List.getElem_toArray, List.getElem_cons_succ, List.getElem_cons_zero]
        go_simp
        go_at_call 58
        refine (below_any C A cap l 4 (by omega) (by omega) _ (HD6.out)).mono ?_
        rintro e w7 ⟨x7, rfl, hx70, hx71, k7, d7⟩
        have bM7 := bM6.only k7 (show M ≠ C by omega)
        have bR7 := bR6.only k7 (show w.heap.size ≠ C by omega)
        have hM7 := bM7.lt
        have Hown7 := hidP (owns_only Hown6.out k7 (by omega))
        have HO7 := hidP (HO6.out.trans k7)
        have HD7 := hidP d7
        have hS7 : (fun (w' : World) => w'.cell? ⟨M, 0, none⟩ = some (.int .i64 start) ∧ w'.cell? ⟨M, 1, none⟩ = some (.int .i64 next) ∧ w'.cell? ⟨M, 2, none⟩ = some (.slice a L.length c)) w7 := bM7.row3
        clear k7 d7
        refine hK.out _ _ (.inr hS7) ?_
        clear hK K
        try simp only [Act.put, List.setIfInBounds_toArray, List.set_cons_zero, List.set_cons_succ, List.getElem_toArray, List.getElem_cons_succ, List.getElem_cons_zero]
        refine till_next (i := 6) (by kernel_rfl) rfl (fun K hK => ?_)
        simp only [List.getElem_toArray, List.getElem_cons_succ, List.getElem_cons_zero]
        go_simp
        go_at_call 23
        refine (trim_any start next _ x7 (by rw [wrap_small (by omega) (by omega)]; omega) (wrapI _).2 hx70 a c L hr _ (Items.owns_at Hown7.out)).mono ?_
        rintro e w8 ⟨start8, v8, L8, rfl, hown8, hr8, g8⟩
        have bM8 := bM7.below g8 hM7
        have bR8 := bR7.below g8 bR7.lt
        have HO8 := hidP (HO7.out.below g8)
        have HD8 := hidP (HD7.out.below g8)
        obtain ⟨a8, c8, rfl, _⟩ := owns_form hown8
        have far8 := owns_far hown8 hM7
        have Hown8 := hidP (owns_mono hown8 (show w.heap.size + 1 ≤ w7.heap.size by omega))
        have hS8 : (fun (w' : World) => w'.cell? ⟨M, 0, none⟩ = some (.int .i64 start) ∧ w'.cell? ⟨M, 1, none⟩ = some (.int .i64 next) ∧ w'.cell? ⟨M, 2, none⟩ = some (.slice a L.length c)) w8 := bM8.row3
        obtain ⟨s0, s1, s2⟩ := bM8.row3
        have th0 := bM8.thaw 0
        have th1 := bM8.thaw 1
        have th2 := bM8.thaw 2
        clear hown8 g8
        refine hK.out _ _ (.inr hS8) ?_
        clear hK K
        try simp only [Act.put, List.setIfInBounds_toArray, List.set_cons_zero, List.set_cons_succ, List.getElem_toArray, List.getElem_cons_succ, List.getElem_cons_zero]
        refine till_next (i := 7) (by kernel_rfl) rfl (fun K hK => ?_)
        simp only [List.getElem_toArray, List.getElem_cons_succ, List.getElem_cons_zero]
        go_simp
        refine hK.out _ _ (.inl rfl) ?_
        clear hK K
        try simp only [Act.put, List.setIfInBounds_toArray, List.set_cons_zero, List.set_cons_succ, List.getElem_toArray, List.getElem_cons_succ, List.getElem_cons_zero]
        refine till_done (by kernel_rfl) ?_ _
        refine NoPanic.normal ?_
        have z : Blk _ M 26 #[.int .i64 start8, .int .i64 next, .slice a8 L8.length c8] := ((bM8.setAt 0 (.int .i64 start8)).setAt 1 (.int .i64 next)).setAt 2 (.slice a8 L8.length c8)
        have zR := ((bR8.other (B' := M) (by omega) 0 (.int .i64 start8)).other (B' := M) (by omega) 1 (.int .i64 next)).other (B' := M) (by omega) 2 (.slice a8 L8.length c8)
        have Z : Hid (DrawR C w.heap.size M A cap l w _ (n + 1)) := ⟨start8, next, a8, c8, L8, zR, z, owns_set (owns_set (owns_set Hown8.out far8) far8) far8, far8, hr8, by omega, only_set3 HO8.out (by omega), drawn_set3 HD8.out (by omega)⟩
        clear hH hS6 hS7 hS8 s0 s1 s2 th0 th1 th2
        go_wp2
        exact ⟨⟨n + 1, by go_num, by omega, Z⟩, by simp [intOf]; omega⟩
      · by_cases h51 : x5 = 1
        · subst h51
          go_wp2_with fail
          refine wp_region_noPanic ?_
          have hH : (fun (w' : World) => w'.cell? ⟨M, 0, none⟩ = some (.int .i64 start) ∧ w'.cell? ⟨M, 1, none⟩ = some (.int .i64 next) ∧ w'.cell? ⟨M, 2, none⟩ = some (.slice a L.length c)) w5.drew := bM5.drew.row3
          refine region_till 5 (fun (w' : World) => w'.cell? ⟨M, 0, none⟩ = some (.int .i64 start) ∧ w'.cell? ⟨M, 1, none⟩ = some (.int .i64 next) ∧ w'.cell? ⟨M, 2, none⟩ = some (.slice a L.length c)) (by kernel_rfl) ?_
          refine' till_taken (i := 0) (v := _) (by kernel_rfl) rfl (by kernel_rfl) (by decide) (by kernel_rfl) (by kernel_rfl) (by kernel_rfl) (fun _ _ _ h => h) (Or.inl ⟨by rfl, ?hy14⟩) (by assumption) ?rest14
          case hy14 => (intro w hSw; (try dsimp only at hSw); go_simp <;> with_reducible rfl)
          try simp only [Act.put, List.setIfInBounds_toArray, List.set_cons_zero, List.set_cons_succ, List.getElem_toArray, List.getElem_cons_succ, List.getElem_cons_zero]
          refine' till_taken (i := 1) (v := _) (by kernel_rfl) rfl (by kernel_rfl) (by decide) (by kernel_rfl) (by kernel_rfl) (by kernel_rfl) (fun _ _ _ h => h) (Or.inl ⟨by rfl, ?hy15⟩) (by assumption) ?rest15
          case hy15 => (intro w hSw; (try dsimp only at hSw); go_simp <;> with_reducible rfl)
          try simp only [Act.put, List.setIfInBounds_toArray, List.set_cons_zero, List.set_cons_succ, List.getElem_toArray, List.getElem_cons_succ, List.getElem_cons_zero]
          refine till_next (i := 2) (by kernel_rfl) rfl (fun K hK => ?_)
          simp only [List.getElem_toArray, List.getElem_cons_succ, List.getElem_cons_zero]
          go_simp
          go_at_call 58
          refine (below_any C A cap l 3 (by omega) (by omega) _ (HD5.out.below (Below.drew (Below.refl _ _)))).mono ?_
          rintro e w6 ⟨x6, rfl, hx60, hx61, k6, d6⟩
          have bM6 := bM5.drew.only k6 (show M ≠ C by omega)
          have bR6 := bR5.drew.only k6 (show w.heap.size ≠ C by omega)
          have hM6 := bM6.lt
          have Hown6 := hidP (owns_only (owns_drew Hown5.out) k6 (by omega))
          have HO6 := hidP (HO5.out.drew.trans k6)
          have HD6 := hidP d6
          have hS6 : (fun (w' : World) => w'.cell? ⟨M, 0, none⟩ = some (.int .i64 start) ∧ w'.cell? ⟨M, 1, none⟩ = some (.int .i64 next) ∧ w'.cell? ⟨M, 2, none⟩ = some (.slice a L.length c)) w6 := bM6.row3
          clear k6 d6
          refine hK.out _ _ (.inr hS6) ?_
          clear hK K
          try simp only [Act.put, List.setIfInBounds_toArray, List.set_cons_zero, List.set_cons_succ, List.getElem_toArray, List.getElem_cons_succ, List.getElem_cons_zero]
          refine' till_taken (i := 3) (v := _) (by kernel_rfl) rfl (by kernel_rfl) (by decide) (by kernel_rfl) (by kernel_rfl) (by kernel_rfl) (fun _ _ _ h => h) (Or.inl ⟨by rfl, ?hy16⟩) (by assumption) ?rest16
          case hy16 => (intro w hSw; (try dsimp only at hSw); go_simp <;> with_reducible rfl)
          try simp only [Act.put, List.setIfInBounds_toArray, List.set_cons_zero, List.set_cons_succ, List.getElem_toArray, List.getElem_cons_succ, List.getElem_cons_zero]
          refine till_next (i := 4) (by kernel_rfl) rfl (fun K hK => ?_)
          simp only [List.getElem_toArray, List.getElem_cons_succ, List.getElem_cons_zero]
          go_simp
          go_at_call 26
          refine (pack_any start next _ (by rw [wrap_small (by omega) (by omega)]; omega) a c L hr _ (Items.owns_at Hown6.out)).mono ?_
          rintro e w8 ⟨v8, L8, rfl, hown8, hr8, g8⟩
          have bM8 := bM6.below g8 hM6
          have bR8 := bR6.below g8 bR6.lt
          have HO8 := hidP (HO6.out.below g8)
          have HD8 := hidP (HD6.out.below g8)
          obtain ⟨a8, c8, rfl, _⟩ := owns_form hown8
          have far8 := owns_far hown8 hM6
          have Hown8 := hidP (owns_mono hown8 (show w.heap.size + 1 ≤ w6.heap.size by omega))
          have hS8 : (fun (w' : World) => w'.cell? ⟨M, 0, none⟩ = some (.int .i64 start) ∧ w'.cell? ⟨M, 1, none⟩ = some (.int .i64 next) ∧ w'.cell? ⟨M, 2, none⟩ = some (.slice a L.length c)) w8 := bM8.row3
          obtain ⟨s0, s1, s2⟩ := bM8.row3
          have th0 := bM8.thaw 0
          have th1 := bM8.thaw 1
          have th2 := bM8.thaw 2
          clear hown8 g8
          refine hK.out _ _ (.inr hS8) ?_
          clear hK K
          try simp only [Act.put, List.setIfInBounds_toArray, List.set_cons_zero, List.set_cons_succ, List.getElem_toArray, List.getElem_cons_succ, List.getElem_cons_zero]
          refine till_next (i := 5) (by kernel_rfl) rfl (fun K hK => ?_)
          simp only [List.getElem_toArray, List.getElem_cons_succ, List.getElem_cons_zero]
          go_simp
          refine hK.out _ _ (.inl rfl) ?_
          clear hK K
          try simp only [Act.put, List.setIfInBounds_toArray, List.set_cons_zero, List.set_cons_succ, List.getElem_toArray, List.getElem_cons_succ, List.getElem_cons_zero]
          refine till_done (by kernel_rfl) ?_ _
          refine NoPanic.normal ?_
          have z : Blk _ M 26 #[.int .i64 start, .int .i64 next, .slice a8 L8.length c8] := ((bM8.setAt 0 (.int .i64 start)).setAt 1 (.int .i64 next)).setAt 2 (.slice a8 L8.length c8)
          have zR := ((bR8.other (B' := M) (by omega) 0 (.int .i64 start)).other (B' := M) (by omega) 1 (.int .i64 next)).other (B' := M) (by omega) 2 (.slice a8 L8.length c8)
          have Z : Hid (DrawR C w.heap.size M A cap l w _ (n + 1)) := ⟨start, next, a8, c8, L8, zR, z, owns_set (owns_set (owns_set Hown8.out far8) far8) far8, far8, hr8, by omega, only_set3 HO8.out (by omega), drawn_set3 HD8.out (by omega)⟩
          clear hH hS6 hS8 s0 s1 s2 th0 th1 th2
          go_wp2
          exact ⟨⟨n + 1, by go_num, by omega, Z⟩, by simp [intOf]; omega⟩
        · have Z : Hid (DrawR C w.heap.size M A cap l w w5 (n + 1)) := ⟨start, next, a, c, L, bR5, bM5, Hown5.out, hfar, hr, by omega, HO5.out, HD5.out⟩
          go_wp2
          exact ⟨⟨n + 1, by go_num, by omega, Z⟩, by simp [intOf]; omega⟩
    · obtain ⟨s0, s1, s2⟩ := bM0.row3
      obtain ⟨r0, r1, r2⟩ := bR0.row3
      have f0 := bR0.thaw 0
      have f1 := bR0.thaw 1
      have f2 := bR0.thaw 2
      have far := hidP (owns_far Hown0.out (show w.heap.size < w.heap.size + 1 by omega))
      have hne : w.heap.size ≠ M := by omega
      have hne' : M ≠ w.heap.size := by omega
      go_wp2
      have z : Blk _ w.heap.size 26 #[.int .i64 start, .int .i64 next, .slice a L.length c] := ((bR0.setAt 0 (.int .i64 start)).setAt 1 (.int .i64 next)).setAt 2 (.slice a L.length c)
      obtain ⟨e0, e1, e2⟩ := z.row3
      exact bodyPost_ret (v := .agg #[.int .i64 start, .int .i64 next, .slice a L.length c]) (by simp [results, Try.results57, go_sem, e0, e1, e2]) rfl
        ⟨start, next, _, rfl, L, owns_mono (owns_set (owns_set (owns_set Hown0.out far.out) far.out) far.out) (by omega), hr, by omega, only_set3 HO0.out (by omega), drawn_set3 HD0.out (by omega)⟩
end Go.Proofs.Ytnmbbkagjpmhdaa.Gen
