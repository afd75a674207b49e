/-
  The parts of MakerPut at this seat: copies, the greater of two numbers, the last marks of a list.
-/
import Derived.Test.YtpbbpjckkccjaaaAsks
namespace Go.Proofs.Ytpbbpjckkccjaaa.Gen
open Go.ChangeShapes Go.WideShapes Go.ChangeAt Go.RowKit Go.Joins Go.Deep Base
set_option linter.unusedVariables false
set_option linter.unusedSimpArgs false

theorem app_mk (B : Nat) (v : Value) (l m : List Mk) (A : Option Addr) (cap : Nat) (w : World) (hB : B ≤ w.heap.size) (hv : w.ownsRow B 61 2 v l.length (flat l)) (hA : At w A m) (hlen : l.length + m.length ≤ 3000000) :
    ∃ v' w', (Builtin.append_ #[24, 24] 24 #[v, .slice A m.length cap]).run Try.prog w = .ok v' w' ∧ w'.ownsRow B 61 2 v' (l.length + m.length) (flat (l ++ m)) ∧ w.grownBy w' v.ownBlock ∧ (v'.ownBlock = v.ownBlock ∨ v'.ownBlock = some w.heap.size) :=
  append_els (α := Mk) (P := Try.prog) Try.underlying24 infoMk rfl (by decide) (by omega) B v l m A cap w hB hv hA hlen

set_option maxRecDepth 100000 in
set_option maxHeartbeats 2000000 in
theorem implCopied_any (row who epoch last : Int) (A : Option Addr) (cap : Nat) (l : List Mk) (hl : l.length ≤ 1048576) (w : World) (hA : At w A l) :
    Calls Try.prog 33 #[.agg #[.int .i64 row, .int .i64 who, .int .i64 epoch, .int .i64 last, .slice A l.length cap]] w fun e w' => ∃ v, e = .returned (.agg #[.int .i64 row, .int .i64 who, .int .i64 epoch, .int .i64 last, v]) ∧ w'.ownsRow w.heap.size 61 2 v l.length (flat l) ∧ Below w.heap.size w w' := by
  have B0 : Below w.heap.size w ((w.alloc (.cells #[.int .i64 row, .int .i64 who, .int .i64 epoch, .int .i64 last, .slice A l.length cap] 26)).alloc (.cells #[.int .i64 0, .int .i64 0, .int .i64 0, .int .i64 0, .slice none 0 0] 26)) := alloc0 (alloc0 (Below.refl _ _) _) _
  obtain ⟨v, w1, hr, hown, hgrow, hat⟩ := app_mk w.heap.size (.slice none 0 0) [] l A cap ((w.alloc (.cells #[.int .i64 row, .int .i64 who, .int .i64 epoch, .int .i64 last, .slice A l.length cap] 26)).alloc (.cells #[.int .i64 0, .int .i64 0, .int .i64 0, .int .i64 0, .slice none 0 0] 26)) B0.size (World.ownsRow_nil _ _ _ _) (hA.below B0) (by simp; omega)
  simp only [List.length_nil, Nat.zero_add, List.nil_append] at hown
  have p0 := ((Blk.new w 26 #[.int .i64 row, .int .i64 who, .int .i64 epoch, .int .i64 last, .slice A l.length cap]).alloc (.cells #[.int .i64 0, .int .i64 0, .int .i64 0, .int .i64 0, .slice none 0 0] 26)).kept hgrow (by simp [Value.ownBlock])
  have p1 := (Blk.new (w.alloc (.cells #[.int .i64 row, .int .i64 who, .int .i64 epoch, .int .i64 last, .slice A l.length cap] 26)) 26 #[.int .i64 0, .int .i64 0, .int .i64 0, .int .i64 0, .slice none 0 0]).kept hgrow (by simp [Value.ownBlock])
  rw [World.size_alloc] at p1
  have B1 : Below w.heap.size w w1 := B0.grown hgrow B0.size (by simp [Value.ownBlock])
  obtain ⟨c0, c1, c2, c3, c4⟩ := p0.row5
  obtain ⟨d0, d1, d2, d3, d4⟩ := p1.row5
  have f4 := p0.thaw 4
  have g0 := p1.thaw 0
  have g1 := p1.thaw 1
  have g2 := p1.thaw 2
  have g3 := p1.thaw 3
  have g4 := p1.thaw 4
  obtain ⟨a, c, rfl, hc⟩ := owns_form hown
  have hn0 : some w.heap.size ≠ (Value.slice a l.length c).ownBlock := by
    rcases hat with e | e
    · rw [e]; simp [Value.ownBlock]
    · rw [e]; intro h; have := Option.some.inj h; simp only [World.size_alloc] at this; omega
  have hn1 : some (w.heap.size + 1) ≠ (Value.slice a l.length c).ownBlock := by
    rcases hat with e | e
    · rw [e]; simp [Value.ownBlock]
    · rw [e]; intro h; have := Option.some.inj h; simp only [World.size_alloc] at this; omega
  have Hn0 := hidP hn0
  have Hn1 := hidP hn1
  have Hown := hidP hown
  clear hgrow hA hat hown hn0 hn1
  go_enter Try.func33, Try.ntmps33
  go_wp2_with (at_builtin; refine wpList_append_is rfl _ _ _ rfl _ _ _ rfl rfl hr ?_)
  have p2 : Blk _ (w.heap.size + 1) 26 #[.int .i64 row, .int .i64 who, .int .i64 epoch, .int .i64 last, .slice a l.length c] := (((((p1.other (B' := w.heap.size) (by omega) 4 (.slice a l.length c)).setAt 0 (.int .i64 row)).setAt 1 (.int .i64 who)).setAt 2 (.int .i64 epoch)).setAt 3 (.int .i64 last)).setAt 4 (.slice a l.length c)
  obtain ⟨e0, e1, e2, e3, e4⟩ := p2.row5
  exact bodyPost_ret (v := .agg #[.int .i64 row, .int .i64 who, .int .i64 epoch, .int .i64 last, .slice a l.length c]) (by simp [results, Try.results33, go_sem, e0, e1, e2, e3, e4]) rfl
    ⟨_, rfl, owns_set (owns_set (owns_set (owns_set (owns_set (owns_set Hown.out Hn0.out) Hn1.out) Hn1.out) Hn1.out) Hn1.out) Hn1.out, bl_set (bl_set (bl_set (bl_set (bl_set (bl_set B1 (Nat.le_refl _) _) (by omega) _) (by omega) _) (by omega) _) (by omega) _) (by omega) _⟩

set_option maxRecDepth 100000 in
set_option maxHeartbeats 2000000 in
theorem specCopied_any (row who epoch last : Int) (A : Option Addr) (cap : Nat) (l : List Mk) (hl : l.length ≤ 1048576) (w : World) (hA : At w A l) :
    Calls Try.prog 41 #[.agg #[.int .i64 row, .int .i64 who, .int .i64 epoch, .int .i64 last, .slice A l.length cap]] w fun e w' => ∃ v, e = .returned (.agg #[.int .i64 row, .int .i64 who, .int .i64 epoch, .int .i64 last, v]) ∧ w'.ownsRow w.heap.size 61 2 v l.length (flat l) ∧ Below w.heap.size w w' := by
  have B0 : Below w.heap.size w (((w.alloc (.cells #[.int .i64 row, .int .i64 who, .int .i64 epoch, .int .i64 last, .slice A l.length cap] 26)).alloc (.cells #[.int .i64 0, .int .i64 0, .int .i64 0, .int .i64 0, .slice none 0 0] 26)).alloc (.cells #[] 61)) := alloc0 (alloc0 (alloc0 (Below.refl _ _) _) _) _
  obtain ⟨v, w1, hr, hown, hgrow, hat⟩ := app_mk w.heap.size (.slice (some ⟨w.heap.size + 1 + 1, 0, none⟩) 0 0) [] l A cap (((w.alloc (.cells #[.int .i64 row, .int .i64 who, .int .i64 epoch, .int .i64 last, .slice A l.length cap] 26)).alloc (.cells #[.int .i64 0, .int .i64 0, .int .i64 0, .int .i64 0, .slice none 0 0] 26)).alloc (.cells #[] 61)) B0.size
    ⟨rfl, .inr ⟨w.heap.size + 1 + 1, 0, #[], rfl, by omega, by have := heap_new ((w.alloc (.cells #[.int .i64 row, .int .i64 who, .int .i64 epoch, .int .i64 last, .slice A l.length cap] 26)).alloc (.cells #[.int .i64 0, .int .i64 0, .int .i64 0, .int .i64 0, .slice none 0 0] 26)) (.cells #[] 61); simpa only [World.size_alloc] using this, Nat.le_refl _, by simp [maxLen], rfl, rfl⟩⟩ (hA.below B0) (by simp; omega)
  simp only [List.length_nil, Nat.zero_add, List.nil_append] at hown
  have p0 := (((Blk.new w 26 #[.int .i64 row, .int .i64 who, .int .i64 epoch, .int .i64 last, .slice A l.length cap]).alloc (.cells #[.int .i64 0, .int .i64 0, .int .i64 0, .int .i64 0, .slice none 0 0] 26)).alloc (.cells #[] 61)).kept hgrow (by intro h; have : w.heap.size = w.heap.size + 1 + 1 := Option.some.inj h; omega)
  have p1 := ((Blk.new (w.alloc (.cells #[.int .i64 row, .int .i64 who, .int .i64 epoch, .int .i64 last, .slice A l.length cap] 26)) 26 #[.int .i64 0, .int .i64 0, .int .i64 0, .int .i64 0, .slice none 0 0]).alloc (.cells #[] 61)).kept hgrow (by rw [World.size_alloc]; intro h; have : w.heap.size + 1 = w.heap.size + 1 + 1 := Option.some.inj h; omega)
  rw [World.size_alloc] at p1
  have B1 : Below w.heap.size w w1 := B0.grown hgrow B0.size (fun k e => by have : w.heap.size + 1 + 1 = k := Option.some.inj e; omega)
  obtain ⟨c0, c1, c2, c3, c4⟩ := p0.row5
  obtain ⟨d0, d1, d2, d3, d4⟩ := p1.row5
  have f4 := p0.thaw 4
  have g0 := p1.thaw 0
  have g1 := p1.thaw 1
  have g2 := p1.thaw 2
  have g3 := p1.thaw 3
  have g4 := p1.thaw 4
  obtain ⟨a, c, rfl, hc⟩ := owns_form hown
  have hn : ∀ k, k < w.heap.size + 1 + 1 → some k ≠ (Value.slice a l.length c).ownBlock := fun k hk => by
    rcases hat with e | e
    · rw [e]; intro h; have : k = w.heap.size + 1 + 1 := Option.some.inj h; omega
    · rw [e]; intro h; have := Option.some.inj h; simp only [World.size_alloc] at this; omega
  have Hn0 := hidP (hn w.heap.size (by omega))
  have Hn1 := hidP (hn (w.heap.size + 1) (by omega))
  have Hown := hidP hown
  clear hgrow hA hat hown hn
  go_enter Try.func41, Try.ntmps41
  go_wp2_with (at_builtin; refine wpList_append_is rfl _ _ _ rfl _ _ _ rfl rfl hr ?_)
  have p2 : Blk _ (w.heap.size + 1) 26 #[.int .i64 row, .int .i64 who, .int .i64 epoch, .int .i64 last, .slice a l.length c] := (((((p1.other (B' := w.heap.size) (by omega) 4 (.slice a l.length c)).setAt 0 (.int .i64 row)).setAt 1 (.int .i64 who)).setAt 2 (.int .i64 epoch)).setAt 3 (.int .i64 last)).setAt 4 (.slice a l.length c)
  obtain ⟨e0, e1, e2, e3, e4⟩ := p2.row5
  exact bodyPost_ret (v := .agg #[.int .i64 row, .int .i64 who, .int .i64 epoch, .int .i64 last, .slice a l.length c]) (by simp [results, Try.results41, go_sem, e0, e1, e2, e3, e4]) rfl
    ⟨_, rfl, owns_set (owns_set (owns_set (owns_set (owns_set (owns_set Hown.out Hn0.out) Hn1.out) Hn1.out) Hn1.out) Hn1.out) Hn1.out, bl_set (bl_set (bl_set (bl_set (bl_set (bl_set B1 (Nat.le_refl _) _) (by omega) _) (by omega) _) (by omega) _) (by omega) _) (by omega) _⟩

def mx (a b : Int) : Int := if a > b then a else b
theorem max_any (a b : Int) (w : World) : Calls Try.prog 43 #[.int .i64 a, .int .i64 b] w fun e w' => e = .returned (.int .i64 (mx a b)) ∧ w' = w := by
  by_cases h : a > b
  · rw [show mx a b = a from if_pos h]
    go_enter Try.func43, Try.ntmps43
    go_wp2
    go_ret
    exact ⟨rfl, rfl⟩
  · rw [show mx a b = b from if_neg h]
    go_enter Try.func43, Try.ntmps43
    go_wp2
    go_ret
    exact ⟨rfl, rfl⟩

/-- The last records of an own list. -/
theorem fresh_drop {α : Type} [Cel α] {B : Nat} {W : World} {g n c j : Nat} {t : TypeId} {L : List α} (hn : n = L.length) (h : W.ownsRow B t (Cel.k α) (.slice (some ⟨g, 0, none⟩) n c) n (flat L)) (hj : j ≤ n) :
    Fresh B W (.slice (if c = j then some ⟨g, 0, none⟩ else some ⟨g, j * Cel.k α, none⟩) (n - j) (c - j)) (L.drop j) := by
  subst hn
  obtain ⟨A, c', e, hc, hx⟩ := fresh_owns h
  cases e
  refine ⟨_, _, by rw [List.length_drop], by rw [List.length_drop]; omega, ?_⟩
  by_cases hcj : c = j
  · left; exact List.drop_eq_nil_of_le (by omega)
  · rcases hx with hx | ⟨b, o, e, hB, hb, hi, ht⟩
    · left; rw [hx]; simp
    · cases e
      right
      refine ⟨g, j * Cel.k α, by rw [if_neg hcj], hB, hb, by have := hi.drop j; rwa [Nat.zero_add] at this, ?_⟩
      intro i hi'
      rw [List.length_drop, Nat.sub_mul] at hi'
      have hjl : j * Cel.k α ≤ L.length * Cel.k α := Nat.mul_le_mul_right _ hj
      have := ht (j * Cel.k α + i) (by omega)
      rwa [Nat.zero_add] at this
end Go.Proofs.Ytpbbpjckkccjaaa.Gen
