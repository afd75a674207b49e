/-
  The program's rowOf.firstFrom and RowGet at this seat.
-/
import Derived.Test.YtnmbbkagjpmhdaaBlks
namespace Go.Proofs.Ytnmbbkagjpmhdaa.Items
open Go.ChangeShapes Go.WideShapes Go.ChangeAt Go.RowKit Go.Shelf Base
set_option linter.unusedVariables false
attribute [local go_sem] Oper.semAt_some

def fnd (off : Int) (l : List It) : Option It := l.find? fun x => decide (off ≤ x.off)
theorem fnd_pre {off : Int} {p l : List It} {x : It} (h : p <+: l) (hx : fnd off p = some x) : fnd off l = some x := by
  obtain ⟨r, rfl⟩ := h
  unfold fnd at hx ⊢
  rw [List.find?_append, hx]; rfl
theorem fnd_hit {off : Int} {p : List It} {x : It} (h : fnd off p = none) (hx : off ≤ x.off) : fnd off (p ++ [x]) = some x := by
  unfold fnd at h ⊢
  rw [List.find?_append, h]; simp [hx]
theorem fnd_miss {off : Int} {p : List It} {x : It} (h : fnd off p = none) (hx : ¬ off ≤ x.off) : fnd off (p ++ [x]) = none := by
  unfold fnd at h ⊢
  rw [List.find?_append, h]; simp; omega

set_option maxRecDepth 100000 in
set_option maxHeartbeats 4000000 in
theorem firstFrom_any (start next off : Int) (A : Option Addr) (cap : Nat) (l : List It) (hl : l.length ≤ 1048576) (w : World) (hA : l = [] ∨ ∃ b o, A = some ⟨b, o, none⟩ ∧ b < w.heap.size ∧ In w b o l) :
    Calls Try.prog 41 #[.agg #[.int .i64 start, .int .i64 next, .slice A l.length cap], .int .i64 off] w fun e w' => e = .returned (.tuple #[((fnd off l).getD It.zero).v, .bool (fnd off l).isSome]) ∧ Below w.heap.size w w' := by
  refine (callsIn_wide (n := 9)).1 ?_
  refine callsIn_of_wp_marks Try.func41 rfl trivial ?_ rfl
  simp only [Try.ntmps41]
  simp only [List.size_toArray, List.length_cons, List.length_nil, Nat.reduceAdd, Nat.reduceSub, Array.replicate_succ, Array.replicate_zero, List.push_toArray, List.append_toArray, List.nil_append, List.cons_append]
  gi_wp2_with (refine ⟨trivial, ?_⟩; gi_at_call 59; refine (told_in Fence.wide _ trivial rfl _ _ _ _ _ _).mono ?_; rintro e w' ⟨rfl, rfl⟩)
  have b1 := (((Blk.new (w.alloc (.cells #[.int .i64 start, .int .i64 next, .slice A l.length cap] 63)) 3 #[.int .i64 off]).alloc (.cells #[.int .i64 0, .string ⟨#[]⟩, .string ⟨#[]⟩, .int .i64 0, .int .i64 0] 34)).alloc (.cells #[.bool false] 4)).alloc (.cells #[.int .i64 start, .int .i64 next, .slice A l.length cap] 63)
  have b2 := ((Blk.new ((w.alloc (.cells #[.int .i64 start, .int .i64 next, .slice A l.length cap] 63)).alloc (.cells #[.int .i64 off] 3)) 34 #[.int .i64 0, .string ⟨#[]⟩, .string ⟨#[]⟩, .int .i64 0, .int .i64 0]).alloc (.cells #[.bool false] 4)).alloc (.cells #[.int .i64 start, .int .i64 next, .slice A l.length cap] 63)
  have b3 := (Blk.new (((w.alloc (.cells #[.int .i64 start, .int .i64 next, .slice A l.length cap] 63)).alloc (.cells #[.int .i64 off] 3)).alloc (.cells #[.int .i64 0, .string ⟨#[]⟩, .string ⟨#[]⟩, .int .i64 0, .int .i64 0] 34)) 4 #[.bool false]).alloc (.cells #[.int .i64 start, .int .i64 next, .slice A l.length cap] 63)
  have b4 := Blk.new ((((w.alloc (.cells #[.int .i64 start, .int .i64 next, .slice A l.length cap] 63)).alloc (.cells #[.int .i64 off] 3)).alloc (.cells #[.int .i64 0, .string ⟨#[]⟩, .string ⟨#[]⟩, .int .i64 0, .int .i64 0] 34)).alloc (.cells #[.bool false] 4)) 63 #[.int .i64 start, .int .i64 next, .slice A l.length cap]
  have hB0 : Below w.heap.size w (((((w.alloc (.cells #[.int .i64 start, .int .i64 next, .slice A l.length cap] 63)).alloc (.cells #[.int .i64 off] 3)).alloc (.cells #[.int .i64 0, .string ⟨#[]⟩, .string ⟨#[]⟩, .int .i64 0, .int .i64 0] 34)).alloc (.cells #[.bool false] 4)).alloc (.cells #[.int .i64 start, .int .i64 next, .slice A l.length cap] 63)) := by repeat (first | exact Below.refl _ _ | refine alloc0 ?_ _)
  have hsz : (((((w.alloc (.cells #[.int .i64 start, .int .i64 next, .slice A l.length cap] 63)).alloc (.cells #[.int .i64 off] 3)).alloc (.cells #[.int .i64 0, .string ⟨#[]⟩, .string ⟨#[]⟩, .int .i64 0, .int .i64 0] 34)).alloc (.cells #[.bool false] 4)).alloc (.cells #[.int .i64 start, .int .i64 next, .slice A l.length cap] 63)).heap.size = w.heap.size + 5 := by simp
  simp only [World.size_alloc] at b1 b2 b3 b4
  generalize (((((w.alloc (.cells #[.int .i64 start, .int .i64 next, .slice A l.length cap] 63)).alloc (.cells #[.int .i64 off] 3)).alloc (.cells #[.int .i64 0, .string ⟨#[]⟩, .string ⟨#[]⟩, .int .i64 0, .int .i64 0] 34)).alloc (.cells #[.bool false] 4)).alloc (.cells #[.int .i64 start, .int .i64 next, .slice A l.length cap] 63)) = W0 at b1 b2 b3 b4 hB0 hsz ⊢
  have hA' : l = [] ∨ ∃ b o, A = some ⟨b, o, none⟩ ∧ b < w.heap.size ∧ In W0 b o l := hA.imp id fun ⟨b, o, e, hb, hi⟩ => ⟨b, o, e, hb, hi.below hb hB0⟩
  refine wpIn_rangeFunc_ownH rfl (by omega) (gf := 72) (lb := #[.pointer (some ⟨w.heap.size + 1 + 1 + 1 + 1, 0, none⟩)]) rfl trivial (enters_of Try.func72 (by kernel_rfl) rfl)
    (told_stops Fence.wide _ trivial rfl (by omega) (w.heap.size + 1 + 1 + 1 + 1) w.heap.size cap A l (by omega) W0 (by omega) (by omega) (b4.cell rfl) hA') belowK_t (belowK_b (by omega)) (Below.refl _ _) (fun _ => rfl)
    (fun pre W => fnd off (vals pre) = none ∧ Blk W (w.heap.size + 1) 3 #[.int .i64 off] ∧ Blk W (w.heap.size + 1 + 1) 34 #[.int .i64 0, .string ⟨#[]⟩, .string ⟨#[]⟩, .int .i64 0, .int .i64 0] ∧ Blk W (w.heap.size + 1 + 1 + 1) 4 #[.bool false] ∧ Below w.heap.size w W)
    (fun c pre W => c = .ret ∧ ∃ y, fnd off (vals pre) = some y ∧ Blk W (w.heap.size + 1 + 1) 34 y.cells ∧ Blk W (w.heap.size + 1 + 1 + 1) 4 #[.bool true] ∧ Below w.heap.size w W)
    (fun s X Y row hs hg hr => by
      obtain ⟨em, b1, b2, b3, hB⟩ := hs
      exact ⟨em, blk_abides b1 hg hr, blk_abides b2 hg hr, blk_abides b3 hg hr, ownFrom_below (β := Unit) (Nat.le_refl _) (by omega) () X Y row hB hg hr⟩)
    (fun c s X Y row hs hg hr => by
      obtain ⟨hc, y, em, b2, b3, hB⟩ := hs
      exact ⟨hc, y, em, blk_abides b2 hg hr, blk_abides b3 hg hr, ownFrom_below (β := Unit) (Nat.le_refl _) (by omega) () X Y row hB hg hr⟩)
    ⟨rfl, b1, b2, b3, hB0⟩
    (fun x a' W => ∃ Bx, w.heap.size + 1 + 1 + 1 < Bx ∧ Blk W Bx 34 #[.int .i64 x.1.off, .string x.1.key, .string x.1.text, .int .i64 x.1.who, .int .i64 x.1.time] ∧ a' = { tmps := #[.agg #[.int .i64 start, .int .i64 next, .slice A l.length cap], .int .i64 off, .pointer (some ⟨w.heap.size, 0, none⟩), .pointer (some ⟨w.heap.size + 1, 0, none⟩), .pointer (some ⟨w.heap.size + 1 + 1, 0, none⟩), .pointer (some ⟨w.heap.size + 1 + 1 + 1, 0, none⟩), .pointer (some ⟨Bx, 0, none⟩), undef, .agg #[.int .i64 start, .int .i64 next, .slice A l.length cap], .func (.func 72) #[] #[.pointer (some ⟨w.heap.size + 1 + 1 + 1 + 1, 0, none⟩)], x.1.v, undef, undef, undef, undef, undef, undef, undef], defers := [] })
    (fun x a' _ X Y row hs hg hr => by obtain ⟨Bx, h1, h2, h3⟩ := hs; exact ⟨Bx, h1, blk_abides h2 hg hr, h3⟩)
    ?assign ?body ?done ?stop
  case assign =>
    rintro l' pre x W K ⟨em, b1, b2, b3, hB⟩ hK
    dsimp only [It.v] at hK ⊢
    gi_wp2
    exact hK _ _ ((KeepsOthers.alloc _ _).from _) ((Below.refl _ W).alloc hB.size _) ⟨em, b1.alloc _, b2.alloc _, b3.alloc _, hB.alloc hB.size _⟩ ⟨W.heap.size, b3.lt, Blk.new W _ _, rfl⟩
  case body =>
    rintro l' pre x a' W hl' hr' ⟨em, b1, b2, b3, hB⟩ ⟨Bx, hBx, bX, rfl⟩ hlt
    obtain ⟨x0, x1, x2, x3, x4⟩ := bX.item
    obtain ⟨z0, z1, z2, z3, z4⟩ := b2.item
    have y0 := b2.thaw 0
    have y1 := b2.thaw 1
    have y2 := b2.thaw 2
    have y3 := b2.thaw 3
    have y4 := b2.thaw 4
    obtain ⟨cF, fF⟩ := b1.one
    obtain ⟨cR, fR⟩ := b3.one
    have hm := number_of x.1
    have hsW := hB.size
    have q1 := b1.lt
    have q2 := b2.lt
    have q3 := b3.lt
    have qx := bX.lt
    dsimp only [It.v]
    have hmx : Try.prog.follows .mixedOrders = true := by kernel_rfl
    have hd : 1 ≤ 9 - 1 - 1 := by omega
    by_cases h1 : off ≤ x.1.off
    · gi_wp2
      gi_region_with_o (refine ⟨trivial, ?_⟩; gi_at_call 92; refine (CallsIn.inRound l' (callsIn_wide.2 (number_any x.1 _))).mono ?_; rintro e w' ⟨rfl, rfl⟩)
      all_goals gi_wp2
      all_goals
        exact ⟨KeepsOthers.from (ko_drew (ko_alloc (ko_set (ko_putIt (KeepsOthers.refl W) _ x.1) _ _) _)) _, rfl, x.1, by rw [vals_snoc]; exact fnd_hit em h1, (((b2.putIt x.1).other (by omega) _ _).alloc _).drew,
          (((b3.putOther (by omega) x.1).set _).alloc _).drew, Below.drew (bl_alloc (Nat.le_refl _) (bl_set (bl_putIt hB (by omega) x.1) (by omega) _) _)⟩
    · gi_wp2
      gi_region_with_o (refine ⟨trivial, ?_⟩; gi_at_call 92; refine (CallsIn.inRound l' (callsIn_wide.2 (number_any x.1 _))).mono ?_; rintro e w' ⟨rfl, rfl⟩)
      all_goals gi_wp2
      all_goals
        exact ⟨KeepsOthers.from (ko_drew (ko_alloc (KeepsOthers.refl W) _)) _, Below.drew (bl_alloc hsW (Below.refl _ W) _), by rw [vals_snoc]; exact fnd_miss em (by omega), (b1.alloc _).drew, (b2.alloc _).drew, (b3.alloc _).drew, Below.drew (bl_alloc (Nat.le_refl _) hB _)⟩
  case done =>
    rintro D ys W hD hys ⟨em, b1, b2, b3, hB⟩ hK
    have y0 := b2.thaw 0
    have y1 := b2.thaw 1
    have y2 := b2.thaw 2
    have y3 := b2.thaw 3
    have y4 := b2.thaw 4
    obtain ⟨z0, z1, z2, z3, z4⟩ := b2.item
    obtain ⟨cR, fR⟩ := b3.one
    have q2 := b2.lt
    have q3 := b3.lt
    have hsW := hB.size
    gi_wp2
    have hK' := (ko_alloc (ko_set (ko_putIt (KeepsOthers.refl W) (w.heap.size + 1 + 1) It.zero) ⟨w.heap.size + 1 + 1 + 1, 0, none⟩ (.bool false)) (.cells #[.int .i64 0, .string ⟨#[]⟩, .string ⟨#[]⟩, .int .i64 0, .int .i64 0] 34)).same D _ hK rfl
    have e2 := ((b2.putIt It.zero).other (B' := w.heap.size + 1 + 1 + 1) (by omega) 0 (.bool false)).alloc (.cells #[.int .i64 0, .string ⟨#[]⟩, .string ⟨#[]⟩, .int .i64 0, .int .i64 0] 34)
    have e3 := ((b3.putOther (C := w.heap.size + 1 + 1) (by omega) It.zero).set (.bool false)).alloc (.cells #[.int .i64 0, .string ⟨#[]⟩, .string ⟨#[]⟩, .int .i64 0, .int .i64 0] 34)
    refine ⟨by simp, .inl ⟨_, _, rfl, run_takeDeferred hK', ?_⟩⟩
    obtain ⟨d0, d1, d2, d3, d4⟩ := (e2.kept (grownBy_putObj' _ D (.deferred none)) (by intro h; cases h; omega)).item
    obtain ⟨d5, _⟩ := (e3.kept (grownBy_putObj' _ D (.deferred none)) (by intro h; cases h; omega)).one
    have hn : fnd off l = none := by rw [hys] at em; exact em
    refine ⟨.tuple #[It.zero.v, .bool false], ?_, by rw [hn]; rfl, Below.trans (bl_alloc (Nat.le_refl _) (bl_set (bl_putIt hB (by omega) It.zero) (by omega) _) _) (belowK_b (w := w) (Nat.le_refl _) _ D _ _ (by omega) hK' rfl rfl)⟩
    dsimp only [It.zero] at d0 d1 d2 d3 d4 d5
    simp [results, Try.f41, go_sem, d0, d1, d2, d3, d4, d5, It.v, It.zero]
  case stop =>
    rintro D c pre W hD hpre ⟨rfl, y, em, b2, b3, hB⟩ hK
    gi_wp2
    refine ⟨by simp, .inl ⟨_, _, rfl, run_takeDeferred hK, ?_⟩⟩
    obtain ⟨d0, d1, d2, d3, d4⟩ := Blk.item (show Blk (W.putObj D (.deferred none)) (w.heap.size + 1 + 1) 34 #[.int .i64 y.off, .string y.key, .string y.text, .int .i64 y.who, .int .i64 y.time] from b2.kept (grownBy_putObj' _ D (.deferred none)) (by intro h; cases h; omega))
    obtain ⟨d5, _⟩ := (b3.kept (grownBy_putObj' _ D (.deferred none)) (by intro h; cases h; omega)).one
    have hn : fnd off l = some y := fnd_pre hpre em
    refine ⟨.tuple #[y.v, .bool true], ?_, by rw [hn]; rfl, hB.trans (belowK_b (w := w) (Nat.le_refl _) W D _ _ (by omega) hK rfl rfl)⟩
    simp [results, Try.f41, go_sem, d0, d1, d2, d3, d4, d5, It.v]
end Go.Proofs.Ytnmbbkagjpmhdaa.Items
