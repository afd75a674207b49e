/-
  The program's RowPut at this seat.
-/
import Derived.Test.YtnmbbkagjpmhdaaWith
import Derived.Test.YtnmbbkagjpmhdaaSpecRowPut
import Derived.Test.YtnmbbkagjpmhdaaImplRowOk
namespace Go.Proofs.Ytnmbbkagjpmhdaa.Items
open Go.ChangeShapes Go.WideShapes Go.ChangeAt Go.RowKit Go.Shelf Base
set_option linter.unusedVariables false

theorem heldP {W : World} {B C : Nat} {t t' t'' : TypeId} {a b c p q r u v a' b' c' : Value} (h : Blk W C t' #[a, b, c]) (h0 : Blk W (B + 1 + 1) t'' #[p, q, r, u, v]) (h' : Blk W (B + 1) t #[a', b', c']) :
    W.cell? ⟨C, 0, none⟩ = some a ∧ W.cell? ⟨C, 1, none⟩ = some b ∧ W.cell? ⟨C, 2, none⟩ = some c ∧ W.cell? ⟨B + 1 + 1, 0, none⟩ = some p ∧
      (W.cell? ⟨B + 1, 0, none⟩).isSome = true ∧ (W.cell? ⟨B + 1, 1, none⟩).isSome = true ∧ (W.cell? ⟨B + 1, 2, none⟩).isSome = true ∧
      W.frozen? ⟨B + 1, 0, none⟩ = false ∧ W.frozen? ⟨B + 1, 1, none⟩ = false ∧ W.frozen? ⟨B + 1, 2, none⟩ = false := by
  obtain ⟨h0', h1, h2⟩ := h.row
  obtain ⟨g1, _⟩ := h0.item
  obtain ⟨s0, s1, s2, s3, s4, s5⟩ := h'.spots
  exact ⟨h0', h1, h2, g1, s0, s1, s2, s3, s4, s5⟩

set_option maxRecDepth 100000 in
set_option maxHeartbeats 1000000 in
theorem implRowPut_at (start next who time : Int) (key text : ByteArray) (A : Option Addr) (cap : Nat) (l : List It) (hl : l.length ≤ 1048576) (hs : ∀ x ∈ l, x.key.size ≤ 9223372036854775807 ∧ x.text.size ≤ 9223372036854775807)
    (hk : key.size ≤ 9223372036854775807) (ht : text.size ≤ 9223372036854775807) (w : World) (hA : At w A l) :
    Calls Try.prog 10 #[.agg #[.int .i64 start, .int .i64 next, .slice A l.length cap], .string key, .string text, .int .i64 who, .int .i64 time] w fun e w' =>
      (rowB start (wrap64 (next + 1)) (l ++ [(⟨next, key, text, who, time⟩ : It)]) = true ∧ ∃ g, e = .returned (.tuple #[.agg #[.int .i64 start, .int .i64 (wrap64 (next + 1)), .slice (some ⟨g, 0, none⟩) (l.length + 1) (l.length + 1)], .int .i64 next, .bool true]) ∧ w.heap.size ≤ g ∧ g < w'.heap.size ∧ In w' g 0 (l ++ [(⟨next, key, text, who, time⟩ : It)]) ∧ w'.there g 0 ((l.length + 1) * 5) ∧ Below w.heap.size w w') ∨
      (rowB start (wrap64 (next + 1)) (l ++ [(⟨next, key, text, who, time⟩ : It)]) = false ∧ ∃ v, e = .returned (.tuple #[.agg #[.int .i64 start, .int .i64 next, v], .int .i64 0, .bool false]) ∧ w'.ownsRow w.heap.size 34 5 v l.length (flat l) ∧ Below w.heap.size w w') := by
  have HA : Hid (At w A l) := hA
  have Hs : Hid (∀ x ∈ l, x.key.size ≤ 9223372036854775807 ∧ x.text.size ≤ 9223372036854775807) := hs
  clear hA hs
  go_enter Try.func10, Try.ntmps10
  go_wp2_with fail
  have B0 : Below w.heap.size w (((w.alloc (.cells #[.int .i64 start, .int .i64 next, .slice A l.length cap] 26)).alloc (.cells #[.int .i64 0, .int .i64 0, .slice none 0 0] 26)).alloc (.cells #[.int .i64 next, .string key, .string text, .int .i64 who, .int .i64 time] 34)) := alloc0 (alloc0 (alloc0 (Below.refl _ w) _) _) _
  refine (with_any start next A cap l (⟨next, key, text, who, time⟩ : It) hl _ (HA.out.below B0)).mono ?_
  rintro e w1 ⟨g, rfl, hg1, hg2, hin, hth, g1⟩
  have B1 : Below w.heap.size w w1 := via0 g1 B0
  have p0 := (((Blk.new w 26 #[.int .i64 start, .int .i64 next, .slice A l.length cap]).alloc (.cells #[.int .i64 0, .int .i64 0, .slice none 0 0] 26)).alloc (.cells #[.int .i64 next, .string key, .string text, .int .i64 who, .int .i64 time] 34)).below g1 (by simp; omega)
  have p1 := ((Blk.new (w.alloc (.cells #[.int .i64 start, .int .i64 next, .slice A l.length cap] 26)) 26 #[.int .i64 0, .int .i64 0, .slice none 0 0]).alloc (.cells #[.int .i64 next, .string key, .string text, .int .i64 who, .int .i64 time] 34)).below g1 (by simp)
  have p2 := (Blk.new ((w.alloc (.cells #[.int .i64 start, .int .i64 next, .slice A l.length cap] 26)).alloc (.cells #[.int .i64 0, .int .i64 0, .slice none 0 0] 26)) 34 #[.int .i64 next, .string key, .string text, .int .i64 who, .int .i64 time]).below g1 (by simp)
  simp only [World.size_alloc] at p1 p2 hg1
  have Hin : Hid (In w1 g 0 (l ++ [(⟨next, key, text, who, time⟩ : It)])) := hin
  have Hth : Hid (w1.there g 0 ((l.length + 1) * 5)) := hth
  clear hin hth
  obtain ⟨u0, u1, u2⟩ := p0.row
  obtain ⟨x0, x1, x2, x3, x4⟩ := p2.item
  have q0 := p0.lt
  have q1 := p1.lt
  have q2 := p2.lt
  go_wp2_with fail
  have e9 : (l ++ [(⟨next, key, text, who, time⟩ : It)]).length = l.length + 1 := by simp
  have hok := implRowOk_any start (wrap64 (next + 1)) (some ⟨g, 0, none⟩) (l.length + 1) (l ++ [(⟨next, key, text, who, time⟩ : It)]) (by rw [e9]; omega) (fun y hy => by
    rcases List.mem_append.1 hy with h | h
    · exact Hs.out y h
    · simp at h; subst h; exact ⟨hk, ht⟩) (w1.alloc (.cells #[.int .i64 start, .int .i64 (wrap64 (next + 1)), .slice (some ⟨g, 0, none⟩) (l.length + 1) (l.length + 1)] 26)) (.inr ⟨g, 0, rfl, by simp; omega, Hin.out.below hg2 (alloc0 (Below.refl _ _) _)⟩)
  rw [e9] at hok
  refine hok.mono ?_
  rintro e w5 ⟨rfl, g5⟩
  have B5 : Below w.heap.size w w5 := via0 g5 (alloc0 B1 _)
  have y0 := (p0.alloc (.cells #[.int .i64 start, .int .i64 (wrap64 (next + 1)), .slice (some ⟨g, 0, none⟩) (l.length + 1) (l.length + 1)] 26)).below g5 (p0.alloc _).lt
  have y1 := (p1.alloc (.cells #[.int .i64 start, .int .i64 (wrap64 (next + 1)), .slice (some ⟨g, 0, none⟩) (l.length + 1) (l.length + 1)] 26)).below g5 (p1.alloc _).lt
  have yi := (p2.alloc (.cells #[.int .i64 start, .int .i64 (wrap64 (next + 1)), .slice (some ⟨g, 0, none⟩) (l.length + 1) (l.length + 1)] 26)).below g5 (p2.alloc _).lt
  have y2 := (Blk.new w1 26 #[.int .i64 start, .int .i64 (wrap64 (next + 1)), .slice (some ⟨g, 0, none⟩) (l.length + 1) (l.length + 1)]).below g5 (by simp)
  have b15 : Below w1.heap.size w1 w5 := via0 g5 (alloc0 (Below.refl _ _) _)
  have Hin5 : Hid (In w5 g 0 (l ++ [(⟨next, key, text, who, time⟩ : It)])) := Hin.out.below hg2 b15
  have Hth5 : Hid (w5.there g 0 ((l.length + 1) * 5)) := there_below Hth.out hg2 b15
  have hg5 : g < w5.heap.size := Nat.lt_of_lt_of_le hg2 b15.size
  clear hok u0 u1 u2 x0 x1 x2 x3 x4 p0 p1 p2 g5 b15 Hin Hth e9 B0 B1 g1
  obtain ⟨u0, u1, u2⟩ := y0.row
  obtain ⟨m0, m1, m2⟩ := y2.row
  obtain ⟨x0, x1, x2, x3, x4⟩ := yi.item
  have q5 := y0.lt
  have q6 := y1.lt
  have q7 := yi.lt
  cases h2 : rowB start (wrap64 (next + 1)) (l ++ [(⟨next, key, text, who, time⟩ : It)])
  · go_wp2_with fail
    refine (copied_any start next A cap l (by omega) _ (HA.out.below B5)).mono ?_
    rintro e w6 ⟨v6, rfl, hown6, g6⟩
    obtain ⟨a6, c6, rfl, _⟩ := owns_form hown6
    have z1 := y1.below g6 y1.lt
    obtain ⟨n0, n1, n2⟩ := z1.row
    have k0 := z1.thaw 0
    have k1 := z1.thaw 1
    have k2 := z1.thaw 2
    have far : some (w.heap.size + 1) ≠ (Value.slice a6 l.length c6).ownBlock := owns_far hown6 q6
    have Hown6 : Hid (w6.ownsRow w5.heap.size 34 5 (.slice a6 l.length c6) l.length (flat l)) := hown6
    have Far : Hid (some (w.heap.size + 1) ≠ (Value.slice a6 l.length c6).ownBlock) := far
    clear hown6 far
    go_wp2
    have z : Blk _ (w.heap.size + 1) 26 #[.int .i64 start, .int .i64 next, .slice a6 l.length c6] := ((z1.setAt 0 (.int .i64 start)).setAt 1 (.int .i64 next)).setAt 2 (.slice a6 l.length c6)
    obtain ⟨e0, e1, e2⟩ := z.row
    exact bodyPost_ret (v := .tuple #[.agg #[.int .i64 start, .int .i64 next, .slice a6 l.length c6], .int .i64 0, .bool false]) (by simp [results, Try.results10, go_sem, e0, e1, e2]) rfl
      (.inr ⟨h2, _, rfl, owns_mono (owns_set (owns_set (owns_set Hown6.out Far.out) Far.out) Far.out) (by omega), bl_set (bl_set (bl_set (via0 g6 B5) (by omega) _) (by omega) _) (by omega) _⟩)
  · go_wp2_with fail
    have hm : w.heap.size + 1 < w1.heap.size := q1
    have z0 := ((yi.other (B' := w.heap.size + 1) (by omega) 0 (.int .i64 start)).other (B' := w.heap.size + 1) (by omega) 1 (.int .i64 (wrap64 (next + 1)))).other (B' := w.heap.size + 1) (by omega) 2 (.slice (some ⟨g, 0, none⟩) (l.length + 1) (l.length + 1))
    have z2 := ((y2.other (B' := w.heap.size + 1) (by omega) 0 (.int .i64 start)).other (B' := w.heap.size + 1) (by omega) 1 (.int .i64 (wrap64 (next + 1)))).other (B' := w.heap.size + 1) (by omega) 2 (.slice (some ⟨g, 0, none⟩) (l.length + 1) (l.length + 1))
    have z1 : Blk _ (w.heap.size + 1) 26 #[.int .i64 start, .int .i64 (wrap64 (next + 1)), .slice (some ⟨g, 0, none⟩) (l.length + 1) (l.length + 1)] := ((y1.setAt 0 (.int .i64 start)).setAt 1 (.int .i64 (wrap64 (next + 1)))).setAt 2 (.slice (some ⟨g, 0, none⟩) (l.length + 1) (l.length + 1))
    have SW := hide (heldP y2 yi y1)
    have SD := hide (heldP y2.drew yi.drew y1.drew)
    have SZ := hide (heldP z2 z0 z1)
    have SE := hide (heldP z2.drew z0.drew z1.drew)
    obtain ⟨e0, e1, e2⟩ := z1.row
    obtain ⟨n0, n1, n2⟩ := y1.row
    have k0 := y1.thaw 0
    have k1 := y1.thaw 1
    have k2 := y1.thaw 2
    have H2 : Hid (rowB start (wrap64 (next + 1)) (l ++ [(⟨next, key, text, who, time⟩ : It)]) = true) := h2
    clear h2 z0 z1 z2 y0 y1 y2 yi x1 x2 x3 x4
    go_region_held3 (fun w' => w'.cell? ⟨w1.heap.size, 0, none⟩ = some (.int .i64 start) ∧ w'.cell? ⟨w1.heap.size, 1, none⟩ = some (.int .i64 (wrap64 (next + 1))) ∧ w'.cell? ⟨w1.heap.size, 2, none⟩ = some (.slice (some ⟨g, 0, none⟩) (l.length + 1) (l.length + 1)) ∧ w'.cell? ⟨w.heap.size + 1 + 1, 0, none⟩ = some (.int .i64 next) ∧
        (w'.cell? ⟨w.heap.size + 1, 0, none⟩).isSome = true ∧ (w'.cell? ⟨w.heap.size + 1, 1, none⟩).isSome = true ∧ (w'.cell? ⟨w.heap.size + 1, 2, none⟩).isSome = true ∧
        w'.frozen? ⟨w.heap.size + 1, 0, none⟩ = false ∧ w'.frozen? ⟨w.heap.size + 1, 1, none⟩ = false ∧ w'.frozen? ⟨w.heap.size + 1, 2, none⟩ = false)
      (first | with_reducible exact SD.out | with_reducible exact SE.out | with_reducible exact SZ.out | with_reducible exact SW.out)
      (fail)
    all_goals
      clear SW SD SZ SE n0 n1 n2 k0 k1 k2
      go_wp2
      have ne : w.heap.size + 1 ≠ g := by omega
      exact bodyPost_ret (v := .tuple #[.agg #[.int .i64 start, .int .i64 (wrap64 (next + 1)), .slice (some ⟨g, 0, none⟩) (l.length + 1) (l.length + 1)], .int .i64 next, .bool true]) (by simp [results, Try.results10, go_sem, e0, e1, e2]) rfl
        (.inl ⟨H2.out, g, rfl, by omega, Nat.lt_of_lt_of_le hg5 (by simp [World.drew]), (((Hin5.out.set ⟨w.heap.size + 1, 0, none⟩ (.int .i64 start) ne).set ⟨w.heap.size + 1, 1, none⟩ (.int .i64 (wrap64 (next + 1))) ne).set ⟨w.heap.size + 1, 2, none⟩ (.slice (some ⟨g, 0, none⟩) (l.length + 1) (l.length + 1)) ne), there_set (there_set (there_set Hth5.out (w.heap.size + 1) 0 (.int .i64 start)) (w.heap.size + 1) 1 (.int .i64 (wrap64 (next + 1)))) (w.heap.size + 1) 2 (.slice (some ⟨g, 0, none⟩) (l.length + 1) (l.length + 1)),
          Below.drew (bl_set (bl_set (bl_set B5 (by omega) _) (by omega) _) (by omega) _)⟩)
end Go.Proofs.Ytnmbbkagjpmhdaa.Items
