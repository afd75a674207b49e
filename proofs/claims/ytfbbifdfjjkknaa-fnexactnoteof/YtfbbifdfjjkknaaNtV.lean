/-
  Notes: what the laws' sz, to and eq functions of them do; a note opened. No condition but that there are at most 1048576 entries, and the length that every text has.
-/
import Derived.Test.YtfbbifdfjjkknaaEnt
namespace Go.Proofs.Ytfbbifdfjjkknaa.Gen
open Go.ChangeShapes Go.WideShapes Go.ChangeAt Go.RowKit Go.Joins Go.Deep Base
set_option linter.unusedVariables false

theorem At.hidN {α : Type} [Cel α] {w : World} {A : Option Addr} {l : List α} (hA : At w A l) : Hid (∀ W : World, Below w.heap.size w W → At W A l) := fun W hW => hA.below hW
theorem Blk.row6n {W : World} {B : Nat} {t : TypeId} {a b c d e f : Value} (h : Blk W B t #[a, b, c, d, e, f]) : W.cell? ⟨B, 0, none⟩ = some a ∧ W.cell? ⟨B, 1, none⟩ = some b ∧ W.cell? ⟨B, 2, none⟩ = some c ∧ W.cell? ⟨B, 3, none⟩ = some d ∧ W.cell? ⟨B, 4, none⟩ = some e ∧ W.cell? ⟨B, 5, none⟩ = some f :=
  ⟨h.cell (by rfl), h.cell (by rfl), h.cell (by rfl), h.cell (by rfl), h.cell (by rfl), h.cell (by rfl)⟩

theorem szNote_any (kind term vote prev : Int) (snap : ByteArray) (hs : snap.size ≤ 9223372036854775807) (A : Option Addr) (cap : Nat) (l : List En) (hl : l.length ≤ 9223372036854775807) (hr : ∀ x ∈ l, x.fit) (left : Int) (h0 : 0 ≤ left) (h1 : left ≤ 1048576) (w : World) (hA : At w A l) :
    Calls Try.prog 7 #[.agg #[.int .i64 kind, .int .i64 term, .int .i64 vote, .int .i64 prev, .slice A l.length cap, .string snap], .int .i64 left] w fun e w' => (∃ r : Int, e = .returned (.int .i64 r) ∧ (r < 0 ∨ (0 ≤ r ∧ r = left - (l.length : Int) - (count szEn l : Int) - (snap.size : Int)))) ∧ Below w.heap.size w w' := by
  have HA := hA.hidN
  have Hr := hidP hr
  clear hA hr
  go_enter Try.func7, Try.ntmps7
  go_wp2_with fail
  refine (szEntryS_any A cap l hl Hr.out left h0 h1 _ (HA.out _ (by repeat (first | exact Below.refl _ _ | assumption | refine via0 (by assumption) ?_ | refine Below.drew ?_ | refine alloc0 ?_ _)))).mono ?_
  rintro e w1 ⟨⟨r, rfl, hr⟩, g1⟩
  have B1 : Below w.heap.size w w1 := by repeat (first | exact Below.refl _ _ | assumption | refine via0 (by assumption) ?_ | refine Below.drew ?_ | refine alloc0 ?_ _)
  have p1 := (Blk.new w 24 #[.int .i64 kind, .int .i64 term, .int .i64 vote, .int .i64 prev, .slice A l.length cap, .string snap]).below g1 (by simp)
  obtain ⟨d0, d1, d2, d3, d4, d5⟩ := p1.row6n
  have q1 := p1.lt
  have hr1 : r < 0 ∨ (0 ≤ r ∧ r ≤ 1048576) := by
    rcases hr with h | ⟨h, e⟩
    · exact .inl h
    · exact .inr ⟨h, by omega⟩
  have HR := hidP hr
  clear hr g1
  by_cases hn : r < 0
  · go_wp2
    go_ret
    exact ⟨⟨-1, rfl, .inl (by omega)⟩, B1⟩
  · obtain ⟨hr2, hr3⟩ : 0 ≤ r ∧ r ≤ 1048576 := by omega
    by_cases hn2 : r - (snap.size : Int) < 0
    · go_wp2
      go_ret
      exact ⟨⟨-1, rfl, .inl (by omega)⟩, B1⟩
    · go_wp2
      go_ret
      refine ⟨⟨_, rfl, .inr ⟨by omega, ?_⟩⟩, B1⟩
      rcases HR.out with h | ⟨_, h⟩
      · omega
      · omega

set_option maxRecDepth 100000 in
theorem toNote_any (kind term vote prev : Int) (snap : ByteArray) (A : Option Addr) (cap : Nat) (l : List En) (hl : l.length ≤ 1048576) (w : World) (hA : At w A l) :
    Calls Try.prog 9 #[.agg #[.int .i64 kind, .int .i64 term, .int .i64 vote, .int .i64 prev, .slice A l.length cap, .string snap]] w
      fun e w' => ∃ b, e = .returned (.agg #[.int .i64 kind, .int .i64 term, .int .i64 vote, .int .i64 prev, .slice (some ⟨b, 0, none⟩) l.length l.length, .string snap]) ∧ Below w.heap.size w w' ∧ w.heap.size ≤ b ∧ b < w'.heap.size ∧ In w' b 0 l ∧ w'.there b 0 (l.length * 9) := by
  have HA := hA.hidN
  clear hA
  go_enter Try.func9, Try.ntmps9
  go_wp2_with (go_at_call 27; refine (toEntryS_any A cap l hl _ (HA.out _ ?_)).mono ?_; (repeat (first | exact Below.refl _ _ | assumption | refine via0 (by assumption) ?_ | refine Below.drew ?_ | refine alloc0 ?_ _)); rintro e w1 ⟨rfl, g1, s1, i1, t1⟩; obtain ⟨k1, m1⟩ := bcell g1)
  have i2 : In w1 (w.heap.size + 1 + 1 + 1) 0 l := by simpa using i1
  have t2 : w1.there (w.heap.size + 1 + 1 + 1) 0 (l.length * 9) := by simpa using t1
  have s2 : w.heap.size + 1 + 1 + 1 < w1.heap.size := by simpa using s1
  have g2 : Below w.heap.size w w1 := via0 g1 (by repeat (first | exact Below.refl _ _ | assumption | refine via0 (by assumption) ?_ | refine Below.drew ?_ | refine alloc0 ?_ _))
  refine bodyPost_ret (v := .agg #[.int .i64 kind, .int .i64 term, .int .i64 vote, .int .i64 prev, .slice (some ⟨w.heap.size + 1 + 1 + 1, 0, none⟩) l.length l.length, .string snap]) (by simp [results, Try.results9, go_sem, k1]) rfl ⟨w.heap.size + 1 + 1 + 1, rfl, ?_, by omega, by simp; omega, ?_, ?_⟩
  · repeat (first | with_reducible exact g2 | refine bl_set ?_ (by omega) _)
  · repeat (first | with_reducible exact i2 | refine In.set ?_ _ _ (by simp))
  · repeat (first | with_reducible exact t2 | refine there_set ?_ _ _ _)

theorem eqNote_same (kind term vote prev : Int) (snap : ByteArray) (A A' : Option Addr) (cap cap' : Nat) (l : List En) (hl : l.length ≤ 9223372036854775807) (w : World) (hA : At w A l) (hA' : At w A' l) :
    Calls Try.prog 11 #[.agg #[.int .i64 kind, .int .i64 term, .int .i64 vote, .int .i64 prev, .slice A l.length cap, .string snap], .agg #[.int .i64 kind, .int .i64 term, .int .i64 vote, .int .i64 prev, .slice A' l.length cap', .string snap]] w fun e w' => e = .returned (.bool true) ∧ Below w.heap.size w w' := by
  have HA := hA.hidN
  have HA' := hA'.hidN
  clear hA hA'
  have p0 : Blk ((w.alloc (.cells #[.int .i64 kind, .int .i64 term, .int .i64 vote, .int .i64 prev, .slice A l.length cap, .string snap] 29)).alloc (.cells #[.int .i64 kind, .int .i64 term, .int .i64 vote, .int .i64 prev, .slice A' l.length cap', .string snap] 29)) w.heap.size 29 #[.int .i64 kind, .int .i64 term, .int .i64 vote, .int .i64 prev, .slice A l.length cap, .string snap] := (Blk.new w _ _).alloc _
  have r0 : Blk ((w.alloc (.cells #[.int .i64 kind, .int .i64 term, .int .i64 vote, .int .i64 prev, .slice A l.length cap, .string snap] 29)).alloc (.cells #[.int .i64 kind, .int .i64 term, .int .i64 vote, .int .i64 prev, .slice A' l.length cap', .string snap] 29)) (w.heap.size + 1) 29 #[.int .i64 kind, .int .i64 term, .int .i64 vote, .int .i64 prev, .slice A' l.length cap', .string snap] := by
    have := Blk.new (w.alloc (.cells #[.int .i64 kind, .int .i64 term, .int .i64 vote, .int .i64 prev, .slice A l.length cap, .string snap] 29)) 29 #[.int .i64 kind, .int .i64 term, .int .i64 vote, .int .i64 prev, .slice A' l.length cap', .string snap]
    rwa [World.size_alloc] at this
  go_enter Try.func11, Try.ntmps11
  go_wp2_with fail
  refine (eqEntryS_same A A' cap cap' l hl _ (HA.out _ (by repeat (first | exact Below.refl _ _ | assumption | refine via0 (by assumption) ?_ | refine Below.drew ?_ | refine alloc0 ?_ _))) (HA'.out _ (by repeat (first | exact Below.refl _ _ | assumption | refine via0 (by assumption) ?_ | refine Below.drew ?_ | refine alloc0 ?_ _)))).mono ?_
  rintro e w1 ⟨rfl, g1⟩
  have B1 : Below w.heap.size w w1 := by repeat (first | exact Below.refl _ _ | assumption | refine via0 (by assumption) ?_ | refine Below.drew ?_ | refine alloc0 ?_ _)
  have p1 := p0.below g1 p0.lt
  have r1 := r0.below g1 r0.lt
  obtain ⟨d0, d1, d2, d3, d4, d5⟩ := p1.row6n
  obtain ⟨e0, e1, e2, e3, e4, e5⟩ := r1.row6n
  have q1 := p1.lt
  have q2 := r1.lt
  clear g1
  go_wp2
  go_ret
  exact ⟨rfl, B1⟩

theorem cellsNote : Try.prog.cellsOf 24 = 6 := by kernel_rfl

set_option maxRecDepth 100000 in
/-- A note by value, opened. -/
theorem openNote {H : Type} {enc : TypeId × Value → H} {W : World} {base b0 : Nat} {r : Reach} {spare : Nat → Bool} {held : Bool} {v : Value} {d : DataW H} {p : List MemPlace}
    (hv : Value.okWide Try.prog W r b0 24 v) (h : DataW.Trod enc Try.prog W base spare held 24 v d p) :
    ∃ (kind term vote prev : Int) (snap : ByteArray) (A : Option Addr) (cap : Nat) (l : List En), v = .agg #[.int .i64 kind, .int .i64 term, .int .i64 vote, .int .i64 prev, .slice A l.length cap, .string snap] ∧ I64 kind ∧ I64 term ∧ I64 vote ∧ I64 prev ∧ snap.size ≤ 9223372036854775807 ∧ l.length ≤ 9223372036854775807 ∧ (∀ x ∈ l, x.right) ∧ At W A l := by
  obtain ⟨cs, rfl, hsz⟩ := okWide_struct Try.underlying24 hv
  obtain ⟨c0, c1, c2, c3, c4, c5, rfl⟩ : ∃ c0 c1 c2 c3 c4 c5, cs = #[c0, c1, c2, c3, c4, c5] := by
    rw [cellsNote] at hsz
    obtain ⟨l⟩ := cs
    match l, hsz with
    | [c0, c1, c2, c3, c4, c5], _ => exact ⟨c0, c1, c2, c3, c4, c5, rfl⟩
  obtain ⟨n, hf⟩ := fields_of Try.underlying24 (by kernel_rfl) h
  obtain ⟨y0, g0⟩ := hf 0 _ rfl _ rfl
  obtain ⟨y1, g1⟩ := hf 1 _ rfl _ rfl
  obtain ⟨y2, g2⟩ := hf 2 _ rfl _ rfl
  obtain ⟨y3, g3⟩ := hf 3 _ rfl _ rfl
  obtain ⟨y4, g4⟩ := hf 4 _ rfl _ rfl
  obtain ⟨y5, g5⟩ := hf 5 _ rfl _ rfl
  obtain ⟨kind, e0, _, w0⟩ := DataW.trod_int Try.underlying3 g0
  obtain ⟨term, e1, _, w1⟩ := DataW.trod_int Try.underlying3 g1
  obtain ⟨vote, e2, _, w2⟩ := DataW.trod_int Try.underlying3 g2
  obtain ⟨prev, e3, _, w3⟩ := DataW.trod_int Try.underlying3 g3
  obtain ⟨snap, e5, _, w5⟩ := DataW.trod_string Try.underlying9 g5
  simp at e0 e1 e2 e3 e5
  subst e0 e1 e2 e3 e5
  obtain ⟨A, cap, l, rfl, hl, hR, hat⟩ := openEntryS g4
  exact ⟨kind, term, vote, prev, snap, A, cap, l, rfl, i64_of w0, i64_of w1, i64_of w2, i64_of w3, by simpa [maxLen] using w5, hl, hR, hat⟩
end Go.Proofs.Ytfbbifdfjjkknaa.Gen
