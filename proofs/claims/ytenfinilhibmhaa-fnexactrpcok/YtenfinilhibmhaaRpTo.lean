/-
  Messages: their sz, their to, and how a law's message lies. No condition.
-/
import Derived.Test.YtenfinilhibmhaaRpcV
namespace Go.Proofs.Ytenfinilhibmhaa.Gen
open Go.ChangeShapes Go.WideShapes Go.ChangeAt Go.RowKit Go.Joins Go.Deep Base
set_option linter.unusedVariables false
set_option linter.unusedSimpArgs false

set_option maxRecDepth 100000 in
set_option maxHeartbeats 1000000 in
theorem szRpc_any (kind frm too term index iterm commit : Int) (ok : Bool) (snap : ByteArray) (hs : snap.size ≤ 9223372036854775807) (A : Option Addr) (cap : Nat) (l : List En) (hl : l.length ≤ 9223372036854775807) (hr : ∀ x ∈ l, x.fit) (left : Int) (h0 : 0 ≤ left) (h1 : left ≤ 1048576) (w : World) (hA : At w A l) :
    Calls Try.prog 4 #[.agg #[.int .i64 kind, .int .i64 frm, .int .i64 too, .int .i64 term, .int .i64 index, .int .i64 iterm, .int .i64 commit, .slice A l.length cap, .bool ok, .string snap], .int .i64 left] w fun e w' => (∃ r : Int, e = .returned (.int .i64 r) ∧ (r < 0 ∨ (0 ≤ r ∧ r = left - (l.length : Int) - (count szEn l : Int) - (snap.size : Int)))) ∧ Below w.heap.size w w' := by
  have HA := hidP hA
  have Hr := hidP hr
  clear hA hr
  go_enter Try.func4, Try.ntmps4
  go_wp2_with fail
  refine (szEntryS_any A cap l hl Hr.out left h0 h1 _ (HA.out.below (by repeat (first | exact Below.refl _ _ | assumption | refine via0 (by assumption) ?_ | refine Below.drew ?_ | refine alloc0 ?_ _)))).mono ?_
  rintro e w1 ⟨⟨r, rfl, hr⟩, g1⟩
  have B1 : Below w.heap.size w w1 := by repeat (first | exact Below.refl _ _ | assumption | refine via0 (by assumption) ?_ | refine Below.drew ?_ | refine alloc0 ?_ _)
  have p1 := (Blk.new w 24 #[.int .i64 kind, .int .i64 frm, .int .i64 too, .int .i64 term, .int .i64 index, .int .i64 iterm, .int .i64 commit, .slice A l.length cap, .bool ok, .string snap]).below g1 (by simp)
  obtain ⟨d0, d1, d2, d3, d4, d5, d6, d7, d8, d9⟩ := p1.row10
  have q1 := p1.lt
  have hr1 : r < 0 ∨ (0 ≤ r ∧ r ≤ 1048576) := by
    rcases hr with h | ⟨h, e⟩
    · exact .inl h
    · exact .inr ⟨h, by omega⟩
  have HR := hidP hr
  clear hr g1
  by_cases hn : r < 0
  · go_wp2
    go_ret
    exact ⟨⟨-1, rfl, .inl (by omega)⟩, B1⟩
  · obtain ⟨hr2, hr3⟩ : 0 ≤ r ∧ r ≤ 1048576 := by omega
    by_cases hn2 : r - (snap.size : Int) < 0
    · go_wp2
      go_ret
      exact ⟨⟨-1, rfl, .inl (by omega)⟩, B1⟩
    · go_wp2
      go_ret
      refine ⟨⟨_, rfl, .inr ⟨by omega, ?_⟩⟩, B1⟩
      rcases HR.out with h | ⟨_, h⟩
      · omega
      · omega

set_option maxRecDepth 100000 in
set_option maxHeartbeats 1000000 in
theorem toRpc_any (kind frm too term index iterm commit : Int) (ok : Bool) (snap : ByteArray) (A : Option Addr) (cap : Nat) (l : List En) (hl : l.length ≤ 1048576) (w : World) (hA : At w A l) :
    Calls Try.prog 6 #[.agg #[.int .i64 kind, .int .i64 frm, .int .i64 too, .int .i64 term, .int .i64 index, .int .i64 iterm, .int .i64 commit, .slice A l.length cap, .bool ok, .string snap]] w
      fun e w' => ∃ b, e = .returned (.agg #[.int .i64 kind, .int .i64 frm, .int .i64 too, .int .i64 term, .int .i64 index, .int .i64 iterm, .int .i64 commit, .slice (some ⟨b, 0, none⟩) l.length l.length, .bool ok, .string snap]) ∧ Below w.heap.size w w' ∧ w.heap.size ≤ b ∧ b < w'.heap.size ∧ In w' b 0 l ∧ w'.there b 0 (l.length * 9) := by
  have HA := hidP hA
  clear hA
  go_enter Try.func6, Try.ntmps6
  go_wp2_with (go_at_call 12; refine (toEntryS_any A cap l hl _ (HA.out.below ?_)).mono ?_; (repeat (first | exact Below.refl _ _ | refine alloc0 ?_ _ | refine bl_set ?_ (by simp <;> omega) _)); rintro e w1 ⟨rfl, g1, s1, i1, t1⟩; obtain ⟨k1, m1⟩ := bcell g1)
  have i2 : In w1 (w.heap.size + 1 + 1 + 1) 0 l := by simpa using i1
  have t2 : w1.there (w.heap.size + 1 + 1 + 1) 0 (l.length * 9) := by simpa using t1
  have s2 : w.heap.size + 1 + 1 + 1 < w1.heap.size := by simpa using s1
  have g2 : Below w.heap.size w w1 := via0 g1 (by repeat (first | exact Below.refl _ _ | refine alloc0 ?_ _ | refine bl_set ?_ (by simp <;> omega) _))
  refine bodyPost_ret (v := .agg #[.int .i64 kind, .int .i64 frm, .int .i64 too, .int .i64 term, .int .i64 index, .int .i64 iterm, .int .i64 commit, .slice (some ⟨w.heap.size + 1 + 1 + 1, 0, none⟩) l.length l.length, .bool ok, .string snap]) (by simp [results, Try.results6, go_sem, k1]) rfl ⟨w.heap.size + 1 + 1 + 1, rfl, ?_, by omega, by simp; omega, ?_, ?_⟩
  · repeat (first | with_reducible exact g2 | refine bl_set ?_ (by omega) _)
  · repeat (first | with_reducible exact i2 | refine In.set ?_ _ _ (by simp))
  · repeat (first | with_reducible exact t2 | refine there_set ?_ _ _ _)

theorem cellsRpc : Try.prog.cellsOf 24 = 10 := by kernel_rfl
theorem openRpc {H : Type} {enc : TypeId × Value → H} {W : World} {base b0 : Nat} {r : Reach} {spare : Nat → Bool} {held : Bool} {v : Value} {d : DataW H} {p : List MemPlace}
    (hv : Value.okWide Try.prog W r b0 24 v) (h : DataW.Trod enc Try.prog W base spare held 24 v d p) :
    ∃ (kind frm too term index iterm commit : Int) (ok : Bool) (snap : ByteArray) (A : Option Addr) (cap : Nat) (l : List En), v = .agg #[.int .i64 kind, .int .i64 frm, .int .i64 too, .int .i64 term, .int .i64 index, .int .i64 iterm, .int .i64 commit, .slice A l.length cap, .bool ok, .string snap] ∧ I64 kind ∧ I64 frm ∧ I64 too ∧ I64 term ∧ I64 index ∧ I64 iterm ∧ I64 commit ∧ snap.size ≤ 9223372036854775807 ∧ l.length ≤ 9223372036854775807 ∧ (∀ x ∈ l, x.right) ∧ At W A l := by
  obtain ⟨cs, rfl, hsz⟩ := okWide_struct Try.underlying24 hv
  obtain ⟨c0, c1, c2, c3, c4, c5, c6, c7, c8, c9, rfl⟩ : ∃ c0 c1 c2 c3 c4 c5 c6 c7 c8 c9, cs = #[c0, c1, c2, c3, c4, c5, c6, c7, c8, c9] := by
    rw [cellsRpc] at hsz
    obtain ⟨l⟩ := cs
    match l, hsz with
    | [c0, c1, c2, c3, c4, c5, c6, c7, c8, c9], _ => exact ⟨c0, c1, c2, c3, c4, c5, c6, c7, c8, c9, rfl⟩
  obtain ⟨n, hf⟩ := fields_of Try.underlying24 (by kernel_rfl) h
  obtain ⟨y0, g0⟩ := hf 0 _ rfl _ rfl
  obtain ⟨y1, g1⟩ := hf 1 _ rfl _ rfl
  obtain ⟨y2, g2⟩ := hf 2 _ rfl _ rfl
  obtain ⟨y3, g3⟩ := hf 3 _ rfl _ rfl
  obtain ⟨y4, g4⟩ := hf 4 _ rfl _ rfl
  obtain ⟨y5, g5⟩ := hf 5 _ rfl _ rfl
  obtain ⟨y6, g6⟩ := hf 6 _ rfl _ rfl
  obtain ⟨y7, g7⟩ := hf 7 _ rfl _ rfl
  obtain ⟨y8, g8⟩ := hf 8 _ rfl _ rfl
  obtain ⟨y9, g9⟩ := hf 9 _ rfl _ rfl
  obtain ⟨kind, e0, _, w0⟩ := DataW.trod_int Try.underlying3 g0
  obtain ⟨frm, e1, _, w1⟩ := DataW.trod_int Try.underlying3 g1
  obtain ⟨too, e2, _, w2⟩ := DataW.trod_int Try.underlying3 g2
  obtain ⟨term, e3, _, w3⟩ := DataW.trod_int Try.underlying3 g3
  obtain ⟨index, e4, _, w4⟩ := DataW.trod_int Try.underlying3 g4
  obtain ⟨iterm, e5, _, w5⟩ := DataW.trod_int Try.underlying3 g5
  obtain ⟨commit, e6, _, w6⟩ := DataW.trod_int Try.underlying3 g6
  obtain ⟨ok, e8, _⟩ := DataW.trod_bool Try.underlying4 g8
  obtain ⟨snap, e9, _, w9⟩ := DataW.trod_string Try.underlying9 g9
  simp at e0 e1 e2 e3 e4 e5 e6 e8 e9
  subst e0 e1 e2 e3 e4 e5 e6 e8 e9
  obtain ⟨A, cap, l, rfl, hl, hR, hat⟩ := openEntryS g7
  exact ⟨kind, frm, too, term, index, iterm, commit, ok, snap, A, cap, l, rfl, i64_of w0, i64_of w1, i64_of w2, i64_of w3, i64_of w4, i64_of w5, i64_of w6, by simpa [maxLen] using w9, hl, hR, hat⟩
end Go.Proofs.Ytenfinilhibmhaa.Gen
