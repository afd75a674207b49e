/-
  Maker: what the laws' to, sz, eq, mark and held functions of it do; the argument opened. No condition but that its list has at most 1048576 records.
-/
import Derived.Test.YtclgdghfcjkhfaaGreatRowList
namespace Go.Proofs.YtclgdghfcjkhfaaGreat.Gen
open Go.ChangeShapes Go.WideShapes Go.ChangeAt Go.RowKit Go.Joins Go.Deep Base
set_option linter.unusedVariables false

theorem szMaker_any (row who epoch last : Int) (A : Option Addr) (n cap : Nat) (hn : n ≤ 9223372036854775807) (left : Int) (h0 : 0 ≤ left) (h1 : left ≤ 1048576) (w : World) :
    Calls Tryz.prog 97 #[.agg #[.int .i64 row, .int .i64 who, .int .i64 epoch, .int .i64 last, .slice A n cap], .int .i64 left] w fun e w' => e = .returned (.int .i64 (if left < n then -1 else left - n)) ∧ Below w.heap.size w w' := by
  by_cases h : left < n
  · go_enter Tryz.func97, Tryz.ntmps97
    go_wp2_with (go_at_call 147; refine (szMkS_any A n cap hn left h0 h1 _).mono ?_; rw [if_pos h]; rintro e w1 ⟨rfl, rfl⟩)
    go_ret
    refine ⟨rfl, ?_⟩
    repeat (first | exact Below.refl _ _ | assumption | refine via0 (by assumption) ?_ | refine Below.drew ?_ | refine alloc0 ?_ _)
  · have hp : ¬ left - (n : Int) < 0 := by omega
    go_enter Tryz.func97, Tryz.ntmps97
    go_wp2_with (go_at_call 147; refine (szMkS_any A n cap hn left h0 h1 _).mono ?_; rw [if_neg h]; rintro e w1 ⟨rfl, rfl⟩)
    go_ret
    refine ⟨rfl, ?_⟩
    repeat (first | exact Below.refl _ _ | assumption | refine via0 (by assumption) ?_ | refine Below.drew ?_ | refine alloc0 ?_ _)

set_option maxRecDepth 100000 in
set_option maxHeartbeats 1000000 in
theorem toMaker_any (row who epoch last : Int) (A : Option Addr) (cap : Nat) (l : List Mk) (hl : l.length ≤ 1048576) (w : World) (hA : At w A l) :
    Calls Tryz.prog 105 #[.agg #[.int .i64 row, .int .i64 who, .int .i64 epoch, .int .i64 last, .slice A l.length cap]] w
      fun e w' => ∃ b, e = .returned (.agg #[.int .i64 row, .int .i64 who, .int .i64 epoch, .int .i64 last, .slice (some ⟨b, 0, none⟩) l.length l.length]) ∧ Below w.heap.size w w' ∧ w.heap.size ≤ b ∧ b < w'.heap.size ∧ In w' b 0 l ∧ w'.there b 0 (l.length * 2) := by
  have HA : Hid (∀ W : World, Below w.heap.size w W → At W A l) := fun W hW => hA.below hW
  clear hA
  go_enter Tryz.func105, Tryz.ntmps105
  go_wp2_with (go_at_call 150; refine (toMkS_any A cap l hl _ (HA.out _ ?_)).mono ?_; (repeat (first | exact Below.refl _ _ | assumption | refine via0 (by assumption) ?_ | refine Below.drew ?_ | refine alloc0 ?_ _)); rintro e w1 ⟨rfl, g1, s1, i1, t1⟩; obtain ⟨k1, m1⟩ := bcell g1)
  have i2 : In w1 (w.heap.size + 1 + 1 + 1) 0 l := by simpa using i1
  have t2 : w1.there (w.heap.size + 1 + 1 + 1) 0 (l.length * 2) := by simpa using t1
  have s2 : w.heap.size + 1 + 1 + 1 < w1.heap.size := by simpa using s1
  have g2 : Below w.heap.size w w1 := via0 g1 (by repeat (first | exact Below.refl _ _ | assumption | refine via0 (by assumption) ?_ | refine Below.drew ?_ | refine alloc0 ?_ _))
  refine bodyPost_ret (v := .agg #[.int .i64 row, .int .i64 who, .int .i64 epoch, .int .i64 last, .slice (some ⟨w.heap.size + 1 + 1 + 1, 0, none⟩) l.length l.length]) (by simp [results, Tryz.results105, go_sem, k1]) rfl ⟨w.heap.size + 1 + 1 + 1, rfl, ?_, by omega, by simp; omega, ?_, ?_⟩
  · exact bl_set (bl_set (bl_set (bl_set (bl_set (bl_set (g2) (by omega) _) (by omega) _) (by omega) _) (by omega) _) (by omega) _) (by omega) _
  · exact In.set (In.set (In.set (In.set (In.set (In.set (i2) _ _ (by simp)) _ _ (by simp)) _ _ (by simp)) _ _ (by simp)) _ _ (by simp)) _ _ (by simp)
  · exact there_set (there_set (there_set (there_set (there_set (there_set (t2) _ _ _) _ _ _) _ _ _) _ _ _) _ _ _) _ _ _

theorem eqMaker_same (row who epoch last : Int) (A A' : Option Addr) (cap cap' : Nat) (l : List Mk) (hl : l.length ≤ 9223372036854775807) (w : World) (hA : At w A l) (hA' : At w A' l) :
    Calls Tryz.prog 119 #[.agg #[.int .i64 row, .int .i64 who, .int .i64 epoch, .int .i64 last, .slice A l.length cap], .agg #[.int .i64 row, .int .i64 who, .int .i64 epoch, .int .i64 last, .slice A' l.length cap']] w fun e w' => e = .returned (.bool true) ∧ Below w.heap.size w w' := by
  have HA : Hid (∀ W : World, Below w.heap.size w W → At W A l) := fun W hW => hA.below hW
  have HA' : Hid (∀ W : World, Below w.heap.size w W → At W A' l) := fun W hW => hA'.below hW
  clear hA hA'
  go_enter Tryz.func119, Tryz.ntmps119
  go_wp2_with (go_at_call 158; refine (eqMkS_same A A' cap cap' l hl _ (HA.out _ ?_) (HA'.out _ ?_)).mono ?_; (repeat (first | exact Below.refl _ _ | assumption | refine via0 (by assumption) ?_ | refine Below.drew ?_ | refine alloc0 ?_ _)); (repeat (first | exact Below.refl _ _ | assumption | refine via0 (by assumption) ?_ | refine Below.drew ?_ | refine alloc0 ?_ _)); rintro e w1 ⟨rfl, g1⟩)
  go_ret
  refine ⟨rfl, ?_⟩
  repeat (first | exact Below.refl _ _ | assumption | refine via0 (by assumption) ?_ | refine Below.drew ?_ | refine alloc0 ?_ _)

theorem cellsMaker : Tryz.prog.cellsOf 157 = 5 := by kernel_rfl
set_option maxRecDepth 100000 in
theorem openMaker {H : Type} {enc : TypeId × Value → H} {W : World} {base b0 : Nat} {r : Reach} {spare : Nat → Bool} {held : Bool} {v : Value} {d : DataW H} {p : List MemPlace}
    (hv : Value.okWide Tryz.prog W r b0 157 v) (h : DataW.Trod enc Tryz.prog W base spare held 157 v d p) :
    ∃ (row who epoch last : Int) (A : Option Addr) (cap : Nat) (l : List Mk), v = .agg #[.int .i64 row, .int .i64 who, .int .i64 epoch, .int .i64 last, .slice A l.length cap] ∧ I64 row ∧ I64 who ∧ I64 epoch ∧ I64 last ∧ l.length ≤ 9223372036854775807 ∧ (∀ x ∈ l, x.right) ∧ At W A l := by
  obtain ⟨cs, rfl, hsz⟩ := okWide_struct Tryz.underlying157 hv
  rw [cellsMaker] at hsz
  obtain ⟨c0, c1, c2, c3, c4, rfl⟩ : ∃ c0 c1 c2 c3 c4, cs = #[c0, c1, c2, c3, c4] := by
    obtain ⟨l⟩ := cs
    match l, hsz with
    | [c0, c1, c2, c3, c4], _ => exact ⟨c0, c1, c2, c3, c4, rfl⟩
  obtain ⟨n, hf⟩ := fields_of Tryz.underlying157 (by kernel_rfl) h
  obtain ⟨y0, g0⟩ := hf 0 _ rfl _ rfl
  obtain ⟨y1, g1⟩ := hf 1 _ rfl _ rfl
  obtain ⟨y2, g2⟩ := hf 2 _ rfl _ rfl
  obtain ⟨y3, g3⟩ := hf 3 _ rfl _ rfl
  obtain ⟨y4, g4⟩ := hf 4 _ rfl _ rfl
  obtain ⟨row, e0, _, w0⟩ := DataW.trod_int Tryz.underlying3 g0
  obtain ⟨who, e1, _, w1⟩ := DataW.trod_int Tryz.underlying3 g1
  obtain ⟨epoch, e2, _, w2⟩ := DataW.trod_int Tryz.underlying3 g2
  obtain ⟨last, e3, _, w3⟩ := DataW.trod_int Tryz.underlying3 g3
  simp at e0 e1 e2 e3
  subst e0 e1 e2 e3
  rcases open_slice Tryz.underlying155 g4 with ⟨e2, _⟩ | ⟨a, len, cap, m, n', D, Pl, e2, _, hl, hm, hmm, _, hx⟩
  · simp at e2
    subst e2
    exact ⟨row, who, epoch, last, none, 0, [], rfl, i64_of w0, i64_of w1, i64_of w2, i64_of w3, by simp, by simp, .inl rfl⟩
  · simp at e2
    subst e2
    have hle : len ≤ m := by rw [hmm]; split <;> omega
    rw [cellsMk] at hx
    obtain ⟨X, hX⟩ := choose_lt (α := Mk) (p := fun i x => x.right ∧ (a.add (i * 2)).spot = none ∧ (a.add (i * 2)).block < W.heap.size ∧ ∀ j v, (Cel.cs x)[j]? = some v → W.cell? ⟨(a.add (i * 2)).block, (a.add (i * 2)).off + j, none⟩ = some v)
      (n := len) (fun i hi => by obtain ⟨cs', h1, h2⟩ := hx i (by omega); exact openMk h1 h2)
    obtain ⟨l, rfl, hR, hat⟩ := at_of (α := Mk) (by decide) (R := Mk.right) hX
    exact ⟨row, who, epoch, last, some a, cap, l, rfl, i64_of w0, i64_of w1, i64_of w2, i64_of w3, by simp [maxLen] at hm ⊢; omega, hR, hat⟩
end Go.Proofs.YtclgdghfcjkhfaaGreat.Gen
