/-
  A laws.Row argument opened: its numbers, and its items as they lie. No condition.
-/
import Derived.Test.YtclgdghfcjkhfaaGreatRowSz
import Derived.Test.YtclgdghfcjkhfaaGreatOpen
import Derived.Deep.Slices
namespace Go.Proofs.YtclgdghfcjkhfaaGreat.Items
open Go.ChangeShapes Go.WideShapes Go.ChangeAt Go.RowKit Go.Joins Go.Deep Base
set_option linter.unusedVariables false

instance : Inhabited It := ⟨⟨0, ⟨#[]⟩, ⟨#[]⟩, 0, 0⟩⟩

/-- The items l lie where A leads. -/
abbrev At (w : World) (A : Option Addr) (l : List It) : Prop := l = [] ∨ ∃ b o, A = some ⟨b, o, none⟩ ∧ b < w.heap.size ∧ In w b o l
theorem At.below {w w' : World} {A : Option Addr} {l : List It} (h : At w A l) (hw : Below w.heap.size w w') : At w' A l :=
  h.imp id fun ⟨b, o, e, hb, hi⟩ => ⟨b, o, e, Nat.lt_of_lt_of_le hb hw.size, hi.below hb hw⟩

def I64 (x : Int) : Prop := -9223372036854775808 ≤ x ∧ x ≤ 9223372036854775807
theorem i64_of {x : Int} (hx : (Lit.int .i64 x).wf = true) : I64 x := by simpa [I64, Lit.wf, IntKind.min, IntKind.max, IntKind.signed, IntKind.bits] using hx
/-- What every item that is handed in keeps. -/
def It.right (x : It) : Prop := I64 x.off ∧ I64 x.who ∧ I64 x.time ∧ x.key.size ≤ 9223372036854775807 ∧ x.text.size ≤ 9223372036854775807

theorem fields_at {H : Type} {enc : TypeId × Value → H} {P : Program} {w : World} {base : Nat} {spare : Nat → Bool} {held : Bool} {t : TypeId} {fs : Array Field} {cs : List Value} {fuel : Nat} {x : DataW H × List MemPlace}
    (hs : P.underlying t = some (.struct fs)) (hone : oneCellFields P fs = true) (h : DataW.trod enc P w base spare held fuel t cs = some x) :
    ∃ n, ∀ (i : Nat) (f : Field), fs[i]? = some f → ∀ c, cs[i]? = some c → ∃ y, DataW.trod enc P w base spare held n f.type [c] = some y := by
  obtain ⟨xs, n, _, _, hl, hlen, hf⟩ := DataW.trod_struct hs h
  refine ⟨n, fun i f hi c hc => ?_⟩
  obtain ⟨o, k⟩ := hone_of hone i f hi
  have hlt : i < fs.size := (Array.getElem?_eq_some_iff.1 hi).1
  have g := hf i f hi
  rw [o, k] at g
  have e : cs.drop i = c :: cs.drop (i + 1) := by
    obtain ⟨h1, h2⟩ := List.getElem?_eq_some_iff.1 hc
    rw [List.drop_eq_getElem_cons h1, h2]
  rw [e] at g
  exact ⟨xs[i]'(by omega), by rw [← List.getElem?_eq_getElem]; simpa using g⟩

theorem cellsItem : Tryz.prog.cellsOf 237 = 5 := by kernel_rfl
theorem cellsRow : Tryz.prog.cellsOf 153 = 3 := by kernel_rfl

set_option maxRecDepth 100000 in
theorem item_of {H : Type} {enc : TypeId × Value → H} {w : World} {base n : Nat} {spare : Nat → Bool} {held : Bool} {a : Addr} {cs : List Value} {y : DataW H × List MemPlace}
    (h1 : w.cells? base a 5 = some cs) (h2 : DataW.trod enc Tryz.prog w base spare held n 237 cs = some y) :
    ∃ x : It, x.right ∧ a.spot = none ∧ a.block < w.heap.size ∧ ∀ j v, x.cs[j]? = some v → w.cell? ⟨a.block, a.off + j, none⟩ = some v := by
  obtain ⟨_, hlen, hc⟩ := World.cells?_some h1
  match cs, hlen with
  | [c0, c1, c2, c3, c4], _ =>
    obtain ⟨m, hf⟩ := fields_at Tryz.underlying237 (by kernel_rfl) h2
    obtain ⟨y0, g0⟩ := hf 0 _ rfl _ rfl
    obtain ⟨y1, g1⟩ := hf 1 _ rfl _ rfl
    obtain ⟨y2, g2⟩ := hf 2 _ rfl _ rfl
    obtain ⟨y3, g3⟩ := hf 3 _ rfl _ rfl
    obtain ⟨y4, g4⟩ := hf 4 _ rfl _ rfl
    obtain ⟨off, e0, _, w0⟩ := DataW.trod_int Tryz.underlying3 g0
    obtain ⟨k, e1, _, w1⟩ := DataW.trod_string Tryz.underlying9 g1
    obtain ⟨t, e2, _, w2⟩ := DataW.trod_string Tryz.underlying9 g2
    obtain ⟨who, e3, _, w3⟩ := DataW.trod_int Tryz.underlying3 g3
    obtain ⟨time, e4, _, w4⟩ := DataW.trod_int Tryz.underlying3 g4
    simp at e0 e1 e2 e3 e4
    subst e0 e1 e2 e3 e4
    have q0 := hc 0 (by omega)
    have hsp : a.spot = none := by
      cases hs : a.spot with
      | none => rfl
      | some s => exfalso; simp [Addr.add, World.cell?, hs] at q0; split at q0 <;> simp at q0
    have hlt : a.block < w.heap.size := by
      rw [show a.add 0 = a from rfl] at q0
      unfold World.cell? at q0
      cases hh : w.heap[a.block]? with
      | none => simp [hh] at q0
      | some ob => exact (Array.getElem?_eq_some_iff.1 hh).1
    refine ⟨⟨off, k, t, who, time⟩, ⟨i64_of w0, i64_of w3, i64_of w4, by simpa [maxLen] using w1, by simpa [maxLen] using w2⟩, hsp, hlt, ?_⟩
    intro j v hv
    have hj : j < 5 := (List.getElem?_eq_some_iff.1 hv).1
    have q := hc j hj
    have e : a.add j = ⟨a.block, a.off + j, none⟩ := by
      obtain ⟨b, o, s⟩ := a
      simp only at hsp
      subst hsp
      exact Addr.add_mid b o j
    rw [e] at q
    rw [q]
    exact hv

set_option maxRecDepth 100000 in
theorem open_row {H : Type} {enc : TypeId × Value → H} {W : World} {base b0 : Nat} {r : Reach} {spare : Nat → Bool} {held : Bool} {v : Value} {d : DataW H} {p : List MemPlace}
    (hv : Value.okWide Tryz.prog W r b0 153 v) (h : DataW.Trod enc Tryz.prog W base spare held 153 v d p) :
    ∃ (start next : Int) (A : Option Addr) (cap : Nat) (l : List It), v = .agg #[.int .i64 start, .int .i64 next, .slice A l.length cap] ∧ I64 start ∧ I64 next ∧ l.length ≤ 9223372036854775807 ∧ (∀ x ∈ l, x.right) ∧ At W A l := by
  obtain ⟨cs, rfl, hsz⟩ := okWide_struct Tryz.underlying153 hv
  rw [cellsRow] at hsz
  obtain ⟨c0, c1, c2, rfl⟩ : ∃ c0 c1 c2, cs = #[c0, c1, c2] := by
    obtain ⟨l⟩ := cs
    match l, hsz with
    | [c0, c1, c2], _ => exact ⟨c0, c1, c2, rfl⟩
  obtain ⟨n, hf⟩ := fields_of Tryz.underlying153 (by kernel_rfl) h
  obtain ⟨y0, g0⟩ := hf 0 _ rfl _ rfl
  obtain ⟨y1, g1⟩ := hf 1 _ rfl _ rfl
  obtain ⟨y2, g2⟩ := hf 2 _ rfl _ rfl
  obtain ⟨start, e0, _, w0⟩ := DataW.trod_int Tryz.underlying3 g0
  obtain ⟨next, e1, _, w1⟩ := DataW.trod_int Tryz.underlying3 g1
  simp at e0 e1
  subst e0 e1
  rcases open_slice Tryz.underlying151 g2 with ⟨e2, _⟩ | ⟨a, len, cap, m, n', D, Pl, e2, _, hl, hm, hmm, _, hx⟩
  · simp at e2
    subst e2
    exact ⟨start, next, none, 0, [], rfl, i64_of w0, i64_of w1, by simp, by simp, .inl rfl⟩
  · simp at e2
    subst e2
    have hle : len ≤ m := by rw [hmm]; split <;> omega
    rw [cellsItem] at hx
    obtain ⟨X, hX⟩ := choose_lt (α := It) (p := fun i x => x.right ∧ (a.add (i * 5)).spot = none ∧ (a.add (i * 5)).block < W.heap.size ∧ ∀ j v, x.cs[j]? = some v → W.cell? ⟨(a.add (i * 5)).block, (a.add (i * 5)).off + j, none⟩ = some v)
      (n := len) (fun i hi => by obtain ⟨cs', h1, h2⟩ := hx i (by omega); exact item_of h1 h2)
    refine ⟨start, next, some a, cap, (List.range len).map X, by simp, i64_of w0, i64_of w1, by simp [maxLen] at hm ⊢; omega, ?_, ?_⟩
    · intro x hxm
      obtain ⟨i, hi, rfl⟩ := List.mem_map.1 hxm
      exact (hX i (by simpa using hi)).1
    · by_cases h0 : len = 0
      · left; simp [h0]
      · right
        obtain ⟨_, hs, hb, _⟩ := hX 0 (by omega)
        rw [Nat.zero_mul, show a.add 0 = a from rfl] at hs hb
        obtain ⟨b, o, s⟩ := a
        simp only at hs hb
        subst hs
        refine ⟨b, o, rfl, hb, ?_⟩
        intro j v hv
        have hj : j < ((List.range len).map X).length * 5 := by
          rw [← flat_length]; exact (List.getElem?_eq_some_iff.1 hv).1
        simp at hj
        have hd : j = j / 5 * 5 + j % 5 := by omega
        have hq : j / 5 < len := by omega
        rw [hd, flat_get _ (j / 5) (by simpa using hq) (j % 5) (by omega)] at hv
        obtain ⟨_, _, _, hc⟩ := hX (j / 5) hq
        have := hc (j % 5) v (by simpa using hv)
        rw [Addr.add_mid] at this
        rw [hd, ← Nat.add_assoc]
        exact this
end Go.Proofs.YtclgdghfcjkhfaaGreat.Items
