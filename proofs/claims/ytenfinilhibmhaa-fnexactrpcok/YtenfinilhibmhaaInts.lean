/-
  Lists of numbers: how they lie, and what the laws' to, sz, eq, mark and held functions of them do. No condition but that there are at most 1048576.
-/
import Derived.Test.YtenfinilhibmhaaGen
namespace Go.Proofs.Ytenfinilhibmhaa.Gen
open Go.ChangeShapes Go.WideShapes Go.ChangeAt Go.RowKit Go.Joins Go.Deep Base
set_option linter.unusedVariables false

instance : Cel Int where
  k := 1
  cs x := [.int .i64 x]
  len _ := rfl
  one x u hu := by simp at hu; subst hu; rfl

theorem In.getInt {w : World} {b o : Nat} {l : List Int} (h : In w b o l) (i : Nat) (hi : i < l.length) : w.cell? ⟨b, o + i, none⟩ = some (.int .i64 l[i]) := by
  have := h.cell i hi (f := 0) rfl
  have e : o + i * Cel.k Int + 0 = o + i := by show o + i * 1 + 0 = o + i; omega
  rwa [e] at this
theorem there_int {w : World} {b o m n : Nat} (h : w.there b o (m * 1)) (hn : n < m) : (∃ v, w.cell? ⟨b, o + n, none⟩ = some v) ∧ w.frozen? ⟨b, o + n, none⟩ = false := by
  have := there_at (f := 0) h hn (by omega)
  rwa [Nat.mul_one, Nat.add_zero] at this

theorem infoInt : (Try.prog.info? 3).map (fun i => (i.zero, i.size, i.bytes)) = some (some (.int .i64 0), 1, 8) := by kernel_rfl
theorem cellsInt : Try.prog.cellsOf 3 = 1 := by kernel_rfl


theorem store_int {w : World} {b : Nat} {l : List Int} {n : Nat} (hin : In w b 0 (l.take n)) (hth : w.there b 0 (l.length * 1)) (hn : n < l.length) :
    In (w.setCell ⟨b, n, none⟩ (.int .i64 l[n])) b 0 (l.take (n + 1)) ∧ (w.setCell ⟨b, n, none⟩ (.int .i64 l[n])).there b 0 (l.length * 1) := by
  have h := store_el hin hth hn
  have e : w.setCells b (n * Cel.k Int) (Cel.cs l[n]) = w.setCell ⟨b, n, none⟩ (.int .i64 l[n]) := by
    show (w.setCell ⟨b, n * 1, none⟩ (.int .i64 l[n])) = _
    rw [Nat.mul_one]
  rw [e] at h
  exact h

/-- The numbers from z on. -/
def marksInt (n : Nat) (z : Int) : List Int := (List.range n).map fun (i : Nat) => z + (i : Int)
theorem marksInt_length (n : Nat) (z : Int) : (marksInt n z).length = n := by simp [marksInt]
theorem marksInt_succ (n : Nat) (z : Int) : marksInt (n + 1) z = marksInt n z ++ [z + (n : Int)] := by simp [marksInt, List.range_succ]
theorem marksInt_get (n : Nat) (z : Int) (i : Nat) (h : i < (marksInt n z).length) : (marksInt n z)[i] = z + (i : Int) := by simp [marksInt]

theorem openInt1 {H : Type} {enc : TypeId × Value → H} {w : World} {base n : Nat} {spare : Nat → Bool} {held : Bool} {a : Addr} {cs : List Value} {y : DataW H × List MemPlace}
    (h1 : w.cells? base a 1 = some cs) (h2 : DataW.trod enc Try.prog w base spare held n 3 cs = some y) :
    ∃ x : Int, I64 x ∧ a.spot = none ∧ a.block < w.heap.size ∧ ∀ j v, (Cel.cs x)[j]? = some v → w.cell? ⟨a.block, a.off + j, none⟩ = some v := by
  obtain ⟨_, hlen, hc⟩ := World.cells?_some h1
  match cs, hlen with
  | [c0], _ =>
    obtain ⟨x, e0, _, w0⟩ := DataW.trod_int Try.underlying3 h2
    simp at e0
    subst e0
    have q0 := hc 0 (by omega)
    have hsp : a.spot = none := by
      cases hs : a.spot with
      | none => rfl
      | some s => exfalso; simp [Addr.add, World.cell?, hs] at q0; split at q0 <;> simp at q0
    have hlt : a.block < w.heap.size := by
      rw [show a.add 0 = a from rfl] at q0
      unfold World.cell? at q0
      cases hh : w.heap[a.block]? with
      | none => simp [hh] at q0
      | some ob => exact (Array.getElem?_eq_some_iff.1 hh).1
    refine ⟨x, i64_of w0, hsp, hlt, ?_⟩
    intro j v hv
    have hj : j < 1 := (List.getElem?_eq_some_iff.1 hv).1
    have q := hc j hj
    have e : a.add j = ⟨a.block, a.off + j, none⟩ := by
      obtain ⟨b, o, s⟩ := a
      simp only at hsp
      subst hsp
      exact Addr.add_mid b o j
    rw [e] at q
    rw [q]
    exact hv

theorem openInts {H : Type} {enc : TypeId × Value → H} {W : World} {base n : Nat} {spare : Nat → Bool} {held : Bool} {c : Value} {y : DataW H × List MemPlace}
    (g : DataW.trod enc Try.prog W base spare held n 42 [c] = some y) :
    ∃ (A : Option Addr) (cap : Nat) (l : List Int), c = .slice A l.length cap ∧ l.length ≤ 9223372036854775807 ∧ (∀ x ∈ l, I64 x) ∧ At W A l := by
  rcases open_slice Try.underlying42 g with ⟨e2, _⟩ | ⟨a, len, cap, m, n', D, Pl, e2, _, hl, hm, hmm, _, hx⟩
  · simp at e2
    subst e2
    exact ⟨none, 0, [], rfl, by simp, by simp, .inl rfl⟩
  · simp at e2
    subst e2
    have hle : len ≤ m := by rw [hmm]; split <;> omega
    rw [cellsInt] at hx
    obtain ⟨X, hX⟩ := choose_lt (α := Int) (p := fun i x => I64 x ∧ (a.add (i * 1)).spot = none ∧ (a.add (i * 1)).block < W.heap.size ∧ ∀ j v, (Cel.cs x)[j]? = some v → W.cell? ⟨(a.add (i * 1)).block, (a.add (i * 1)).off + j, none⟩ = some v)
      (n := len) (fun i hi => by obtain ⟨cs', h1, h2⟩ := hx i (by omega); exact openInt1 h1 h2)
    obtain ⟨l, rfl, hR, hat⟩ := at_of (α := Int) (by decide) (R := I64) hX
    exact ⟨some a, cap, l, rfl, by simp [maxLen] at hm ⊢; omega, hR, hat⟩
end Go.Proofs.Ytenfinilhibmhaa.Gen
