/-
  The library's sort of makers by their places, at this seat: what MkTold asks of it. No condition.
-/
import Derived.Test.YtpbbpjckkccjaaaMkTold
import Derived.Test.YtpbbpjckkccjaaaShelfG
import Derived.Shelf.SlSortCmp.WholeK
import Derived.Shelf.SlicesG.Cmp
namespace Go.Proofs.Ytpbbpjckkccjaaa.Gen
open Go.ChangeShapes Go.WideShapes Go.ChangeAt Go.RowKit Go.Joins Go.Deep Base
open Go.Sort (HoldsK flatK putCells putRow putRowK grow SWO PermIn SortedIn)
set_option linter.unusedVariables false
set_option linter.unusedSimpArgs false

theorem flatK_flat {α : Type} [Inhabited α] [Cel α] (d : List α) : flatK Cel.cs (Cel.k α) d.toArray = (flat d).toArray := by
  refine Go.Sort.ext_get! (by simp [flat_length]) fun t ht => ?_
  have ht' : t < d.length * Cel.k α := by simpa using ht
  have k0 : 0 < Cel.k α := Nat.pos_of_ne_zero (fun e => by rw [e] at ht'; simp at ht')
  have hi : t / Cel.k α < d.length := (Nat.div_lt_iff_lt_mul k0).2 ht'
  have hm : t % Cel.k α < Cel.k α := Nat.mod_lt _ k0
  rw [Go.Sort.get_flatK _ _ _ t (by simpa using ht')]
  have h := flat_get d (t / Cel.k α) hi (t % Cel.k α) hm
  rw [Nat.div_add_mod' t (Cel.k α)] at h
  simp [hi, h]
theorem holdsK_block {α : Type} [Inhabited α] [Cel α] {w : World} {g : Nat} {cur : Array Value} {e : TypeId} {d : List α} (hb : w.heap[g]? = some (.cells cur e (0, 0))) (ht : cur.toList.take (d.length * Cel.k α) = flat d) : HoldsK Cel.cs (Cel.k α) w g 0 d.toArray := by
  intro j hj
  rw [flatK_flat] at hj ⊢
  have hj' : j < d.length * Cel.k α := by simpa [flat_length] using hj
  refine ⟨?_, by simp [World.frozen?, hb]⟩
  have h1 : (cur.toList.take (d.length * Cel.k α))[j]? = (flat d)[j]? := by rw [ht]
  rw [List.getElem?_take_of_lt hj'] at h1
  simp only [World.cell?, hb, Nat.zero_add]
  simp only [Option.isSome_none, Bool.false_eq_true, if_false]
  rw [← Array.getElem?_toList, h1]
  simp [flat_length, hj']
theorem take_putCells (cur : Array Value) (ts : List Value) (h : ts.length ≤ cur.size) : (putCells id 0 ts.toArray cur).toList.take ts.length = ts := by
  apply List.ext_getElem?
  intro j
  by_cases hj : j < ts.length
  · rw [List.getElem?_take_of_lt hj, Array.getElem?_toList]
    simp [putCells, hj, show j < cur.size by omega]
  · rw [List.getElem?_take_eq_none (by omega), List.getElem?_eq_none (by omega)]
theorem heap_sortedK {α : Type} [Inhabited α] {enc : α → List Value} {k : Nat} {w : World} {g n : Nat} {os : Array Obj} {cur : Array Value} {e : TypeId} {fr : Nat × Nat} (d : Array α) (hb : w.heap[g]? = some (.cells cur e fr)) :
    (sortWorldK enc k w g 0 n d os).heap[g]? = some (.cells (putCells id 0 (flatK enc k d) cur) e fr) := by
  have hg : g < w.heap.size := (Array.getElem?_eq_some_iff.1 hb).1
  unfold sortWorldK putRowK
  rw [Go.Sort.heap_grow_old _ _ (by simpa using hg)]
  simp [putRow, Go.Sort.mapBlock, Go.Sort.ahead, Array.getElem?_modify, hb, Go.Sort.onCells]
theorem offp_sortedK {α : Type} [Inhabited α] {enc : α → List Value} {k : Nat} {w : World} {g n : Nat} {os : Array Obj} (d : Array α) : Offp (fun x => x = g) w (sortWorldK enc k w g 0 n d os) := by
  refine ⟨rfl, rfl, rfl, by simp [sortWorldK, putRowK], fun j hj hne => ?_⟩
  unfold sortWorldK putRowK
  rw [Go.Sort.heap_grow_old _ _ (by simpa using hj)]
  have : g ≠ j := fun e => hne e.symm
  simp [putRow, Go.Sort.mapBlock, Go.Sort.ahead, Array.getElem?_modify, this]

def cfP (x y : PV) : Int := Lib.compareInt (x.place : Int) (y.place : Int)
theorem ltP (x y : PV) : ltOf cfP x y = decide (x.place < y.place) := by
  unfold ltOf cfP Lib.compareInt
  by_cases h1 : x.place < y.place
  · simp [h1]
  · by_cases h2 : y.place < x.place <;> simp [h1, h2]
theorem swoP : SWO (ltOf cfP) := {
  irrefl := fun x => by rw [ltP]; simp
  trans := fun x y z h1 h2 => by rw [ltP] at *; simp at *; omega
  ntrans := fun x y z h1 h2 => by rw [ltP] at *; simp at *; omega }

set_option maxHeartbeats 1000000 in
theorem byPlace (x y : PV) (W : World) : Calls Try.prog 60 #[.agg (PV.cs x).toArray, .agg (PV.cs y).toArray] W fun e w' => e = .returned (.int .i64 (cfP x y)) ∧ ∃ q os', w' = grow (W.drewN q) os' := by
  have hcon := fun W' => AnyG.cmp_Compare_int Try.cmpInt (x.place : Int) (y.place : Int) W'
  change ∀ W', Calls Try.prog 61 _ _ _ at hcon
  show Calls _ _ _ _ fun e w' => e = .returned (.int .i64 (Lib.compareInt (x.place : Int) (y.place : Int))) ∧ _
  generalize Lib.compareInt (x.place : Int) (y.place : Int) = r at hcon ⊢
  obtain ⟨p, ⟨a, b, c, d, A, m, k⟩⟩ := x
  obtain ⟨p', ⟨a', b', c', d', A', m', k'⟩⟩ := y
  simp only [PV.cs] at *
  go_enter Try.func60, Try.ntmps60
  go_wp2_with (go_at_call 61; refine (hcon _).mono ?_; rintro e w' ⟨rfl, rfl⟩)
  go_ret
  exact ⟨rfl, 0, _, by rw [Go.Sort.alloc_eq_grow, Go.Sort.alloc_eq_grow, Go.Sort.grow_grow]; rfl⟩

theorem sorts : Sorts := by
  intro Q g c d W hd hO
  obtain ⟨hlen, h | ⟨g', cap, cur, hv, hQ, hb, hn, hcap, hsz, htk⟩⟩ := hO
  · exact absurd h.1 (by simp)
  obtain ⟨e1, e2⟩ : g' = g ∧ cap = c := by simp at hv; exact ⟨hv.1.symm, hv.2.symm⟩
  subst e1 e2
  have eg : ∀ args w, (callFunc 60 args).run Try.prog w = .ok (.enter 60 args) w := enters_of Try.func60 (by kernel_rfl) rfl
  have hH : HoldsK PV.cs 6 W g' 0 d.toArray := holdsK_block hb htk
  have hcon := AnyQ.slices_SortFunc Try.sortPV 6 Try.isAgg75 Try.sizeOf75 PV.cs (fun _ => rfl) (fun x => Cel.one x) cfP swoP 60 #[] g' 0 cap d.toArray W eg (fun _ _ _ _ x y => byPlace x y _) hH (Array.getElem?_eq_some_iff.1 hb).1 (by simp; omega)
  change Calls Try.prog 59 _ _ _ at hcon
  refine hcon.mono ?_
  rintro e w' ⟨rfl, d', n, os, ⟨hs, -, hp⟩, hS, rfl⟩
  simp only [List.size_toArray] at hs hp hS
  have hp' : d'.toList.Perm d := by
    have e1 : d'.extract 0 d.length = d' := by rw [← hs]; simp
    rw [e1] at hp
    simpa using hp
  refine ⟨rfl, d'.toList, hp', ?_, ?_, offp_sortedK d'⟩
  · rw [List.pairwise_iff_getElem]
    intro i j hi hj hij
    simp only [Array.length_toList] at hi hj
    have := hS i j (Nat.zero_le _) hij (by omega)
    rw [ltP, getElem!_pos d' i hi, getElem!_pos d' j hj] at this
    simpa using this
  · have hl : d'.toList.length = d.length := hp'.length_eq
    have ef : flatK PV.cs 6 d' = (flat d'.toList).toArray := flatK_flat d'.toList
    have hfl : (flat d'.toList).length = d.length * 6 := (flat_length d'.toList).trans (by rw [hl]; rfl)
    refine ⟨hfl, .inr ⟨g', cap, _, rfl, hQ, heap_sortedK d' hb, hn, hcap, by simp [putCells, hsz], ?_⟩⟩
    rw [ef, ← hfl]
    exact take_putCells cur _ (by rw [hfl, hsz]; exact Nat.mul_le_mul_right _ hn)
end Go.Proofs.Ytpbbpjckkccjaaa.Gen
