/-
  Lists read by the program's reader: so many values one behind the other, as lists alone; what is under way. Condition: each value takes at least one byte.
-/
import Derived.Test.YtfbbifdfjjkknaaDoorRd
import Derived.Test.YtfbbifdfjjkknaaDoorGetT
import Derived.Test.YtfbbifdfjjkknaaDoorRecs
namespace Go.Proofs.YtfbbifdfjjkknaaDoor.Gen
open Go.ChangeShapes Go.WideShapes Go.ChangeAt Go.RowKit Go.Joins Go.Deep Base
set_option linter.unusedVariables false
set_option linter.unusedSimpArgs false

/-- n values one behind the other, from place c on, and the place behind them. -/
def getMany {α : Type} (get : Int → Option (α × Nat)) : Nat → Nat → Option (List α × Nat)
  | 0, c => some ([], c)
  | n + 1, c => match get (c : Int) with
    | none => none
    | some (x, d) => match getMany get n d with
      | none => none
      | some (xs, e) => some (x :: xs, e)
def addTo {α : Type} (xs : List α) (o : Option (List α × Nat)) : Option (List α × Nat) := o.map fun p => (xs ++ p.1, p.2)
theorem many_none {α : Type} {get : Int → Option (α × Nat)} {n c : Nat} (xs : List α) (h : get (c : Int) = none) : addTo xs (getMany get (n + 1) c) = none := by simp [getMany, h, addTo]
theorem many_some {α : Type} {get : Int → Option (α × Nat)} {n c d : Nat} {x : α} (xs : List α) (h : get (c : Int) = some (x, d)) : addTo xs (getMany get (n + 1) c) = addTo (xs ++ [x]) (getMany get n d) := by
  simp only [getMany, h, addTo]
  cases getMany get n d with
  | none => rfl
  | some p => simp
theorem many_end {α : Type} (get : Int → Option (α × Nat)) (c : Nat) (xs : List α) : addTo xs (getMany get 0 c) = some (xs, c) := by simp [getMany, addTo]
/-- A list of one's own. -/
def isList {α : Type} [Cel α] (t : TypeId) (B : Nat) (xs : List α) (v : Value) (W : World) : Prop := ∃ a c, v = .slice a xs.length c ∧ W.ownsRow B t (Cel.k α) (.slice a xs.length c) xs.length (flat xs)

theorem Rd.offp {S : Nat → Prop} {W W' : World} {r : Nat} {A : Option Addr} {cap : Nat} {l : List UInt8} {i : Int} (h : Rd W r A cap l i) (k : Offp S W W') (hr : ¬ S r) (hA : l = [] ∨ ∀ c o, A = some ⟨c, o, none⟩ → ¬ S c) : Rd W' r A cap l i := by
  refine ⟨h.box.offp k hr, ?_, h.i64⟩
  rcases hA with e | hA
  · exact .inl e
  · exact h.src.imp id fun ⟨c, o, e, hb, hn, hi⟩ => ⟨c, o, e, Nat.lt_of_lt_of_le hb k.size, hn, hi.offp k hb (hA c o e)⟩
theorem Rd.far' {W : World} {r : Nat} {A : Option Addr} {cap : Nat} {l : List UInt8} {i : Int} (h : Rd W r A cap l i) : r < W.heap.size ∧ (l = [] ∨ ∀ c o, A = some ⟨c, o, none⟩ → c < W.heap.size) := by
  refine ⟨h.box.lt, h.src.imp id fun ⟨b, o, e, hb, _⟩ c o' e' => ?_⟩
  rw [e] at e'
  cases e'
  exact hb
theorem owns_only' {B b : Nat} {W W' : World} {v : Value} {t : TypeId} {k n : Nat} {xs : List Value} (h : W.ownsRow B t k v n xs) (g : Only b W W') (hb : b < B) : W'.ownsRow B t k v n xs := by
  refine ⟨h.1, ?_⟩
  rcases h.2 with hz | ⟨c, c', cur, e, hB, hblk, hr⟩
  · exact .inl hz
  · subst e
    exact .inr ⟨c, c', cur, rfl, hB, (g.block c (Blk.lt (show Blk W c t cur from hblk)) (by omega)).trans hblk, hr⟩
theorem only_offp {b : Nat} {S : Nat → Prop} {w W W' : World} (h : Only b w W) (k : Offp S W W') (hS : ∀ x, S x → w.heap.size ≤ x) : Only b w W' :=
  ⟨k.os.trans h.os, k.tape.trans h.tape, k.output.trans h.output, Nat.le_trans h.size k.size, fun i hi hb => (k.block i (Nat.lt_of_lt_of_le hi h.size) (fun e => by have := hS i e; omega)).trans (h.block i hi hb)⟩

/-- What is under way: the reader, and the list so far. -/
structure RL {α : Type} [Cel α] (t : TypeId) (w W : World) (r : Nat) (A : Option Addr) (cap : Nat) (l : List UInt8) (c : Nat) (v : Value) (xs : List α) : Prop where
  rd : Rd W r A cap l (c : Int)
  only : Only r w W
  own : W.ownsRow w.heap.size t (Cel.k α) v xs.length (flat xs)
  lr : r < w.heap.size
  la : l = [] ∨ ∀ c o, A = some ⟨c, o, none⟩ → c < w.heap.size
theorem RL.app {α : Type} [Cel α] {P : Program} {ts t : TypeId} {z : Value} {bytes : Nat} (hu : P.underlying ts = some (.slice t)) (hinfo : (P.info? t).map (fun i => (i.zero, i.size, i.bytes)) = some (some z, Cel.k α, bytes)) (hz : z.cells.size = Cel.k α) (hk : 0 < Cel.k α) (hby : bytes ≤ 1000)
    {w W W1 : World} {r : Nat} {A : Option Addr} {cap : Nat} {l : List UInt8} {c d : Nat} {a : Option Addr} {cp : Nat} {xs : List α} (h : RL t w W r A cap l c (.slice a xs.length cp) xs) (o : Only r W W1) (h1 : Rd W1 r A cap l (d : Int)) (x : α) (cs : Array Value) (hcs : cs.toList = Cel.cs x) (hx : xs.length ≤ 2000000) :
    ∃ a2 c2 W2, (Builtin.append_ #[ts, ts] ts #[.slice a xs.length cp, .slice (some ⟨W1.heap.size, 0, none⟩) 1 1]).run P (W1.alloc (.cells cs t)) = .ok (.slice a2 (xs.length + 1) c2) W2 ∧ RL t w W2 r A cap l d (.slice a2 (xs.length + 1) c2) (xs ++ [x]) := by
  have hlr := h.lr
  have hw1 : w.heap.size ≤ W1.heap.size := Nat.le_trans h.only.size o.size
  have own1 := owns_alloc (owns_only' h.own o hlr) (.cells cs t)
  have hX : At (W1.alloc (.cells cs t)) (some ⟨W1.heap.size, 0, none⟩) [x] := by
    refine .inr ⟨_, 0, rfl, by simp, fun j u hu => ?_⟩
    rw [flat_one, ← hcs] at hu
    rw [Nat.zero_add]
    exact (Blk.new W1 t cs).cell (by simpa using hu)
  obtain ⟨v', W2, hr, hown, hgrow, _⟩ := append_els (P := P) hu hinfo hz hk hby w.heap.size (.slice a xs.length cp) xs [x] (some ⟨W1.heap.size, 0, none⟩) 1 _ (by simp; omega) own1 hX (by simp; omega)
  simp only [List.length_cons, List.length_nil, Nat.zero_add] at hown hr
  obtain ⟨a2, c2, rfl, _⟩ := owns_form hown
  have ko := offp_grown hgrow
  have hS : ∀ y, (Value.slice a xs.length cp).ownBlock = some y → w.heap.size ≤ y := fun y hy => (own1.lt y hy).1
  refine ⟨a2, c2, W2, hr, ⟨?_, ?_, owns_n (by simp) hown, h.lr, h.la⟩⟩
  · exact (h1.below (alloc0 (Below.refl _ _) _)).offp ko (fun e => by have := hS _ e; omega) (h.la.imp id fun f c o e e' => by have := f c o e; have := hS _ e'; omega)
  · exact only_offp ((only_trans h.only o).below (alloc0 (Below.refl _ _) _)) ko hS

def getList {α : Type} (l : List UInt8) (get : Int → Option (α × Nat)) (i : Int) : Option (List α × Nat) := match getN l i with | none => none | some (n, c) => getMany get n c
theorem getMany_le {α : Type} {l : List UInt8} {get : Int → Option (α × Nat)} (hget : ∀ (i : Nat) x c, get (i : Int) = some (x, c) → i < c ∧ c ≤ l.length) : ∀ (n c : Nat) {xs : List α} {d : Nat}, c ≤ l.length → getMany get n c = some (xs, d) → xs.length = n ∧ c + n ≤ d ∧ d ≤ l.length
  | 0, c, xs, d, hc, h => by
    simp only [getMany, Option.some.injEq, Prod.mk.injEq] at h
    obtain ⟨rfl, rfl⟩ := h
    exact ⟨rfl, Nat.le_refl _, hc⟩
  | n + 1, c, xs, d, hc, h => by
    simp only [getMany] at h
    cases hx : get (c : Int) with
    | none => simp [hx] at h
    | some p =>
    obtain ⟨x, e⟩ := p
    have h1 := hget c x e hx
    simp only [hx] at h
    cases hy : getMany get n e with
    | none => simp [hy] at h
    | some q =>
    obtain ⟨ys, f⟩ := q
    have h2 := getMany_le hget n e h1.2 hy
    simp only [hy, Option.some.injEq, Prod.mk.injEq] at h
    obtain ⟨rfl, rfl⟩ := h
    simp only [List.length_cons]
    omega
theorem getList_le {α : Type} {l : List UInt8} {get : Int → Option (α × Nat)} (hget : ∀ (i : Nat) x c, get (i : Int) = some (x, c) → i < c ∧ c ≤ l.length) {i : Int} {xs : List α} {d : Nat} (h : getList l get i = some (xs, d)) : i < (d : Int) ∧ d ≤ l.length ∧ xs.length ≤ l.length := by
  unfold getList at h
  cases hx : getN l i with
  | none => simp [hx] at h
  | some p =>
  obtain ⟨n, c⟩ := p
  have h1 := getN_le hx
  simp only [hx] at h
  have h2 := getMany_le hget n c h1.2.2.2.1 h
  omega
theorem isList.mono {α : Type} [Cel α] {t : TypeId} {B B' : Nat} {xs : List α} {v : Value} {W : World} (h : isList t B xs v W) (hB : B' ≤ B) : isList t B' xs v W := by
  obtain ⟨a, c, rfl, ho⟩ := h
  refine ⟨a, c, rfl, ho.1, ?_⟩
  rcases ho.2 with hz | ⟨b, c', cur, e, hb, hblk, hr⟩
  · exact .inl hz
  · exact .inr ⟨b, c', cur, e, Nat.le_trans hB hb, hblk, hr⟩

end Go.Proofs.YtfbbifdfjjkknaaDoor.Gen
