/-
  Lists of records in memory, whatever the record is: so many cells each. No condition.
-/
import Derived.Test.YtclgdghfcjkhfaaGreatRows
import Derived.Test.YtclgdghfcjkhfaaGreatOpen
import Derived.Deep.MidRow
import Derived.Laws.MakeOwn
import Derived.Deep.RegionHeld3
import Derived.Deep.AppendLies
import Derived.Deep.Upon
import Derived.Deep.Slices
import Derived.Test.YtclgdghfcjkhfaaGreatBase
namespace Go.Proofs.YtclgdghfcjkhfaaGreat.Gen
open Go.ChangeShapes Go.WideShapes Go.ChangeAt Go.RowKit Go.Joins Go.Deep Base
set_option linter.unusedVariables false

theorem via0 {a b c : World} (k : Below b.heap.size b c) (h : Below a.heap.size a b) : Below a.heap.size a c := h.trans (k.mono h.size)
theorem alloc0 {a b : World} (h : Below a.heap.size a b) (o : Obj) : Below a.heap.size a (b.alloc o) := h.alloc h.size o
theorem hidP {p : Prop} (h : p) : Hid p := h
theorem bl_set {n : Nat} {a b : World} (h : Below n a b) {B i : Nat} (hn : n ≤ B) (v : Value) : Below n a (b.setCell ⟨B, i, none⟩ v) := h.setCell (p := ⟨B, i, none⟩) hn v

/-- A record of k cells. -/
class Cel (α : Type) where
  k : Nat
  cs : α → List Value
  len : ∀ x, (cs x).length = k
  one : ∀ x, ∀ u ∈ cs x, u.oneCell' = true

section
variable {α : Type} [Cel α]

def flat (l : List α) : List Value := l.flatMap Cel.cs
theorem flat_length (l : List α) : (flat l).length = l.length * Cel.k α := by
  induction l with
  | nil => simp [flat]
  | cons a l ih => simp only [flat, List.flatMap_cons, List.length_append, List.length_cons] at ih ⊢; rw [ih, Cel.len, Nat.add_mul, Nat.one_mul, Nat.add_comm]
theorem flat_append (l m : List α) : flat (l ++ m) = flat l ++ flat m := by simp [flat]
theorem flat_one (x : α) : flat [x] = Cel.cs x := by simp [flat]
theorem flat_cons (x : α) (l : List α) : flat (x :: l) = Cel.cs x ++ flat l := by simp [flat]
theorem flat_ones (l : List α) : ∀ u ∈ flat l, u.oneCell' = true := by
  intro u hu
  obtain ⟨x, _, hx⟩ := List.mem_flatMap.1 hu
  exact Cel.one x u hx

theorem flat_get (l : List α) : ∀ (i : Nat) (h : i < l.length) (f : Nat), f < Cel.k α → (flat l)[i * Cel.k α + f]? = (Cel.cs l[i])[f]? := by
  induction l with
  | nil => intro i h; simp at h
  | cons a l ih =>
    intro i h f hf
    rw [flat_cons]
    cases i with
    | zero => rw [List.getElem?_append_left (by rw [Cel.len]; omega)]; simp
    | succ i =>
      rw [List.getElem?_append_right (by rw [Cel.len, Nat.add_mul]; omega), Cel.len]
      have e : (i + 1) * Cel.k α + f - Cel.k α = i * Cel.k α + f := by rw [Nat.add_mul]; omega
      rw [e, ih i (by simpa using h) f hf]; simp

/-- The records l lie in block b from offset o on. -/
def In (w : World) (b o : Nat) (l : List α) : Prop := w.rangeAt b o (flat l)
theorem In.cell {w : World} {b o : Nat} {l : List α} (h : In w b o l) (i : Nat) (hi : i < l.length) {f : Nat} {v : Value} (hv : (Cel.cs l[i])[f]? = some v) : w.cell? ⟨b, o + i * Cel.k α + f, none⟩ = some v := by
  have hf : f < Cel.k α := by have := (List.getElem?_eq_some_iff.1 hv).1; rwa [Cel.len] at this
  have := h (i * Cel.k α + f) v (by rw [flat_get l i hi f hf]; exact hv)
  rwa [← Nat.add_assoc] at this
theorem In.below {w w' : World} {b o : Nat} {l : List α} (h : In w b o l) (hb : b < w.heap.size) (hw : Below w.heap.size w w') : In w' b o l :=
  fun j v hv => (hw.cell (p := ⟨b, o + j, none⟩) hb).trans (h j v hv)
theorem In.nil (w : World) (b o : Nat) : In w b o ([] : List α) := fun j v hv => by simp [flat] at hv
theorem In.set {w : World} {b o : Nat} {l : List α} (h : In w b o l) (p : Addr) (v : Value) (hp : p.block ≠ b) : In (w.setCell p v) b o l := fun j u hu => by
  rw [World.cell?_setCell_other (h := fun e => hp (by rw [e]))]; exact h j u hu
theorem In.tail {w : World} {b o : Nat} {x : α} {l : List α} (h : In w b o (x :: l)) : In w b (o + Cel.k α) l := fun j v hv => by
  have := h (Cel.k α + j) v (by rw [flat_cons, List.getElem?_append_right (by rw [Cel.len]; omega), Cel.len]; simpa using hv)
  rwa [← Nat.add_assoc] at this
theorem In.drop {w : World} {b o : Nat} : ∀ (j : Nat) {l : List α}, In w b o l → In w b (o + j * Cel.k α) (l.drop j)
  | 0, l, h => by simpa using h
  | j + 1, [], h => by intro k v hv; simp [flat] at hv
  | j + 1, x :: l, h => by
    have := In.drop j h.tail
    rw [List.drop_succ_cons, show o + (j + 1) * Cel.k α = o + Cel.k α + j * Cel.k α by rw [Nat.add_mul]; omega]
    exact this

/-- The records l lie where A leads. -/
abbrev At (w : World) (A : Option Addr) (l : List α) : Prop := l = [] ∨ ∃ b o, A = some ⟨b, o, none⟩ ∧ b < w.heap.size ∧ In w b o l
theorem At.below {w w' : World} {A : Option Addr} {l : List α} (h : At w A l) (hw : Below w.heap.size w w') : At w' A l :=
  h.imp id fun ⟨b, o, e, hb, hi⟩ => ⟨b, o, e, Nat.lt_of_lt_of_le hb hw.size, hi.below hb hw⟩

theorem rangeAt_append {w : World} {b o : Nat} {xs ys : List Value} (h1 : w.rangeAt b o xs) (h2 : w.rangeAt b (o + xs.length) ys) : w.rangeAt b o (xs ++ ys) := fun j v hv => by
  by_cases hj : j < xs.length
  · exact h1 j v (by rwa [List.getElem?_append_left hj] at hv)
  · rw [List.getElem?_append_right (by omega)] at hv
    have := h2 (j - xs.length) v hv
    have e : o + xs.length + (j - xs.length) = o + j := by omega
    rwa [e] at this
theorem rangeAt_below {w w' : World} {b o : Nat} {cs : List Value} (h : w.rangeAt b o cs) (hb : b < w.heap.size) (hw : Below w.heap.size w w') : w'.rangeAt b o cs :=
  fun j v hv => (hw.cell (p := ⟨b, o + j, none⟩) hb).trans (h j v hv)
theorem there_below {w w' : World} {b o n : Nat} (h : w.there b o n) (hb : b < w.heap.size) (hw : Below w.heap.size w w') : w'.there b o n := fun j hj => by
  rw [hw.cell (p := ⟨b, o + j, none⟩) hb, hw.frozen (p := ⟨b, o + j, none⟩) hb]
  exact h j hj
theorem there_set {w : World} {b o n : Nat} (h : w.there b o n) (b' o' : Nat) (v : Value) : (w.setCell ⟨b', o', none⟩ v).there b o n := World.there_setCells h b' o' [v]
/-- A cell of a list that may be written. -/
theorem there_at {w : World} {b o k m n f : Nat} (h : w.there b o (m * k)) (hn : n < m) (hf : f < k) : (∃ v, w.cell? ⟨b, o + n * k + f, none⟩ = some v) ∧ w.frozen? ⟨b, o + n * k + f, none⟩ = false := by
  have hlt : n * k + f < m * k := by have : (n + 1) * k ≤ m * k := Nat.mul_le_mul_right k hn; rw [Nat.add_mul] at this; omega
  have := h (n * k + f) hlt
  rw [← Nat.add_assoc] at this
  exact ⟨Option.isSome_iff_exists.1 this.1, this.2⟩

/-- A record stored behind those that are there. -/
theorem store_el {w : World} {b : Nat} {l : List α} {n : Nat} (hin : In w b 0 (l.take n)) (hth : w.there b 0 (l.length * Cel.k α)) (hn : n < l.length) :
    In (w.setCells b (n * Cel.k α) (Cel.cs l[n])) b 0 (l.take (n + 1)) ∧ (w.setCells b (n * Cel.k α) (Cel.cs l[n])).there b 0 (l.length * Cel.k α) := by
  have hlen : (flat (l.take n)).length = n * Cel.k α := by rw [flat_length, List.length_take, Nat.min_eq_left (by omega)]
  refine ⟨?_, World.there_setCells hth _ _ _⟩
  unfold In
  rw [List.take_succ_eq_append_getElem hn, flat_append, flat_one]
  refine rangeAt_append (World.rangeAt_setCells_apart hin _ _ _ (.inr (.inl (by rw [hlen]; omega)))) ?_
  rw [hlen, Nat.zero_add]
  refine World.rangeAt_setCells_same _ _ _ _ fun j hj => ?_
  have hj' : j < Cel.k α := by rwa [Cel.len] at hj
  have hlt : n * Cel.k α + j < l.length * Cel.k α := by have : (n + 1) * Cel.k α ≤ l.length * Cel.k α := Nat.mul_le_mul_right _ hn; rw [Nat.add_mul] at this; omega
  have := hth (n * Cel.k α + j) hlt
  rwa [Nat.zero_add] at this

/-- What new memory holds: the slice value of the records l in a block that is not below B, and may be written. -/
def Fresh (B : Nat) (w : World) (v : Value) (l : List α) : Prop :=
  ∃ (A : Option Addr) (c : Nat), v = .slice A l.length c ∧ l.length ≤ c ∧ (l = [] ∨ ∃ b o, A = some ⟨b, o, none⟩ ∧ B ≤ b ∧ b < w.heap.size ∧ In w b o l ∧ w.there b o (l.length * Cel.k α))
theorem Fresh.below {B : Nat} {w w' : World} {v : Value} {l : List α} (h : Fresh B w v l) (hw : Below w.heap.size w w') : Fresh B w' v l := by
  obtain ⟨A, c, rfl, hc, h⟩ := h
  refine ⟨A, c, rfl, hc, ?_⟩
  rcases h with h | ⟨b, o, rfl, hB, hb, hi, ht⟩
  · exact .inl h
  · exact .inr ⟨b, o, rfl, hB, Nat.lt_of_lt_of_le hb hw.size, hi.below hb hw, there_below ht hb hw⟩
theorem Fresh.at {B : Nat} {w : World} {A : Option Addr} {n c : Nat} {l : List α} (h : Fresh B w (.slice A n c) l) : At w A l := by
  obtain ⟨A', c', e, _, h⟩ := h
  cases e
  exact h.imp id fun ⟨b, o, e, _, hb, hi, _⟩ => ⟨b, o, e, hb, hi⟩
theorem Fresh.set {B C i : Nat} {w : World} {v u : Value} {l : List α} (h : Fresh B w v l) (hne : ∀ o n c, v ≠ .slice (some ⟨C, o, none⟩) n c) : Fresh B (w.setCell ⟨C, i, none⟩ u) v l := by
  obtain ⟨A, c, rfl, hc, h⟩ := h
  refine ⟨A, c, rfl, hc, h.imp id ?_⟩
  rintro ⟨b, o, rfl, hB, hb, hi, ht⟩
  have hCb : C ≠ b := fun e => by subst e; exact hne _ _ _ rfl
  exact ⟨b, o, rfl, hB, by simpa using hb, hi.set ⟨C, i, none⟩ u hCb, there_set ht C i u⟩
theorem Fresh.mono {B C : Nat} {w : World} {v : Value} {l : List α} (h : Fresh B w v l) (hC : C ≤ B) : Fresh C w v l := by
  obtain ⟨A, c, rfl, hc, h⟩ := h
  exact ⟨A, c, rfl, hc, h.imp id fun ⟨b, o, e, hB, hb, hi, ht⟩ => ⟨b, o, e, by omega, hb, hi, ht⟩⟩
end

/-- Of what was there one block alone may have turned. -/
structure Only (b : Nat) (w w' : World) : Prop where
  os : w'.os = w.os
  tape : w'.tape = w.tape
  output : w'.output = w.output
  size : w.heap.size ≤ w'.heap.size
  block : ∀ k, k < w.heap.size → k ≠ b → w'.heap[k]? = w.heap[k]?
theorem Only.refl (b : Nat) (w : World) : Only b w w := ⟨rfl, rfl, rfl, Nat.le_refl _, fun _ _ _ => rfl⟩
theorem Only.below {b : Nat} {w w1 w2 : World} (h : Only b w w1) (k : Below w1.heap.size w1 w2) : Only b w w2 :=
  ⟨k.os.trans h.os, k.tape.trans h.tape, k.output.trans h.output, Nat.le_trans h.size k.size, fun i hi hb => (k.block i (Nat.lt_of_lt_of_le hi h.size)).trans (h.block i hi hb)⟩
theorem Only.set {b : Nat} {w w1 : World} (h : Only b w w1) (o : Nat) (v : Value) : Only b w (w1.setCell ⟨b, o, none⟩ v) :=
  ⟨h.os, h.tape, h.output, by simpa using h.size, fun i hi hb => (Below.heap_setCell w1 ⟨b, o, none⟩ v i hb).trans (h.block i hi hb)⟩
theorem Only.toBelow {b B : Nat} {w w1 : World} (h : Only b w w1) (hB : B ≤ b) (hw : B ≤ w.heap.size) : Below B w w1 :=
  ⟨h.os, h.tape, h.output, h.size, fun i hi => h.block i (by omega) (by omega)⟩
theorem Only.cell {b : Nat} {w w1 : World} (h : Only b w w1) {p : Addr} (hp : p.block < w.heap.size) (hb : p.block ≠ b) : w1.cell? p = w.cell? p := World.cell?_of_block (h.block p.block hp hb)
theorem Only.frozen {b : Nat} {w w1 : World} (h : Only b w w1) {p : Addr} (hp : p.block < w.heap.size) (hb : p.block ≠ b) : w1.frozen? p = w.frozen? p := World.frozen?_of_block (h.block p.block hp hb)
theorem In.only {α : Type} [Cel α] {b c o : Nat} {w w1 : World} {l : List α} (h : In w c o l) (k : Only b w w1) (hc : c < w.heap.size) (hb : c ≠ b) : In w1 c o l :=
  fun j v hv => (k.cell (p := ⟨c, o + j, none⟩) hc hb).trans (h j v hv)
theorem there_only {b c o n : Nat} {w w1 : World} (h : w.there c o n) (k : Only b w w1) (hc : c < w.heap.size) (hb : c ≠ b) : w1.there c o n := fun j hj => by
  rw [k.cell (p := ⟨c, o + j, none⟩) hc hb, k.frozen (p := ⟨c, o + j, none⟩) hc hb]; exact h j hj
/-- A cell written behind those that are there. -/
theorem push {w : World} {b o q m : Nat} {cs : List Value} {v : Value} (h : w.rangeAt b o cs ∧ w.there b o m ∧ b < w.heap.size) (hl : cs.length < m) (hq : q = o + cs.length) :
    (w.setCell ⟨b, q, none⟩ v).rangeAt b o (cs ++ [v]) ∧ (w.setCell ⟨b, q, none⟩ v).there b o m ∧ b < (w.setCell ⟨b, q, none⟩ v).heap.size := by
  subst hq
  obtain ⟨h, ht, hb⟩ := h
  refine ⟨rangeAt_append (World.rangeAt_setCells_apart h b (o + cs.length) [v] (.inr (.inl (Nat.le_refl _)))) (World.rangeAt_setCells_same w b (o + cs.length) [v] fun j hj => ?_), World.there_setCells ht b _ [v], by simpa using hb⟩
  have hj' : j = 0 := by simp at hj; exact hj
  subst hj'
  exact ht cs.length hl
theorem pushcall {w w' : World} {b o m : Nat} {cs : List Value} (h : w.rangeAt b o cs ∧ w.there b o m ∧ b < w.heap.size) (k : Below w.heap.size w w') : w'.rangeAt b o cs ∧ w'.there b o m ∧ b < w'.heap.size :=
  ⟨rangeAt_below h.1 h.2.2 k, there_below h.2.1 h.2.2 k, Nat.lt_of_lt_of_le h.2.2 k.size⟩
theorem lt_set {b n : Nat} {w : World} {p : Addr} {v : Value} (h : b < w.heap.size) (k : (w.setCell p v).heap.size ≤ n) : b < n := by simp at k; omega

/-! ### Blocks of one's own -/

theorem heap_new (w : World) (o : Obj) : (w.alloc o).heap[w.heap.size]? = some o := by
  show (w.heap.push o)[w.heap.size]? = some o
  simp

def Blk (W : World) (B : Nat) (t : TypeId) (vs : Array Value) : Prop := W.heap[B]? = some (.cells vs t (0, 0))
theorem Blk.lt {W : World} {B : Nat} {t : TypeId} {vs : Array Value} (h : Blk W B t vs) : B < W.heap.size := (Array.getElem?_eq_some_iff.1 h).1
theorem Blk.cell {W : World} {B : Nat} {t : TypeId} {vs : Array Value} (h : Blk W B t vs) {i : Nat} {v : Value} (hv : vs[i]? = some v) : W.cell? ⟨B, i, none⟩ = some v := by simp [World.cell?, show W.heap[B]? = _ from h, hv]
theorem Blk.new (W : World) (t : TypeId) (vs : Array Value) : Blk (W.alloc (.cells vs t)) W.heap.size t vs := heap_new W _
theorem Blk.kept {W W' : World} {row : Option Nat} {B : Nat} {t : TypeId} {vs : Array Value} (h : Blk W B t vs) (hg : W.grownBy W' row) (hne : some B ≠ row) : Blk W' B t vs := (hg.block B h.lt hne).trans h
theorem Blk.alloc {W : World} {B : Nat} {t : TypeId} {vs : Array Value} (h : Blk W B t vs) (o : Obj) : Blk (W.alloc o) B t vs := h.kept (World.grownBy_alloc W o none) (by simp)
theorem Blk.other {W : World} {B B' : Nat} {t : TypeId} {vs : Array Value} (h : Blk W B t vs) (hne : B ≠ B') (i : Nat) (u : Value) : Blk (W.setCell ⟨B', i, none⟩ u) B t vs :=
  (Below.heap_setCell W ⟨B', i, none⟩ u B hne).trans h
theorem Blk.below {W W' : World} {n : Nat} {B : Nat} {t : TypeId} {vs : Array Value} (h : Blk W B t vs) (hb : Below n W W') (hn : B < n) : Blk W' B t vs := (hb.block B hn).trans h
theorem Blk.only {W W' : World} {b B : Nat} {t : TypeId} {vs : Array Value} (h : Blk W B t vs) (k : Only b W W') (hne : B ≠ b) : Blk W' B t vs := (k.block B h.lt hne).trans h
theorem Blk.thaw {W : World} {B : Nat} {t : TypeId} {vs : Array Value} (h : Blk W B t vs) (i : Nat) : W.frozen? ⟨B, i, none⟩ = false := by simp [World.frozen?, show W.heap[B]? = _ from h]
theorem Blk.setAt {W : World} {B : Nat} {t : TypeId} {vs : Array Value} (h : Blk W B t vs) (i : Nat) (v : Value) : Blk (W.setCell ⟨B, i, none⟩ v) B t (vs.setIfInBounds i v) := by
  obtain ⟨hlt, hk⟩ := Array.getElem?_eq_some_iff.1 h
  show (W.heap.modify B _)[B]? = _
  rw [Array.getElem?_eq_getElem (by rw [Array.size_modify]; exact hlt), Array.getElem_modify_self, hk]
  rfl
theorem Blk.drew {W : World} {B : Nat} {t : TypeId} {vs : Array Value} (h : Blk W B t vs) : Blk W.drew B t vs := h
theorem Blk.row1 {W : World} {B : Nat} {t : TypeId} {a : Value} (h : Blk W B t #[a]) : W.cell? ⟨B, 0, none⟩ = some a := h.cell (by rfl)
theorem Blk.row2 {W : World} {B : Nat} {t : TypeId} {a b : Value} (h : Blk W B t #[a, b]) : W.cell? ⟨B, 0, none⟩ = some a ∧ W.cell? ⟨B, 1, none⟩ = some b := ⟨h.cell (by rfl), h.cell (by rfl)⟩
theorem Blk.row3 {W : World} {B : Nat} {t : TypeId} {a b c : Value} (h : Blk W B t #[a, b, c]) : W.cell? ⟨B, 0, none⟩ = some a ∧ W.cell? ⟨B, 1, none⟩ = some b ∧ W.cell? ⟨B, 2, none⟩ = some c := ⟨h.cell (by rfl), h.cell (by rfl), h.cell (by rfl)⟩
theorem Blk.row4 {W : World} {B : Nat} {t : TypeId} {a b c d : Value} (h : Blk W B t #[a, b, c, d]) : W.cell? ⟨B, 0, none⟩ = some a ∧ W.cell? ⟨B, 1, none⟩ = some b ∧ W.cell? ⟨B, 2, none⟩ = some c ∧ W.cell? ⟨B, 3, none⟩ = some d := ⟨h.cell (by rfl), h.cell (by rfl), h.cell (by rfl), h.cell (by rfl)⟩
theorem Blk.row5 {W : World} {B : Nat} {t : TypeId} {a b c d e : Value} (h : Blk W B t #[a, b, c, d, e]) : W.cell? ⟨B, 0, none⟩ = some a ∧ W.cell? ⟨B, 1, none⟩ = some b ∧ W.cell? ⟨B, 2, none⟩ = some c ∧ W.cell? ⟨B, 3, none⟩ = some d ∧ W.cell? ⟨B, 4, none⟩ = some e := ⟨h.cell (by rfl), h.cell (by rfl), h.cell (by rfl), h.cell (by rfl), h.cell (by rfl)⟩

/-! ### A list of one's own -/

theorem owns_below {B : Nat} {W W' : World} {v : Value} {t : TypeId} {k n : Nat} {xs : List Value} (h : W.ownsRow B t k v n xs) (hb : Below W.heap.size W W') : W'.ownsRow B t k v n xs := by
  refine ⟨h.1, ?_⟩
  rcases h.2 with ⟨rfl, rfl⟩ | ⟨g, c, cur, rfl, hB, hg, hc, hm, hsz, ht⟩
  · exact .inl ⟨rfl, rfl⟩
  · exact .inr ⟨g, c, cur, rfl, hB, Blk.below (show Blk W g t cur from hg) hb (Blk.lt (show Blk W g t cur from hg)), hc, hm, hsz, ht⟩
theorem owns_alloc {B : Nat} {W : World} {v : Value} {t : TypeId} {k n : Nat} {xs : List Value} (h : W.ownsRow B t k v n xs) (o : Obj) : (W.alloc o).ownsRow B t k v n xs := owns_below h (alloc0 (Below.refl _ _) _)
theorem owns_mono {B C : Nat} {W : World} {v : Value} {t : TypeId} {k n : Nat} {xs : List Value} (h : W.ownsRow B t k v n xs) (hC : C ≤ B) : W.ownsRow C t k v n xs := by
  refine ⟨h.1, ?_⟩
  rcases h.2 with ⟨rfl, rfl⟩ | ⟨g, c, cur, rfl, hB, hg, hc, hm, hsz, ht⟩
  · exact .inl ⟨rfl, rfl⟩
  · exact .inr ⟨g, c, cur, rfl, by omega, hg, hc, hm, hsz, ht⟩
theorem owns_lt {B : Nat} {W : World} {v : Value} {t : TypeId} {k n : Nat} {xs : List Value} (h : W.ownsRow B t k v n xs) {g : Nat} (hg : v.ownBlock = some g) : g < W.heap.size := by
  rcases h.2 with ⟨rfl, rfl⟩ | ⟨g', c, cur, rfl, hB, hb, _⟩
  · cases hg
  · have : g' = g := by simpa [Value.ownBlock] using hg
    subst this
    exact Blk.lt (show Blk W g' t cur from hb)
theorem owns_form {B : Nat} {W : World} {v : Value} {t : TypeId} {k n : Nat} {xs : List Value} (h : W.ownsRow B t k v n xs) : ∃ a c, v = .slice a n c ∧ n ≤ c := by
  rcases h.2 with ⟨rfl, rfl⟩ | ⟨g, c, cur, rfl, hB, hg, hc, _⟩
  · exact ⟨none, 0, rfl, Nat.le_refl _⟩
  · exact ⟨_, _, rfl, hc⟩
theorem owns_far {B C : Nat} {W : World} {v : Value} {t : TypeId} {k n : Nat} {xs : List Value} (h : W.ownsRow B t k v n xs) (hC : C < B) : some C ≠ v.ownBlock := by
  rcases h.2 with ⟨rfl, rfl⟩ | ⟨g, c, cur, rfl, hB, _⟩
  · simp [Value.ownBlock]
  · simp [Value.ownBlock]; omega
theorem owns_set {B C i : Nat} {W : World} {v u : Value} {t : TypeId} {k n : Nat} {xs : List Value} (h : W.ownsRow B t k v n xs) (hne : some C ≠ v.ownBlock) : (W.setCell ⟨C, i, none⟩ u).ownsRow B t k v n xs := by
  refine ⟨h.1, ?_⟩
  rcases h.2 with ⟨rfl, rfl⟩ | ⟨g, c, cur, rfl, hB, hg, hc, hm, hsz, ht⟩
  · exact .inl ⟨rfl, rfl⟩
  · have hCg : g ≠ C := fun e => hne (by simp [Value.ownBlock, e])
    exact .inr ⟨g, c, cur, rfl, hB, Blk.other (show Blk W g t cur from hg) hCg i u, hc, hm, hsz, ht⟩

section
variable {α : Type} [Cel α]
theorem fresh_of {B : Nat} {W : World} {g cap : Nat} {cur : Array Value} {t : TypeId} {l : List α} (h : Blk W g t cur) (hB : B ≤ g) (hc : l.length ≤ cap) (hsz : cur.size = cap * Cel.k α) (ht : cur.toList.take (l.length * Cel.k α) = flat l) :
    Fresh B W (.slice (some ⟨g, 0, none⟩) l.length cap) l := by
  refine ⟨_, _, rfl, hc, .inr ⟨g, 0, rfl, hB, h.lt, ?_, ?_⟩⟩
  · intro j v hv
    rw [← ht, List.getElem?_take] at hv
    split at hv
    · exact (h.cell (i := 0 + j) (by simpa using hv))
    · cases hv
  · intro j hj
    refine ⟨?_, h.thaw _⟩
    have hlt : 0 + j < cur.size := by rw [hsz]; have := Nat.mul_le_mul_right (Cel.k α) hc; omega
    rw [h.cell (Array.getElem?_eq_getElem hlt)]; rfl
theorem fresh_owns {B : Nat} {W : World} {v : Value} {t : TypeId} {l : List α} (h : W.ownsRow B t (Cel.k α) v l.length (flat l)) : Fresh B W v l := by
  rcases h.2 with ⟨rfl, h0⟩ | ⟨g, c, cur, rfl, hB, hg, hc, _, hsz, ht⟩
  · have : l = [] := List.length_eq_zero_iff.1 h0
    subst this
    exact ⟨none, 0, rfl, Nat.le_refl _, .inl rfl⟩
  · exact fresh_of (t := t) hg hB hc hsz ht
theorem fresh_owns_n {B n : Nat} {W : World} {v : Value} {t : TypeId} {l : List α} (hn : n = l.length) (h : W.ownsRow B t (Cel.k α) v n (flat l)) : Fresh B W v l := by
  subst hn
  exact fresh_owns h
theorem owns_n {B n : Nat} {W : World} {v : Value} {t : TypeId} {k : Nat} {l : List α} (hn : n = l.length) (h : W.ownsRow B t k v n (flat l)) : W.ownsRow B t k v l.length (flat l) := by
  subst hn
  exact h
theorem owns_at {B : Nat} {W : World} {a : Option Addr} {c n : Nat} {t : TypeId} {l : List α} (hn : n = l.length) (h : W.ownsRow B t (Cel.k α) (.slice a n c) n (flat l)) : At W a l := by
  subst hn
  exact (fresh_owns h).at

theorem src_none {P : Program} (k : Nat) (ts ti : TypeId) (hu : P.underlying ts = some (.slice ti)) (A : Option Addr) (cap : Nat) (w : World) : Src P k ts (.slice A 0 cap) 0 [] w :=
  ⟨.inl ⟨_, hu⟩, fun w' => by cases A <;> rfl, by cases A <;> simp [Builtin.firstCells, loadCells, loadCellsFrom], by cases A <;> simp [Builtin.firstCells, loadCells, loadCellsFrom], by simp, by simp⟩

/-- A list's records appended to an own list: the new list lies in an own block. -/
theorem append_els {P : Program} {ts ti : TypeId} {z : Value} {bytes : Nat} (hu : P.underlying ts = some (.slice ti)) (hinfo : (P.info? ti).map (fun i => (i.zero, i.size, i.bytes)) = some (some z, Cel.k α, bytes)) (hz : z.cells.size = Cel.k α) (hk : 0 < Cel.k α) (hby : bytes ≤ 1000)
    (B : Nat) (v : Value) (l m : List α) (A : Option Addr) (cap : Nat) (w : World) (hB : B ≤ w.heap.size) (hv : w.ownsRow B ti (Cel.k α) v l.length (flat l)) (hA : At w A m) (hlen : l.length + m.length ≤ 3000000) :
    ∃ v' w', (Builtin.append_ #[ts, ts] ts #[v, .slice A m.length cap]).run P w = .ok v' w' ∧ w'.ownsRow B ti (Cel.k α) v' (l.length + m.length) (flat (l ++ m)) ∧ w.grownBy w' v.ownBlock ∧ (v'.ownBlock = v.ownBlock ∨ v'.ownBlock = some w.heap.size) := by
  obtain ⟨i0, hi, hz0, hz1, hz2⟩ := info_parts hinfo
  by_cases h0 : m = []
  · subst h0
    have e0 : ∃ a n c, v = .slice a n c ∧ n ≤ c := by
      rcases hv.2 with ⟨rfl, _⟩ | ⟨g, c, cur, rfl, _, _, h, _⟩
      · exact ⟨_, _, _, rfl, Nat.le_refl _⟩
      · exact ⟨_, _, _, rfl, h⟩
    obtain ⟨a, n, c, rfl, hle⟩ := e0
    exact ⟨_, _, run_append_nothing w ts ts ts ti i0 hu hi a n c hle _ (hz1 ▸ src_none _ ts ti hu A cap w), by simpa using hv, World.grownBy.refl _ _, .inl rfl⟩
  · obtain ⟨b, o, rfl, hb, hin⟩ := hA.resolve_left h0
    have hm : 0 < m.length := List.length_pos_iff.2 h0
    have hsum : (l.length + m.length) * bytes ≤ 140737488355328 := Nat.le_trans (Nat.mul_le_mul hlen hby) (by omega)
    obtain ⟨g, c, w', hr, h1, h2, h3, h4⟩ := run_append_lies (P := P) w ts ts B ti i0 z (Cel.k α) bytes hu hi hz0 hz1 hz2 hz hk v l.length (flat l) hv ⟨b, o, none⟩ m.length cap (flat m) (flat_length m)
      (fun j u hu => by rw [Addr.add_mid]; exact hin j u hu) (flat_ones m) hm (by simp [maxLen]; omega) hsum hB _ rfl
    exact ⟨_, _, hr, by rw [flat_append]; exact h1, h2, h3.imp (fun e => by rw [e]; rfl) (fun e => by rw [← e]; rfl)⟩

theorem make_els {P : Program} {ts ti : TypeId} {z : Value} {k bytes : Nat} (hu : P.underlying ts = some (.slice ti)) (hinfo : (P.info? ti).map (fun i => (i.zero, i.size, i.bytes)) = some (some z, k, bytes)) (hby : bytes ≤ 1000) (n : Nat) (hn : n ≤ 1048576) (w : World) :
    (Instr.makeSlice ts (.int .i64 (n : Int)) (.int .i64 (n : Int))).run P w = .ok (.slice (some ⟨w.heap.size, 0, none⟩) n n) (w.alloc (.cells (madeCells z.cells (n * k)) ti)) := by
  obtain ⟨i0, hi, hz0, hz1, hz2⟩ := info_parts hinfo
  have hsum : bytes * n ≤ 281474976710656 := Nat.le_trans (Nat.mul_le_mul hby hn) (by omega)
  have r := run_make (P := P) w ts ti i0 z hu hi hz0 .i64 .i64 n n (by omega) (Int.le_refl _) (by rw [hz2, ← Int.natCast_mul]; omega) (by omega)
  rw [r, hz1]
  simp
theorem made_there (w : World) (cs : Array Value) (n k : Nat) (t : TypeId) : (w.alloc (.cells (madeCells cs (n * k)) t)).there w.heap.size 0 (n * k) := fun j hj => by
  have : j < (madeCells cs (n * k)).size := by rw [size_madeCells]; exact hj
  simp [this]
end

/-- An append whose run is known, at a plain region's list. -/
theorem wp_append_is {P : Program} {w w' : World} {o : Oper} {a : Act} {K : Act → World → Prop} {Q : Exit → Act → World → Prop} (s x : Operand) (t : TypeId)
    (ho : o.op = .call { callee := .builtin .append, args := #[s, x], argTypes := #[t, t] }) (v xv r : Value) (hs : a.eval s = v) (hx : a.eval x = xv)
    (hr : (Builtin.append_ #[t, t] o.type #[v, xv]).run P w = .ok r w') (h : K (a.put o.dst r) w') : o.wp P a w K Q := by
  unfold Oper.wp execOp
  simp only [ho, resolve, invoke, builtin, Sem.run_bind, Sem.run_pure, Result.andThen_ok, List.map_toArray, List.map_cons, List.map_nil, hs, hx, hr]
  exact h
theorem wpList_append_is {P : Program} {w w' : World} {ops : Array Oper} {rest : List Oper} {o : Oper} {a : Act} {Q : Exit → Act → World → Prop} (hgd : o.guard = none) (s x : Operand) (t : TypeId)
    (ho : o.op = .call { callee := .builtin .append, args := #[s, x], argTypes := #[t, t] }) (v xv r : Value) (hs : a.eval s = v) (hx : a.eval x = xv)
    (hr : (Builtin.append_ #[t, t] o.type #[v, xv]).run P w = .ok r w') (h : wpList P ops Q rest (a.put o.dst r) w') : wpList P ops Q (o :: rest) a w :=
  wpList_plain hgd fun _ hK => wp_append_is s x t ho v xv r hs hx hr (hK _ _ h)
theorem step_append_is {P : Program} {w w' : World} {ops : Array Oper} {o : Oper} {a : Act} {K : Act → World → Prop} {Q : Exit → Act → World → Prop} {E : Prop} (hgd : o.guard = none) (s x : Operand) (t : TypeId)
    (ho : o.op = .call { callee := .builtin .append, args := #[s, x], argTypes := #[t, t] }) (v xv r : Value) (hs : a.eval s = v) (hx : a.eval x = xv)
    (hr : (Builtin.append_ #[t, t] o.type #[v, xv]).run P w = .ok r w') (h : K (a.put o.dst r) w') : if Region.wanted o (yielded ops a.tmps) = true then Oper.wp P o a w K Q else E := by
  have hw : Region.wanted o (yielded ops a.tmps) = true := by simp [Region.wanted, hgd]
  rw [if_pos hw]
  exact wp_append_is s x t ho v xv r hs hx hr h

/-! ### Data opened -/

def I64 (x : Int) : Prop := -9223372036854775808 ≤ x ∧ x ≤ 9223372036854775807
theorem i64_of {x : Int} (hx : (Lit.int .i64 x).wf = true) : I64 x := by simpa [I64, Lit.wf, IntKind.min, IntKind.max, IntKind.signed, IntKind.bits] using hx
theorem fields_at {H : Type} {enc : TypeId × Value → H} {P : Program} {w : World} {base : Nat} {spare : Nat → Bool} {held : Bool} {t : TypeId} {fs : Array Field} {cs : List Value} {fuel : Nat} {x : DataW H × List MemPlace}
    (hs : P.underlying t = some (.struct fs)) (hone : oneCellFields P fs = true) (h : DataW.trod enc P w base spare held fuel t cs = some x) :
    ∃ n, ∀ (i : Nat) (f : Field), fs[i]? = some f → ∀ c, cs[i]? = some c → ∃ y, DataW.trod enc P w base spare held n f.type [c] = some y := by
  obtain ⟨xs, n, _, _, hl, hlen, hf⟩ := DataW.trod_struct hs h
  refine ⟨n, fun i f hi c hc => ?_⟩
  obtain ⟨o, k⟩ := hone_of hone i f hi
  have hlt : i < fs.size := (Array.getElem?_eq_some_iff.1 hi).1
  have g := hf i f hi
  rw [o, k] at g
  have e : cs.drop i = c :: cs.drop (i + 1) := by
    obtain ⟨h1, h2⟩ := List.getElem?_eq_some_iff.1 hc
    rw [List.drop_eq_getElem_cons h1, h2]
  rw [e] at g
  exact ⟨xs[i]'(by omega), by rw [← List.getElem?_eq_getElem]; simpa using g⟩

theorem at_of {α : Type} [Cel α] (hk : 0 < Cel.k α) {W : World} {a : Addr} {len : Nat} {X : Nat → α} {R : α → Prop}
    (hX : ∀ i, i < len → R (X i) ∧ (a.add (i * Cel.k α)).spot = none ∧ (a.add (i * Cel.k α)).block < W.heap.size ∧ ∀ j v, (Cel.cs (X i))[j]? = some v → W.cell? ⟨(a.add (i * Cel.k α)).block, (a.add (i * Cel.k α)).off + j, none⟩ = some v) :
    ∃ l : List α, l.length = len ∧ (∀ x ∈ l, R x) ∧ At W (some a) l := by
  refine ⟨(List.range len).map X, by simp, ?_, ?_⟩
  · intro x hxm
    obtain ⟨i, hi, rfl⟩ := List.mem_map.1 hxm
    exact (hX i (by simpa using hi)).1
  · by_cases h0 : len = 0
    · left; simp [h0]
    · right
      obtain ⟨_, hs, hb, _⟩ := hX 0 (by omega)
      rw [Nat.zero_mul, show a.add 0 = a from rfl] at hs hb
      obtain ⟨b, o, s⟩ := a
      simp only at hs hb
      subst hs
      refine ⟨b, o, rfl, hb, ?_⟩
      intro j v hv
      have hj : j < ((List.range len).map X).length * Cel.k α := by
        rw [← flat_length]; exact (List.getElem?_eq_some_iff.1 hv).1
      simp only [List.length_map, List.length_range] at hj
      have hd : j = j / Cel.k α * Cel.k α + j % Cel.k α := by rw [Nat.mul_comm]; exact (Nat.div_add_mod j _).symm
      have hq : j / Cel.k α < len := (Nat.div_lt_iff_lt_mul hk).2 hj
      have hr : j % Cel.k α < Cel.k α := Nat.mod_lt _ hk
      rw [hd, flat_get _ (j / Cel.k α) (by simpa using hq) (j % Cel.k α) hr] at hv
      obtain ⟨_, _, _, hc⟩ := hX (j / Cel.k α) hq
      have := hc (j % Cel.k α) v (by simpa using hv)
      rw [Addr.add_mid] at this
      rw [hd, ← Nat.add_assoc]
      exact this
end Go.Proofs.YtclgdghfcjkhfaaGreat.Gen

/-
  Lists in blocks of their own, and what stays when some blocks alone turn: no condition.
-/
namespace Go.Proofs.YtclgdghfcjkhfaaGreat.Gen
open Go.ChangeShapes Go.WideShapes Go.ChangeAt Go.RowKit Base
set_option linter.unusedVariables false

/-- Of what was there the blocks of F alone may have turned. -/
structure Off (F : List Nat) (w w' : World) : Prop where
  os : w'.os = w.os
  tape : w'.tape = w.tape
  output : w'.output = w.output
  size : w.heap.size ≤ w'.heap.size
  block : ∀ k, k < w.heap.size → k ∉ F → w'.heap[k]? = w.heap[k]?
theorem Off.refl (F : List Nat) (w : World) : Off F w w := ⟨rfl, rfl, rfl, Nat.le_refl _, fun _ _ _ => rfl⟩
theorem Off.trans {F G : List Nat} {w w1 w2 : World} (h : Off F w w1) (k : Off G w1 w2) : Off (F ++ G) w w2 :=
  ⟨k.os.trans h.os, k.tape.trans h.tape, k.output.trans h.output, Nat.le_trans h.size k.size, fun i hi hb => (k.block i (Nat.lt_of_lt_of_le hi h.size) (fun e => hb (List.mem_append_right _ e))).trans (h.block i hi (fun e => hb (List.mem_append_left _ e)))⟩
theorem Off.mono {F G : List Nat} {w w1 : World} (h : Off F w w1) (s : ∀ x ∈ F, x ∈ G) : Off G w w1 := ⟨h.os, h.tape, h.output, h.size, fun i hi hb => h.block i hi (fun e => hb (s i e))⟩
theorem Off.of_below {w w1 : World} (h : Below w.heap.size w w1) : Off [] w w1 := ⟨h.os, h.tape, h.output, h.size, fun i hi _ => h.block i hi⟩
theorem Off.of_only {b : Nat} {w w1 : World} (h : Only b w w1) : Off [b] w w1 := ⟨h.os, h.tape, h.output, h.size, fun i hi hb => h.block i hi (fun e => hb (by simp [e]))⟩
theorem Off.below {F : List Nat} {w w1 w2 : World} (h : Off F w w1) (k : Below w1.heap.size w1 w2) : Off F w w2 := by simpa using h.trans (Off.of_below k)
theorem Off.toBelow {F : List Nat} {B : Nat} {w w1 : World} (h : Off F w w1) (hF : ∀ x ∈ F, B ≤ x) (hw : B ≤ w.heap.size) : Below B w w1 :=
  ⟨h.os, h.tape, h.output, h.size, fun i hi => h.block i (by omega) (fun e => by have := hF i e; omega)⟩
theorem Off.cell {F : List Nat} {w w1 : World} (h : Off F w w1) {p : Addr} (hp : p.block < w.heap.size) (hb : p.block ∉ F) : w1.cell? p = w.cell? p := World.cell?_of_block (h.block p.block hp hb)
theorem Off.frozen {F : List Nat} {w w1 : World} (h : Off F w w1) {p : Addr} (hp : p.block < w.heap.size) (hb : p.block ∉ F) : w1.frozen? p = w.frozen? p := by
  unfold World.frozen?; rw [h.block p.block hp hb]
theorem Blk.off {F : List Nat} {W W' : World} {B : Nat} {t : TypeId} {vs : Array Value} (h : Blk W B t vs) (k : Off F W W') (hne : B ∉ F) : Blk W' B t vs := (k.block B h.lt hne).trans h

section
variable {α : Type} [Cel α]
theorem In.off {F : List Nat} {c o : Nat} {w w1 : World} {l : List α} (h : In w c o l) (k : Off F w w1) (hc : c < w.heap.size) (hb : c ∉ F) : In w1 c o l :=
  fun j v hv => (k.cell (p := ⟨c, o + j, none⟩) hc hb).trans (h j v hv)
theorem there_off {F : List Nat} {c o n : Nat} {w w1 : World} (h : w.there c o n) (k : Off F w w1) (hc : c < w.heap.size) (hb : c ∉ F) : w1.there c o n := fun j hj => by
  rw [k.cell (p := ⟨c, o + j, none⟩) hc hb, k.frozen (p := ⟨c, o + j, none⟩) hc hb]; exact h j hj

/-- The list l in a block of its own, which is all of F; none where it is empty. -/
def Sl (w : World) (a : Option Addr) (l : List α) (F : List Nat) : Prop :=
  (l = [] ∧ F = []) ∨ ∃ b o, a = some ⟨b, o, none⟩ ∧ F = [b] ∧ b < w.heap.size ∧ In w b o l ∧ w.there b o (l.length * Cel.k α)
theorem Sl.off {F G : List Nat} {w w1 : World} {a : Option Addr} {l : List α} (h : Sl w a l F) (k : Off G w w1) (hd : ∀ x ∈ F, x ∉ G) : Sl w1 a l F := by
  rcases h with h | ⟨b, o, rfl, rfl, hb, hi, ht⟩
  · exact .inl h
  · have := hd b (by simp)
    exact .inr ⟨b, o, rfl, rfl, Nat.lt_of_lt_of_le hb k.size, hi.off k hb this, there_off ht k hb this⟩
theorem Sl.below {F : List Nat} {w w1 : World} {a : Option Addr} {l : List α} (h : Sl w a l F) (k : Below w.heap.size w w1) : Sl w1 a l F := h.off (Off.of_below k) (by simp)
theorem Sl.at {F : List Nat} {w : World} {a : Option Addr} {l : List α} (h : Sl w a l F) : At w a l :=
  h.imp (fun e => e.1) fun ⟨b, o, e, _, hb, hi, _⟩ => ⟨b, o, e, hb, hi⟩
theorem Sl.lt {F : List Nat} {w : World} {a : Option Addr} {l : List α} (h : Sl w a l F) : ∀ x ∈ F, x < w.heap.size := by
  rcases h with ⟨_, rfl⟩ | ⟨b, o, _, rfl, hb, _⟩
  · simp
  · simpa using hb
theorem Sl.nil (w : World) (a : Option Addr) : Sl w a ([] : List α) [] := .inl ⟨rfl, rfl⟩
theorem Sl.nodup {F : List Nat} {w : World} {a : Option Addr} {l : List α} (h : Sl w a l F) : F.Nodup := by
  rcases h with ⟨_, rfl⟩ | ⟨b, o, _, rfl, _⟩ <;> simp
theorem Sl.of_fresh {B : Nat} {w : World} {a : Option Addr} {n c : Nat} {l : List α} (h : Fresh B w (.slice a n c) l) : n = l.length ∧ ∃ F, Sl w a l F ∧ ∀ x ∈ F, B ≤ x := by
  obtain ⟨A, c', e, _, h⟩ := h
  cases e
  refine ⟨rfl, ?_⟩
  rcases h with h | ⟨b, o, e, hB, hb, hi, ht⟩
  · exact ⟨[], .inl ⟨h, rfl⟩, by simp⟩
  · exact ⟨[b], .inr ⟨b, o, e, rfl, hb, hi, ht⟩, by simpa using hB⟩
end
end Go.Proofs.YtclgdghfcjkhfaaGreat.Gen

/-
  Lists of records that have lists of their own: how they lie, each in blocks of its own, what stays when other blocks turn, and what one record's turning does. No condition.
-/
namespace Go.Proofs.YtclgdghfcjkhfaaGreat.Gen
open Go.ChangeShapes Go.WideShapes Go.ChangeAt Go.RowKit Base
set_option linter.unusedVariables false

theorem hidden {p : Prop} (h : p) : Hid p := h

/-- Of what was there the blocks of S alone may have turned. -/
structure Offp (S : Nat → Prop) (w w' : World) : Prop where
  os : w'.os = w.os
  tape : w'.tape = w.tape
  output : w'.output = w.output
  size : w.heap.size ≤ w'.heap.size
  block : ∀ k, k < w.heap.size → ¬ S k → w'.heap[k]? = w.heap[k]?
theorem Offp.refl (S : Nat → Prop) (w : World) : Offp S w w := ⟨rfl, rfl, rfl, Nat.le_refl _, fun _ _ _ => rfl⟩
theorem Offp.trans {S : Nat → Prop} {w w1 w2 : World} (h : Offp S w w1) (k : Offp S w1 w2) : Offp S w w2 :=
  ⟨k.os.trans h.os, k.tape.trans h.tape, k.output.trans h.output, Nat.le_trans h.size k.size, fun i hi hb => (k.block i (Nat.lt_of_lt_of_le hi h.size) hb).trans (h.block i hi hb)⟩
theorem Offp.mono {S T : Nat → Prop} {w w1 : World} (h : Offp S w w1) (s : ∀ x, S x → T x) : Offp T w w1 := ⟨h.os, h.tape, h.output, h.size, fun i hi hb => h.block i hi (fun e => hb (s i e))⟩
theorem Offp.of_below {S : Nat → Prop} {w w1 : World} (h : Below w.heap.size w w1) : Offp S w w1 := ⟨h.os, h.tape, h.output, h.size, fun i hi _ => h.block i hi⟩
theorem Offp.of_only {b : Nat} {w w1 : World} (h : Only b w w1) : Offp (fun x => x = b) w w1 := ⟨h.os, h.tape, h.output, h.size, fun i hi hb => h.block i hi hb⟩
theorem Offp.of_off {F : List Nat} {w w1 : World} (h : Off F w w1) : Offp (fun x => x ∈ F) w w1 := ⟨h.os, h.tape, h.output, h.size, fun i hi hb => h.block i hi hb⟩
theorem Offp.below {S : Nat → Prop} {w w1 w2 : World} (h : Offp S w w1) (k : Below w1.heap.size w1 w2) : Offp S w w2 := h.trans (Offp.of_below k)
theorem Offp.set {S : Nat → Prop} {w w1 : World} (h : Offp S w w1) {b : Nat} (hb : S b) (o : Nat) (v : Value) : Offp S w (w1.setCell ⟨b, o, none⟩ v) :=
  h.trans ((Offp.of_only ((Only.refl b w1).set o v)).mono (fun x e => e ▸ hb))
theorem Offp.toBelow {S : Nat → Prop} {B : Nat} {w w1 : World} (h : Offp S w w1) (hF : ∀ x, S x → B ≤ x) (hw : B ≤ w.heap.size) : Below B w w1 :=
  ⟨h.os, h.tape, h.output, h.size, fun i hi => h.block i (by omega) (fun e => by have := hF i e; omega)⟩
theorem Offp.cell {S : Nat → Prop} {w w1 : World} (h : Offp S w w1) {p : Addr} (hp : p.block < w.heap.size) (hb : ¬ S p.block) : w1.cell? p = w.cell? p := World.cell?_of_block (h.block p.block hp hb)
theorem Offp.frozen {S : Nat → Prop} {w w1 : World} (h : Offp S w w1) {p : Addr} (hp : p.block < w.heap.size) (hb : ¬ S p.block) : w1.frozen? p = w.frozen? p := by
  unfold World.frozen?; rw [h.block p.block hp hb]
theorem Blk.offp {S : Nat → Prop} {W W' : World} {B : Nat} {t : TypeId} {vs : Array Value} (h : Blk W B t vs) (k : Offp S W W') (hne : ¬ S B) : Blk W' B t vs := (k.block B h.lt hne).trans h
theorem there_offp {S : Nat → Prop} {c o n : Nat} {w w1 : World} (h : w.there c o n) (k : Offp S w w1) (hc : c < w.heap.size) (hb : ¬ S c) : w1.there c o n := fun j hj => by
  rw [k.cell (p := ⟨c, o + j, none⟩) hc hb, k.frozen (p := ⟨c, o + j, none⟩) hc hb]; exact h j hj

section
variable {α : Type} [Cel α]
theorem In.offp {S : Nat → Prop} {c o : Nat} {w w1 : World} {l : List α} (h : In w c o l) (k : Offp S w w1) (hc : c < w.heap.size) (hb : ¬ S c) : In w1 c o l :=
  fun j v hv => (k.cell (p := ⟨c, o + j, none⟩) hc hb).trans (h j v hv)

/-- The list l where a leads: in a block of S, which may be written. -/
def Sub (w : World) (a : Option Addr) (l : List α) (S : Nat → Prop) : Prop :=
  l = [] ∨ ∃ b o, a = some ⟨b, o, none⟩ ∧ S b ∧ b < w.heap.size ∧ In w b o l ∧ w.there b o (l.length * Cel.k α)
theorem Sub.offp {S T : Nat → Prop} {w w1 : World} {a : Option Addr} {l : List α} (h : Sub w a l S) (k : Offp T w w1) (hd : ∀ x, S x → ¬ T x) : Sub w1 a l S :=
  h.imp id fun ⟨b, o, e, hs, hb, hi, ht⟩ => ⟨b, o, e, hs, Nat.lt_of_lt_of_le hb k.size, hi.offp k hb (hd b hs), there_offp ht k hb (hd b hs)⟩
theorem Sub.mono {S T : Nat → Prop} {w : World} {a : Option Addr} {l : List α} (h : Sub w a l S) (s : ∀ x, S x → T x) : Sub w a l T :=
  h.imp id fun ⟨b, o, e, hs, r⟩ => ⟨b, o, e, s b hs, r⟩
theorem Sub.at {S : Nat → Prop} {w : World} {a : Option Addr} {l : List α} (h : Sub w a l S) : At w a l :=
  h.imp id fun ⟨b, o, e, _, hb, hi, _⟩ => ⟨b, o, e, hb, hi⟩
theorem Sub.below {S : Nat → Prop} {w w1 : World} {a : Option Addr} {l : List α} (h : Sub w a l S) (k : Below w.heap.size w w1) : Sub w1 a l S :=
  h.offp (Offp.of_below (S := fun _ => False) k) (fun _ _ e => e)
theorem Sub.nil (w : World) (a : Option Addr) (S : Nat → Prop) : Sub w a ([] : List α) S := .inl rfl

theorem rec_flat_set (l : List α) (n : Nat) (hn : n < l.length) (y : α) (f : Nat) (hf : f < Cel.k α) (v : Value) (hy : Cel.cs y = (Cel.cs l[n]).set f v) : flat (l.set n y) = (flat l).set (n * Cel.k α + f) v := by
  induction l generalizing n with
  | nil => simp at hn
  | cons x l ih =>
    cases n with
    | zero =>
      simp only [List.set_cons_zero, flat_cons, Nat.zero_mul, Nat.zero_add]
      rw [List.set_append_left _ _ (by rw [Cel.len]; exact hf), hy]; rfl
    | succ n =>
      simp only [List.set_cons_succ, flat_cons]
      rw [ih n (by simpa using hn) (by simpa using hy), List.set_append_right _ _ (by rw [Cel.len, Nat.add_mul]; omega), Cel.len]
      congr 2
      rw [Nat.add_mul]; omega
/-- One cell of one record written. -/
theorem In.set1 {w : World} {b o : Nat} {l : List α} (h : In w b o l) (n : Nat) (hn : n < l.length) (y : α) (f : Nat) (hf : f < Cel.k α) (v : Value) (hy : Cel.cs y = (Cel.cs l[n]).set f v) : In (w.setCell ⟨b, o + n * Cel.k α + f, none⟩ v) b o (l.set n y) := by
  intro j u hu
  rw [rec_flat_set l n hn y f hf v hy] at hu
  by_cases e : n * Cel.k α + f = j
  · subst e
    rw [List.getElem?_set_self (by rw [flat_length]; have : (n + 1) * Cel.k α ≤ l.length * Cel.k α := Nat.mul_le_mul_right _ hn; rw [Nat.add_mul] at this; omega)] at hu
    cases hu
    have hc := h.cell n hn (f := f) (v := (Cel.cs l[n])[f]'(by rw [Cel.len]; exact hf)) (List.getElem?_eq_getElem _)
    rw [← Nat.add_assoc]
    exact World.cell?_setCell_same' _ _ _ (by rw [hc]; rfl)
  · rw [List.getElem?_set_ne e] at hu
    rw [World.cell?_setCell_other (h := fun ee => by have := congrArg Addr.off ee; simp only at this; omega)]
    exact h j u hu

variable {P : World → α → (Nat → Prop) → Prop}
/-- What lies with a record stays when other blocks turn. -/
def Firm (P : World → α → (Nat → Prop) → Prop) : Prop := ∀ (w w' : World) (x : α) (S T : Nat → Prop), P w x S → Offp T w w' → (∀ y, S y → ¬ T y) → P w' x S

/-- The records l in block b, what lies with record i in blocks of fp i: no block twice. -/
structure OwnF (P : World → α → (Nat → Prop) → Prop) (w : World) (b o : Nat) (l : List α) (fp : Nat → Nat → Prop) : Prop where
  lt : b < w.heap.size
  lst : In w b o l
  th : w.there b o (l.length * Cel.k α)
  sub : ∀ (i : Nat) (h : i < l.length), P w l[i] (fp i)
  dis : ∀ i j, i ≠ j → ∀ x, fp i x → ¬ fp j x
  nb : ∀ i, ¬ fp i b
theorem OwnF.offp (hP : Firm P) {w w' : World} {b o : Nat} {l : List α} {fp : Nat → Nat → Prop} {T : Nat → Prop} (h : OwnF P w b o l fp) (k : Offp T w w') (hb : ¬ T b) (hd : ∀ i x, fp i x → ¬ T x) : OwnF P w' b o l fp :=
  ⟨Nat.lt_of_lt_of_le h.lt k.size, h.lst.offp k h.lt hb, there_offp h.th k h.lt hb, fun i hi => hP _ _ _ _ _ (h.sub i hi) k (hd i), h.dis, h.nb⟩
theorem OwnF.below (hP : Firm P) {w w' : World} {b o : Nat} {l : List α} {fp : Nat → Nat → Prop} (h : OwnF P w b o l fp) (k : Below w.heap.size w w') : OwnF P w' b o l fp :=
  h.offp hP (Offp.of_below (S := fun _ => False) k) (fun e => e) (fun _ _ _ e => e)
/-- One cell of record n written: what lies with it is the same. -/
theorem OwnF.set1 (hP : Firm P) {w : World} {b o : Nat} {l : List α} {fp : Nat → Nat → Prop} (h : OwnF P w b o l fp) (n : Nat) (hn : n < l.length) (y : α) (f : Nat) (hf : f < Cel.k α) (v : Value) (hy : Cel.cs y = (Cel.cs l[n]).set f v)
    (hs : ∀ W S, P W l[n] S → P W y S) : OwnF P (w.setCell ⟨b, o + n * Cel.k α + f, none⟩ v) b o (l.set n y) fp := by
  have k : Offp (fun x => x = b) w (w.setCell ⟨b, o + n * Cel.k α + f, none⟩ v) := Offp.of_only ((Only.refl b w).set _ v)
  refine ⟨by simpa using h.lt, h.lst.set1 n hn y f hf v hy, by rw [List.length_set]; exact there_set h.th _ _ _, fun i hi => ?_, h.dis, h.nb⟩
  have hi' : i < l.length := by simpa using hi
  have hk : P (w.setCell ⟨b, o + n * Cel.k α + f, none⟩ v) l[i] (fp i) := hP _ _ _ _ _ (h.sub i hi') k (fun y hy e => h.nb i (e ▸ hy))
  by_cases e : n = i
  · subst e
    rw [List.getElem_set_self]
    exact hs _ _ hk
  · rw [List.getElem_set_ne e]; exact hk
/-- What lies with record n turned. -/
theorem OwnF.turn (hP : Firm P) {w w' : World} {b o : Nat} {l : List α} {fp : Nat → Nat → Prop} (h : OwnF P w b o l fp) (n : Nat) (hn : n < l.length) (y : α) (hc : Cel.cs y = Cel.cs l[n]) (k : Offp (fp n) w w') (hy : P w' y (fp n)) : OwnF P w' b o (l.set n y) fp := by
  refine ⟨Nat.lt_of_lt_of_le h.lt k.size, ?_, ?_, fun i hi => ?_, h.dis, h.nb⟩
  · have e : flat (l.set n y) = flat l := by
      unfold flat
      rw [List.flatMap_def, List.flatMap_def, List.map_set, hc, ← List.map_set, List.set_getElem_self]
    show w'.rangeAt b o _
    rw [e]
    exact h.lst.offp k h.lt (h.nb n)
  · rw [List.length_set]; exact there_offp h.th k h.lt (h.nb n)
  · have hi' : i < l.length := by simpa using hi
    by_cases e : n = i
    · subst e; rw [List.getElem_set_self]; exact hy
    · rw [List.getElem_set_ne e]; exact hP _ _ _ _ _ (h.sub i hi') k (fun x hx => h.dis i n (fun e' => e e'.symm) x hx)

/-- .. where a leads, all in blocks of S. -/
def Own (P : World → α → (Nat → Prop) → Prop) (w : World) (a : Option Addr) (l : List α) (S : Nat → Prop) : Prop :=
  l = [] ∨ ∃ b o fp, a = some ⟨b, o, none⟩ ∧ S b ∧ (∀ i x, fp i x → S x) ∧ OwnF P w b o l fp
theorem Own.offp (hP : Firm P) {S T : Nat → Prop} {w w1 : World} {a : Option Addr} {l : List α} (h : Own P w a l S) (k : Offp T w w1) (hd : ∀ x, S x → ¬ T x) : Own P w1 a l S :=
  h.imp id fun ⟨b, o, fp, e, hs, hf, hO⟩ => ⟨b, o, fp, e, hs, hf, hO.offp hP k (hd b hs) (fun i x hx => hd x (hf i x hx))⟩
theorem Own.below (hP : Firm P) {S : Nat → Prop} {w w1 : World} {a : Option Addr} {l : List α} (h : Own P w a l S) (k : Below w.heap.size w w1) : Own P w1 a l S :=
  h.offp hP (Offp.of_below (S := fun _ => False) k) (fun _ _ e => e)
theorem Own.mono {S T : Nat → Prop} {w : World} {a : Option Addr} {l : List α} (h : Own P w a l S) (s : ∀ x, S x → T x) : Own P w a l T :=
  h.imp id fun ⟨b, o, fp, e, hs, hf, hO⟩ => ⟨b, o, fp, e, s b hs, fun i x hx => s x (hf i x hx), hO⟩
theorem Own.at {S : Nat → Prop} {w : World} {a : Option Addr} {l : List α} (h : Own P w a l S) : At w a l :=
  h.imp id fun ⟨b, o, fp, e, _, _, hO⟩ => ⟨b, o, e, hO.lt, hO.lst⟩
theorem Own.each {S : Nat → Prop} {w : World} {a : Option Addr} {l : List α} (h : Own P w a l S) {Q : α → Prop} (hQ : ∀ x S, P w x S → Q x) : ∀ x ∈ l, Q x := by
  rcases h with rfl | ⟨b, o, fp, e, _, _, hO⟩
  · simp
  · intro x hx
    obtain ⟨i, hi, rfl⟩ := List.getElem_of_mem hx
    exact hQ _ _ (hO.sub i hi)


/-- A record stored behind those that are there. -/
theorem store_snoc2 {w : World} {b m : Nat} {pre : List α} {x : α} (hin : In w b 0 pre) (hth : w.there b 0 (m * Cel.k α)) (hn : pre.length < m) :
    In (w.setCells b (pre.length * Cel.k α) (Cel.cs x)) b 0 (pre ++ [x]) ∧ (w.setCells b (pre.length * Cel.k α) (Cel.cs x)).there b 0 (m * Cel.k α) := by
  have hlen : (flat pre).length = pre.length * Cel.k α := flat_length _
  refine ⟨?_, World.there_setCells hth _ _ _⟩
  unfold In
  rw [flat_append, flat_one]
  refine rangeAt_append (World.rangeAt_setCells_apart hin _ _ _ (.inr (.inl (by rw [hlen]; omega)))) ?_
  rw [hlen, Nat.zero_add]
  refine World.rangeAt_setCells_same _ _ _ _ fun j hj => ?_
  have hj' : j < Cel.k α := by rwa [Cel.len] at hj
  have hlt : pre.length * Cel.k α + j < m * Cel.k α := by have : (pre.length + 1) * Cel.k α ≤ m * Cel.k α := Nat.mul_le_mul_right _ hn; rw [Nat.add_mul] at this; omega
  have := hth (pre.length * Cel.k α + j) hlt
  rwa [Nat.zero_add] at this
theorem setCells_off (w : World) (b : Nat) : ∀ (vs : List Value) (o : Nat), Only b w (w.setCells b o vs) := by
  intro vs
  induction vs generalizing w with
  | nil => intro o; exact Only.refl _ _
  | cons v vs ih =>
    intro o
    have h1 : Only b w (w.setCell ⟨b, o, none⟩ v) := (Only.refl b w).set o v
    have h2 := ih (w.setCell ⟨b, o, none⟩ v) (o + 1)
    exact ⟨h2.os.trans h1.os, h2.tape.trans h1.tape, h2.output.trans h1.output, Nat.le_trans h1.size h2.size, fun i hi hb => (h2.block i (Nat.lt_of_lt_of_le hi h1.size) hb).trans (h1.block i hi hb)⟩

/-- A list of records under way in a block of room for m: what lies with each in blocks of its own behind it. -/
def Grow (P : World → α → (Nat → Prop) → Prop) (w : World) (b m : Nat) (pre : List α) : Prop :=
  ∃ fp, OwnF P w b 0 pre fp ∧ w.there b 0 (m * Cel.k α) ∧ ∀ i x, fp i x → i < pre.length ∧ b < x ∧ x < w.heap.size
theorem Grow.start {w : World} {b m : Nat} (hb : b < w.heap.size) (hth : w.there b 0 (m * Cel.k α)) : Grow P w b m [] :=
  ⟨fun _ _ => False, ⟨hb, In.nil _ _ _, fun j hj => by simp at hj, fun i h => by simp at h, fun _ _ _ _ h => h.elim, fun _ h => h⟩, hth, fun _ _ h => h.elim⟩
theorem Grow.snoc (hP : Firm P) {w w1 : World} {b m : Nat} {pre : List α} (h : Grow P w b m pre) (hn : pre.length < m) (g : Below w.heap.size w w1) {y : α} {S : Nat → Prop} (hy : P w1 y S) (hS : ∀ x, S x → w.heap.size ≤ x ∧ x < w1.heap.size) :
    Grow P (w1.setCells b (pre.length * Cel.k α) (Cel.cs y)) b m (pre ++ [y]) := by
  obtain ⟨fp, hO, hth, hfp⟩ := h
  have hO1 := hO.below hP g
  have ht1 := there_below hth hO.lt g
  obtain ⟨k1, k2⟩ := store_snoc2 (x := y) hO1.lst ht1 hn
  have ko := setCells_off w1 b (Cel.cs y) (pre.length * Cel.k α)
  have kp := Offp.of_only ko
  have hbS : ∀ x, S x → x ≠ b := fun x hx e => by have := (hS x hx).1; have := hO.lt; omega
  refine ⟨fun i => if i = pre.length then S else fp i, ⟨Nat.lt_of_lt_of_le hO1.lt ko.size, k1, ?_, ?_, ?_, ?_⟩, k2, ?_⟩
  · intro j hj
    refine k2 j (Nat.lt_of_lt_of_le hj (Nat.mul_le_mul_right _ ?_))
    simp; omega
  · intro i hi
    by_cases e : i = pre.length
    · subst e
      simp only [if_true]
      rw [List.getElem_append_right (Nat.le_refl _)]
      simp only [Nat.sub_self, List.getElem_cons_zero]
      exact hP _ _ _ _ _ hy kp (fun x hx => hbS x hx)
    · have hi' : i < pre.length := by simp at hi; omega
      simp only [if_neg e]
      rw [List.getElem_append_left hi']
      exact hP _ _ _ _ _ (hO1.sub i hi') kp (fun x hx e2 => by have := (hfp i x hx).2.1; omega)
  · intro i j hij x hx hx'
    by_cases e1 : i = pre.length
    · by_cases e2 : j = pre.length
      · omega
      · simp only [if_pos e1] at hx
        simp only [if_neg e2] at hx'
        have := (hS x hx).1
        have := (hfp j x hx').2.2
        omega
    · by_cases e2 : j = pre.length
      · simp only [if_neg e1] at hx
        simp only [if_pos e2] at hx'
        have := (hS x hx').1
        have := (hfp i x hx).2.2
        omega
      · simp only [if_neg e1] at hx
        simp only [if_neg e2] at hx'
        exact hO.dis i j hij x hx hx'
  · intro i hx
    by_cases e1 : i = pre.length
    · simp only [if_pos e1] at hx; exact hbS b hx rfl
    · simp only [if_neg e1] at hx; exact hO.nb i hx
  · intro i x hx
    have hs := ko.size
    by_cases e1 : i = pre.length
    · simp only [if_pos e1] at hx
      have := hS x hx
      have := hO.lt
      exact ⟨by simp; omega, by omega, by omega⟩
    · simp only [if_neg e1] at hx
      have := hfp i x hx
      have := g.size
      exact ⟨by simp; omega, by omega, by omega⟩
theorem Grow.own {w : World} {b m : Nat} {pre : List α} (h : Grow P w b m pre) : Own P w (some ⟨b, 0, none⟩) pre (fun x => b ≤ x ∧ x < w.heap.size) := by
  obtain ⟨fp, hO, _, hfp⟩ := h
  exact .inr ⟨b, 0, fp, rfl, ⟨Nat.le_refl _, hO.lt⟩, fun i x hx => by have := hfp i x hx; exact ⟨by omega, this.2.2⟩, hO⟩
theorem Grow.lt {w : World} {b m : Nat} {pre : List α} (h : Grow P w b m pre) : b < w.heap.size := by
  obtain ⟨fp, hO, _, _⟩ := h; exact hO.lt
theorem Grow.th {w : World} {b m : Nat} {pre : List α} (h : Grow P w b m pre) : w.there b 0 (m * Cel.k α) := by
  obtain ⟨fp, _, h, _⟩ := h; exact h
end

theorem offp_grown {W W' : World} {row : Option Nat} (h : W.grownBy W' row) : Offp (fun x => row = some x) W W' := ⟨h.os, h.tape, h.output, h.size, fun k hk hn => h.block k hk (fun e => hn e.symm)⟩
theorem owns_offp {B : Nat} {W W' : World} {v : Value} {t : TypeId} {k n : Nat} {xs : List Value} {S : Nat → Prop} (h : W.ownsRow B t k v n xs) (hg : Offp S W W') (hne : ∀ x, v.ownBlock = some x → ¬ S x) : W'.ownsRow B t k v n xs := by
  refine ⟨h.1, ?_⟩
  rcases h.2 with ⟨rfl, rfl⟩ | ⟨g, c, cur, rfl, hB, hb, hc, hm, hsz, ht⟩
  · exact .inl ⟨rfl, rfl⟩
  · exact .inr ⟨g, c, cur, rfl, hB, Blk.offp (show Blk W g t cur from hb) hg (hne g rfl), hc, hm, hsz, ht⟩

section
variable {α : Type}
/-- What a list becomes by marks: m what a record becomes, c how many marks it takes. -/
def marked (m : α → Int → α) (c : α → Nat) : List α → Int → List α
  | [], _ => []
  | x :: l, z => m x z :: marked m c l (z + c x)
def count (c : α → Nat) (l : List α) : Nat := (l.map c).sum
theorem marked_length (m : α → Int → α) (c : α → Nat) (l : List α) : ∀ z, (marked m c l z).length = l.length := by
  induction l with
  | nil => intro z; rfl
  | cons x l ih => intro z; simp [marked, ih]
theorem count_snoc (c : α → Nat) (l : List α) (n : Nat) (hn : n < l.length) : count c (l.take (n + 1)) = count c (l.take n) + c l[n] := by
  unfold count; rw [List.take_succ_eq_append_getElem hn, List.map_append, List.sum_append]; simp
theorem count_le (c : α → Nat) (l : List α) (n : Nat) : count c (l.take n) ≤ count c l := by
  have e : count c l = count c (l.take n) + count c (l.drop n) := by
    unfold count; rw [← List.sum_append, ← List.map_append, List.take_append_drop]
  omega
theorem count_mem (c : α → Nat) (l : List α) : ∀ x ∈ l, c x ≤ count c l := by
  induction l with
  | nil => simp
  | cons a l ih =>
    intro x hx
    rcases List.mem_cons.1 hx with rfl | hx
    · simp [count]
    · have := ih x hx; simp only [count, List.map_cons, List.sum_cons] at this ⊢; omega
theorem count_zero (c : α → Nat) (l : List α) : count c (l.take 0) = 0 := rfl
theorem count_all (c : α → Nat) (l : List α) (n : Nat) (hn : l.length ≤ n) : count c (l.take n) = count c l := by rw [List.take_of_length_le hn]
/-- The list when the first n have their marks. -/
def half (m : α → Int → α) (c : α → Nat) (l : List α) (k : Int) (n : Nat) : List α := marked m c (l.take n) k ++ l.drop n
theorem half_zero (m : α → Int → α) (c : α → Nat) (l : List α) (k : Int) : half m c l k 0 = l := by simp [half, marked]
theorem half_all (m : α → Int → α) (c : α → Nat) (l : List α) (k : Int) (n : Nat) (hn : l.length ≤ n) : half m c l k n = marked m c l k := by simp [half, List.take_of_length_le hn, List.drop_eq_nil_of_le hn]
theorem half_length (m : α → Int → α) (c : α → Nat) (l : List α) (k : Int) (n : Nat) : (half m c l k n).length = l.length := by
  simp only [half, List.length_append, marked_length, List.length_take, List.length_drop]; omega
theorem half_get (m : α → Int → α) (c : α → Nat) (l : List α) (k : Int) (n : Nat) (hn : n < l.length) (h : n < (half m c l k n).length) : (half m c l k n)[n] = l[n] := by
  have hl : (marked m c (l.take n) k).length = n := by rw [marked_length, List.length_take]; omega
  simp only [half]
  rw [List.getElem_append_right (by omega)]
  simp [hl]
theorem marked_append (m : α → Int → α) (c : α → Nat) (l r : List α) : ∀ k, marked m c (l ++ r) k = marked m c l k ++ marked m c r (k + count c l) := by
  induction l with
  | nil => intro k; simp [marked, count]
  | cons x l ih =>
    intro k
    have e : k + (c x : Int) + (count c l : Int) = k + (count c (x :: l) : Int) := by simp only [count, List.map_cons, List.sum_cons]; omega
    simp only [List.cons_append, marked, ih, e]
theorem half_succ (m : α → Int → α) (c : α → Nat) (l : List α) (k : Int) (n : Nat) (hn : n < l.length) : half m c l k (n + 1) = (half m c l k n).set n (m l[n] (k + count c (l.take n))) := by
  have hl : (marked m c (l.take n) k).length = n := by rw [marked_length, List.length_take]; omega
  unfold half
  rw [List.take_succ_eq_append_getElem hn, marked_append, List.set_append_right _ _ (by omega), hl, Nat.sub_self, List.drop_eq_getElem_cons hn, List.append_assoc]
  rfl
theorem marked_get (m : α → Int → α) (c : α → Nat) (l : List α) (n : Nat) (hn : n < l.length) : ∀ (k : Int) (h : n < (marked m c l k).length), (marked m c l k)[n] = m l[n] (k + count c (l.take n)) := by
  induction l generalizing n with
  | nil => simp at hn
  | cons x l ih =>
    intro k h
    cases n with
    | zero => simp [marked, count]
    | succ n =>
      simp only [marked, List.getElem_cons_succ]
      have e : k + (c x : Int) + (count c (l.take n) : Int) = k + (count c ((x :: l).take (n + 1)) : Int) := by simp only [count, List.take_succ_cons, List.map_cons, List.sum_cons]; omega
      rw [ih n (by simpa using hn), e]
end
end Go.Proofs.YtclgdghfcjkhfaaGreat.Gen

/-
  Items in memory: a list of items lies in a block, five cells an item; a slice value that holds a list of items. No condition.
-/
namespace Go.Proofs.YtclgdghfcjkhfaaGreat.Items
open Go.ChangeShapes Go.WideShapes Go.ChangeAt Go.RowKit Base
set_option linter.unusedVariables false

/-- An item as it is read. -/
structure It where
  off : Int
  key : ByteArray
  text : ByteArray
  who : Int
  time : Int

def It.cs (x : It) : List Value := [.int .i64 x.off, .string x.key, .string x.text, .int .i64 x.who, .int .i64 x.time]
def flat (l : List It) : List Value := l.flatMap It.cs

theorem It.cs_length (x : It) : x.cs.length = 5 := rfl
theorem flat_length (l : List It) : (flat l).length = l.length * 5 := by
  induction l with
  | nil => rfl
  | cons a l ih => simp only [flat, List.flatMap_cons, List.length_append, List.length_cons] at ih ⊢; rw [ih, It.cs_length]; omega
theorem flat_append (l m : List It) : flat (l ++ m) = flat l ++ flat m := by simp [flat]
theorem flat_one (x : It) : flat [x] = x.cs := by simp [flat]
theorem flat_cons (x : It) (l : List It) : flat (x :: l) = x.cs ++ flat l := by simp [flat]

theorem flat_get (l : List It) : ∀ (i : Nat) (h : i < l.length) (f : Nat), f < 5 → (flat l)[i * 5 + f]? = (l[i].cs)[f]? := by
  induction l with
  | nil => intro i h; simp at h
  | cons a l ih =>
    intro i h f hf
    rw [flat_cons]
    cases i with
    | zero => rw [List.getElem?_append_left (by rw [It.cs_length]; omega)]; simp
    | succ i =>
      rw [List.getElem?_append_right (by rw [It.cs_length]; omega), It.cs_length]
      have e : (i + 1) * 5 + f - 5 = i * 5 + f := by omega
      rw [e, ih i (by simpa using h) f hf]; simp

/-- The items l lie in block b from offset o on. -/
def In (w : World) (b o : Nat) (l : List It) : Prop := w.rangeAt b o (flat l)

theorem In.get {w : World} {b o : Nat} {l : List It} (h : In w b o l) (i : Nat) (hi : i < l.length) :
    w.cell? ⟨b, o + i * 5, none⟩ = some (.int .i64 l[i].off) ∧ w.cell? ⟨b, o + i * 5 + 1, none⟩ = some (.string l[i].key) ∧ w.cell? ⟨b, o + i * 5 + 2, none⟩ = some (.string l[i].text) ∧
    w.cell? ⟨b, o + i * 5 + 3, none⟩ = some (.int .i64 l[i].who) ∧ w.cell? ⟨b, o + i * 5 + 4, none⟩ = some (.int .i64 l[i].time) := by
  have g : ∀ f v, f < 5 → (l[i].cs)[f]? = some v → w.cell? ⟨b, o + (i * 5 + f), none⟩ = some v := fun f v hf hv => h (i * 5 + f) v (by rw [flat_get l i hi f hf]; exact hv)
  exact ⟨g 0 _ (by omega) rfl, g 1 _ (by omega) rfl, g 2 _ (by omega) rfl, g 3 _ (by omega) rfl, g 4 _ (by omega) rfl⟩

theorem In.below {w w' : World} {b o : Nat} {l : List It} (h : In w b o l) (hb : b < w.heap.size) (hw : Below w.heap.size w w') : In w' b o l :=
  fun j v hv => (hw.cell (p := ⟨b, o + j, none⟩) hb).trans (h j v hv)

/-- The slice value v holds the items l. -/
def Holds (w : World) (v : Value) (l : List It) : Prop :=
  ∃ (A : Option Addr) (c : Nat), v = .slice A l.length c ∧ l.length ≤ c ∧ (l = [] ∨ ∃ b o, A = some ⟨b, o, none⟩ ∧ b < w.heap.size ∧ In w b o l)

theorem Holds.below {w w' : World} {v : Value} {l : List It} (h : Holds w v l) (hw : Below w.heap.size w w') : Holds w' v l := by
  obtain ⟨A, c, rfl, hc, h⟩ := h
  refine ⟨A, c, rfl, hc, ?_⟩
  rcases h with h | ⟨b, o, rfl, hb, hi⟩
  · exact .inl h
  · exact .inr ⟨b, o, rfl, Nat.lt_of_lt_of_le hb hw.size, hi.below hb hw⟩
end Go.Proofs.YtclgdghfcjkhfaaGreat.Items

/-
  The laws' szItem, szItemS and szRow: what is left is told, and where it is not below 0 the row's lengths are bounded. No condition but the length that every text has.
-/
namespace Go.Proofs.YtclgdghfcjkhfaaGreat.Items
open Go.ChangeShapes Go.WideShapes Go.ChangeAt Go.RowKit Base
set_option linter.unusedVariables false

theorem via0 {a b c : World} (k : Below b.heap.size b c) (h : Below a.heap.size a b) : Below a.heap.size a c := h.trans (k.mono h.size)
theorem alloc0 {a b : World} (h : Below a.heap.size a b) (o : Obj) : Below a.heap.size a (b.alloc o) := h.alloc h.size o

def szI (k t : Nat) (left : Int) : Int := if left < k then -1 else if left < k + t then -1 else left - k - t

theorem szItem_any (off who time : Int) (k t : ByteArray) (left : Int) (h0 : 0 ≤ left) (h1 : left ≤ 1048576) (hk : k.size ≤ 9223372036854775807) (ht : t.size ≤ 9223372036854775807) (w : World) :
    Calls Tryz.prog 173 #[.agg #[.int .i64 off, .string k, .string t, .int .i64 who, .int .i64 time], .int .i64 left] w fun e w' => e = .returned (.int .i64 (szI k.size t.size left)) ∧ Below w.heap.size w w' := by
  by_cases h1 : left < k.size
  · have g1 : left - (k.size : Int) < 0 := by omega
    have e1 : szI k.size t.size left = -1 := by simp [szI, h1]
    rw [e1]
    go_enter Tryz.func173, Tryz.ntmps173
    go_wp2
    go_ret
    exact ⟨rfl, by repeat (first | exact Below.refl _ _ | refine via0 (by assumption) ?_ | refine Below.drew ?_ | refine alloc0 ?_ _)⟩
  · have g1 : ¬ left - (k.size : Int) < 0 := by omega
    by_cases h2 : left < k.size + t.size
    · have g2 : left - (k.size : Int) - (t.size : Int) < 0 := by omega
      have e1 : szI k.size t.size left = -1 := by simp [szI, h1, h2]
      rw [e1]
      go_enter Tryz.func173, Tryz.ntmps173
      go_wp2
      go_ret
      exact ⟨rfl, by repeat (first | exact Below.refl _ _ | refine via0 (by assumption) ?_ | refine Below.drew ?_ | refine alloc0 ?_ _)⟩
    · have g2 : ¬ left - (k.size : Int) - (t.size : Int) < 0 := by omega
      have e1 : szI k.size t.size left = left - k.size - t.size := by simp [szI, h1, h2]
      rw [e1]
      go_enter Tryz.func173, Tryz.ntmps173
      go_wp2
      go_ret
      exact ⟨rfl, by repeat (first | exact Below.refl _ _ | refine via0 (by assumption) ?_ | refine Below.drew ?_ | refine alloc0 ?_ _)⟩

theorem szI_ge {k t : Nat} {left : Int} (h0 : 0 ≤ left) (h : 0 ≤ szI k t left) : szI k t left = left - k - t := by
  unfold szI at h ⊢
  split at h
  · omega
  · split at h
    · omega
    · rw [if_neg (by assumption), if_neg (by assumption)]

/-- The bytes of the items' texts. -/
def tot : List It → Nat
  | [] => 0
  | x :: l => x.key.size + x.text.size + tot l
theorem tot_append (l m : List It) : tot (l ++ m) = tot l + tot m := by
  induction l with
  | nil => simp [tot]
  | cons x l ih => simp only [List.cons_append, tot, ih]; omega
theorem tot_take {l : List It} {n : Nat} (h : n < l.length) : tot (l.take (n + 1)) = tot (l.take n) + (l[n].key.size + l[n].text.size) := by
  rw [List.take_succ_eq_append_getElem h, tot_append]; simp [tot]

theorem szItemS_at (A : Option Addr) (cap : Nat) (l : List It) (hl : l.length ≤ 9223372036854775807) (hs : ∀ x ∈ l, x.key.size ≤ 9223372036854775807 ∧ x.text.size ≤ 9223372036854775807) (left : Int) (hl0 : 0 ≤ left) (hl1 : left ≤ 1048576) (w : World)
    (hA : l = [] ∨ ∃ b o, A = some ⟨b, o, none⟩ ∧ b < w.heap.size ∧ In w b o l) :
    Calls Tryz.prog 146 #[.slice A l.length cap, .int .i64 left] w fun e w' => ∃ r : Int, e = .returned (.int .i64 r) ∧ (r = -1 ∨ (0 ≤ r ∧ r = left - l.length - tot l)) ∧ Below w.heap.size w w' := by
  by_cases hb : left - (l.length : Int) < 0
  · go_enter Tryz.func146, Tryz.ntmps146
    go_wp2
    go_ret
    exact ⟨-1, rfl, .inl rfl, Below.refl _ _⟩
  · have HA : Hid (l = [] ∨ ∃ b o, A = some ⟨b, o, none⟩ ∧ b < w.heap.size ∧ In w b o l) := hA
    clear hA
    go_enter Tryz.func146, Tryz.ntmps146
    go_wp2
    go_loopw [1, 5] (fun le i w' => ∃ (n : Nat) (r : Int), i = .int .i64 (n : Int) ∧ le = .int .i64 r ∧ n ≤ l.length ∧ 0 ≤ r ∧ r ≤ 1048576 ∧ Hid (r = left - l.length - tot (l.take n)) ∧ Below w.heap.size w w') (fun _ i _ => l.length - (intOf i).toNat)
    case atStart => exact ⟨0, _, rfl, rfl, by omega, by omega, by omega, by simp [tot, Hid], Below.refl _ _⟩
    case round =>
      obtain ⟨n, r, rfl, rfl, hn, h0, h1, hr, hbl⟩ := hrel
      by_cases hlt : n < l.length
      · obtain ⟨b, o, rfl, hbs, hin⟩ : ∃ b o, A = some ⟨b, o, none⟩ ∧ b < w.heap.size ∧ In w b o l := by
          rcases HA.out with h | h
          · subst h; simp at hlt
          · exact h
        obtain ⟨hc0, hc1, hc2, hc3, hc4⟩ := (hin.below hbs hbl).get n hlt
        obtain ⟨hk, ht⟩ := hs l[n] (List.getElem_mem hlt)
        have HT := tot_take hlt
        go_wp2_with (go_at_call 173; refine (szItem_any _ _ _ _ _ _ h0 h1 hk ht _).mono ?_; rintro e w1 ⟨rfl, g1⟩)
        · go_ret
          exact ⟨-1, rfl, .inl rfl, via0 g1 hbl⟩
        · have hge : 0 ≤ szI l[n].key.size l[n].text.size r := by assumption
          have he := szI_ge h0 hge
          refine ⟨⟨n + 1, szI l[n].key.size l[n].text.size r, by go_num, rfl, by omega, hge, by omega, ?_, via0 g1 hbl⟩, by simp [intOf]; omega⟩
          have hr' := hr.out
          show szI l[n].key.size l[n].text.size r = left - l.length - tot (l.take (n + 1))
          rw [HT, he, hr']
          omega
      · have e : l.take n = l := List.take_of_length_le (by omega)
        go_wp2
        go_ret
        exact ⟨r, rfl, .inr ⟨h0, by have := hr.out; rw [e] at this; exact this⟩, hbl⟩

theorem szItemS_any (A : Option Addr) (cap : Nat) (l : List It) (hl : l.length ≤ 9223372036854775807) (hs : ∀ x ∈ l, x.key.size ≤ 9223372036854775807 ∧ x.text.size ≤ 9223372036854775807) (w : World)
    (hA : l = [] ∨ ∃ b o, A = some ⟨b, o, none⟩ ∧ b < w.heap.size ∧ In w b o l) :
    Calls Tryz.prog 146 #[.slice A l.length cap, .int .i64 1048576] w fun e w' => ∃ r : Int, e = .returned (.int .i64 r) ∧ (r = -1 ∨ (0 ≤ r ∧ r = 1048576 - l.length - tot l)) ∧ Below w.heap.size w w' :=
  szItemS_at A cap l hl hs 1048576 (by omega) (by omega) w hA

theorem szRow_at (start next : Int) (A : Option Addr) (cap : Nat) (l : List It) (hl : l.length ≤ 9223372036854775807) (hs : ∀ x ∈ l, x.key.size ≤ 9223372036854775807 ∧ x.text.size ≤ 9223372036854775807) (left : Int) (hl0 : 0 ≤ left) (hl1 : left ≤ 1048576) (w : World)
    (hA : l = [] ∨ ∃ b o, A = some ⟨b, o, none⟩ ∧ b < w.heap.size ∧ In w b o l) :
    Calls Tryz.prog 96 #[.agg #[.int .i64 start, .int .i64 next, .slice A l.length cap], .int .i64 left] w fun e w' => ∃ r : Int, e = .returned (.int .i64 r) ∧ (r < 0 ∨ (0 ≤ r ∧ r = left - l.length - tot l)) ∧ Below w.heap.size w w' := by
  have hA' : ∀ ob : Obj, l = [] ∨ ∃ b o, A = some ⟨b, o, none⟩ ∧ b < (w.alloc ob).heap.size ∧ In (w.alloc ob) b o l := fun ob => by
    rcases hA with h | ⟨b, o, h1, h2, h3⟩
    · exact .inl h
    · exact .inr ⟨b, o, h1, by simp; omega, h3.below h2 (alloc0 (Below.refl _ _) ob)⟩
  have HA : Hid (∀ ob : Obj, l = [] ∨ ∃ b o, A = some ⟨b, o, none⟩ ∧ b < (w.alloc ob).heap.size ∧ In (w.alloc ob) b o l) := hA'
  clear hA hA'
  go_enter Tryz.func96, Tryz.ntmps96
  go_wp2_with (go_at_call 146; refine (szItemS_at A cap l hl hs left hl0 hl1 _ (HA.out _)).mono ?_; rintro e w1 ⟨r, rfl, hr, g1⟩; have HR : Hid (r = -1 ∨ (0 ≤ r ∧ r = left - l.length - tot l)) := hr; clear hr)
  · go_ret
    refine ⟨-1, rfl, .inl (by omega), ?_⟩
    repeat (first | exact Below.refl _ _ | refine via0 (by assumption) ?_ | refine Below.drew ?_ | refine alloc0 ?_ _)
  · go_ret
    refine ⟨r, rfl, ?_, ?_⟩
    · rcases HR.out with h | h
      · omega
      · exact .inr h
    · repeat (first | exact Below.refl _ _ | refine via0 (by assumption) ?_ | refine Below.drew ?_ | refine alloc0 ?_ _)
theorem szRow_any (start next : Int) (A : Option Addr) (cap : Nat) (l : List It) (hl : l.length ≤ 9223372036854775807) (hs : ∀ x ∈ l, x.key.size ≤ 9223372036854775807 ∧ x.text.size ≤ 9223372036854775807) (w : World)
    (hA : l = [] ∨ ∃ b o, A = some ⟨b, o, none⟩ ∧ b < w.heap.size ∧ In w b o l) :
    Calls Tryz.prog 96 #[.agg #[.int .i64 start, .int .i64 next, .slice A l.length cap], .int .i64 1048576] w fun e w' => ∃ r : Int, e = .returned (.int .i64 r) ∧ (r < 0 ∨ (0 ≤ r ∧ r = 1048576 - l.length - tot l)) ∧ Below w.heap.size w w' :=
  szRow_at start next A cap l hl hs 1048576 (by omega) (by omega) w hA
end Go.Proofs.YtclgdghfcjkhfaaGreat.Items

/-
  The laws' toItem, toItemS and toRow: a row in new memory that holds the same items. No condition but that the items are at most 1048576.
-/
namespace Go.Proofs.YtclgdghfcjkhfaaGreat.Items
open Go.ChangeShapes Go.WideShapes Go.ChangeAt Go.RowKit Base
set_option linter.unusedVariables false

theorem toItem_any (off who time : Int) (k t : ByteArray) (w : World) :
    Calls Tryz.prog 174 #[.agg #[.int .i64 off, .string k, .string t, .int .i64 who, .int .i64 time]] w fun e w' => e = .returned (.agg #[.int .i64 off, .string k, .string t, .int .i64 who, .int .i64 time]) ∧ Below w.heap.size w w' := by
  go_enter Tryz.func174, Tryz.ntmps174
  go_wp2
  exact bodyPost_ret (v := .agg #[.int .i64 off, .string k, .string t, .int .i64 who, .int .i64 time]) (by simp [results, Tryz.results174, go_sem]) rfl ⟨rfl, by repeat (first | exact Below.refl _ _ | refine via0 (by assumption) ?_ | refine Below.drew ?_ | refine alloc0 ?_ _)⟩

def zeroItem : Value := .agg #[.int .i64 0, .string ⟨#[]⟩, .string ⟨#[]⟩, .int .i64 0, .int .i64 0]
def zeros (n : Nat) : Array Value := madeCells zeroItem.cells (n * 5)

theorem infoItem : (Tryz.prog.info? 165).map (fun i => (i.zero, i.size, i.bytes)) = some (some zeroItem, 5, 56) := by kernel_rfl

theorem make_items (n : Nat) (hn : n ≤ 1048576) (w : World) :
    (Instr.makeSlice 95 (.int .i64 (n : Int)) (.int .i64 (n : Int))).run Tryz.prog w = .ok (.slice (some ⟨w.heap.size, 0, none⟩) n n) (w.alloc (.cells (zeros n) 165)) := by
  have h := infoItem
  cases hi : Tryz.prog.info? 165 with
  | none => rw [hi] at h; simp at h
  | some i =>
    rw [hi] at h
    simp only [Option.map_some, Option.some.injEq, Prod.mk.injEq] at h
    obtain ⟨hz, hs, hb⟩ := h
    have r := run_make (P := Tryz.prog) w 95 165 i zeroItem Tryz.underlying95 hi hz .i64 .i64 n n (by omega) (Int.le_refl _) (by rw [hb]; omega) (by omega)
    rw [r, hs]
    simp [zeros]

theorem zeros_size (n : Nat) : (zeros n).size = n * 5 := size_madeCells _ _

theorem rangeAt_append {w : World} {b o : Nat} {xs ys : List Value} (h1 : w.rangeAt b o xs) (h2 : w.rangeAt b (o + xs.length) ys) : w.rangeAt b o (xs ++ ys) := fun j v hv => by
  by_cases hj : j < xs.length
  · exact h1 j v (by rwa [List.getElem?_append_left hj] at hv)
  · rw [List.getElem?_append_right (by omega)] at hv
    have := h2 (j - xs.length) v hv
    have e : o + xs.length + (j - xs.length) = o + j := by omega
    rwa [e] at this

theorem there_below {w w' : World} {b o n : Nat} (h : w.there b o n) (hb : b < w.heap.size) (hw : Below w.heap.size w w') : w'.there b o n := fun j hj => by
  rw [hw.cell (p := ⟨b, o + j, none⟩) hb, hw.frozen (p := ⟨b, o + j, none⟩) hb]
  exact h j hj

/-- An item stored behind those that are there. -/
theorem store_item {w : World} {b : Nat} {l : List It} {n : Nat} (hin : In w b 0 (l.take n)) (hth : w.there b 0 (l.length * 5)) (hn : n < l.length) :
    In (w.setCells b (n * 5) l[n].cs) b 0 (l.take (n + 1)) ∧ (w.setCells b (n * 5) l[n].cs).there b 0 (l.length * 5) := by
  have hlen : (flat (l.take n)).length = n * 5 := by rw [flat_length, List.length_take]; omega
  refine ⟨?_, World.there_setCells hth _ _ _⟩
  unfold In
  rw [List.take_succ_eq_append_getElem hn, flat_append, flat_one]
  refine rangeAt_append (World.rangeAt_setCells_apart hin _ _ _ (.inr (.inl (by rw [hlen]; omega)))) ?_
  rw [hlen, Nat.zero_add]
  refine World.rangeAt_setCells_same _ _ _ _ fun j hj => ?_
  have hj' : j < 5 := hj
  have := hth (n * 5 + j) (by omega)
  rwa [Nat.zero_add] at this

theorem made_there (w : World) (n : Nat) : (w.alloc (.cells (zeros n) 165)).there w.heap.size 0 (n * 5) := fun j hj => by
  have : j < (zeros n).size := by rw [zeros_size]; exact hj
  simp [this]

theorem toItemS_any (A : Option Addr) (cap : Nat) (l : List It) (hl : l.length ≤ 1048576) (w : World)
    (hA : l = [] ∨ ∃ b o, A = some ⟨b, o, none⟩ ∧ b < w.heap.size ∧ In w b o l) :
    Calls Tryz.prog 149 #[.slice A l.length cap] w fun e w' => e = .returned (.slice (some ⟨w.heap.size, 0, none⟩) l.length l.length) ∧ Below w.heap.size w w' ∧ w.heap.size < w'.heap.size ∧ In w' w.heap.size 0 l ∧ w'.there w.heap.size 0 (l.length * 5) := by
  have HA : Hid (l = [] ∨ ∃ b o, A = some ⟨b, o, none⟩ ∧ b < w.heap.size ∧ In w b o l) := hA
  clear hA
  have hmk := make_items l.length hl
  go_enter Tryz.func149, Tryz.ntmps149
  go_wp2
  go_loopw [4] (fun i w' => ∃ (n : Nat), i = .int .i64 (n : Int) ∧ n ≤ l.length ∧ Below w.heap.size w w' ∧ w.heap.size < w'.heap.size ∧ Hid (In w' w.heap.size 0 (l.take n)) ∧ Hid (w'.there w.heap.size 0 (l.length * 5))) (fun i _ => l.length - (intOf i).toNat)
  case atStart => exact ⟨0, rfl, by omega, by repeat (first | exact Below.refl _ _ | refine via0 (by assumption) ?_ | refine Below.drew ?_ | refine alloc0 ?_ _), by simp, fun j v hv => by simp [flat] at hv, made_there w _⟩
  case round =>
    obtain ⟨n, rfl, hn, hbl, hsz, hin, hth⟩ := hrel
    by_cases hlt : n < l.length
    · obtain ⟨b, o, rfl, hbs, hIn⟩ : ∃ b o, A = some ⟨b, o, none⟩ ∧ b < w.heap.size ∧ In w b o l := by
        rcases HA.out with h | h
        · subst h; simp at hlt
        · exact h
      obtain ⟨hc0, hc1, hc2, hc3, hc4⟩ := (hIn.below hbs hbl).get n hlt
      have hT : ∀ f, f < 5 → (∃ v, wr.cell? ⟨w.heap.size, n * 5 + f, none⟩ = some v) ∧ wr.frozen? ⟨w.heap.size, n * 5 + f, none⟩ = false := fun f hf => by
        have := hth.out (n * 5 + f) (by omega)
        rw [Nat.zero_add] at this
        exact ⟨Option.isSome_iff_exists.1 this.1, this.2⟩
      obtain ⟨⟨v0, d0⟩, f0⟩ := hT 0 (by omega)
      rw [Nat.add_zero] at d0 f0
      obtain ⟨⟨v1, d1⟩, f1⟩ := hT 1 (by omega)
      obtain ⟨⟨v2, d2⟩, f2⟩ := hT 2 (by omega)
      obtain ⟨⟨v3, d3⟩, f3⟩ := hT 3 (by omega)
      obtain ⟨⟨v4, d4⟩, f4⟩ := hT 4 (by omega)
      clear hT
      go_wp2_with (go_at_call 174; refine (toItem_any _ _ _ _ _ _).mono ?_; rintro e w1 ⟨rfl, g1⟩; obtain ⟨k1, m1⟩ := bcell g1; have s1 := g1.size)
      have hst := store_item (hin.out.below hsz g1) (there_below hth.out hsz g1) hlt
      refine ⟨⟨n + 1, by go_num, by omega, ?_, by simp; omega, hst.1, hst.2⟩, by simp [intOf]; omega⟩
      exact (((((via0 g1 hbl).setCell (Nat.le_refl _) _).setCell (Nat.le_refl _) _).setCell (Nat.le_refl _) _).setCell (Nat.le_refl _) _).setCell (Nat.le_refl _) _
    · have e : l.take n = l := List.take_of_length_le (by omega)
      go_wp2
      go_ret
      exact ⟨rfl, hbl, hsz, by have := hin.out; rwa [e] at this, hth.out⟩

theorem In.set {w : World} {b o : Nat} {l : List It} (h : In w b o l) (p : Addr) (v : Value) (hp : p.block ≠ b) : In (w.setCell p v) b o l := fun j u hu => by
  rw [World.cell?_setCell_other (h := fun e => hp (by rw [e]))]; exact h j u hu
theorem there_set {w : World} {b o n : Nat} (h : w.there b o n) (b' o' : Nat) (v : Value) : (w.setCell ⟨b', o', none⟩ v).there b o n := World.there_setCells h b' o' [v]

/-- What new memory holds: the slice value of the items l in a block that is not below B, and may be written. -/
def Fresh (B : Nat) (w : World) (v : Value) (l : List It) : Prop :=
  ∃ (A : Option Addr) (c : Nat), v = .slice A l.length c ∧ l.length ≤ c ∧ (l = [] ∨ ∃ b o, A = some ⟨b, o, none⟩ ∧ B ≤ b ∧ b < w.heap.size ∧ In w b o l ∧ w.there b o (l.length * 5))

theorem Fresh.below {B : Nat} {w w' : World} {v : Value} {l : List It} (h : Fresh B w v l) (hw : Below w.heap.size w w') : Fresh B w' v l := by
  obtain ⟨A, c, rfl, hc, h⟩ := h
  refine ⟨A, c, rfl, hc, ?_⟩
  rcases h with h | ⟨b, o, rfl, hB, hb, hi, ht⟩
  · exact .inl h
  · exact .inr ⟨b, o, rfl, hB, Nat.lt_of_lt_of_le hb hw.size, hi.below hb hw, there_below ht hb hw⟩

theorem Fresh.holds {B : Nat} {w : World} {v : Value} {l : List It} (h : Fresh B w v l) : Holds w v l := by
  obtain ⟨A, c, rfl, hc, h⟩ := h
  refine ⟨A, c, rfl, hc, ?_⟩
  rcases h with h | ⟨b, o, rfl, hB, hb, hi, ht⟩
  · exact .inl h
  · exact .inr ⟨b, o, rfl, hb, hi⟩

/-- The row in new memory: its slice lies in a block of its own. -/
theorem toRow_any (start next : Int) (A : Option Addr) (cap : Nat) (l : List It) (hl : l.length ≤ 1048576) (w : World)
    (hA : l = [] ∨ ∃ b o, A = some ⟨b, o, none⟩ ∧ b < w.heap.size ∧ In w b o l) :
    Calls Tryz.prog 104 #[.agg #[.int .i64 start, .int .i64 next, .slice A l.length cap]] w
      fun e w' => ∃ b, e = .returned (.agg #[.int .i64 start, .int .i64 next, .slice (some ⟨b, 0, none⟩) l.length l.length]) ∧ Below w.heap.size w w' ∧ w.heap.size ≤ b ∧ b < w'.heap.size ∧ In w' b 0 l ∧ w'.there b 0 (l.length * 5) := by
  have hA' : ∀ W : World, Below w.heap.size w W → l = [] ∨ ∃ b o, A = some ⟨b, o, none⟩ ∧ b < W.heap.size ∧ In W b o l := fun W hW => by
    rcases hA with h | ⟨b, o, h1, h2, h3⟩
    · exact .inl h
    · exact .inr ⟨b, o, h1, Nat.lt_of_lt_of_le h2 hW.size, h3.below h2 hW⟩
  have HA : Hid (∀ W : World, Below w.heap.size w W → l = [] ∨ ∃ b o, A = some ⟨b, o, none⟩ ∧ b < W.heap.size ∧ In W b o l) := hA'
  clear hA hA'
  go_enter Tryz.func104, Tryz.ntmps104
  go_wp2_with (go_at_call 149; refine (toItemS_any A cap l hl _ (HA.out _ ?_)).mono ?_; (repeat (first | exact Below.refl _ _ | refine via0 (by assumption) ?_ | refine Below.drew ?_ | refine alloc0 ?_ _)); rintro e w1 ⟨rfl, g1, s1, i1, t1⟩; obtain ⟨k1, m1⟩ := bcell g1)
  have i2 : In w1 (w.heap.size + 1 + 1 + 1) 0 l := by simpa using i1
  have t2 : w1.there (w.heap.size + 1 + 1 + 1) 0 (l.length * 5) := by simpa using t1
  have s2 : w.heap.size + 1 + 1 + 1 < w1.heap.size := by simpa using s1
  have g2 : Below w.heap.size w w1 := via0 g1 (by repeat (first | exact Below.refl _ _ | refine via0 (by assumption) ?_ | refine Below.drew ?_ | refine alloc0 ?_ _))
  refine bodyPost_ret (v := .agg #[.int .i64 start, .int .i64 next, .slice (some ⟨w.heap.size + 1 + 1 + 1, 0, none⟩) l.length l.length]) (by simp [results, Tryz.results104, go_sem, k1]) rfl ⟨w.heap.size + 1 + 1 + 1, rfl, ?_, by omega, by simp; omega, ?_, ?_⟩
  · exact ((((g2.setCell (by show _ ≤ w.heap.size + 1 + 1; omega) _).setCell (by show _ ≤ w.heap.size + 1; omega) _).setCell (by show _ ≤ w.heap.size + 1; omega) _).setCell (by show _ ≤ w.heap.size + 1; omega) _)
  · exact (((i2.set _ _ (by simp)).set _ _ (by simp)).set _ _ (by simp)).set _ _ (by simp)
  · exact there_set (there_set (there_set (there_set t2 _ _ _) _ _ _) _ _ _) _ _ _
end Go.Proofs.YtclgdghfcjkhfaaGreat.Items

/-
  A laws.Row argument opened: its numbers, and its items as they lie. No condition.
-/
namespace Go.Proofs.YtclgdghfcjkhfaaGreat.Items
open Go.ChangeShapes Go.WideShapes Go.ChangeAt Go.RowKit Go.Joins Go.Deep Base
set_option linter.unusedVariables false

instance : Inhabited It := ⟨⟨0, ⟨#[]⟩, ⟨#[]⟩, 0, 0⟩⟩

/-- The items l lie where A leads. -/
abbrev At (w : World) (A : Option Addr) (l : List It) : Prop := l = [] ∨ ∃ b o, A = some ⟨b, o, none⟩ ∧ b < w.heap.size ∧ In w b o l
theorem At.below {w w' : World} {A : Option Addr} {l : List It} (h : At w A l) (hw : Below w.heap.size w w') : At w' A l :=
  h.imp id fun ⟨b, o, e, hb, hi⟩ => ⟨b, o, e, Nat.lt_of_lt_of_le hb hw.size, hi.below hb hw⟩

def I64 (x : Int) : Prop := -9223372036854775808 ≤ x ∧ x ≤ 9223372036854775807
theorem i64_of {x : Int} (hx : (Lit.int .i64 x).wf = true) : I64 x := by simpa [I64, Lit.wf, IntKind.min, IntKind.max, IntKind.signed, IntKind.bits] using hx
/-- What every item that is handed in keeps. -/
def It.right (x : It) : Prop := I64 x.off ∧ I64 x.who ∧ I64 x.time ∧ x.key.size ≤ 9223372036854775807 ∧ x.text.size ≤ 9223372036854775807

theorem fields_at {H : Type} {enc : TypeId × Value → H} {P : Program} {w : World} {base : Nat} {spare : Nat → Bool} {held : Bool} {t : TypeId} {fs : Array Field} {cs : List Value} {fuel : Nat} {x : DataW H × List MemPlace}
    (hs : P.underlying t = some (.struct fs)) (hone : oneCellFields P fs = true) (h : DataW.trod enc P w base spare held fuel t cs = some x) :
    ∃ n, ∀ (i : Nat) (f : Field), fs[i]? = some f → ∀ c, cs[i]? = some c → ∃ y, DataW.trod enc P w base spare held n f.type [c] = some y := by
  obtain ⟨xs, n, _, _, hl, hlen, hf⟩ := DataW.trod_struct hs h
  refine ⟨n, fun i f hi c hc => ?_⟩
  obtain ⟨o, k⟩ := hone_of hone i f hi
  have hlt : i < fs.size := (Array.getElem?_eq_some_iff.1 hi).1
  have g := hf i f hi
  rw [o, k] at g
  have e : cs.drop i = c :: cs.drop (i + 1) := by
    obtain ⟨h1, h2⟩ := List.getElem?_eq_some_iff.1 hc
    rw [List.drop_eq_getElem_cons h1, h2]
  rw [e] at g
  exact ⟨xs[i]'(by omega), by rw [← List.getElem?_eq_getElem]; simpa using g⟩

theorem cellsItem : Tryz.prog.cellsOf 237 = 5 := by kernel_rfl
theorem cellsRow : Tryz.prog.cellsOf 153 = 3 := by kernel_rfl

set_option maxRecDepth 100000 in
theorem item_of {H : Type} {enc : TypeId × Value → H} {w : World} {base n : Nat} {spare : Nat → Bool} {held : Bool} {a : Addr} {cs : List Value} {y : DataW H × List MemPlace}
    (h1 : w.cells? base a 5 = some cs) (h2 : DataW.trod enc Tryz.prog w base spare held n 237 cs = some y) :
    ∃ x : It, x.right ∧ a.spot = none ∧ a.block < w.heap.size ∧ ∀ j v, x.cs[j]? = some v → w.cell? ⟨a.block, a.off + j, none⟩ = some v := by
  obtain ⟨_, hlen, hc⟩ := World.cells?_some h1
  match cs, hlen with
  | [c0, c1, c2, c3, c4], _ =>
    obtain ⟨m, hf⟩ := fields_at Tryz.underlying237 (by kernel_rfl) h2
    obtain ⟨y0, g0⟩ := hf 0 _ rfl _ rfl
    obtain ⟨y1, g1⟩ := hf 1 _ rfl _ rfl
    obtain ⟨y2, g2⟩ := hf 2 _ rfl _ rfl
    obtain ⟨y3, g3⟩ := hf 3 _ rfl _ rfl
    obtain ⟨y4, g4⟩ := hf 4 _ rfl _ rfl
    obtain ⟨off, e0, _, w0⟩ := DataW.trod_int Tryz.underlying3 g0
    obtain ⟨k, e1, _, w1⟩ := DataW.trod_string Tryz.underlying9 g1
    obtain ⟨t, e2, _, w2⟩ := DataW.trod_string Tryz.underlying9 g2
    obtain ⟨who, e3, _, w3⟩ := DataW.trod_int Tryz.underlying3 g3
    obtain ⟨time, e4, _, w4⟩ := DataW.trod_int Tryz.underlying3 g4
    simp at e0 e1 e2 e3 e4
    subst e0 e1 e2 e3 e4
    have q0 := hc 0 (by omega)
    have hsp : a.spot = none := by
      cases hs : a.spot with
      | none => rfl
      | some s => exfalso; simp [Addr.add, World.cell?, hs] at q0; split at q0 <;> simp at q0
    have hlt : a.block < w.heap.size := by
      rw [show a.add 0 = a from rfl] at q0
      unfold World.cell? at q0
      cases hh : w.heap[a.block]? with
      | none => simp [hh] at q0
      | some ob => exact (Array.getElem?_eq_some_iff.1 hh).1
    refine ⟨⟨off, k, t, who, time⟩, ⟨i64_of w0, i64_of w3, i64_of w4, by simpa [maxLen] using w1, by simpa [maxLen] using w2⟩, hsp, hlt, ?_⟩
    intro j v hv
    have hj : j < 5 := (List.getElem?_eq_some_iff.1 hv).1
    have q := hc j hj
    have e : a.add j = ⟨a.block, a.off + j, none⟩ := by
      obtain ⟨b, o, s⟩ := a
      simp only at hsp
      subst hsp
      exact Addr.add_mid b o j
    rw [e] at q
    rw [q]
    exact hv

set_option maxRecDepth 100000 in
theorem open_row {H : Type} {enc : TypeId × Value → H} {W : World} {base b0 : Nat} {r : Reach} {spare : Nat → Bool} {held : Bool} {v : Value} {d : DataW H} {p : List MemPlace}
    (hv : Value.okWide Tryz.prog W r b0 153 v) (h : DataW.Trod enc Tryz.prog W base spare held 153 v d p) :
    ∃ (start next : Int) (A : Option Addr) (cap : Nat) (l : List It), v = .agg #[.int .i64 start, .int .i64 next, .slice A l.length cap] ∧ I64 start ∧ I64 next ∧ l.length ≤ 9223372036854775807 ∧ (∀ x ∈ l, x.right) ∧ At W A l := by
  obtain ⟨cs, rfl, hsz⟩ := okWide_struct Tryz.underlying153 hv
  rw [cellsRow] at hsz
  obtain ⟨c0, c1, c2, rfl⟩ : ∃ c0 c1 c2, cs = #[c0, c1, c2] := by
    obtain ⟨l⟩ := cs
    match l, hsz with
    | [c0, c1, c2], _ => exact ⟨c0, c1, c2, rfl⟩
  obtain ⟨n, hf⟩ := fields_of Tryz.underlying153 (by kernel_rfl) h
  obtain ⟨y0, g0⟩ := hf 0 _ rfl _ rfl
  obtain ⟨y1, g1⟩ := hf 1 _ rfl _ rfl
  obtain ⟨y2, g2⟩ := hf 2 _ rfl _ rfl
  obtain ⟨start, e0, _, w0⟩ := DataW.trod_int Tryz.underlying3 g0
  obtain ⟨next, e1, _, w1⟩ := DataW.trod_int Tryz.underlying3 g1
  simp at e0 e1
  subst e0 e1
  rcases open_slice Tryz.underlying151 g2 with ⟨e2, _⟩ | ⟨a, len, cap, m, n', D, Pl, e2, _, hl, hm, hmm, _, hx⟩
  · simp at e2
    subst e2
    exact ⟨start, next, none, 0, [], rfl, i64_of w0, i64_of w1, by simp, by simp, .inl rfl⟩
  · simp at e2
    subst e2
    have hle : len ≤ m := by rw [hmm]; split <;> omega
    rw [cellsItem] at hx
    obtain ⟨X, hX⟩ := choose_lt (α := It) (p := fun i x => x.right ∧ (a.add (i * 5)).spot = none ∧ (a.add (i * 5)).block < W.heap.size ∧ ∀ j v, x.cs[j]? = some v → W.cell? ⟨(a.add (i * 5)).block, (a.add (i * 5)).off + j, none⟩ = some v)
      (n := len) (fun i hi => by obtain ⟨cs', h1, h2⟩ := hx i (by omega); exact item_of h1 h2)
    refine ⟨start, next, some a, cap, (List.range len).map X, by simp, i64_of w0, i64_of w1, by simp [maxLen] at hm ⊢; omega, ?_, ?_⟩
    · intro x hxm
      obtain ⟨i, hi, rfl⟩ := List.mem_map.1 hxm
      exact (hX i (by simpa using hi)).1
    · by_cases h0 : len = 0
      · left; simp [h0]
      · right
        obtain ⟨_, hs, hb, _⟩ := hX 0 (by omega)
        rw [Nat.zero_mul, show a.add 0 = a from rfl] at hs hb
        obtain ⟨b, o, s⟩ := a
        simp only at hs hb
        subst hs
        refine ⟨b, o, rfl, hb, ?_⟩
        intro j v hv
        have hj : j < ((List.range len).map X).length * 5 := by
          rw [← flat_length]; exact (List.getElem?_eq_some_iff.1 hv).1
        simp at hj
        have hd : j = j / 5 * 5 + j % 5 := by omega
        have hq : j / 5 < len := by omega
        rw [hd, flat_get _ (j / 5) (by simpa using hq) (j % 5) (by omega)] at hv
        obtain ⟨_, _, _, hc⟩ := hX (j / 5) hq
        have := hc (j % 5) v (by simpa using hv)
        rw [Addr.add_mid] at this
        rw [hd, ← Nat.add_assoc]
        exact this
end Go.Proofs.YtclgdghfcjkhfaaGreat.Items
