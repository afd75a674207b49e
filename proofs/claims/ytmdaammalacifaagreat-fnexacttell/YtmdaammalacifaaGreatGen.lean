/-
  Lists of records in memory, whatever the record is: so many cells each. No condition.
-/
import Derived.Test.YtmdaammalacifaaGreatRows
import Derived.Test.YtmdaammalacifaaGreatBase
import Derived.Deep.RegionHeld3
import Derived.Deep.AppendLies
import Derived.Deep.Upon
set_option linter.unusedVariables false
set_option linter.unusedSimpArgs false
set_option maxRecDepth 100000
set_option maxHeartbeats 8000000
namespace Go.Proofs.YtmdaammalacifaaGreat.Gen
open ChangeShapes WideShapes ChangeAt RowKit Joins Deep Base
theorem via0 {a b c : World} (k : Below b.heap.size b c) (h : Below a.heap.size a b) : Below a.heap.size a c := h.trans (k.mono h.size)
theorem Qab {a b : World} (h : Below a.heap.size a b) (o : Obj) : Below a.heap.size a (b.alloc o) := h.alloc h.size o
theorem hidP {p : Prop} (h : p) : Hid p := h
theorem Qal {n : Nat} {a b : World} (h : Below n a b) {B i : Nat} (hn : n <= B) (v : Value) : Below n a (b.setCell ⟨B, i, none⟩ v) := h.setCell (p := ⟨B, i, none⟩) hn v
class Cel (α : Type) where
  k : Nat
  cs : α -> List Value
  len : ∀ x, (cs x).length = k
  one : ∀ x, ∀ u ∈ cs x, u.oneCell' = true
section
variable {α : Type} [Cel α]
def flat (l : List α) : List Value := l.flatMap Cel.cs
theorem Qaw (l : List α) : (flat l).length = l.length * Cel.k α := by
 induction l with
 | nil => simp [flat]
 | cons a l ih => simp only [flat, List.flatMap_cons, List.length_append, List.length_cons] at ih ⊢; rw [ih, Cel.len, Nat.add_mul, Nat.one_mul, Nat.add_comm]
theorem Qa2 (l m : List α) : flat (l ++ m) = flat l ++ flat m := by simp [flat]
theorem Qbe (x : α) : flat [x] = Cel.cs x := by simp [flat]
theorem Qcq (x : α) (l : List α) : flat (x :: l) = Cel.cs x ++ flat l := by simp [flat]
theorem Qgd (l : List α) : ∀ u ∈ flat l, u.oneCell' = true := by
 intro u hu
 obtain ⟨x, _, hx⟩ := List.mem_flatMap.1 hu
 exact Cel.one x u hx
theorem Qdu (l : List α) : ∀ (i : Nat) (h : i < l.length) (f : Nat), f < Cel.k α -> (flat l)[i * Cel.k α + f]? = (Cel.cs l[i])[f]? := by
 induction l with
 | nil => intro i h; simp at h
 | cons a l ih =>
  intro i h f hf
  rw [Qcq]
  cases i with
  | zero => rw [List.getElem?_append_left (by rw [Cel.len]; omega)]; simp
  | succ i =>
   rw [List.getElem?_append_right (by rw [Cel.len, Nat.add_mul]; omega), Cel.len]
   have e : (i + 1) * Cel.k α + f - Cel.k α = i * Cel.k α + f := by rw [Nat.add_mul]; omega
   rw [e, ih i (by simpa using h) f hf]; simp
def In (w : World) (b o : Nat) (l : List α) : Prop := w.rangeAt b o (flat l)
theorem In.cell {w : World} {b o : Nat} {l : List α} (h : In w b o l) (i : Nat) (hi : i < l.length) {f : Nat} {v : Value} (hv : (Cel.cs l[i])[f]? = some v) : w.cell? ⟨b, o + i * Cel.k α + f, none⟩ = some v := by
 have hf : f < Cel.k α := by have := (List.getElem?_eq_some_iff.1 hv).1; rwa [Cel.len] at this
 have := h (i * Cel.k α + f) v (by rw [Qdu l i hi f hf]; exact hv)
 rwa [← Nat.add_assoc] at this
theorem In.below {w w' : World} {b o : Nat} {l : List α} (h : In w b o l) (hb : b < w.heap.size) (hw : Below w.heap.size w w') : In w' b o l :=
 fun j v hv => (hw.cell (p := ⟨b, o + j, none⟩) hb).trans (h j v hv)
theorem In.nil (w : World) (b o : Nat) : In w b o ([] : List α) := fun j v hv => by simp [flat] at hv
theorem In.set {w : World} {b o : Nat} {l : List α} (h : In w b o l) (p : Addr) (v : Value) (hp : p.block ≠ b) : In (w.setCell p v) b o l := fun j u hu => by
 rw [World.cell?_setCell_other (h := fun e => hp (by rw [e]))]; exact h j u hu
abbrev At (w : World) (A : Option Addr) (l : List α) : Prop := l = [] ∨ ∃ b o, A = some ⟨b, o, none⟩ /\ b < w.heap.size /\ In w b o l
theorem At.below {w w' : World} {A : Option Addr} {l : List α} (h : At w A l) (hw : Below w.heap.size w w') : At w' A l :=
 h.imp id fun ⟨b, o, e, hb, hi⟩ => ⟨b, o, e, Nat.lt_of_lt_of_le hb hw.size, hi.below hb hw⟩
theorem Qbg {w : World} {b o : Nat} {xs ys : List Value} (h1 : w.rangeAt b o xs) (h2 : w.rangeAt b (o + xs.length) ys) : w.rangeAt b o (xs ++ ys) := fun j v hv => by
 by_cases hj : j < xs.length
 . exact h1 j v (by rwa [List.getElem?_append_left hj] at hv)
 . rw [List.getElem?_append_right (by omega)] at hv
   have := h2 (j - xs.length) v hv
   have e : o + xs.length + (j - xs.length) = o + j := by omega
   rwa [e] at this
theorem Qcj {w w' : World} {b o : Nat} {cs : List Value} (h : w.rangeAt b o cs) (hb : b < w.heap.size) (hw : Below w.heap.size w w') : w'.rangeAt b o cs :=
 fun j v hv => (hw.cell (p := ⟨b, o + j, none⟩) hb).trans (h j v hv)
theorem Qa3 {w w' : World} {b o n : Nat} (h : w.there b o n) (hb : b < w.heap.size) (hw : Below w.heap.size w w') : w'.there b o n := fun j hj => by
 rw [hw.cell (p := ⟨b, o + j, none⟩) hb, hw.frozen (p := ⟨b, o + j, none⟩) hb]
 exact h j hj
theorem Qah {w : World} {b o n : Nat} (h : w.there b o n) (b' o' : Nat) (v : Value) : (w.setCell ⟨b', o', none⟩ v).there b o n := World.there_setCells h b' o' [v]
theorem Qad {w : World} {b o k m n f : Nat} (h : w.there b o (m * k)) (hn : n < m) (hf : f < k) : (∃ v, w.cell? ⟨b, o + n * k + f, none⟩ = some v) /\ w.frozen? ⟨b, o + n * k + f, none⟩ = false := by
 have hlt : n * k + f < m * k := by have : (n + 1) * k <= m * k := Nat.mul_le_mul_right k hn; rw [Nat.add_mul] at this; omega
 have := h (n * k + f) hlt
 rw [← Nat.add_assoc] at this
 exact ⟨Option.isSome_iff_exists.1 this.1, this.2⟩
theorem Qcs {w : World} {b : Nat} {l : List α} {n : Nat} (hin : In w b 0 (l.take n)) (hth : w.there b 0 (l.length * Cel.k α)) (hn : n < l.length) :
 In (w.setCells b (n * Cel.k α) (Cel.cs l[n])) b 0 (l.take (n + 1)) /\ (w.setCells b (n * Cel.k α) (Cel.cs l[n])).there b 0 (l.length * Cel.k α) := by
 have hlen : (flat (l.take n)).length = n * Cel.k α := by rw [Qaw, List.length_take, Nat.min_eq_left (by omega)]
 refine ⟨?_, World.there_setCells hth _ _ _⟩
 unfold In
 rw [List.take_succ_eq_append_getElem hn, Qa2, Qbe]
 refine Qbg (World.rangeAt_setCells_apart hin _ _ _ (.inr (.inl (by rw [hlen]; omega)))) ?_
 rw [hlen, Nat.zero_add]
 refine World.rangeAt_setCells_same _ _ _ _ fun j hj => ?_
 have hj' : j < Cel.k α := by rwa [Cel.len] at hj
 have hlt : n * Cel.k α + j < l.length * Cel.k α := by have : (n + 1) * Cel.k α <= l.length * Cel.k α := Nat.mul_le_mul_right _ hn; rw [Nat.add_mul] at this; omega
 have := hth (n * Cel.k α + j) hlt
 rwa [Nat.zero_add] at this
def Qhk (B : Nat) (w : World) (v : Value) (l : List α) : Prop :=
  ∃ (A : Option Addr) (c : Nat), v = .slice A l.length c /\ l.length <= c /\ (l = [] ∨ ∃ b o, A = some ⟨b, o, none⟩ /\ B <= b /\ b < w.heap.size /\ In w b o l /\ w.there b o (l.length * Cel.k α))
end
structure Only (b : Nat) (w w' : World) : Prop where
  os : w'.os = w.os
  tape : w'.tape = w.tape
  output : w'.output = w.output
  size : w.heap.size <= w'.heap.size
  block : ∀ k, k < w.heap.size -> k ≠ b -> w'.heap[k]? = w.heap[k]?
theorem Only.refl (b : Nat) (w : World) : Only b w w := ⟨rfl, rfl, rfl, Nat.le_refl _, fun _ _ _ => rfl⟩
theorem Only.below {b : Nat} {w w1 w2 : World} (h : Only b w w1) (k : Below w1.heap.size w1 w2) : Only b w w2 :=
 ⟨k.os.trans h.os, k.tape.trans h.tape, k.output.trans h.output, Nat.le_trans h.size k.size, fun i hi hb => (k.block i (Nat.lt_of_lt_of_le hi h.size)).trans (h.block i hi hb)⟩
theorem Only.set {b : Nat} {w w1 : World} (h : Only b w w1) (o : Nat) (v : Value) : Only b w (w1.setCell ⟨b, o, none⟩ v) :=
 ⟨h.os, h.tape, h.output, by simpa using h.size, fun i hi hb => (Below.heap_setCell w1 ⟨b, o, none⟩ v i hb).trans (h.block i hi hb)⟩
theorem push {w : World} {b o q m : Nat} {cs : List Value} {v : Value} (h : w.rangeAt b o cs /\ w.there b o m /\ b < w.heap.size) (hl : cs.length < m) (hq : q = o + cs.length) :
 (w.setCell ⟨b, q, none⟩ v).rangeAt b o (cs ++ [v]) /\ (w.setCell ⟨b, q, none⟩ v).there b o m /\ b < (w.setCell ⟨b, q, none⟩ v).heap.size := by
 subst hq
 obtain ⟨h, ht, hb⟩ := h
 refine ⟨Qbg (World.rangeAt_setCells_apart h b (o + cs.length) [v] (.inr (.inl (Nat.le_refl _)))) (World.rangeAt_setCells_same w b (o + cs.length) [v] fun j hj => ?_), World.there_setCells ht b _ [v], by simpa using hb⟩
 have hj' : j = 0 := by simp at hj; exact hj
 subst hj'
 exact ht cs.length hl
theorem Qdq {w w' : World} {b o m : Nat} {cs : List Value} (h : w.rangeAt b o cs /\ w.there b o m /\ b < w.heap.size) (k : Below w.heap.size w w') : w'.rangeAt b o cs /\ w'.there b o m /\ b < w'.heap.size :=
 ⟨Qcj h.1 h.2.2 k, Qa3 h.2.1 h.2.2 k, Nat.lt_of_lt_of_le h.2.2 k.size⟩
theorem Qf5 {b n : Nat} {w : World} {p : Addr} {v : Value} (h : b < w.heap.size) (k : (w.setCell p v).heap.size <= n) : b < n := by simp at k; omega
theorem heap_new (w : World) (o : Obj) : (w.alloc o).heap[w.heap.size]? = some o := by
 show (w.heap.push o)[w.heap.size]? = some o
 simp
def Blk (W : World) (B : Nat) (t : TypeId) (vs : Array Value) : Prop := W.heap[B]? = some (.cells vs t (0, 0))
theorem Blk.lt {W : World} {B : Nat} {t : TypeId} {vs : Array Value} (h : Blk W B t vs) : B < W.heap.size := (Array.getElem?_eq_some_iff.1 h).1
theorem Blk.cell {W : World} {B : Nat} {t : TypeId} {vs : Array Value} (h : Blk W B t vs) {i : Nat} {v : Value} (hv : vs[i]? = some v) : W.cell? ⟨B, i, none⟩ = some v := by simp [World.cell?, show W.heap[B]? = _ from h, hv]
theorem Blk.new (W : World) (t : TypeId) (vs : Array Value) : Blk (W.alloc (.cells vs t)) W.heap.size t vs := heap_new W _
theorem Blk.kept {W W' : World} {row : Option Nat} {B : Nat} {t : TypeId} {vs : Array Value} (h : Blk W B t vs) (hg : W.grownBy W' row) (hne : some B ≠ row) : Blk W' B t vs := (hg.block B h.lt hne).trans h
theorem Blk.alloc {W : World} {B : Nat} {t : TypeId} {vs : Array Value} (h : Blk W B t vs) (o : Obj) : Blk (W.alloc o) B t vs := h.kept (World.grownBy_alloc W o none) (by simp)
theorem Blk.other {W : World} {B B' : Nat} {t : TypeId} {vs : Array Value} (h : Blk W B t vs) (hne : B ≠ B') (i : Nat) (u : Value) : Blk (W.setCell ⟨B', i, none⟩ u) B t vs :=
 (Below.heap_setCell W ⟨B', i, none⟩ u B hne).trans h
theorem Blk.below {W W' : World} {n : Nat} {B : Nat} {t : TypeId} {vs : Array Value} (h : Blk W B t vs) (hb : Below n W W') (hn : B < n) : Blk W' B t vs := (hb.block B hn).trans h
theorem Blk.thaw {W : World} {B : Nat} {t : TypeId} {vs : Array Value} (h : Blk W B t vs) (i : Nat) : W.frozen? ⟨B, i, none⟩ = false := by simp [World.frozen?, show W.heap[B]? = _ from h]
theorem Blk.setAt {W : World} {B : Nat} {t : TypeId} {vs : Array Value} (h : Blk W B t vs) (i : Nat) (v : Value) : Blk (W.setCell ⟨B, i, none⟩ v) B t (vs.setIfInBounds i v) := by
 obtain ⟨hlt, hk⟩ := Array.getElem?_eq_some_iff.1 h
 show (W.heap.modify B _)[B]? = _
 rw [Array.getElem?_eq_getElem (by rw [Array.size_modify]; exact hlt), Array.getElem_modify_self, hk]
 rfl
theorem Blk.drew {W : World} {B : Nat} {t : TypeId} {vs : Array Value} (h : Blk W B t vs) : Blk W.drew B t vs := h
theorem Blk.row2 {W : World} {B : Nat} {t : TypeId} {a b : Value} (h : Blk W B t #[a, b]) : W.cell? ⟨B, 0, none⟩ = some a /\ W.cell? ⟨B, 1, none⟩ = some b := ⟨h.cell (by rfl), h.cell (by rfl)⟩
theorem Blk.row3 {W : World} {B : Nat} {t : TypeId} {a b c : Value} (h : Blk W B t #[a, b, c]) : W.cell? ⟨B, 0, none⟩ = some a /\ W.cell? ⟨B, 1, none⟩ = some b /\ W.cell? ⟨B, 2, none⟩ = some c := ⟨h.cell (by rfl), h.cell (by rfl), h.cell (by rfl)⟩
theorem Blk.row4 {W : World} {B : Nat} {t : TypeId} {a b c d : Value} (h : Blk W B t #[a, b, c, d]) : W.cell? ⟨B, 0, none⟩ = some a /\ W.cell? ⟨B, 1, none⟩ = some b /\ W.cell? ⟨B, 2, none⟩ = some c /\ W.cell? ⟨B, 3, none⟩ = some d := ⟨h.cell (by rfl), h.cell (by rfl), h.cell (by rfl), h.cell (by rfl)⟩
theorem Blk.row5 {W : World} {B : Nat} {t : TypeId} {a b c d e : Value} (h : Blk W B t #[a, b, c, d, e]) : W.cell? ⟨B, 0, none⟩ = some a /\ W.cell? ⟨B, 1, none⟩ = some b /\ W.cell? ⟨B, 2, none⟩ = some c /\ W.cell? ⟨B, 3, none⟩ = some d /\ W.cell? ⟨B, 4, none⟩ = some e := ⟨h.cell (by rfl), h.cell (by rfl), h.cell (by rfl), h.cell (by rfl), h.cell (by rfl)⟩
theorem Qel {B : Nat} {W W' : World} {v : Value} {t : TypeId} {k n : Nat} {xs : List Value} (h : W.ownsRow B t k v n xs) (hb : Below W.heap.size W W') : W'.ownsRow B t k v n xs := by
 refine ⟨h.1, ?_⟩
 rcases h.2 with ⟨rfl, rfl⟩ | ⟨g, c, cur, rfl, hB, hg, hc, hm, hsz, ht⟩
 . exact .inl ⟨rfl, rfl⟩
 . exact .inr ⟨g, c, cur, rfl, hB, Blk.below (show Blk W g t cur from hg) hb (Blk.lt (show Blk W g t cur from hg)), hc, hm, hsz, ht⟩
theorem Qbn {B : Nat} {W : World} {v : Value} {t : TypeId} {k n : Nat} {xs : List Value} (h : W.ownsRow B t k v n xs) (o : Obj) : (W.alloc o).ownsRow B t k v n xs := Qel h (Qab (Below.refl _ _) _)
theorem Qch {B C : Nat} {W : World} {v : Value} {t : TypeId} {k n : Nat} {xs : List Value} (h : W.ownsRow B t k v n xs) (hC : C <= B) : W.ownsRow C t k v n xs := by
 refine ⟨h.1, ?_⟩
 rcases h.2 with ⟨rfl, rfl⟩ | ⟨g, c, cur, rfl, hB, hg, hc, hm, hsz, ht⟩
 . exact .inl ⟨rfl, rfl⟩
 . exact .inr ⟨g, c, cur, rfl, by omega, hg, hc, hm, hsz, ht⟩
theorem Qeu {B : Nat} {W : World} {v : Value} {t : TypeId} {k n : Nat} {xs : List Value} (h : W.ownsRow B t k v n xs) {g : Nat} (hg : v.ownBlock = some g) : g < W.heap.size := by
 rcases h.2 with ⟨rfl, rfl⟩ | ⟨g', c, cur, rfl, hB, hb, _⟩
 . cases hg
 . have : g' = g := by simpa [Value.ownBlock] using hg
   subst this
   exact Blk.lt (show Blk W g' t cur from hb)
theorem Qar {B : Nat} {W : World} {v : Value} {t : TypeId} {k n : Nat} {xs : List Value} (h : W.ownsRow B t k v n xs) : ∃ a c, v = .slice a n c /\ n <= c := by
 rcases h.2 with ⟨rfl, rfl⟩ | ⟨g, c, cur, rfl, hB, hg, hc, _⟩
 . exact ⟨none, 0, rfl, Nat.le_refl _⟩
 . exact ⟨_, _, rfl, hc⟩
theorem Qev {B C : Nat} {W : World} {v : Value} {t : TypeId} {k n : Nat} {xs : List Value} (h : W.ownsRow B t k v n xs) (hC : C < B) : some C ≠ v.ownBlock := by
 rcases h.2 with ⟨rfl, rfl⟩ | ⟨g, c, cur, rfl, hB, _⟩
 . simp [Value.ownBlock]
 . simp [Value.ownBlock]; omega
theorem Qav {B C i : Nat} {W : World} {v u : Value} {t : TypeId} {k n : Nat} {xs : List Value} (h : W.ownsRow B t k v n xs) (hne : some C ≠ v.ownBlock) : (W.setCell ⟨C, i, none⟩ u).ownsRow B t k v n xs := by
 refine ⟨h.1, ?_⟩
 rcases h.2 with ⟨rfl, rfl⟩ | ⟨g, c, cur, rfl, hB, hg, hc, hm, hsz, ht⟩
 . exact .inl ⟨rfl, rfl⟩
 . have hCg : g ≠ C := fun e => hne (by simp [Value.ownBlock, e])
   exact .inr ⟨g, c, cur, rfl, hB, Blk.other (show Blk W g t cur from hg) hCg i u, hc, hm, hsz, ht⟩
section
variable {α : Type} [Cel α]
theorem Qdt {B : Nat} {W : World} {g cap : Nat} {cur : Array Value} {t : TypeId} {l : List α} (h : Blk W g t cur) (hB : B <= g) (hc : l.length <= cap) (hsz : cur.size = cap * Cel.k α) (ht : cur.toList.take (l.length * Cel.k α) = flat l) :
 Qhk B W (.slice (some ⟨g, 0, none⟩) l.length cap) l := by
 refine ⟨_, _, rfl, hc, .inr ⟨g, 0, rfl, hB, h.lt, ?_, ?_⟩⟩
 . intro j v hv
   rw [← ht, List.getElem?_take] at hv
   split at hv
   . exact (h.cell (i := 0 + j) (by simpa using hv))
   . cases hv
 . intro j hj
   refine ⟨?_, h.thaw _⟩
   have hlt : 0 + j < cur.size := by rw [hsz]; have := Nat.mul_le_mul_right (Cel.k α) hc; omega
   rw [h.cell (Array.getElem?_eq_getElem hlt)]; rfl
theorem Qcx {B : Nat} {W : World} {v : Value} {t : TypeId} {l : List α} (h : W.ownsRow B t (Cel.k α) v l.length (flat l)) : Qhk B W v l := by
 rcases h.2 with ⟨rfl, h0⟩ | ⟨g, c, cur, rfl, hB, hg, hc, _, hsz, ht⟩
 . have : l = [] := List.length_eq_zero_iff.1 h0
   subst this
   exact ⟨none, 0, rfl, Nat.le_refl _, .inl rfl⟩
 . exact Qdt (t := t) hg hB hc hsz ht
theorem Qcp {B n : Nat} {W : World} {v : Value} {t : TypeId} {l : List α} (hn : n = l.length) (h : W.ownsRow B t (Cel.k α) v n (flat l)) : Qhk B W v l := by
 subst hn
 exact Qcx h
theorem Qdp {P : Program} (k : Nat) (ts ti : TypeId) (hu : P.underlying ts = some (.slice ti)) (A : Option Addr) (cap : Nat) (w : World) : Src P k ts (.slice A 0 cap) 0 [] w :=
 ⟨.inl ⟨_, hu⟩, fun w' => by cases A<;>rfl, by cases A<;>simp [Builtin.firstCells, loadCells, loadCellsFrom], by cases A<;>simp [Builtin.firstCells, loadCells, loadCellsFrom], by simp, by simp⟩
theorem Qa0 {P : Program} {ts ti : TypeId} {z : Value} {bytes : Nat} (hu : P.underlying ts = some (.slice ti)) (hinfo : (P.info? ti).map (fun i => (i.zero, i.size, i.bytes)) = some (some z, Cel.k α, bytes)) (hz : z.cells.size = Cel.k α) (hk : 0 < Cel.k α) (hby : bytes <= 1000)
 (B : Nat) (v : Value) (l m : List α) (A : Option Addr) (cap : Nat) (w : World) (hB : B <= w.heap.size) (hv : w.ownsRow B ti (Cel.k α) v l.length (flat l)) (hA : At w A m) (hlen : l.length + m.length <= 3000000) :
 ∃ v' w', (Builtin.append_ #[ts, ts] ts #[v, .slice A m.length cap]).run P w = .ok v' w' /\ w'.ownsRow B ti (Cel.k α) v' (l.length + m.length) (flat (l ++ m)) /\ w.grownBy w' v.ownBlock /\ (v'.ownBlock = v.ownBlock ∨ v'.ownBlock = some w.heap.size) := by
 obtain ⟨i0, hi, hz0, hz1, hz2⟩ := info_parts hinfo
 by_cases h0 : m = []
 . subst h0
   have e0 : ∃ a n c, v = .slice a n c /\ n <= c := by
    rcases hv.2 with ⟨rfl, _⟩ | ⟨g, c, cur, rfl, _, _, h, _⟩
    . exact ⟨_, _, _, rfl, Nat.le_refl _⟩
    . exact ⟨_, _, _, rfl, h⟩
   obtain ⟨a, n, c, rfl, hle⟩ := e0
   exact ⟨_, _, run_append_nothing w ts ts ts ti i0 hu hi a n c hle _ (hz1 ▸ Qdp _ ts ti hu A cap w), by simpa using hv, World.grownBy.refl _ _, .inl rfl⟩
 . obtain ⟨b, o, rfl, hb, hin⟩ := hA.resolve_left h0
   have hm : 0 < m.length := List.length_pos_iff.2 h0
   have hsum : (l.length + m.length) * bytes <= 140737488355328 := Nat.le_trans (Nat.mul_le_mul hlen hby) (by omega)
   obtain ⟨g, c, w', hr, h1, h2, h3, h4⟩ := run_append_lies (P := P) w ts ts B ti i0 z (Cel.k α) bytes hu hi hz0 hz1 hz2 hz hk v l.length (flat l) hv ⟨b, o, none⟩ m.length cap (flat m) (Qaw m)
    (fun j u hu => by rw [Addr.add_mid]; exact hin j u hu) (Qgd m) hm (by simp [maxLen]; omega) hsum hB _ rfl
   exact ⟨_, _, hr, by rw [Qa2]; exact h1, h2, h3.imp (fun e => by rw [e]; rfl) (fun e => by rw [← e]; rfl)⟩
theorem Qb2 {P : Program} {ts ti : TypeId} {z : Value} {k bytes : Nat} (hu : P.underlying ts = some (.slice ti)) (hinfo : (P.info? ti).map (fun i => (i.zero, i.size, i.bytes)) = some (some z, k, bytes)) (hby : bytes <= 1000) (n : Nat) (hn : n <= 1048576) (w : World) :
 (Instr.makeSlice ts (.int .i64 (n : Int)) (.int .i64 (n : Int))).run P w = .ok (.slice (some ⟨w.heap.size, 0, none⟩) n n) (w.alloc (.cells (madeCells z.cells (n * k)) ti)) := by
 obtain ⟨i0, hi, hz0, hz1, hz2⟩ := info_parts hinfo
 have hsum : bytes * n <= 281474976710656 := Nat.le_trans (Nat.mul_le_mul hby hn) (by omega)
 have r := run_make (P := P) w ts ti i0 z hu hi hz0 .i64 .i64 n n (by omega) (Int.le_refl _) (by rw [hz2, ← Int.natCast_mul]; omega) (by omega)
 rw [r, hz1]
 simp
theorem Qa9 (w : World) (cs : Array Value) (n k : Nat) (t : TypeId) : (w.alloc (.cells (madeCells cs (n * k)) t)).there w.heap.size 0 (n * k) := fun j hj => by
 have : j < (madeCells cs (n * k)).size := by rw [size_madeCells]; exact hj
 simp [this]
end
theorem Qaa {P : Program} {w w' : World} {o : Oper} {a : Act} {K : Act -> World -> Prop} {Q : Exit -> Act -> World -> Prop} (s x : Operand) (t : TypeId)
 (ho : o.op = .call { callee := .builtin .append, args := #[s, x], argTypes := #[t, t] }) (v xv r : Value) (hs : a.eval s = v) (hx : a.eval x = xv)
 (hr : (Builtin.append_ #[t, t] o.type #[v, xv]).run P w = .ok r w') (h : K (a.put o.dst r) w') : o.wp P a w K Q := by
 unfold Oper.wp execOp
 simp only [ho, resolve, invoke, builtin, Sem.run_bind, Sem.run_pure, Result.andThen_ok, List.map_toArray, List.map_cons, List.map_nil, hs, hx, hr]
 exact h
theorem Qaj {P : Program} {w w' : World} {ops : Array Oper} {rest : List Oper} {o : Oper} {a : Act} {Q : Exit -> Act -> World -> Prop} (hgd : o.guard = none) (s x : Operand) (t : TypeId)
 (ho : o.op = .call { callee := .builtin .append, args := #[s, x], argTypes := #[t, t] }) (v xv r : Value) (hs : a.eval s = v) (hx : a.eval x = xv)
 (hr : (Builtin.append_ #[t, t] o.type #[v, xv]).run P w = .ok r w') (h : wpList P ops Q rest (a.put o.dst r) w') : wpList P ops Q (o :: rest) a w :=
 wpList_plain hgd fun _ hK => Qaa s x t ho v xv r hs hx hr (hK _ _ h)
theorem Qcc {P : Program} {w w' : World} {ops : Array Oper} {o : Oper} {a : Act} {K : Act -> World -> Prop} {Q : Exit -> Act -> World -> Prop} {E : Prop} (hgd : o.guard = none) (s x : Operand) (t : TypeId)
 (ho : o.op = .call { callee := .builtin .append, args := #[s, x], argTypes := #[t, t] }) (v xv r : Value) (hs : a.eval s = v) (hx : a.eval x = xv)
 (hr : (Builtin.append_ #[t, t] o.type #[v, xv]).run P w = .ok r w') (h : K (a.put o.dst r) w') : if Region.wanted o (yielded ops a.tmps) = true then Oper.wp P o a w K Q else E := by
 have hw : Region.wanted o (yielded ops a.tmps) = true := by simp [Region.wanted, hgd]
 rw [if_pos hw]
 exact Qaa s x t ho v xv r hs hx hr h
def I64 (x : Int) : Prop := -9223372036854775808 <= x /\ x <= 9223372036854775807
theorem Qa8 {x : Int} (hx : (Lit.int .i64 x).wf = true) : I64 x := by simpa [I64, Lit.wf, IntKind.min, IntKind.max, IntKind.signed, IntKind.bits] using hx
theorem Qbt {H : Type} {enc : TypeId × Value -> H} {P : Program} {w : World} {base : Nat} {spare : Nat -> Bool} {held : Bool} {t : TypeId} {fs : Array Field} {cs : List Value} {fuel : Nat} {x : DataW H × List MemPlace}
 (hs : P.underlying t = some (.struct fs)) (hone : oneCellFields P fs = true) (h : DataW.trod enc P w base spare held fuel t cs = some x) :
 ∃ n, ∀ (i : Nat) (f : Field), fs[i]? = some f -> ∀ c, cs[i]? = some c -> ∃ y, DataW.trod enc P w base spare held n f.type [c] = some y := by
 obtain ⟨xs, n, _, _, hl, hlen, hf⟩ := DataW.trod_struct hs h
 refine ⟨n, fun i f hi c hc => ?_⟩
 obtain ⟨o, k⟩ := hone_of hone i f hi
 have hlt : i < fs.size := (Array.getElem?_eq_some_iff.1 hi).1
 have g := hf i f hi
 rw [o, k] at g
 have e : cs.drop i = c :: cs.drop (i + 1) := by
  obtain ⟨h1, h2⟩ := List.getElem?_eq_some_iff.1 hc
  rw [List.drop_eq_getElem_cons h1, h2]
 rw [e] at g
 exact ⟨xs[i]'(by omega), by rw [← List.getElem?_eq_getElem]; simpa using g⟩
theorem Qd3 {α : Type} [Cel α] (hk : 0 < Cel.k α) {W : World} {a : Addr} {len : Nat} {X : Nat -> α} {R : α -> Prop}
 (hX : ∀ i, i < len -> R (X i) /\ (a.add (i * Cel.k α)).spot = none /\ (a.add (i * Cel.k α)).block < W.heap.size /\ ∀ j v, (Cel.cs (X i))[j]? = some v -> W.cell? ⟨(a.add (i * Cel.k α)).block, (a.add (i * Cel.k α)).off + j, none⟩ = some v) :
 ∃ l : List α, l.length = len /\ (∀ x ∈ l, R x) /\ At W (some a) l := by
 refine ⟨(List.range len).map X, by simp, ?_, ?_⟩
 . intro x hxm
   obtain ⟨i, hi, rfl⟩ := List.mem_map.1 hxm
   exact (hX i (by simpa using hi)).1
 . by_cases h0 : len = 0
   . left; simp [h0]
   . right
     obtain ⟨_, hs, hb, _⟩ := hX 0 (by omega)
     rw [Nat.zero_mul, show a.add 0 = a from rfl] at hs hb
     obtain ⟨b, o, s⟩ := a
     simp only at hs hb
     subst hs
     refine ⟨b, o, rfl, hb, ?_⟩
     intro j v hv
     have hj : j < ((List.range len).map X).length * Cel.k α := by
      rw [← Qaw]; exact (List.getElem?_eq_some_iff.1 hv).1
     simp only [List.length_map, List.length_range] at hj
     have hd : j = j / Cel.k α * Cel.k α + j % Cel.k α := by rw [Nat.mul_comm]; exact (Nat.div_add_mod j _).symm
     have hq : j / Cel.k α < len := (Nat.div_lt_iff_lt_mul hk).2 hj
     have hr : j % Cel.k α < Cel.k α := Nat.mod_lt _ hk
     rw [hd, Qdu _ (j / Cel.k α) (by simpa using hq) (j % Cel.k α) hr] at hv
     obtain ⟨_, _, _, hc⟩ := hX (j / Cel.k α) hq
     have := hc (j % Cel.k α) v (by simpa using hv)
     rw [Addr.add_mid] at this
     rw [hd, ← Nat.add_assoc]
     exact this
end Go.Proofs.YtmdaammalacifaaGreat.Gen
