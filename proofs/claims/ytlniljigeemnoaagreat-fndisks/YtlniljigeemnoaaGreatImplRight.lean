/-
  The program's isRightItem and rowOf.ascends at this seat.
-/
import Derived.Test.YtlniljigeemnoaaGreatTold
set_option linter.unusedVariables false
set_option linter.unusedSimpArgs false
set_option maxRecDepth 100000
set_option maxHeartbeats 8000000
namespace Go.Proofs.YtlniljigeemnoaaGreat.Items
open ChangeShapes WideShapes ChangeAt RowKit Shelf Base
def ascStep (next : Int) (s : Option Int) (x : It) : Option Int := s.bind fun m => if x.off < m ∨ next <= x.off then none else some (wrap64 (x.off + 1))
def ascF (next start : Int) (l : List It) : Option Int := l.foldl (ascStep next) (some start)
theorem Blk.item {W : World} {B : Nat} {t : TypeId} {a b c d e : Value} (h : Blk W B t #[a, b, c, d, e]) :
 W.cell? ⟨B, 0, none⟩ = some a /\ W.cell? ⟨B, 1, none⟩ = some b /\ W.cell? ⟨B, 2, none⟩ = some c /\ W.cell? ⟨B, 3, none⟩ = some d /\ W.cell? ⟨B, 4, none⟩ = some e :=
 ⟨h.cell rfl, h.cell rfl, h.cell rfl, h.cell rfl, h.cell rfl⟩
theorem Blk.row {W : World} {B : Nat} {t : TypeId} {a b c : Value} (h : Blk W B t #[a, b, c]) :
 W.cell? ⟨B, 0, none⟩ = some a /\ W.cell? ⟨B, 1, none⟩ = some b /\ W.cell? ⟨B, 2, none⟩ = some c :=
 ⟨h.cell rfl, h.cell rfl, h.cell rfl⟩
attribute [local go_sem] Oper.semAt_some
theorem five (p q r s t : Bool) : p = false ∨ (p = true /\ q = false) ∨ (p = true /\ q = true /\ r = false) ∨ (p = true /\ q = true /\ r = true /\ s = false) ∨ (p = true /\ q = true /\ r = true /\ s = true /\ t = false) ∨ (p = true /\ q = true /\ r = true /\ s = true /\ t = true) := by
 cases p<;>cases q<;>cases r<;>cases s<;>cases t<;>simp
def okB (start next : Int) (l : List It) : Bool := inB next 0 100000 && inB start 0 next && decide ((l.length : Int) <= 80) && (ascF next start l).isSome && l.all itemB
def ahead (p : Option Int) (x : Int) : Bool := match p with | none => true | some o => decide (o < x)
theorem Blk.thaw {W : World} {B : Nat} {t : TypeId} {vs : Array Value} (h : Blk W B t vs) (i : Nat) : W.frozen? ⟨B, i, none⟩ = false := by simp [World.frozen?, show W.heap[B]? = _ from h]
theorem Blk.setAt {W : World} {B : Nat} {t : TypeId} {vs : Array Value} (h : Blk W B t vs) (i : Nat) (v : Value) : Blk (W.setCell ⟨B, i, none⟩ v) B t (vs.setIfInBounds i v) := by
 obtain ⟨hlt, hk⟩ := Array.getElem?_eq_some_iff.1 h
 show (W.heap.modify B _)[B]? = _
 rw [Array.getElem?_eq_getElem (by rw [Array.size_modify]; exact hlt), Array.getElem_modify_self, hk]
 rfl
theorem Blk.drew {W : World} {B : Nat} {t : TypeId} {vs : Array Value} (h : Blk W B t vs) : Blk W.drew B t vs := h
theorem Qal {n : Nat} {a b : World} (h : Below n a b) {B i : Nat} (hn : n <= B) (v : Value) : Below n a (b.setCell ⟨B, i, none⟩ v) := h.setCell (p := ⟨B, i, none⟩) hn v
def zeroItem : Value := .agg Qc1
def zeros (n : Nat) : Array Value := madeCells zeroItem.cells (n * 5)
theorem zeros_size (n : Nat) : (zeros n).size = n * 5 := size_madeCells _ _
theorem Qfi {w w' : World} {b o n : Nat} (h : w.there b o n) (hb : b < w.heap.size) (hw : Below w.heap.size w w') : w'.there b o n := fun j hj => by
 rw [hw.cell (p := ⟨b, o + j, none⟩) hb, hw.frozen (p := ⟨b, o + j, none⟩) hb]
 exact h j hj
theorem Qey (w : World) (n : Nat) : (w.alloc (.cells (zeros n) 121)).there w.heap.size 0 (n * 5) := fun j hj => by
 have : j < (zeros n).size := by rw [zeros_size]; exact hj
 simp [this]
theorem In.set {w : World} {b o : Nat} {l : List It} (h : In w b o l) (p : Addr) (v : Value) (hp : p.block ≠ b) : In (w.setCell p v) b o l := fun j u hu => by
 rw [World.cell?_setCell_other (h := fun e => hp (by rw [e]))]; exact h j u hu
theorem Qg1 {w : World} {b o n : Nat} (h : w.there b o n) (b' o' : Nat) (v : Value) : (w.setCell ⟨b', o', none⟩ v).there b o n := World.there_setCells h b' o' [v]
def Fresh (B : Nat) (w : World) (v : Value) (l : List It) : Prop :=
  ∃ (A : Option Addr) (c : Nat), v = .slice A l.length c /\ l.length <= c /\ (l = [] ∨ ∃ b o, A = some ⟨b, o, none⟩ /\ B <= b /\ b < w.heap.size /\ In w b o l /\ w.there b o (l.length * 5))
end Go.Proofs.YtlniljigeemnoaaGreat.Items
