/-
  The laws' markItemS, markRow, heldItemS and heldRow: marks are laid into one block alone, and are found there again. No condition but that the items are at most 1048576.
-/
import Derived.Test.YtlniljigeemnoaaGreatImplRight
set_option linter.unusedVariables false
set_option linter.unusedSimpArgs false
set_option maxRecDepth 100000
set_option maxHeartbeats 8000000
namespace Go.Proofs.YtlniljigeemnoaaGreat.Items
open ChangeShapes WideShapes ChangeAt RowKit Base
structure Only (b : Nat) (w w' : World) : Prop where
  os : w'.os = w.os
  tape : w'.tape = w.tape
  output : w'.output = w.output
  size : w.heap.size <= w'.heap.size
  block : ∀ k, k < w.heap.size -> k ≠ b -> w'.heap[k]? = w.heap[k]?
theorem Only.refl (b : Nat) (w : World) : Only b w w := ⟨rfl, rfl, rfl, Nat.le_refl _, fun _ _ _ => rfl⟩
theorem Only.below {b : Nat} {w w1 w2 : World} (h : Only b w w1) (k : Below w1.heap.size w1 w2) : Only b w w2 :=
 ⟨k.os.trans h.os, k.tape.trans h.tape, k.output.trans h.output, Nat.le_trans h.size k.size, fun i hi hb => (k.block i (Nat.lt_of_lt_of_le hi h.size)).trans (h.block i hi hb)⟩
theorem Only.set {b : Nat} {w w1 : World} (h : Only b w w1) (o : Nat) (v : Value) : Only b w (w1.setCell ⟨b, o, none⟩ v) :=
 ⟨h.os, h.tape, h.output, by simpa using h.size, fun i hi hb => (Below.heap_setCell w1 ⟨b, o, none⟩ v i hb).trans (h.block i hi hb)⟩
theorem Only.cell {b : Nat} {w w1 : World} (h : Only b w w1) {p : Addr} (hp : p.block < w.heap.size) (hb : p.block ≠ b) : w1.cell? p = w.cell? p := World.cell?_of_block (h.block p.block hp hb)
theorem Only.frozen {b : Nat} {w w1 : World} (h : Only b w w1) {p : Addr} (hp : p.block < w.heap.size) (hb : p.block ≠ b) : w1.frozen? p = w.frozen? p := World.frozen?_of_block (h.block p.block hp hb)
theorem In.only {b c o : Nat} {w w1 : World} {l : List It} (h : In w c o l) (k : Only b w w1) (hc : c < w.heap.size) (hb : c ≠ b) : In w1 c o l :=
 fun j v hv => (k.cell (p := ⟨c, o + j, none⟩) hc hb).trans (h j v hv)
def markI (z : Int) : It := ⟨z, markZ (z + 1), markZ (z + 2), z + 3, z + 4⟩
def marks (n : Nat) (z : Int) : List It := (List.range n).map fun (i : Nat) => markI (z + (i : Int) * 5)
theorem Qed {w w' : World} {b o : Nat} {cs : List Value} (h : w.rangeAt b o cs) (hb : b < w.heap.size) (hw : Below w.heap.size w w') : w'.rangeAt b o cs :=
 fun j v hv => (hw.cell (p := ⟨b, o + j, none⟩) hb).trans (h j v hv)
theorem call {w w' : World} {b o m : Nat} {cs : List Value} (h : w.rangeAt b o cs /\ w.there b o m /\ b < w.heap.size) (k : Below w.heap.size w w') : w'.rangeAt b o cs /\ w'.there b o m /\ b < w'.heap.size :=
 ⟨Qed h.1 h.2.2 k, Qfi h.2.1 h.2.2 k, Nat.lt_of_lt_of_le h.2.2 k.size⟩
end Go.Proofs.YtlniljigeemnoaaGreat.Items
