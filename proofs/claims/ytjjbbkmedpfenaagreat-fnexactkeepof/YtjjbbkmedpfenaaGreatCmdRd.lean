/-
  A command read: the specification's l7Cmd, and the program's reader of commands. Condition: at most 1048576 bytes.
-/
import Derived.Test.YtjjbbkmedpfenaaGreatCur7
namespace Go.Proofs.YtjjbbkmedpfenaaGreat.Gen
open Go.ChangeShapes Go.WideShapes Go.ChangeAt Go.RowKit Go.Joins Go.Deep Base
set_option linter.unusedVariables false

/-- A command. -/
structure Cm where
  who : Int
  seq : Int
  op : Int
  a : Int
  b : Int
  c : Int
  k : ByteArray
  t : ByteArray
def Cm.v (x : Cm) : Value := .agg #[.int .i64 x.who, .int .i64 x.seq, .int .i64 x.op, .int .i64 x.a, .int .i64 x.b, .int .i64 x.c, .string x.k, .string x.t]
def isCm (x : Cm) (v : Value) (_ : World) : Prop := v = x.v

def q1 (l : List UInt8) (o : Option Int) := nS l o
def q2 (l : List UInt8) (o : Option Int) := nS l (nO (q1 l o))
def q3 (l : List UInt8) (o : Option Int) := nS l (nO (q2 l o))
def q4 (l : List UInt8) (o : Option Int) := nS l (nO (q3 l o))
def q5 (l : List UInt8) (o : Option Int) := nS l (nO (q4 l o))
def q6 (l : List UInt8) (o : Option Int) := nS l (nO (q5 l o))
def q7 (l : List UInt8) (o : Option Int) := tS l (nO (q6 l o))
def q8 (l : List UInt8) (o : Option Int) := tS l (nO (q7 l o))
def cmOf (l : List UInt8) (o : Option Int) : Cm := ⟨(nV (q1 l o) : Int) - 1, nV (q2 l o), nV (q3 l o), nV (q4 l o), nV (q5 l o), nV (q6 l o), tV (q7 l o), tV (q8 l o)⟩
/-- The command that begins at a place, and the place behind it. -/
def getC (l : List UInt8) (i : Int) : Option (Cm × Nat) := (q8 l (some i)).map fun p => (cmOf l (some i), p.2)
theorem tV_le (l : List UInt8) (o : Option Int) : (tV (tS l o)).size ≤ l.length := by
  unfold tV tS
  cases o with
  | none => simp [ByteArray.size]
  | some i =>
    cases h : getT l i with
    | none => simp [h, ByteArray.size]
    | some x => obtain ⟨n, c⟩ := x; simp [h]; exact (getT_le h).2.2.2

theorem CuO.other {W W' : World} {r b : Nat} {A : Option Addr} {cap : Nat} {l : List UInt8} {o : Option Int} (h : CuO W r A cap l o) (g : Only b W W') (hr : r ≠ b) (hA : l = [] ∨ ∀ c o, A = some ⟨c, o, none⟩ → c ≠ b) : CuO W' r A cap l o := by
  obtain ⟨i, ok, hc⟩ := h
  refine ⟨i, ok, hc.box.only g hr, ?_, hc.i64, hc.st⟩
  rcases hA with h | hA
  · exact .inl h
  · exact hc.src.imp id fun ⟨c, o, e, hb, hn, hi⟩ => ⟨c, o, e, Nat.lt_of_lt_of_le hb g.size, hn, fun j v hv => (g.cell (p := ⟨c, o + j, none⟩) hb (hA c o e)).trans (hi j v hv)⟩
theorem CuO.below {W W' : World} {r : Nat} {A : Option Addr} {cap : Nat} {l : List UInt8} {o : Option Int} (h : CuO W r A cap l o) (g : Below W.heap.size W W') : CuO W' r A cap l o := by
  obtain ⟨i, ok, hc⟩ := h
  exact ⟨i, ok, hc.below g⟩
theorem CuO.far {W : World} {r : Nat} {A : Option Addr} {cap : Nat} {l : List UInt8} {o : Option Int} (h : CuO W r A cap l o) : r < W.heap.size ∧ (l = [] ∨ ∀ c o, A = some ⟨c, o, none⟩ → c < W.heap.size) := by
  obtain ⟨i, ok, hc⟩ := h
  refine ⟨hc.box.lt, hc.src.imp id fun ⟨b, o, e, hb, _⟩ c o' e' => ?_⟩
  rw [e] at e'
  cases e'
  exact hb
theorem only_new {b B : Nat} {w w1 w2 : World} (h : Only b w w1) (k : Only B w1 w2) (hB : w.heap.size ≤ B) : Only b w w2 :=
  ⟨k.os.trans h.os, k.tape.trans h.tape, k.output.trans h.output, Nat.le_trans h.size k.size, fun i hi hb => (k.block i (Nat.lt_of_lt_of_le hi h.size) (by omega)).trans (h.block i hi hb)⟩
theorem Rd.far {W : World} {r : Nat} {A : Option Addr} {cap : Nat} {l : List UInt8} {i : Int} (h : Rd W r A cap l i) : r < W.heap.size ∧ (l = [] ∨ ∀ c o, A = some ⟨c, o, none⟩ → c < W.heap.size) := by
  refine ⟨h.box.lt, h.src.imp id fun ⟨b, o, e, hb, _⟩ c o' e' => ?_⟩
  rw [e] at e'
  cases e'
  exact hb
theorem Rd.apart {W W' : World} {r b : Nat} {A : Option Addr} {cap : Nat} {l : List UInt8} {i : Int} (h : Rd W r A cap l i) (g : Only b W W') (hr : r ≠ b) (hA : l = [] ∨ ∀ c o, A = some ⟨c, o, none⟩ → c ≠ b) : Rd W' r A cap l i := by
  refine ⟨h.box.only g hr, ?_, h.i64⟩
  rcases hA with e | hA
  · exact .inl e
  · exact h.src.imp id fun ⟨c, o, e, hb, hn, hi⟩ => ⟨c, o, e, Nat.lt_of_lt_of_le hb g.size, hn, fun j v hv => (g.cell (p := ⟨c, o + j, none⟩) hb (hA c o e)).trans (hi j v hv)⟩

end Go.Proofs.YtjjbbkmedpfenaaGreat.Gen
