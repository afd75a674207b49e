/-
  A command read: the specification's l7Cmd, and the program's reader of commands. Condition: at most 1048576 bytes.
-/
import Derived.Test.YtfbbifdfjjkknaaDoorCur7
namespace Go.Proofs.YtfbbifdfjjkknaaDoor.Gen
open Go.ChangeShapes Go.WideShapes Go.ChangeAt Go.RowKit Go.Joins Go.Deep Base
set_option linter.unusedVariables false

/-- A command. -/
structure Cm where
  who : Int
  seq : Int
  op : Int
  a : Int
  b : Int
  c : Int
  k : ByteArray
  t : ByteArray
def Cm.v (x : Cm) : Value := .agg #[.int .i64 x.who, .int .i64 x.seq, .int .i64 x.op, .int .i64 x.a, .int .i64 x.b, .int .i64 x.c, .string x.k, .string x.t]
def isCm (x : Cm) (v : Value) (_ : World) : Prop := v = x.v

def q1 (l : List UInt8) (o : Option Int) := nS l o
def q2 (l : List UInt8) (o : Option Int) := nS l (nO (q1 l o))
def q3 (l : List UInt8) (o : Option Int) := nS l (nO (q2 l o))
def q4 (l : List UInt8) (o : Option Int) := nS l (nO (q3 l o))
def q5 (l : List UInt8) (o : Option Int) := nS l (nO (q4 l o))
def q6 (l : List UInt8) (o : Option Int) := nS l (nO (q5 l o))
def q7 (l : List UInt8) (o : Option Int) := tS l (nO (q6 l o))
def q8 (l : List UInt8) (o : Option Int) := tS l (nO (q7 l o))
def cmOf (l : List UInt8) (o : Option Int) : Cm := ⟨(nV (q1 l o) : Int) - 1, nV (q2 l o), nV (q3 l o), nV (q4 l o), nV (q5 l o), nV (q6 l o), tV (q7 l o), tV (q8 l o)⟩
/-- The command that begins at a place, and the place behind it. -/
def getC (l : List UInt8) (i : Int) : Option (Cm × Nat) := (q8 l (some i)).map fun p => (cmOf l (some i), p.2)
theorem tV_le (l : List UInt8) (o : Option Int) : (tV (tS l o)).size ≤ l.length := by
  unfold tV tS
  cases o with
  | none => simp [ByteArray.size]
  | some i =>
    cases h : getT l i with
    | none => simp [h, ByteArray.size]
    | some x => obtain ⟨n, c⟩ := x; simp [h]; exact (getT_le h).2.2.2

theorem CuO.other {W W' : World} {r b : Nat} {A : Option Addr} {cap : Nat} {l : List UInt8} {o : Option Int} (h : CuO W r A cap l o) (g : Only b W W') (hr : r ≠ b) (hA : l = [] ∨ ∀ c o, A = some ⟨c, o, none⟩ → c ≠ b) : CuO W' r A cap l o := by
  obtain ⟨i, ok, hc⟩ := h
  refine ⟨i, ok, hc.box.only g hr, ?_, hc.i64, hc.st⟩
  rcases hA with h | hA
  · exact .inl h
  · exact hc.src.imp id fun ⟨c, o, e, hb, hn, hi⟩ => ⟨c, o, e, Nat.lt_of_lt_of_le hb g.size, hn, fun j v hv => (g.cell (p := ⟨c, o + j, none⟩) hb (hA c o e)).trans (hi j v hv)⟩
theorem CuO.below {W W' : World} {r : Nat} {A : Option Addr} {cap : Nat} {l : List UInt8} {o : Option Int} (h : CuO W r A cap l o) (g : Below W.heap.size W W') : CuO W' r A cap l o := by
  obtain ⟨i, ok, hc⟩ := h
  exact ⟨i, ok, hc.below g⟩
theorem CuO.far {W : World} {r : Nat} {A : Option Addr} {cap : Nat} {l : List UInt8} {o : Option Int} (h : CuO W r A cap l o) : r < W.heap.size ∧ (l = [] ∨ ∀ c o, A = some ⟨c, o, none⟩ → c < W.heap.size) := by
  obtain ⟨i, ok, hc⟩ := h
  refine ⟨hc.box.lt, hc.src.imp id fun ⟨b, o, e, hb, _⟩ c o' e' => ?_⟩
  rw [e] at e'
  cases e'
  exact hb
theorem only_new {b B : Nat} {w w1 w2 : World} (h : Only b w w1) (k : Only B w1 w2) (hB : w.heap.size ≤ B) : Only b w w2 :=
  ⟨k.os.trans h.os, k.tape.trans h.tape, k.output.trans h.output, Nat.le_trans h.size k.size, fun i hi hb => (k.block i (Nat.lt_of_lt_of_le hi h.size) (by omega)).trans (h.block i hi hb)⟩
theorem Rd.far {W : World} {r : Nat} {A : Option Addr} {cap : Nat} {l : List UInt8} {i : Int} (h : Rd W r A cap l i) : r < W.heap.size ∧ (l = [] ∨ ∀ c o, A = some ⟨c, o, none⟩ → c < W.heap.size) := by
  refine ⟨h.box.lt, h.src.imp id fun ⟨b, o, e, hb, _⟩ c o' e' => ?_⟩
  rw [e] at e'
  cases e'
  exact hb
theorem Rd.apart {W W' : World} {r b : Nat} {A : Option Addr} {cap : Nat} {l : List UInt8} {i : Int} (h : Rd W r A cap l i) (g : Only b W W') (hr : r ≠ b) (hA : l = [] ∨ ∀ c o, A = some ⟨c, o, none⟩ → c ≠ b) : Rd W' r A cap l i := by
  refine ⟨h.box.only g hr, ?_, h.i64⟩
  rcases hA with e | hA
  · exact .inl e
  · exact h.src.imp id fun ⟨c, o, e, hb, hn, hi⟩ => ⟨c, o, e, Nat.lt_of_lt_of_le hb g.size, hn, fun j v hv => (g.cell (p := ⟨c, o + j, none⟩) hb (hA c o e)).trans (hi j v hv)⟩

set_option maxRecDepth 100000 in
set_option maxHeartbeats 4000000 in
theorem l7Cmd_any (r : Nat) (A : Option Addr) (cap : Nat) (l : List UInt8) (hl : l.length ≤ 1048576) (hcap : l.length ≤ cap) (hcm : cap ≤ 9223372036854775807) (o : Option Int) (w : World) (h : CuO w r A cap l o) :
    Calls Tryd.prog 35 #[.pointer (some ⟨r, 0, none⟩)] w fun e w' => e = .returned (cmOf l o).v ∧ Only r w w' ∧ CuO w' r A cap l (nO (q8 l o)) := by
  obtain ⟨hr, hfar⟩ := h.far
  have Hfar : Hid (l = [] ∨ ∀ c o, A = some ⟨c, o, none⟩ → c ≠ w.heap.size + 1) := hidP (hfar.imp id fun h c o e => by have := h c o e; omega)
  have Hfar0 : Hid (l = [] ∨ ∀ c o, A = some ⟨c, o, none⟩ → c ≠ w.heap.size) := hidP (hfar.imp id fun h c o e => by have := h c o e; omega)
  have px0 := Blk.new (w.alloc (.cells #[.int .i64 0, .int .i64 0, .int .i64 0, .int .i64 0, .int .i64 0, .int .i64 0, .string ⟨#[]⟩, .string ⟨#[]⟩] 78)) 78 #[.int .i64 0, .int .i64 0, .int .i64 0, .int .i64 0, .int .i64 0, .int .i64 0, .string ⟨#[]⟩, .string ⟨#[]⟩]
  have pr0 := (Blk.new w 78 #[.int .i64 0, .int .i64 0, .int .i64 0, .int .i64 0, .int .i64 0, .int .i64 0, .string ⟨#[]⟩, .string ⟨#[]⟩]).alloc (.cells #[.int .i64 0, .int .i64 0, .int .i64 0, .int .i64 0, .int .i64 0, .int .i64 0, .string ⟨#[]⟩, .string ⟨#[]⟩] 78)
  simp only [World.size_alloc] at px0
  have HC0 := hidP (h.below (alloc0 (alloc0 (Below.refl _ w) (.cells #[.int .i64 0, .int .i64 0, .int .i64 0, .int .i64 0, .int .i64 0, .int .i64 0, .string ⟨#[]⟩, .string ⟨#[]⟩] 78)) (.cells #[.int .i64 0, .int .i64 0, .int .i64 0, .int .i64 0, .int .i64 0, .int .i64 0, .string ⟨#[]⟩, .string ⟨#[]⟩] 78)))
  have HO0 : Hid (Only r w ((w.alloc (.cells #[.int .i64 0, .int .i64 0, .int .i64 0, .int .i64 0, .int .i64 0, .int .i64 0, .string ⟨#[]⟩, .string ⟨#[]⟩] 78)).alloc (.cells #[.int .i64 0, .int .i64 0, .int .i64 0, .int .i64 0, .int .i64 0, .int .i64 0, .string ⟨#[]⟩, .string ⟨#[]⟩] 78))) := (Only.refl r w).below (alloc0 (alloc0 (Below.refl _ w) _) _)
  have Hpx0 := hidP px0
  have Hpr0 := hidP pr0
  clear px0 pr0 h hfar
  go_enter Tryd.func35, Tryd.ntmps35
  go_wp2_with fail
  refine (l7Num_any r A cap l hl (o) _ HC0.out).mono ?_
  rintro e w1 ⟨rfl, o1, h1⟩
  have hn1 : nV (q1 l o) ≤ 2147483647 := nV_le l _
  have hv1 : nV (nS l (o)) = nV (q1 l o) := rfl
  rw [hv1]
  clear hv1
  have p1 : Blk w1 (w.heap.size + 1) 78 #[.int .i64 0, .int .i64 0, .int .i64 0, .int .i64 0, .int .i64 0, .int .i64 0, .string ⟨#[]⟩, .string ⟨#[]⟩] := Hpx0.out.only o1 (by omega)
  have g1 := Hpr0.out.only o1 (by omega)
  have d1 : w1.cell? ⟨w.heap.size + 1, 0, none⟩ = some (.int .i64 0) := p1.cell (i := 0) rfl
  have f1 := p1.thaw 0
  have q1' := p1.lt
  have Hpx1 : Hid (Blk (w1.setCell ⟨w.heap.size + 1, 0, none⟩ (Value.int .i64 ((nV (q1 l o) : Int) - 1))) (w.heap.size + 1) 78 #[Value.int .i64 ((nV (q1 l o) : Int) - 1), .int .i64 0, .int .i64 0, .int .i64 0, .int .i64 0, .int .i64 0, .string ⟨#[]⟩, .string ⟨#[]⟩]) := hidP (p1.setAt 0 (Value.int .i64 ((nV (q1 l o) : Int) - 1)))
  have Hpr1 := hidP (g1.other (show w.heap.size ≠ w.heap.size + 1 by omega) 0 (Value.int .i64 ((nV (q1 l o) : Int) - 1)))
  have HC1 := hidP (CuO.other (show CuO w1 r A cap l (nO (q1 l o)) from h1) ((Only.refl (w.heap.size + 1) w1).set 0 (Value.int .i64 ((nV (q1 l o) : Int) - 1))) (by omega) Hfar.out)
  have HO1 := hidP (only_new (only_trans HO0.out o1) ((Only.refl (w.heap.size + 1) w1).set 0 (Value.int .i64 ((nV (q1 l o) : Int) - 1))) (by omega))
  clear o1 h1 p1 g1 HC0 HO0 Hpx0 Hpr0
  go_wp2_with fail
  refine (l7Num_any r A cap l hl (nO (q1 l o)) _ HC1.out).mono ?_
  rintro e w2 ⟨rfl, o2, h2⟩
  have hn2 : nV (q2 l o) ≤ 2147483647 := nV_le l _
  have hv2 : nV (nS l (nO (q1 l o))) = nV (q2 l o) := rfl
  rw [hv2]
  clear hv2
  have p2 : Blk w2 (w.heap.size + 1) 78 #[Value.int .i64 ((nV (q1 l o) : Int) - 1), .int .i64 0, .int .i64 0, .int .i64 0, .int .i64 0, .int .i64 0, .string ⟨#[]⟩, .string ⟨#[]⟩] := Hpx1.out.only o2 (by omega)
  have g2 := Hpr1.out.only o2 (by omega)
  have d2 : w2.cell? ⟨w.heap.size + 1, 1, none⟩ = some (.int .i64 0) := p2.cell (i := 1) rfl
  have f2 := p2.thaw 1
  have q2' := p2.lt
  have Hpx2 : Hid (Blk (w2.setCell ⟨w.heap.size + 1, 1, none⟩ (.int .i64 (nV (q2 l o) : Int))) (w.heap.size + 1) 78 #[Value.int .i64 ((nV (q1 l o) : Int) - 1), .int .i64 (nV (q2 l o) : Int), .int .i64 0, .int .i64 0, .int .i64 0, .int .i64 0, .string ⟨#[]⟩, .string ⟨#[]⟩]) := hidP (p2.setAt 1 (.int .i64 (nV (q2 l o) : Int)))
  have Hpr2 := hidP (g2.other (show w.heap.size ≠ w.heap.size + 1 by omega) 1 (.int .i64 (nV (q2 l o) : Int)))
  have HC2 := hidP (CuO.other (show CuO w2 r A cap l (nO (q2 l o)) from h2) ((Only.refl (w.heap.size + 1) w2).set 1 (.int .i64 (nV (q2 l o) : Int))) (by omega) Hfar.out)
  have HO2 := hidP (only_new (only_trans HO1.out o2) ((Only.refl (w.heap.size + 1) w2).set 1 (.int .i64 (nV (q2 l o) : Int))) (by omega))
  clear o2 h2 p2 g2 HC1 HO1 Hpx1 Hpr1 d1 f1 q1'
  go_wp2_with fail
  refine (l7Num_any r A cap l hl (nO (q2 l o)) _ HC2.out).mono ?_
  rintro e w3 ⟨rfl, o3, h3⟩
  have hn3 : nV (q3 l o) ≤ 2147483647 := nV_le l _
  have hv3 : nV (nS l (nO (q2 l o))) = nV (q3 l o) := rfl
  rw [hv3]
  clear hv3
  have p3 : Blk w3 (w.heap.size + 1) 78 #[Value.int .i64 ((nV (q1 l o) : Int) - 1), .int .i64 (nV (q2 l o) : Int), .int .i64 0, .int .i64 0, .int .i64 0, .int .i64 0, .string ⟨#[]⟩, .string ⟨#[]⟩] := Hpx2.out.only o3 (by omega)
  have g3 := Hpr2.out.only o3 (by omega)
  have d3 : w3.cell? ⟨w.heap.size + 1, 2, none⟩ = some (.int .i64 0) := p3.cell (i := 2) rfl
  have f3 := p3.thaw 2
  have q3' := p3.lt
  have Hpx3 : Hid (Blk (w3.setCell ⟨w.heap.size + 1, 2, none⟩ (.int .i64 (nV (q3 l o) : Int))) (w.heap.size + 1) 78 #[Value.int .i64 ((nV (q1 l o) : Int) - 1), .int .i64 (nV (q2 l o) : Int), .int .i64 (nV (q3 l o) : Int), .int .i64 0, .int .i64 0, .int .i64 0, .string ⟨#[]⟩, .string ⟨#[]⟩]) := hidP (p3.setAt 2 (.int .i64 (nV (q3 l o) : Int)))
  have Hpr3 := hidP (g3.other (show w.heap.size ≠ w.heap.size + 1 by omega) 2 (.int .i64 (nV (q3 l o) : Int)))
  have HC3 := hidP (CuO.other (show CuO w3 r A cap l (nO (q3 l o)) from h3) ((Only.refl (w.heap.size + 1) w3).set 2 (.int .i64 (nV (q3 l o) : Int))) (by omega) Hfar.out)
  have HO3 := hidP (only_new (only_trans HO2.out o3) ((Only.refl (w.heap.size + 1) w3).set 2 (.int .i64 (nV (q3 l o) : Int))) (by omega))
  clear o3 h3 p3 g3 HC2 HO2 Hpx2 Hpr2 d2 f2 q2'
  go_wp2_with fail
  refine (l7Num_any r A cap l hl (nO (q3 l o)) _ HC3.out).mono ?_
  rintro e w4 ⟨rfl, o4, h4⟩
  have hn4 : nV (q4 l o) ≤ 2147483647 := nV_le l _
  have hv4 : nV (nS l (nO (q3 l o))) = nV (q4 l o) := rfl
  rw [hv4]
  clear hv4
  have p4 : Blk w4 (w.heap.size + 1) 78 #[Value.int .i64 ((nV (q1 l o) : Int) - 1), .int .i64 (nV (q2 l o) : Int), .int .i64 (nV (q3 l o) : Int), .int .i64 0, .int .i64 0, .int .i64 0, .string ⟨#[]⟩, .string ⟨#[]⟩] := Hpx3.out.only o4 (by omega)
  have g4 := Hpr3.out.only o4 (by omega)
  have d4 : w4.cell? ⟨w.heap.size + 1, 3, none⟩ = some (.int .i64 0) := p4.cell (i := 3) rfl
  have f4 := p4.thaw 3
  have q4' := p4.lt
  have Hpx4 : Hid (Blk (w4.setCell ⟨w.heap.size + 1, 3, none⟩ (.int .i64 (nV (q4 l o) : Int))) (w.heap.size + 1) 78 #[Value.int .i64 ((nV (q1 l o) : Int) - 1), .int .i64 (nV (q2 l o) : Int), .int .i64 (nV (q3 l o) : Int), .int .i64 (nV (q4 l o) : Int), .int .i64 0, .int .i64 0, .string ⟨#[]⟩, .string ⟨#[]⟩]) := hidP (p4.setAt 3 (.int .i64 (nV (q4 l o) : Int)))
  have Hpr4 := hidP (g4.other (show w.heap.size ≠ w.heap.size + 1 by omega) 3 (.int .i64 (nV (q4 l o) : Int)))
  have HC4 := hidP (CuO.other (show CuO w4 r A cap l (nO (q4 l o)) from h4) ((Only.refl (w.heap.size + 1) w4).set 3 (.int .i64 (nV (q4 l o) : Int))) (by omega) Hfar.out)
  have HO4 := hidP (only_new (only_trans HO3.out o4) ((Only.refl (w.heap.size + 1) w4).set 3 (.int .i64 (nV (q4 l o) : Int))) (by omega))
  clear o4 h4 p4 g4 HC3 HO3 Hpx3 Hpr3 d3 f3 q3'
  go_wp2_with fail
  refine (l7Num_any r A cap l hl (nO (q4 l o)) _ HC4.out).mono ?_
  rintro e w5 ⟨rfl, o5, h5⟩
  have hn5 : nV (q5 l o) ≤ 2147483647 := nV_le l _
  have hv5 : nV (nS l (nO (q4 l o))) = nV (q5 l o) := rfl
  rw [hv5]
  clear hv5
  have p5 : Blk w5 (w.heap.size + 1) 78 #[Value.int .i64 ((nV (q1 l o) : Int) - 1), .int .i64 (nV (q2 l o) : Int), .int .i64 (nV (q3 l o) : Int), .int .i64 (nV (q4 l o) : Int), .int .i64 0, .int .i64 0, .string ⟨#[]⟩, .string ⟨#[]⟩] := Hpx4.out.only o5 (by omega)
  have g5 := Hpr4.out.only o5 (by omega)
  have d5 : w5.cell? ⟨w.heap.size + 1, 4, none⟩ = some (.int .i64 0) := p5.cell (i := 4) rfl
  have f5 := p5.thaw 4
  have q5' := p5.lt
  have Hpx5 : Hid (Blk (w5.setCell ⟨w.heap.size + 1, 4, none⟩ (.int .i64 (nV (q5 l o) : Int))) (w.heap.size + 1) 78 #[Value.int .i64 ((nV (q1 l o) : Int) - 1), .int .i64 (nV (q2 l o) : Int), .int .i64 (nV (q3 l o) : Int), .int .i64 (nV (q4 l o) : Int), .int .i64 (nV (q5 l o) : Int), .int .i64 0, .string ⟨#[]⟩, .string ⟨#[]⟩]) := hidP (p5.setAt 4 (.int .i64 (nV (q5 l o) : Int)))
  have Hpr5 := hidP (g5.other (show w.heap.size ≠ w.heap.size + 1 by omega) 4 (.int .i64 (nV (q5 l o) : Int)))
  have HC5 := hidP (CuO.other (show CuO w5 r A cap l (nO (q5 l o)) from h5) ((Only.refl (w.heap.size + 1) w5).set 4 (.int .i64 (nV (q5 l o) : Int))) (by omega) Hfar.out)
  have HO5 := hidP (only_new (only_trans HO4.out o5) ((Only.refl (w.heap.size + 1) w5).set 4 (.int .i64 (nV (q5 l o) : Int))) (by omega))
  clear o5 h5 p5 g5 HC4 HO4 Hpx4 Hpr4 d4 f4 q4'
  go_wp2_with fail
  refine (l7Num_any r A cap l hl (nO (q5 l o)) _ HC5.out).mono ?_
  rintro e w6 ⟨rfl, o6, h6⟩
  have hn6 : nV (q6 l o) ≤ 2147483647 := nV_le l _
  have hv6 : nV (nS l (nO (q5 l o))) = nV (q6 l o) := rfl
  rw [hv6]
  clear hv6
  have p6 : Blk w6 (w.heap.size + 1) 78 #[Value.int .i64 ((nV (q1 l o) : Int) - 1), .int .i64 (nV (q2 l o) : Int), .int .i64 (nV (q3 l o) : Int), .int .i64 (nV (q4 l o) : Int), .int .i64 (nV (q5 l o) : Int), .int .i64 0, .string ⟨#[]⟩, .string ⟨#[]⟩] := Hpx5.out.only o6 (by omega)
  have g6 := Hpr5.out.only o6 (by omega)
  have d6 : w6.cell? ⟨w.heap.size + 1, 5, none⟩ = some (.int .i64 0) := p6.cell (i := 5) rfl
  have f6 := p6.thaw 5
  have q6' := p6.lt
  have Hpx6 : Hid (Blk (w6.setCell ⟨w.heap.size + 1, 5, none⟩ (.int .i64 (nV (q6 l o) : Int))) (w.heap.size + 1) 78 #[Value.int .i64 ((nV (q1 l o) : Int) - 1), .int .i64 (nV (q2 l o) : Int), .int .i64 (nV (q3 l o) : Int), .int .i64 (nV (q4 l o) : Int), .int .i64 (nV (q5 l o) : Int), .int .i64 (nV (q6 l o) : Int), .string ⟨#[]⟩, .string ⟨#[]⟩]) := hidP (p6.setAt 5 (.int .i64 (nV (q6 l o) : Int)))
  have Hpr6 := hidP (g6.other (show w.heap.size ≠ w.heap.size + 1 by omega) 5 (.int .i64 (nV (q6 l o) : Int)))
  have HC6 := hidP (CuO.other (show CuO w6 r A cap l (nO (q6 l o)) from h6) ((Only.refl (w.heap.size + 1) w6).set 5 (.int .i64 (nV (q6 l o) : Int))) (by omega) Hfar.out)
  have HO6 := hidP (only_new (only_trans HO5.out o6) ((Only.refl (w.heap.size + 1) w6).set 5 (.int .i64 (nV (q6 l o) : Int))) (by omega))
  clear o6 h6 p6 g6 HC5 HO5 Hpx5 Hpr5 d5 f5 q5'
  go_wp2_with fail
  refine (l7Text_any r A cap l hl hcap hcm (nO (q6 l o)) _ HC6.out).mono ?_
  rintro e w7 ⟨rfl, o7, h7⟩
  have hv7 : tV (tS l (nO (q6 l o))) = tV (q7 l o) := rfl
  rw [hv7]
  clear hv7
  have p7 : Blk w7 (w.heap.size + 1) 78 #[Value.int .i64 ((nV (q1 l o) : Int) - 1), .int .i64 (nV (q2 l o) : Int), .int .i64 (nV (q3 l o) : Int), .int .i64 (nV (q4 l o) : Int), .int .i64 (nV (q5 l o) : Int), .int .i64 (nV (q6 l o) : Int), .string ⟨#[]⟩, .string ⟨#[]⟩] := Hpx6.out.only o7 (by omega)
  have g7 := Hpr6.out.only o7 (by omega)
  have d7 : w7.cell? ⟨w.heap.size + 1, 6, none⟩ = some (.string ⟨#[]⟩) := p7.cell (i := 6) rfl
  have f7 := p7.thaw 6
  have q7' := p7.lt
  have Hpx7 : Hid (Blk (w7.setCell ⟨w.heap.size + 1, 6, none⟩ (Value.string (tV (q7 l o)))) (w.heap.size + 1) 78 #[Value.int .i64 ((nV (q1 l o) : Int) - 1), .int .i64 (nV (q2 l o) : Int), .int .i64 (nV (q3 l o) : Int), .int .i64 (nV (q4 l o) : Int), .int .i64 (nV (q5 l o) : Int), .int .i64 (nV (q6 l o) : Int), Value.string (tV (q7 l o)), .string ⟨#[]⟩]) := hidP (p7.setAt 6 (Value.string (tV (q7 l o))))
  have Hpr7 := hidP (g7.other (show w.heap.size ≠ w.heap.size + 1 by omega) 6 (Value.string (tV (q7 l o))))
  have HC7 := hidP (CuO.other (show CuO w7 r A cap l (nO (q7 l o)) from h7) ((Only.refl (w.heap.size + 1) w7).set 6 (Value.string (tV (q7 l o)))) (by omega) Hfar.out)
  have HO7 := hidP (only_new (only_trans HO6.out o7) ((Only.refl (w.heap.size + 1) w7).set 6 (Value.string (tV (q7 l o)))) (by omega))
  clear o7 h7 p7 g7 HC6 HO6 Hpx6 Hpr6 d6 f6 q6'
  go_wp2_with fail
  refine (l7Text_any r A cap l hl hcap hcm (nO (q7 l o)) _ HC7.out).mono ?_
  rintro e w8 ⟨rfl, o8, h8⟩
  have hv8 : tV (tS l (nO (q7 l o))) = tV (q8 l o) := rfl
  rw [hv8]
  clear hv8
  have p8 : Blk w8 (w.heap.size + 1) 78 #[Value.int .i64 ((nV (q1 l o) : Int) - 1), .int .i64 (nV (q2 l o) : Int), .int .i64 (nV (q3 l o) : Int), .int .i64 (nV (q4 l o) : Int), .int .i64 (nV (q5 l o) : Int), .int .i64 (nV (q6 l o) : Int), Value.string (tV (q7 l o)), .string ⟨#[]⟩] := Hpx7.out.only o8 (by omega)
  have g8 := Hpr7.out.only o8 (by omega)
  have d8 : w8.cell? ⟨w.heap.size + 1, 7, none⟩ = some (.string ⟨#[]⟩) := p8.cell (i := 7) rfl
  have f8 := p8.thaw 7
  have q8' := p8.lt
  have e0 : w8.cell? ⟨w.heap.size + 1, 0, none⟩ = some (Value.int .i64 ((nV (q1 l o) : Int) - 1)) := p8.cell (i := 0) rfl
  have e1 : w8.cell? ⟨w.heap.size + 1, 1, none⟩ = some (.int .i64 (nV (q2 l o) : Int)) := p8.cell (i := 1) rfl
  have e2 : w8.cell? ⟨w.heap.size + 1, 2, none⟩ = some (.int .i64 (nV (q3 l o) : Int)) := p8.cell (i := 2) rfl
  have e3 : w8.cell? ⟨w.heap.size + 1, 3, none⟩ = some (.int .i64 (nV (q4 l o) : Int)) := p8.cell (i := 3) rfl
  have e4 : w8.cell? ⟨w.heap.size + 1, 4, none⟩ = some (.int .i64 (nV (q5 l o) : Int)) := p8.cell (i := 4) rfl
  have e5 : w8.cell? ⟨w.heap.size + 1, 5, none⟩ = some (.int .i64 (nV (q6 l o) : Int)) := p8.cell (i := 5) rfl
  have e6 : w8.cell? ⟨w.heap.size + 1, 6, none⟩ = some (Value.string (tV (q7 l o))) := p8.cell (i := 6) rfl
  have r0 : w8.cell? ⟨w.heap.size, 0, none⟩ = some (.int .i64 0) := g8.cell (i := 0) rfl
  have z0 := g8.thaw 0
  have r1 : w8.cell? ⟨w.heap.size, 1, none⟩ = some (.int .i64 0) := g8.cell (i := 1) rfl
  have z1 := g8.thaw 1
  have r2 : w8.cell? ⟨w.heap.size, 2, none⟩ = some (.int .i64 0) := g8.cell (i := 2) rfl
  have z2 := g8.thaw 2
  have r3 : w8.cell? ⟨w.heap.size, 3, none⟩ = some (.int .i64 0) := g8.cell (i := 3) rfl
  have z3 := g8.thaw 3
  have r4 : w8.cell? ⟨w.heap.size, 4, none⟩ = some (.int .i64 0) := g8.cell (i := 4) rfl
  have z4 := g8.thaw 4
  have r5 : w8.cell? ⟨w.heap.size, 5, none⟩ = some (.int .i64 0) := g8.cell (i := 5) rfl
  have z5 := g8.thaw 5
  have r6 : w8.cell? ⟨w.heap.size, 6, none⟩ = some (.string ⟨#[]⟩) := g8.cell (i := 6) rfl
  have z6 := g8.thaw 6
  have r7 : w8.cell? ⟨w.heap.size, 7, none⟩ = some (.string ⟨#[]⟩) := g8.cell (i := 7) rfl
  have z7 := g8.thaw 7
  have qr := g8.lt
  have Hpx8 : Hid (Blk (w8.setCell ⟨w.heap.size + 1, 7, none⟩ (.string (tV (q8 l o)))) (w.heap.size + 1) 78 #[Value.int .i64 ((nV (q1 l o) : Int) - 1), .int .i64 (nV (q2 l o) : Int), .int .i64 (nV (q3 l o) : Int), .int .i64 (nV (q4 l o) : Int), .int .i64 (nV (q5 l o) : Int), .int .i64 (nV (q6 l o) : Int), Value.string (tV (q7 l o)), .string (tV (q8 l o))]) := hidP (p8.setAt 7 (.string (tV (q8 l o))))
  have Hpr8 := hidP (g8.other (show w.heap.size ≠ w.heap.size + 1 by omega) 7 (.string (tV (q8 l o))))
  have HC8 := hidP (CuO.other (show CuO w8 r A cap l (nO (q8 l o)) from h8) ((Only.refl (w.heap.size + 1) w8).set 7 (.string (tV (q8 l o)))) (by omega) Hfar.out)
  have HO8 := hidP (only_new (only_trans HO7.out o8) ((Only.refl (w.heap.size + 1) w8).set 7 (.string (tV (q8 l o)))) (by omega))
  clear o8 h8 p8 g8 HC7 HO7 Hpx7 Hpr7 d7 f7 q7'
  have HOz := hidP (only_new (only_new (only_new (only_new (only_new (only_new (only_new (only_new (HO8.out) ((Only.refl w.heap.size _).set 0 (Value.int .i64 ((nV (q1 l o) : Int) - 1))) (Nat.le_refl _)) ((Only.refl w.heap.size _).set 1 (.int .i64 (nV (q2 l o) : Int))) (Nat.le_refl _)) ((Only.refl w.heap.size _).set 2 (.int .i64 (nV (q3 l o) : Int))) (Nat.le_refl _)) ((Only.refl w.heap.size _).set 3 (.int .i64 (nV (q4 l o) : Int))) (Nat.le_refl _)) ((Only.refl w.heap.size _).set 4 (.int .i64 (nV (q5 l o) : Int))) (Nat.le_refl _)) ((Only.refl w.heap.size _).set 5 (.int .i64 (nV (q6 l o) : Int))) (Nat.le_refl _)) ((Only.refl w.heap.size _).set 6 (Value.string (tV (q7 l o)))) (Nat.le_refl _)) ((Only.refl w.heap.size _).set 7 (.string (tV (q8 l o)))) (Nat.le_refl _))
  have HCz := hidP (CuO.other (CuO.other (CuO.other (CuO.other (CuO.other (CuO.other (CuO.other (CuO.other (HC8.out) ((Only.refl w.heap.size _).set 0 (Value.int .i64 ((nV (q1 l o) : Int) - 1))) (by omega) Hfar0.out) ((Only.refl w.heap.size _).set 1 (.int .i64 (nV (q2 l o) : Int))) (by omega) Hfar0.out) ((Only.refl w.heap.size _).set 2 (.int .i64 (nV (q3 l o) : Int))) (by omega) Hfar0.out) ((Only.refl w.heap.size _).set 3 (.int .i64 (nV (q4 l o) : Int))) (by omega) Hfar0.out) ((Only.refl w.heap.size _).set 4 (.int .i64 (nV (q5 l o) : Int))) (by omega) Hfar0.out) ((Only.refl w.heap.size _).set 5 (.int .i64 (nV (q6 l o) : Int))) (by omega) Hfar0.out) ((Only.refl w.heap.size _).set 6 (Value.string (tV (q7 l o)))) (by omega) Hfar0.out) ((Only.refl w.heap.size _).set 7 (.string (tV (q8 l o)))) (by omega) Hfar0.out)
  clear HO8 HC8 Hpx8 Hpr8
  go_wp2
  exact bodyPost_ret (v := (cmOf l o).v) (by simp [results, Tryd.results35, go_sem, Cm.v, cmOf, r0, r1, r2, r3, r4, r5, r6, r7]) rfl ⟨rfl, HOz.out, HCz.out⟩
end Go.Proofs.YtfbbifdfjjkknaaDoor.Gen
