/-
  A note's body read by the program's reader. Condition: at most 1048576 bytes.
-/
import Derived.Test.YtenhcjkkpnlbeaaGreatDoorREnt
set_option linter.unusedVariables false
set_option linter.unusedSimpArgs false
set_option maxRecDepth 100000
set_option maxHeartbeats 8000000
namespace Go.Proofs.YtenhcjkkpnlbeaaGreatDoor.Gen
open ChangeShapes WideShapes ChangeAt RowKit Joins Deep Base
structure Nt where
  kind : Int
  term : Int
  vote : Int
  prev : Int
  l : List En
  snap : ByteArray
def Qds (l : List UInt8) (i : Int) : Option (Nt × Nat) := match getN l i with | none => none | some (n1, c1) => match getN l (c1 : Int) with | none => none | some (n2, c2) => match getN l (c2 : Int) with | none => none | some (n3, c3) => match getN l (c3 : Int) with | none => none | some (n4, c4) => match Qdq l (Qcw l) (c4 : Int) with | none => none | some (s5, c5) => match getT l (c5 : Int) with | none => none | some (s6, c6) => some (⟨(n1 : Int), (n2 : Int), (n3 : Int) - 1, (n4 : Int), s5, s6⟩, c6)
def isNt (B : Nat) (x : Nt) (v : Value) (W : World) : Prop := ∃ u, v = .agg #[.int .i64 x.kind, .int .i64 x.term, .int .i64 x.vote, .int .i64 x.prev, u, .string x.snap] /\ isList 127 B x.l u W
theorem Qiq (r : Nat) (A : Option Addr) (cap : Nat) (l : List UInt8) (i : Int) (hl : l.length <= 1048576) (hcap : l.length <= cap) (hcm : cap <= 9223372036854775807) (w : World) (h : Rd w r A cap l i) :
 Calls Tryz.prog 181 #[.pointer (some ⟨r, 0, none⟩)] w fun e w' => Qfw (isNt w.heap.size) r A cap l w e w' (Qds l i) := by
 obtain ⟨hr, hfar⟩ := h.far'
 have Hfar : Hid (l = [] ∨ ∀ c o, A = some ⟨c, o, none⟩ -> c ≠ w.heap.size + 1) := hidP (hfar.imp id fun h c o e => by have := h c o e; omega)
 have Hfar0 : Hid (l = [] ∨ ∀ c o, A = some ⟨c, o, none⟩ -> c ≠ w.heap.size) := hidP (hfar.imp id fun h c o e => by have := h c o e; omega)
 have px0 := Blk.new (w.alloc (.cells Qal 154)) 154 Qal
 have pr0 := (Blk.new w 154 Qal).alloc (.cells Qal 154)
 simp only [World.size_alloc] at px0
 have HC0 := hidP (h.below (Qab (Qab (Below.refl _ w) (.cells Qal 154)) (.cells Qal 154)))
 have HO0 : Hid (Only r w ((w.alloc (.cells Qal 154)).alloc (.cells Qal 154))) := (Only.refl r w).below (Qab (Qab (Below.refl _ w) _) _)
 have Hpx0 := hidP px0
 have Hpr0 := hidP pr0
 clear px0 pr0 h hfar
 go_enter Tryz.func181, Tryz.ntmps181
 go_wp2_with fail
 refine (Qbe r A cap l (i) hl _ HC0.out).mono ?_
 intro e w1 h1
 cases hx1 : getN l (i) with
 | none =>
  have hN : Qds l i = none := by simp [Qds, hx1]
  rw [hx1] at h1
  obtain ⟨o1, t, v, rfl⟩ := h1
  refine ⟨rfl, ?_⟩
  rw [hN]
  exact ⟨Qao HO0.out o1, t, v, rfl⟩
 | some x =>
 obtain ⟨n1, c1⟩ := x
 rw [hx1] at h1
 obtain ⟨o1, h1, v, rfl, rfl⟩ := h1
 have hle1 := Qbw hx1
 have p1 : Blk w1 (w.heap.size + 1) 154 Qal := Hpx0.out.only o1 (by omega)
 have g1 := Hpr0.out.only o1 (by omega)
 have d0 : w1.cell? ⟨w.heap.size + 1, 0, none⟩ = some (.int .i64 0) := p1.cell (i := 0) rfl
 have f0 := p1.thaw 0
 have q1' := p1.lt
 have Hpx1 : Hid (Blk (w1.setCell ⟨w.heap.size + 1, 0, none⟩ (Value.int .i64 (n1 : Int))) (w.heap.size + 1) 154 #[Value.int .i64 (n1 : Int), .int .i64 0, .int .i64 0, .int .i64 0, .slice none 0 0, .string ⟨#[]⟩]) := hidP (p1.setAt 0 (Value.int .i64 (n1 : Int)))
 have Hpr1 := hidP (g1.other (show w.heap.size ≠ w.heap.size + 1 by omega) 0 (Value.int .i64 (n1 : Int)))
 have HC1 := hidP (h1.offp (Offp.of_only ((Only.refl (w.heap.size + 1) w1).set 0 (Value.int .i64 (n1 : Int)))) (by show r ≠ _; omega) Hfar.out)
 have HO1 := hidP (Qch (Qao HO0.out o1) (Offp.of_only ((Only.refl (w.heap.size + 1) w1).set 0 (Value.int .i64 (n1 : Int)))) (fun x e => by subst e; omega))
 clear o1 h1 p1 g1 HC0 HO0 Hpx0 Hpr0
 go_wp2_with fail
 refine (Qbe r A cap l ((c1 : Int)) hl _ HC1.out).mono ?_
 intro e w2 h2
 cases hx2 : getN l ((c1 : Int)) with
 | none =>
  have hN : Qds l i = none := by simp [Qds, hx1, hx2]
  rw [hx2] at h2
  obtain ⟨o2, t, v, rfl⟩ := h2
  refine ⟨rfl, ?_⟩
  rw [hN]
  exact ⟨Qao HO1.out o2, t, v, rfl⟩
 | some x =>
 obtain ⟨n2, c2⟩ := x
 rw [hx2] at h2
 obtain ⟨o2, h2, v, rfl, rfl⟩ := h2
 have hle2 := Qbw hx2
 have p2 : Blk w2 (w.heap.size + 1) 154 #[Value.int .i64 (n1 : Int), .int .i64 0, .int .i64 0, .int .i64 0, .slice none 0 0, .string ⟨#[]⟩] := Hpx1.out.only o2 (by omega)
 have g2 := Hpr1.out.only o2 (by omega)
 have d1 : w2.cell? ⟨w.heap.size + 1, 1, none⟩ = some (.int .i64 0) := p2.cell (i := 1) rfl
 have f1 := p2.thaw 1
 have q2' := p2.lt
 have Hpx2 : Hid (Blk (w2.setCell ⟨w.heap.size + 1, 1, none⟩ (Value.int .i64 (n2 : Int))) (w.heap.size + 1) 154 #[Value.int .i64 (n1 : Int), Value.int .i64 (n2 : Int), .int .i64 0, .int .i64 0, .slice none 0 0, .string ⟨#[]⟩]) := hidP (p2.setAt 1 (Value.int .i64 (n2 : Int)))
 have Hpr2 := hidP (g2.other (show w.heap.size ≠ w.heap.size + 1 by omega) 1 (Value.int .i64 (n2 : Int)))
 have HC2 := hidP (h2.offp (Offp.of_only ((Only.refl (w.heap.size + 1) w2).set 1 (Value.int .i64 (n2 : Int)))) (by show r ≠ _; omega) Hfar.out)
 have HO2 := hidP (Qch (Qao HO1.out o2) (Offp.of_only ((Only.refl (w.heap.size + 1) w2).set 1 (Value.int .i64 (n2 : Int)))) (fun x e => by subst e; omega))
 clear o2 h2 p2 g2 HC1 HO1 Hpx1 Hpr1 d0 f0 q1'
 go_wp2_with fail
 refine (Qbe r A cap l ((c2 : Int)) hl _ HC2.out).mono ?_
 intro e w3 h3
 cases hx3 : getN l ((c2 : Int)) with
 | none =>
  have hN : Qds l i = none := by simp [Qds, hx1, hx2, hx3]
  rw [hx3] at h3
  obtain ⟨o3, t, v, rfl⟩ := h3
  refine ⟨rfl, ?_⟩
  rw [hN]
  exact ⟨Qao HO2.out o3, t, v, rfl⟩
 | some x =>
 obtain ⟨n3, c3⟩ := x
 rw [hx3] at h3
 obtain ⟨o3, h3, v, rfl, rfl⟩ := h3
 have hle3 := Qbw hx3
 have p3 : Blk w3 (w.heap.size + 1) 154 #[Value.int .i64 (n1 : Int), Value.int .i64 (n2 : Int), .int .i64 0, .int .i64 0, .slice none 0 0, .string ⟨#[]⟩] := Hpx2.out.only o3 (by omega)
 have g3 := Hpr2.out.only o3 (by omega)
 have d2 : w3.cell? ⟨w.heap.size + 1, 2, none⟩ = some (.int .i64 0) := p3.cell (i := 2) rfl
 have f2 := p3.thaw 2
 have q3' := p3.lt
 have Hpx3 : Hid (Blk (w3.setCell ⟨w.heap.size + 1, 2, none⟩ (Value.int .i64 ((n3 : Int) - 1))) (w.heap.size + 1) 154 #[Value.int .i64 (n1 : Int), Value.int .i64 (n2 : Int), Value.int .i64 ((n3 : Int) - 1), .int .i64 0, .slice none 0 0, .string ⟨#[]⟩]) := hidP (p3.setAt 2 (Value.int .i64 ((n3 : Int) - 1)))
 have Hpr3 := hidP (g3.other (show w.heap.size ≠ w.heap.size + 1 by omega) 2 (Value.int .i64 ((n3 : Int) - 1)))
 have HC3 := hidP (h3.offp (Offp.of_only ((Only.refl (w.heap.size + 1) w3).set 2 (Value.int .i64 ((n3 : Int) - 1)))) (by show r ≠ _; omega) Hfar.out)
 have HO3 := hidP (Qch (Qao HO2.out o3) (Offp.of_only ((Only.refl (w.heap.size + 1) w3).set 2 (Value.int .i64 ((n3 : Int) - 1)))) (fun x e => by subst e; omega))
 clear o3 h3 p3 g3 HC2 HO2 Hpx2 Hpr2 d1 f1 q2'
 go_wp2_with fail
 refine (Qbe r A cap l ((c3 : Int)) hl _ HC3.out).mono ?_
 intro e w4 h4
 cases hx4 : getN l ((c3 : Int)) with
 | none =>
  have hN : Qds l i = none := by simp [Qds, hx1, hx2, hx3, hx4]
  rw [hx4] at h4
  obtain ⟨o4, t, v, rfl⟩ := h4
  refine ⟨rfl, ?_⟩
  rw [hN]
  exact ⟨Qao HO3.out o4, t, v, rfl⟩
 | some x =>
 obtain ⟨n4, c4⟩ := x
 rw [hx4] at h4
 obtain ⟨o4, h4, v, rfl, rfl⟩ := h4
 have hle4 := Qbw hx4
 have p4 : Blk w4 (w.heap.size + 1) 154 #[Value.int .i64 (n1 : Int), Value.int .i64 (n2 : Int), Value.int .i64 ((n3 : Int) - 1), .int .i64 0, .slice none 0 0, .string ⟨#[]⟩] := Hpx3.out.only o4 (by omega)
 have g4 := Hpr3.out.only o4 (by omega)
 have d3 : w4.cell? ⟨w.heap.size + 1, 3, none⟩ = some (.int .i64 0) := p4.cell (i := 3) rfl
 have f3 := p4.thaw 3
 have q4' := p4.lt
 have Hpx4 : Hid (Blk (w4.setCell ⟨w.heap.size + 1, 3, none⟩ (Value.int .i64 (n4 : Int))) (w.heap.size + 1) 154 #[Value.int .i64 (n1 : Int), Value.int .i64 (n2 : Int), Value.int .i64 ((n3 : Int) - 1), Value.int .i64 (n4 : Int), .slice none 0 0, .string ⟨#[]⟩]) := hidP (p4.setAt 3 (Value.int .i64 (n4 : Int)))
 have Hpr4 := hidP (g4.other (show w.heap.size ≠ w.heap.size + 1 by omega) 3 (Value.int .i64 (n4 : Int)))
 have HC4 := hidP (h4.offp (Offp.of_only ((Only.refl (w.heap.size + 1) w4).set 3 (Value.int .i64 (n4 : Int)))) (by show r ≠ _; omega) Hfar.out)
 have HO4 := hidP (Qch (Qao HO3.out o4) (Offp.of_only ((Only.refl (w.heap.size + 1) w4).set 3 (Value.int .i64 (n4 : Int)))) (fun x e => by subst e; omega))
 clear o4 h4 p4 g4 HC3 HO3 Hpx3 Hpr3 d2 f2 q3'
 go_wp2_with fail
 refine (Qhw r A cap l ((c4 : Int)) hl hcap hcm _ HC4.out).mono ?_
 intro e w5 h5
 cases hx5 : Qdq l (Qcw l) ((c4 : Int)) with
 | none =>
  have hN : Qds l i = none := by simp [Qds, hx1, hx2, hx3, hx4, hx5]
  rw [hx5] at h5
  obtain ⟨o5, t, v, rfl⟩ := h5
  refine ⟨rfl, ?_⟩
  rw [hN]
  exact ⟨Qao HO4.out o5, t, v, rfl⟩
 | some x =>
 obtain ⟨s5, c5⟩ := x
 rw [hx5] at h5
 obtain ⟨o5, h5, v, rfl, hv⟩ := h5
 have hle5 := Qit (fun i x c h => Qhg h) hx5
 have hv' := hv.mono (B' := w.heap.size + 2) (Nat.succ_le_of_lt Hpx4.out.lt)
 obtain ⟨a, cp, rfl, hown⟩ := hv'
 have HL := hidP (Qck hown ((Only.refl (w.heap.size + 1) w5).set 4 (Value.slice a (List.length s5) cp)) (by omega))
 clear hv hown
 have p5 : Blk w5 (w.heap.size + 1) 154 #[Value.int .i64 (n1 : Int), Value.int .i64 (n2 : Int), Value.int .i64 ((n3 : Int) - 1), Value.int .i64 (n4 : Int), .slice none 0 0, .string ⟨#[]⟩] := Hpx4.out.only o5 (by omega)
 have g5 := Hpr4.out.only o5 (by omega)
 have d4 : w5.cell? ⟨w.heap.size + 1, 4, none⟩ = some (.slice none 0 0) := p5.cell (i := 4) rfl
 have f4 := p5.thaw 4
 have q5' := p5.lt
 have Hpx5 : Hid (Blk (w5.setCell ⟨w.heap.size + 1, 4, none⟩ (Value.slice a (List.length s5) cp)) (w.heap.size + 1) 154 #[Value.int .i64 (n1 : Int), Value.int .i64 (n2 : Int), Value.int .i64 ((n3 : Int) - 1), Value.int .i64 (n4 : Int), Value.slice a (List.length s5) cp, .string ⟨#[]⟩]) := hidP (p5.setAt 4 (Value.slice a (List.length s5) cp))
 have Hpr5 := hidP (g5.other (show w.heap.size ≠ w.heap.size + 1 by omega) 4 (Value.slice a (List.length s5) cp))
 have HC5 := hidP (h5.offp (Offp.of_only ((Only.refl (w.heap.size + 1) w5).set 4 (Value.slice a (List.length s5) cp))) (by show r ≠ _; omega) Hfar.out)
 have HO5 := hidP (Qch (Qao HO4.out o5) (Offp.of_only ((Only.refl (w.heap.size + 1) w5).set 4 (Value.slice a (List.length s5) cp))) (fun x e => by subst e; omega))
 clear o5 h5 p5 g5 HC4 HO4 Hpx4 Hpr4 d3 f3 q4'
 go_wp2_with fail
 refine (Qd5 r A cap l ((c5 : Int)) hl hcap hcm _ HC5.out).mono ?_
 intro e w6 h6
 cases hx6 : getT l ((c5 : Int)) with
 | none =>
  have hN : Qds l i = none := by simp [Qds, hx1, hx2, hx3, hx4, hx5, hx6]
  rw [hx6] at h6
  obtain ⟨o6, t, v, rfl⟩ := h6
  refine ⟨rfl, ?_⟩
  rw [hN]
  exact ⟨Qao HO5.out o6, t, v, rfl⟩
 | some x =>
 obtain ⟨s6, c6⟩ := x
 rw [hx6] at h6
 obtain ⟨o6, h6, v, rfl, rfl⟩ := h6
 have hle6 := Qd9 hx6
 have HL := hidP (Qck (Qck HL.out o6 (by omega)) ((Only.refl (w.heap.size + 1) w6).set 5 (Value.string s6)) (by omega))
 have p6 : Blk w6 (w.heap.size + 1) 154 #[Value.int .i64 (n1 : Int), Value.int .i64 (n2 : Int), Value.int .i64 ((n3 : Int) - 1), Value.int .i64 (n4 : Int), Value.slice a (List.length s5) cp, .string ⟨#[]⟩] := Hpx5.out.only o6 (by omega)
 have g6 := Hpr5.out.only o6 (by omega)
 have d5 : w6.cell? ⟨w.heap.size + 1, 5, none⟩ = some (.string ⟨#[]⟩) := p6.cell (i := 5) rfl
 have f5 := p6.thaw 5
 have q6' := p6.lt
 have e0 : w6.cell? ⟨w.heap.size + 1, 0, none⟩ = some (Value.int .i64 (n1 : Int)) := p6.cell (i := 0) rfl
 have e1 : w6.cell? ⟨w.heap.size + 1, 1, none⟩ = some (Value.int .i64 (n2 : Int)) := p6.cell (i := 1) rfl
 have e2 : w6.cell? ⟨w.heap.size + 1, 2, none⟩ = some (Value.int .i64 ((n3 : Int) - 1)) := p6.cell (i := 2) rfl
 have e3 : w6.cell? ⟨w.heap.size + 1, 3, none⟩ = some (Value.int .i64 (n4 : Int)) := p6.cell (i := 3) rfl
 have e4 : w6.cell? ⟨w.heap.size + 1, 4, none⟩ = some (Value.slice a (List.length s5) cp) := p6.cell (i := 4) rfl
 have r0 : w6.cell? ⟨w.heap.size, 0, none⟩ = some (.int .i64 0) := g6.cell (i := 0) rfl
 have z0 := g6.thaw 0
 have r1 : w6.cell? ⟨w.heap.size, 1, none⟩ = some (.int .i64 0) := g6.cell (i := 1) rfl
 have z1 := g6.thaw 1
 have r2 : w6.cell? ⟨w.heap.size, 2, none⟩ = some (.int .i64 0) := g6.cell (i := 2) rfl
 have z2 := g6.thaw 2
 have r3 : w6.cell? ⟨w.heap.size, 3, none⟩ = some (.int .i64 0) := g6.cell (i := 3) rfl
 have z3 := g6.thaw 3
 have r4 : w6.cell? ⟨w.heap.size, 4, none⟩ = some (.slice none 0 0) := g6.cell (i := 4) rfl
 have z4 := g6.thaw 4
 have r5 : w6.cell? ⟨w.heap.size, 5, none⟩ = some (.string ⟨#[]⟩) := g6.cell (i := 5) rfl
 have z5 := g6.thaw 5
 have qr := g6.lt
 have Hpx6 : Hid (Blk (w6.setCell ⟨w.heap.size + 1, 5, none⟩ (Value.string s6)) (w.heap.size + 1) 154 #[Value.int .i64 (n1 : Int), Value.int .i64 (n2 : Int), Value.int .i64 ((n3 : Int) - 1), Value.int .i64 (n4 : Int), Value.slice a (List.length s5) cp, Value.string s6]) := hidP (p6.setAt 5 (Value.string s6))
 have Hpr6 := hidP (g6.other (show w.heap.size ≠ w.heap.size + 1 by omega) 5 (Value.string s6))
 have HC6 := hidP (h6.offp (Offp.of_only ((Only.refl (w.heap.size + 1) w6).set 5 (Value.string s6))) (by show r ≠ _; omega) Hfar.out)
 have HO6 := hidP (Qch (Qao HO5.out o6) (Offp.of_only ((Only.refl (w.heap.size + 1) w6).set 5 (Value.string s6))) (fun x e => by subst e; omega))
 clear o6 h6 p6 g6 HC5 HO5 Hpx5 Hpr5 d4 f4 q5'
 have HOz := hidP (Qch (HO6.out) (Offp.of_only (((((((Only.refl w.heap.size _).set 0 (Value.int .i64 (n1 : Int))).set 1 (Value.int .i64 (n2 : Int))).set 2 (Value.int .i64 ((n3 : Int) - 1))).set 3 (Value.int .i64 (n4 : Int))).set 4 (Value.slice a (List.length s5) cp)).set 5 (Value.string s6))) (fun x e => by subst e; exact Nat.le_refl _))
 have HCz := hidP (Rd.offp (HC6.out) (Offp.of_only (((((((Only.refl w.heap.size _).set 0 (Value.int .i64 (n1 : Int))).set 1 (Value.int .i64 (n2 : Int))).set 2 (Value.int .i64 ((n3 : Int) - 1))).set 3 (Value.int .i64 (n4 : Int))).set 4 (Value.slice a (List.length s5) cp)).set 5 (Value.string s6))) (by show r ≠ _; omega) Hfar0.out)
 have HLz := hidP (Qck HL.out (((((((Only.refl w.heap.size _).set 0 (Value.int .i64 (n1 : Int))).set 1 (Value.int .i64 (n2 : Int))).set 2 (Value.int .i64 ((n3 : Int) - 1))).set 3 (Value.int .i64 (n4 : Int))).set 4 (Value.slice a (List.length s5) cp)).set 5 (Value.string s6)) (by omega))
 have hN : Hid (Qds l i = some (⟨(n1 : Int), (n2 : Int), (n3 : Int) - 1, (n4 : Int), s5, s6⟩, c6)) := hidP (by simp [Qds, hx1, hx2, hx3, hx4, hx5, hx6])
 clear HO6 HC6 Hpx6 Hpr6 HL
 go_wp2
 refine bodyPost_ret (v := .agg #[Value.int .i64 (n1 : Int), Value.int .i64 (n2 : Int), Value.int .i64 ((n3 : Int) - 1), Value.int .i64 (n4 : Int), Value.slice a (List.length s5) cp, Value.string s6]) (by simp [results, Tryz.results181, go_sem, r0, r1, r2, r3, r4, r5]) rfl ?_
 rw [hN.out]
 exact ⟨HOz.out, HCz.out, _, rfl, _, rfl, isList.mono ⟨a, cp, rfl, HLz.out⟩ (Nat.le_add_right _ 2)⟩
end Go.Proofs.YtenhcjkkpnlbeaaGreatDoor.Gen
namespace Go.Proofs.YtenhcjkkpnlbeaaGreatDoor.Gen
open ChangeShapes WideShapes ChangeAt RowKit Joins Deep Base
theorem Qke (o : Option (Nt × Nat)) (f : FuncId) (cp : Array Value) (z y g r : Nat) (A : Option Addr) (cap : Nat) (l : List UInt8) (i : Int) (W : World)
 (hcf : ∀ (p : Value) (W : World), (callFunc f (#[p] ++ cp)).run Tryz.prog W = .ok (.enter f (#[p] ++ cp)) W)
 (pz : Blk W z 230 #[.func (.func f) #[] cp]) (py : Blk W y 227 #[.pointer (some ⟨r, 0, none⟩)]) (pg : Blk W g 154 Qal) (hgr : g ≠ r)
 (h : Calls Tryz.prog f (#[.pointer (some ⟨r, 0, none⟩)] ++ cp) W fun e W' => Qfw (isNt W.heap.size) r A cap l W e W' o) :
 Calls Tryz.prog 204 #[.pointer (some ⟨z, 0, none⟩), .pointer (some ⟨y, 0, none⟩), .pointer (some ⟨g, 0, none⟩)] W fun e W' =>
  (∃ x c aa cc W0, o = some (x, c) /\ W0.ownsRow (W.heap.size) 127 (Cel.k En) (.slice aa (List.length x.l) cc) (List.length x.l) (flat x.l) /\ e = .returned (.tuple #[]) /\ Only r W W0 /\ Rd W0 r A cap l (c : Int) /\ W' = ((((((W0.setCell ⟨g, 0, none⟩ (.int .i64 x.kind)).setCell ⟨g, 1, none⟩ (.int .i64 x.term)).setCell ⟨g, 2, none⟩ (.int .i64 x.vote)).setCell ⟨g, 3, none⟩ (.int .i64 x.prev)).setCell ⟨g, 4, none⟩ (.slice aa (List.length x.l) cc)).setCell ⟨g, 5, none⟩ (.string x.snap))) ∨ (o = none /\ Only r W W' /\ ∃ t v, e = .panicked [{ v := .iface t v, recovered := false }]) := by
 have HH := hidP h
 have c0 := pz.row1
 have c1 := py.row1
 have HG := hidP pg
 clear h pz py pg
 go_enter Tryz.func204, Tryz.ntmps204
 go_wp2_with fail
 refine HH.out.mono ?_
 intro e W1 h1
 cases o with
 | none =>
  obtain ⟨o1, t, v, rfl⟩ := h1
  exact ⟨rfl, .inr ⟨rfl, o1, t, v, rfl⟩⟩
 | some x =>
  obtain ⟨x, c⟩ := x
  obtain ⟨o1, r1, v, rfl, u, rfl, aa, cc, rfl, hown⟩ := h1
  have HOw := hidP hown
  clear hown
  have p1 := HG.out.only o1 hgr
  have d0 : W1.cell? ⟨g, 0, none⟩ = some (.int .i64 0) := p1.cell (i := 0) rfl
  have f0 := p1.thaw 0
  have d1 : W1.cell? ⟨g, 1, none⟩ = some (.int .i64 0) := p1.cell (i := 1) rfl
  have f1 := p1.thaw 1
  have d2 : W1.cell? ⟨g, 2, none⟩ = some (.int .i64 0) := p1.cell (i := 2) rfl
  have f2 := p1.thaw 2
  have d3 : W1.cell? ⟨g, 3, none⟩ = some (.int .i64 0) := p1.cell (i := 3) rfl
  have f3 := p1.thaw 3
  have d4 : W1.cell? ⟨g, 4, none⟩ = some (.slice none 0 0) := p1.cell (i := 4) rfl
  have f4 := p1.thaw 4
  have d5 : W1.cell? ⟨g, 5, none⟩ = some (.string ⟨#[]⟩) := p1.cell (i := 5) rfl
  have f5 := p1.thaw 5
  have q0 := p1.lt
  have HO1 := hidP o1
  have HR1 := hidP r1
  clear o1 r1 p1 c0 c1
  go_wp2
  go_end0
  exact .inl ⟨x, c, aa, cc, W1, rfl, HOw.out, rfl, HO1.out, HR1.out, rfl⟩
theorem Qgy (o : Option (Nt × Nat)) (f : FuncId) (cp : Array Value) (A : Option Addr) (cap : Nat) (l : List UInt8) (i : Int) (hi : I64 i) (w : World) (hA : At w A l)
 (hcf : ∀ (p : Value) (W : World), (callFunc f (#[p] ++ cp)).run Tryz.prog W = .ok (.enter f (#[p] ++ cp)) W)
 (h : ∀ W r, Rd W r A cap l i -> Calls Tryz.prog f (#[.pointer (some ⟨r, 0, none⟩)] ++ cp) W fun e W' => Qfw (isNt W.heap.size) r A cap l W e W' o) :
 Calls Tryz.prog 180 #[.slice A l.length cap, .int .i64 i, .func (.func f) #[] cp] w fun e w' => Below w.heap.size w w' /\
  ((∃ x c aa cc, o = some (x, c) /\ w'.ownsRow (w.heap.size) 127 (Cel.k En) (.slice aa (List.length x.l) cc) (List.length x.l) (flat x.l) /\ e = .returned (.tuple #[.agg (Qbh x.kind x.term x.vote x.prev aa (List.length x.l) cc x.snap), .int .i64 (c : Int), .bool true])) ∨ (o = none /\ e = .returned (.tuple #[.agg Qal, .int .i64 0, .bool false]))) := by
 have hmf : ∀ (fn : Fn) (first cap : Array Value) (w : World), (Instr.makeFunc fn first cap).run Tryz.prog w = .ok (.func fn first cap) w := fun _ _ _ _ => rfl
 have hbl : Below w.heap.size w (((((((w.alloc (.cells #[.func (.func f) #[] cp] 230)).alloc (.cells Qal 154)).alloc (.cells Qal 154)).alloc (.cells Qal 154)).alloc (.cells #[.slice A l.length cap, .int .i64 i] 267)).alloc (.cells #[.pointer (some ⟨w.heap.size + 1 + 1 + 1 + 1, 0, none⟩)] 227)).alloc (.cells #[.bool false] 4)) := Qab (Qab (Qab (Qab (Qab (Qab (Qab (Below.refl _ w) _) _) _) _) _) _) _
 have hA' := hA.below hbl
 have hAlt : ∀ c o, A = some ⟨c, o, none⟩ -> l = [] ∨ c < w.heap.size := fun c o e => hA.imp id fun ⟨b, o', e', hb, _⟩ => by rw [e] at e'; cases e'; exact hb
 have hcf1 : ∀ W : World, (callFunc 204 #[.pointer (some ⟨w.heap.size, 0, none⟩), .pointer (some ⟨w.heap.size + 1 + 1 + 1 + 1 + 1, 0, none⟩), .pointer (some ⟨w.heap.size + 1 + 1, 0, none⟩)]).run Tryz.prog W = .ok (.enter 204 #[.pointer (some ⟨w.heap.size, 0, none⟩), .pointer (some ⟨w.heap.size + 1 + 1 + 1 + 1 + 1, 0, none⟩), .pointer (some ⟨w.heap.size + 1 + 1, 0, none⟩)]) W := fun W => by simp [go_sem]
 have pz := ((((((Blk.new w 230 #[.func (.func f) #[] cp]).alloc (.cells Qal 154)).alloc (.cells Qal 154)).alloc (.cells Qal 154)).alloc (.cells #[.slice A l.length cap, .int .i64 i] 267)).alloc (.cells #[.pointer (some ⟨w.heap.size + 1 + 1 + 1 + 1, 0, none⟩)] 227)).alloc (.cells #[.bool false] 4)
 have ps := (((((Blk.new (w.alloc (.cells #[.func (.func f) #[] cp] 230)) 154 Qal).alloc (.cells Qal 154)).alloc (.cells Qal 154)).alloc (.cells #[.slice A l.length cap, .int .i64 i] 267)).alloc (.cells #[.pointer (some ⟨w.heap.size + 1 + 1 + 1 + 1, 0, none⟩)] 227)).alloc (.cells #[.bool false] 4)
 have pg := ((((Blk.new ((w.alloc (.cells #[.func (.func f) #[] cp] 230)).alloc (.cells Qal 154)) 154 Qal).alloc (.cells Qal 154)).alloc (.cells #[.slice A l.length cap, .int .i64 i] 267)).alloc (.cells #[.pointer (some ⟨w.heap.size + 1 + 1 + 1 + 1, 0, none⟩)] 227)).alloc (.cells #[.bool false] 4)
 have pn := (((Blk.new (((w.alloc (.cells #[.func (.func f) #[] cp] 230)).alloc (.cells Qal 154)).alloc (.cells Qal 154)) 154 Qal).alloc (.cells #[.slice A l.length cap, .int .i64 i] 267)).alloc (.cells #[.pointer (some ⟨w.heap.size + 1 + 1 + 1 + 1, 0, none⟩)] 227)).alloc (.cells #[.bool false] 4)
 have pr := ((Blk.new ((((w.alloc (.cells #[.func (.func f) #[] cp] 230)).alloc (.cells Qal 154)).alloc (.cells Qal 154)).alloc (.cells Qal 154)) 267 #[.slice A l.length cap, .int .i64 i]).alloc (.cells #[.pointer (some ⟨w.heap.size + 1 + 1 + 1 + 1, 0, none⟩)] 227)).alloc (.cells #[.bool false] 4)
 have py := (Blk.new (((((w.alloc (.cells #[.func (.func f) #[] cp] 230)).alloc (.cells Qal 154)).alloc (.cells Qal 154)).alloc (.cells Qal 154)).alloc (.cells #[.slice A l.length cap, .int .i64 i] 267)) 227 #[.pointer (some ⟨w.heap.size + 1 + 1 + 1 + 1, 0, none⟩)]).alloc (.cells #[.bool false] 4)
 have pd := Blk.new ((((((w.alloc (.cells #[.func (.func f) #[] cp] 230)).alloc (.cells Qal 154)).alloc (.cells Qal 154)).alloc (.cells Qal 154)).alloc (.cells #[.slice A l.length cap, .int .i64 i] 267)).alloc (.cells #[.pointer (some ⟨w.heap.size + 1 + 1 + 1 + 1, 0, none⟩)] 227)) 4 #[.bool false]
 simp only [World.size_alloc] at ps pg pn pr py pd
 generalize hW5 : (((((((w.alloc (.cells #[.func (.func f) #[] cp] 230)).alloc (.cells Qal 154)).alloc (.cells Qal 154)).alloc (.cells Qal 154)).alloc (.cells #[.slice A l.length cap, .int .i64 i] 267)).alloc (.cells #[.pointer (some ⟨w.heap.size + 1 + 1 + 1 + 1, 0, none⟩)] 227)).alloc (.cells #[.bool false] 4)) = W5 at *
 have s5 : W5.heap.size = w.heap.size + 7 := by rw [← hW5]; simp
 have hrd : Rd W5 (w.heap.size + 1 + 1 + 1 + 1) A cap l i := ⟨pr, by
  rcases hA' with h | ⟨b, o, e, hb, hi⟩
  . exact .inl h
  . rcases hAlt b o e with h | h
    . exact .inl h
    . exact .inr ⟨b, o, e, hb, by omega, hi⟩, hi⟩
 have hdo := Qke o f cp w.heap.size (w.heap.size + 1 + 1 + 1 + 1 + 1) (w.heap.size + 1 + 1) (w.heap.size + 1 + 1 + 1 + 1) A cap l i W5 hcf pz py pg (by omega) (h W5 _ hrd)
 have htr := Qj1 204 #[.pointer (some ⟨w.heap.size, 0, none⟩), .pointer (some ⟨w.heap.size + 1 + 1 + 1 + 1 + 1, 0, none⟩), .pointer (some ⟨w.heap.size + 1 + 1, 0, none⟩)] ((((((w.alloc (.cells #[.func (.func f) #[] cp] 230)).alloc (.cells Qal 154)).alloc (.cells Qal 154)).alloc (.cells Qal 154)).alloc (.cells #[.slice A l.length cap, .int .i64 i] 267)).alloc (.cells #[.pointer (some ⟨w.heap.size + 1 + 1 + 1 + 1, 0, none⟩)] 227))
  (fun W' => ∃ x c aa cc W0, o = some (x, c) /\ W0.ownsRow (W5.heap.size) 127 (Cel.k En) (.slice aa (List.length x.l) cc) (List.length x.l) (flat x.l) /\ Only (w.heap.size + 1 + 1 + 1 + 1) W5 W0 /\ Rd W0 (w.heap.size + 1 + 1 + 1 + 1) A cap l (c : Int) /\ W' = ((((((W0.setCell ⟨w.heap.size + 1 + 1, 0, none⟩ (.int .i64 x.kind)).setCell ⟨w.heap.size + 1 + 1, 1, none⟩ (.int .i64 x.term)).setCell ⟨w.heap.size + 1 + 1, 2, none⟩ (.int .i64 x.vote)).setCell ⟨w.heap.size + 1 + 1, 3, none⟩ (.int .i64 x.prev)).setCell ⟨w.heap.size + 1 + 1, 4, none⟩ (.slice aa (List.length x.l) cc)).setCell ⟨w.heap.size + 1 + 1, 5, none⟩ (.string x.snap))) (fun W' => o = none /\ Only (w.heap.size + 1 + 1 + 1 + 1) W5 W') hcf1 (by
   rw [hW5]
   refine hdo.mono fun e W' h1 => ?_
   rcases h1 with ⟨x, c, aa, cc, W0, h1, hb, h2, h3, h4, rfl⟩ | ⟨h1, h2, t, v, rfl⟩
   . exact ⟨by simpa using (((((((pd.only h3 (by omega)).other (by omega) 0 (.int .i64 x.kind)).other (by omega) 1 (.int .i64 x.term)).other (by omega) 2 (.int .i64 x.vote)).other (by omega) 3 (.int .i64 x.prev)).other (by omega) 4 (.slice aa (List.length x.l) cc)).other (by omega) 5 (.string x.snap)), .inl ⟨h2, x, c, aa, cc, W0, h1, hb, h3, h4, rfl⟩⟩
   . exact ⟨by simpa using pd.only h2 (by omega), .inr ⟨t, v, rfl, h1, h2⟩⟩)
 have HT := hidP htr
 have Hps := hidP ps
 have Hpn := hidP pn
 have Hpy := hidP py
 have Hpg := hidP pg
 have Hbl := hidP hbl
 have Hs5 := hidP s5
 clear htr hdo hrd pz ps pn pr pg pd h hcf hcf1 py hbl s5 hW5 hA'
 go_enter Tryz.func180, Tryz.ntmps180
 go_wp2_with fail
 refine HT.out.mono ?_
 rintro e W' ⟨W0, ho, hh⟩
 simp only [World.size_alloc] at ho
 rcases hh with ⟨rfl, x, c, aa, cc, W1, rfl, hb, o1, r1, rfl⟩ | ⟨rfl, rfl, o1⟩
 . have og : Only (w.heap.size + 1 + 1) W1 ((((((W1.setCell ⟨w.heap.size + 1 + 1, 0, none⟩ (.int .i64 x.kind)).setCell ⟨w.heap.size + 1 + 1, 1, none⟩ (.int .i64 x.term)).setCell ⟨w.heap.size + 1 + 1, 2, none⟩ (.int .i64 x.vote)).setCell ⟨w.heap.size + 1 + 1, 3, none⟩ (.int .i64 x.prev)).setCell ⟨w.heap.size + 1 + 1, 4, none⟩ (.slice aa (List.length x.l) cc)).setCell ⟨w.heap.size + 1 + 1, 5, none⟩ (.string x.snap)) := ((((((Only.refl _ _).set 0 (.int .i64 x.kind)).set 1 (.int .i64 x.term)).set 2 (.int .i64 x.vote)).set 3 (.int .i64 x.prev)).set 4 (.slice aa (List.length x.l) cc)).set 5 (.string x.snap)
   have hfin : Below w.heap.size w W' := Hbl.out.trans ((o1.toBelow (by omega) (by have := Hs5.out; omega)).trans ((og.toBelow (by omega) (by have := o1.size; have := Hs5.out; omega)).trans (ho.toBelow (by omega) (by have := o1.size; have := og.size; have := Hs5.out; omega))))
   have g1 : Blk ((((((W1.setCell ⟨w.heap.size + 1 + 1, 0, none⟩ (.int .i64 x.kind)).setCell ⟨w.heap.size + 1 + 1, 1, none⟩ (.int .i64 x.term)).setCell ⟨w.heap.size + 1 + 1, 2, none⟩ (.int .i64 x.vote)).setCell ⟨w.heap.size + 1 + 1, 3, none⟩ (.int .i64 x.prev)).setCell ⟨w.heap.size + 1 + 1, 4, none⟩ (.slice aa (List.length x.l) cc)).setCell ⟨w.heap.size + 1 + 1, 5, none⟩ (.string x.snap)) (w.heap.size + 1 + 1) 154 (Qbh x.kind x.term x.vote x.prev aa (List.length x.l) cc x.snap) := (((((((Hpg.out.only o1 (by omega)).setAt 0 (.int .i64 x.kind)).setAt 1 (.int .i64 x.term)).setAt 2 (.int .i64 x.vote)).setAt 3 (.int .i64 x.prev)).setAt 4 (.slice aa (List.length x.l) cc)).setAt 5 (.string x.snap))
   have g' := g1.only ho (by omega)
   have y' := ((Hpy.out.only o1 (by omega)).only og (by omega)).only ho (by omega)
   have s' := ((Hps.out.only o1 (by omega)).only og (by omega)).only ho (by omega)
   have r' := (r1.box.only og (show w.heap.size + 1 + 1 + 1 + 1 ≠ w.heap.size + 1 + 1 by omega)).only ho (by omega)
   have k0 : W'.cell? ⟨w.heap.size + 1 + 1, 0, none⟩ = some (.int .i64 x.kind) := g'.cell (i := 0) rfl
   have k1 : W'.cell? ⟨w.heap.size + 1 + 1, 1, none⟩ = some (.int .i64 x.term) := g'.cell (i := 1) rfl
   have k2 : W'.cell? ⟨w.heap.size + 1 + 1, 2, none⟩ = some (.int .i64 x.vote) := g'.cell (i := 2) rfl
   have k3 : W'.cell? ⟨w.heap.size + 1 + 1, 3, none⟩ = some (.int .i64 x.prev) := g'.cell (i := 3) rfl
   have k4 : W'.cell? ⟨w.heap.size + 1 + 1, 4, none⟩ = some (.slice aa (List.length x.l) cc) := g'.cell (i := 4) rfl
   have k5 : W'.cell? ⟨w.heap.size + 1 + 1, 5, none⟩ = some (.string x.snap) := g'.cell (i := 5) rfl
   have rr0 : W'.cell? ⟨w.heap.size + 1, 0, none⟩ = some (.int .i64 0) := s'.cell (i := 0) rfl
   have zz0 := s'.thaw 0
   have rr1 : W'.cell? ⟨w.heap.size + 1, 1, none⟩ = some (.int .i64 0) := s'.cell (i := 1) rfl
   have zz1 := s'.thaw 1
   have rr2 : W'.cell? ⟨w.heap.size + 1, 2, none⟩ = some (.int .i64 0) := s'.cell (i := 2) rfl
   have zz2 := s'.thaw 2
   have rr3 : W'.cell? ⟨w.heap.size + 1, 3, none⟩ = some (.int .i64 0) := s'.cell (i := 3) rfl
   have zz3 := s'.thaw 3
   have rr4 : W'.cell? ⟨w.heap.size + 1, 4, none⟩ = some (.slice none 0 0) := s'.cell (i := 4) rfl
   have zz4 := s'.thaw 4
   have rr5 : W'.cell? ⟨w.heap.size + 1, 5, none⟩ = some (.string ⟨#[]⟩) := s'.cell (i := 5) rfl
   have zz5 := s'.thaw 5
   have c1 := y'.row1
   obtain ⟨c2, c3⟩ := r'.row2
   have qg := g'.lt
   have qy := y'.lt
   have qr := r'.lt
   have qs := s'.lt
   have HOw := hidP (Qck (Qck (Qck hb og (by have := Hs5.out; omega)) ho (by have := Hs5.out; omega)) (((((((Only.refl (w.heap.size + 1) W').set 0 (.int .i64 x.kind)).set 1 (.int .i64 x.term)).set 2 (.int .i64 x.vote)).set 3 (.int .i64 x.prev)).set 4 (.slice aa (List.length x.l) cc)).set 5 (.string x.snap)) (by have := Hs5.out; omega))
   have Hf := hidP hfin
   clear hb
   clear ho g' y' r' s' g1 o1 r1 hmf og hfin HT Hps Hpn Hpy Hpg Hbl hAlt hA
   go_wp2_with fail
   go_region
   go_wp2
   have oz : Below w.heap.size w ((((((W'.setCell ⟨w.heap.size + 1, 0, none⟩ (.int .i64 x.kind)).setCell ⟨w.heap.size + 1, 1, none⟩ (.int .i64 x.term)).setCell ⟨w.heap.size + 1, 2, none⟩ (.int .i64 x.vote)).setCell ⟨w.heap.size + 1, 3, none⟩ (.int .i64 x.prev)).setCell ⟨w.heap.size + 1, 4, none⟩ (.slice aa (List.length x.l) cc)).setCell ⟨w.heap.size + 1, 5, none⟩ (.string x.snap)) := Hf.out.trans (Only.toBelow (b := w.heap.size + 1) (((((((Only.refl _ _).set 0 (.int .i64 x.kind)).set 1 (.int .i64 x.term)).set 2 (.int .i64 x.vote)).set 3 (.int .i64 x.prev)).set 4 (.slice aa (List.length x.l) cc)).set 5 (.string x.snap)) (by omega) Hf.out.size)
   exact bodyPost_ret (v := .tuple #[.agg (Qbh x.kind x.term x.vote x.prev aa (List.length x.l) cc x.snap), .int .i64 (c : Int), .bool true]) (by simp [results, Tryz.results180, go_sem, rr0, rr1, rr2, rr3, rr4, rr5]) rfl ⟨oz.drew, .inl ⟨x, c, aa, cc, rfl, Qdo (C := w.heap.size) (Qdz HOw.out (Below.drew (Below.refl _ _))) (by have := Hs5.out; omega), rfl⟩⟩
 . have hfin : Below w.heap.size w W' := Hbl.out.trans ((o1.toBelow (by omega) (by have := Hs5.out; omega)).trans (ho.toBelow (by omega) (by have := o1.size; have := Hs5.out; omega)))
   have s' := (Hps.out.only o1 (by omega)).only ho (by omega)
   have n' := (Hpn.out.only o1 (by omega)).only ho (by omega)
   have k0 : W'.cell? ⟨w.heap.size + 1 + 1 + 1, 0, none⟩ = some (.int .i64 0) := n'.cell (i := 0) rfl
   have k1 : W'.cell? ⟨w.heap.size + 1 + 1 + 1, 1, none⟩ = some (.int .i64 0) := n'.cell (i := 1) rfl
   have k2 : W'.cell? ⟨w.heap.size + 1 + 1 + 1, 2, none⟩ = some (.int .i64 0) := n'.cell (i := 2) rfl
   have k3 : W'.cell? ⟨w.heap.size + 1 + 1 + 1, 3, none⟩ = some (.int .i64 0) := n'.cell (i := 3) rfl
   have k4 : W'.cell? ⟨w.heap.size + 1 + 1 + 1, 4, none⟩ = some (.slice none 0 0) := n'.cell (i := 4) rfl
   have k5 : W'.cell? ⟨w.heap.size + 1 + 1 + 1, 5, none⟩ = some (.string ⟨#[]⟩) := n'.cell (i := 5) rfl
   have rr0 : W'.cell? ⟨w.heap.size + 1, 0, none⟩ = some (.int .i64 0) := s'.cell (i := 0) rfl
   have zz0 := s'.thaw 0
   have rr1 : W'.cell? ⟨w.heap.size + 1, 1, none⟩ = some (.int .i64 0) := s'.cell (i := 1) rfl
   have zz1 := s'.thaw 1
   have rr2 : W'.cell? ⟨w.heap.size + 1, 2, none⟩ = some (.int .i64 0) := s'.cell (i := 2) rfl
   have zz2 := s'.thaw 2
   have rr3 : W'.cell? ⟨w.heap.size + 1, 3, none⟩ = some (.int .i64 0) := s'.cell (i := 3) rfl
   have zz3 := s'.thaw 3
   have rr4 : W'.cell? ⟨w.heap.size + 1, 4, none⟩ = some (.slice none 0 0) := s'.cell (i := 4) rfl
   have zz4 := s'.thaw 4
   have rr5 : W'.cell? ⟨w.heap.size + 1, 5, none⟩ = some (.string ⟨#[]⟩) := s'.cell (i := 5) rfl
   have zz5 := s'.thaw 5
   have qs := s'.lt
   have qn := n'.lt
   have Hf := hidP hfin
   clear ho s' n' o1 hmf hfin HT Hps Hpn Hpy Hpg Hbl hAlt hA
   go_wp2
   have oz : Below w.heap.size w ((((((W'.setCell ⟨w.heap.size + 1, 0, none⟩ (.int .i64 0)).setCell ⟨w.heap.size + 1, 1, none⟩ (.int .i64 0)).setCell ⟨w.heap.size + 1, 2, none⟩ (.int .i64 0)).setCell ⟨w.heap.size + 1, 3, none⟩ (.int .i64 0)).setCell ⟨w.heap.size + 1, 4, none⟩ (.slice none 0 0)).setCell ⟨w.heap.size + 1, 5, none⟩ (.string ⟨#[]⟩)) := Hf.out.trans (Only.toBelow (b := w.heap.size + 1) (((((((Only.refl _ _).set 0 (.int .i64 0)).set 1 (.int .i64 0)).set 2 (.int .i64 0)).set 3 (.int .i64 0)).set 4 (.slice none 0 0)).set 5 (.string ⟨#[]⟩)) (by omega) Hf.out.size)
   exact bodyPost_ret (v := .tuple #[.agg Qal, .int .i64 0, .bool false]) (by simp [results, Tryz.results180, go_sem, rr0, rr1, rr2, rr3, rr4, rr5]) rfl ⟨oz, rfl⟩
end Go.Proofs.YtenhcjkkpnlbeaaGreatDoor.Gen
namespace Go.Proofs.YtenhcjkkpnlbeaaGreatDoor.Gen
open ChangeShapes WideShapes ChangeAt RowKit Joins Deep Base
theorem Blk.row6n {W : World} {B : Nat} {t : TypeId} {a b c d e f : Value} (h : Blk W B t #[a, b, c, d, e, f]) : W.cell? ⟨B, 0, none⟩ = some a /\ W.cell? ⟨B, 1, none⟩ = some b /\ W.cell? ⟨B, 2, none⟩ = some c /\ W.cell? ⟨B, 3, none⟩ = some d /\ W.cell? ⟨B, 4, none⟩ = some e /\ W.cell? ⟨B, 5, none⟩ = some f :=
 ⟨h.cell (by rfl), h.cell (by rfl), h.cell (by rfl), h.cell (by rfl), h.cell (by rfl), h.cell (by rfl)⟩
end Go.Proofs.YtenhcjkkpnlbeaaGreatDoor.Gen
