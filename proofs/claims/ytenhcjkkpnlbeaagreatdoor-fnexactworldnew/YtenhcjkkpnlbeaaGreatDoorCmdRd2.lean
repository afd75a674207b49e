/-
  A command read by the program's reader. Condition: at most 1048576 bytes.
-/
import Derived.Test.YtenhcjkkpnlbeaaGreatDoorNumP
set_option linter.unusedVariables false
set_option linter.unusedSimpArgs false
set_option maxRecDepth 100000
set_option maxHeartbeats 8000000
namespace Go.Proofs.YtenhcjkkpnlbeaaGreatDoor.Gen
open ChangeShapes WideShapes ChangeAt RowKit Joins Deep Base
theorem Qmh (r : Nat) (A : Option Addr) (cap : Nat) (l : List UInt8) (i : Int) (hl : l.length <= 1048576) (hcap : l.length <= cap) (hcm : cap <= 9223372036854775807) (w : World) (h : Rd w r A cap l i) :
 Calls Tryz.prog 225 #[.pointer (some ⟨r, 0, none⟩)] w fun e w' => Qfw isCm r A cap l w e w' (getC l i) := by
 obtain ⟨hr, hfar⟩ := h.far
 have Hfar : Hid (l = [] ∨ ∀ c o, A = some ⟨c, o, none⟩ -> c ≠ w.heap.size + 1) := hidP (hfar.imp id fun h c o e => by have := h c o e; omega)
 have Hfar0 : Hid (l = [] ∨ ∀ c o, A = some ⟨c, o, none⟩ -> c ≠ w.heap.size) := hidP (hfar.imp id fun h c o e => by have := h c o e; omega)
 have px0 := Blk.new (w.alloc (.cells Qba 95)) 95 Qba
 have pr0 := (Blk.new w 95 Qba).alloc (.cells Qba 95)
 simp only [World.size_alloc] at px0
 have HC0 := hidP (h.below (Qab (Qab (Below.refl _ w) (.cells Qba 95)) (.cells Qba 95)))
 have HO0 : Hid (Only r w ((w.alloc (.cells Qba 95)).alloc (.cells Qba 95))) := (Only.refl r w).below (Qab (Qab (Below.refl _ w) _) _)
 have Hpx0 := hidP px0
 have Hpr0 := hidP pr0
 clear px0 pr0 h hfar
 go_enter Tryz.func225, Tryz.ntmps225
 go_wp2_with fail
 refine (Qbe r A cap l (i) hl _ HC0.out).mono ?_
 intro e w1 h1
 cases hx1 : getN l (i) with
 | none =>
  have hN : getC l i = none := by simp [getC, q1, q2, q3, q4, q5, q6, q7, q8, nS, tS, nO, hx1]
  rw [hx1] at h1
  obtain ⟨o1, t, v, rfl⟩ := h1
  refine ⟨rfl, ?_⟩
  rw [hN]
  exact ⟨Qao HO0.out o1, t, v, rfl⟩
 | some x =>
 obtain ⟨n1, c1⟩ := x
 rw [hx1] at h1
 obtain ⟨o1, h1, v, rfl, rfl⟩ := h1
 have hle1 := Qbw hx1
 have p1 : Blk w1 (w.heap.size + 1) 95 Qba := Hpx0.out.only o1 (by omega)
 have g1 := Hpr0.out.only o1 (by omega)
 have d1 : w1.cell? ⟨w.heap.size + 1, 0, none⟩ = some (.int .i64 0) := p1.cell (i := 0) rfl
 have f1 := p1.thaw 0
 have q1' := p1.lt
 have Hpx1 : Hid (Blk (w1.setCell ⟨w.heap.size + 1, 0, none⟩ (Value.int .i64 ((n1 : Int) - 1))) (w.heap.size + 1) 95 #[Value.int .i64 ((n1 : Int) - 1), .int .i64 0, .int .i64 0, .int .i64 0, .int .i64 0, .int .i64 0, .string ⟨#[]⟩, .string ⟨#[]⟩]) := hidP (p1.setAt 0 (Value.int .i64 ((n1 : Int) - 1)))
 have Hpr1 := hidP (g1.other (show w.heap.size ≠ w.heap.size + 1 by omega) 0 (Value.int .i64 ((n1 : Int) - 1)))
 have HC1 := hidP (h1.apart ((Only.refl (w.heap.size + 1) w1).set 0 (Value.int .i64 ((n1 : Int) - 1))) (by omega) Hfar.out)
 have HO1 := hidP (Qb0 (Qao HO0.out o1) ((Only.refl (w.heap.size + 1) w1).set 0 (Value.int .i64 ((n1 : Int) - 1))) (by omega))
 clear o1 h1 p1 g1 HC0 HO0 Hpx0 Hpr0
 go_wp2_with fail
 refine (Qbe r A cap l ((c1 : Int)) hl _ HC1.out).mono ?_
 intro e w2 h2
 cases hx2 : getN l ((c1 : Int)) with
 | none =>
  have hN : getC l i = none := by simp [getC, q1, q2, q3, q4, q5, q6, q7, q8, nS, tS, nO, hx1, hx2]
  rw [hx2] at h2
  obtain ⟨o2, t, v, rfl⟩ := h2
  refine ⟨rfl, ?_⟩
  rw [hN]
  exact ⟨Qao HO1.out o2, t, v, rfl⟩
 | some x =>
 obtain ⟨n2, c2⟩ := x
 rw [hx2] at h2
 obtain ⟨o2, h2, v, rfl, rfl⟩ := h2
 have hle2 := Qbw hx2
 have p2 : Blk w2 (w.heap.size + 1) 95 #[Value.int .i64 ((n1 : Int) - 1), .int .i64 0, .int .i64 0, .int .i64 0, .int .i64 0, .int .i64 0, .string ⟨#[]⟩, .string ⟨#[]⟩] := Hpx1.out.only o2 (by omega)
 have g2 := Hpr1.out.only o2 (by omega)
 have d2 : w2.cell? ⟨w.heap.size + 1, 1, none⟩ = some (.int .i64 0) := p2.cell (i := 1) rfl
 have f2 := p2.thaw 1
 have q2' := p2.lt
 have Hpx2 : Hid (Blk (w2.setCell ⟨w.heap.size + 1, 1, none⟩ (.int .i64 (n2 : Int))) (w.heap.size + 1) 95 #[Value.int .i64 ((n1 : Int) - 1), .int .i64 (n2 : Int), .int .i64 0, .int .i64 0, .int .i64 0, .int .i64 0, .string ⟨#[]⟩, .string ⟨#[]⟩]) := hidP (p2.setAt 1 (.int .i64 (n2 : Int)))
 have Hpr2 := hidP (g2.other (show w.heap.size ≠ w.heap.size + 1 by omega) 1 (.int .i64 (n2 : Int)))
 have HC2 := hidP (h2.apart ((Only.refl (w.heap.size + 1) w2).set 1 (.int .i64 (n2 : Int))) (by omega) Hfar.out)
 have HO2 := hidP (Qb0 (Qao HO1.out o2) ((Only.refl (w.heap.size + 1) w2).set 1 (.int .i64 (n2 : Int))) (by omega))
 clear o2 h2 p2 g2 HC1 HO1 Hpx1 Hpr1 d1 f1 q1'
 go_wp2_with fail
 refine (Qbe r A cap l ((c2 : Int)) hl _ HC2.out).mono ?_
 intro e w3 h3
 cases hx3 : getN l ((c2 : Int)) with
 | none =>
  have hN : getC l i = none := by simp [getC, q1, q2, q3, q4, q5, q6, q7, q8, nS, tS, nO, hx1, hx2, hx3]
  rw [hx3] at h3
  obtain ⟨o3, t, v, rfl⟩ := h3
  refine ⟨rfl, ?_⟩
  rw [hN]
  exact ⟨Qao HO2.out o3, t, v, rfl⟩
 | some x =>
 obtain ⟨n3, c3⟩ := x
 rw [hx3] at h3
 obtain ⟨o3, h3, v, rfl, rfl⟩ := h3
 have hle3 := Qbw hx3
 have p3 : Blk w3 (w.heap.size + 1) 95 #[Value.int .i64 ((n1 : Int) - 1), .int .i64 (n2 : Int), .int .i64 0, .int .i64 0, .int .i64 0, .int .i64 0, .string ⟨#[]⟩, .string ⟨#[]⟩] := Hpx2.out.only o3 (by omega)
 have g3 := Hpr2.out.only o3 (by omega)
 have d3 : w3.cell? ⟨w.heap.size + 1, 2, none⟩ = some (.int .i64 0) := p3.cell (i := 2) rfl
 have f3 := p3.thaw 2
 have q3' := p3.lt
 have Hpx3 : Hid (Blk (w3.setCell ⟨w.heap.size + 1, 2, none⟩ (.int .i64 (n3 : Int))) (w.heap.size + 1) 95 #[Value.int .i64 ((n1 : Int) - 1), .int .i64 (n2 : Int), .int .i64 (n3 : Int), .int .i64 0, .int .i64 0, .int .i64 0, .string ⟨#[]⟩, .string ⟨#[]⟩]) := hidP (p3.setAt 2 (.int .i64 (n3 : Int)))
 have Hpr3 := hidP (g3.other (show w.heap.size ≠ w.heap.size + 1 by omega) 2 (.int .i64 (n3 : Int)))
 have HC3 := hidP (h3.apart ((Only.refl (w.heap.size + 1) w3).set 2 (.int .i64 (n3 : Int))) (by omega) Hfar.out)
 have HO3 := hidP (Qb0 (Qao HO2.out o3) ((Only.refl (w.heap.size + 1) w3).set 2 (.int .i64 (n3 : Int))) (by omega))
 clear o3 h3 p3 g3 HC2 HO2 Hpx2 Hpr2 d2 f2 q2'
 go_wp2_with fail
 refine (Qbe r A cap l ((c3 : Int)) hl _ HC3.out).mono ?_
 intro e w4 h4
 cases hx4 : getN l ((c3 : Int)) with
 | none =>
  have hN : getC l i = none := by simp [getC, q1, q2, q3, q4, q5, q6, q7, q8, nS, tS, nO, hx1, hx2, hx3, hx4]
  rw [hx4] at h4
  obtain ⟨o4, t, v, rfl⟩ := h4
  refine ⟨rfl, ?_⟩
  rw [hN]
  exact ⟨Qao HO3.out o4, t, v, rfl⟩
 | some x =>
 obtain ⟨n4, c4⟩ := x
 rw [hx4] at h4
 obtain ⟨o4, h4, v, rfl, rfl⟩ := h4
 have hle4 := Qbw hx4
 have p4 : Blk w4 (w.heap.size + 1) 95 #[Value.int .i64 ((n1 : Int) - 1), .int .i64 (n2 : Int), .int .i64 (n3 : Int), .int .i64 0, .int .i64 0, .int .i64 0, .string ⟨#[]⟩, .string ⟨#[]⟩] := Hpx3.out.only o4 (by omega)
 have g4 := Hpr3.out.only o4 (by omega)
 have d4 : w4.cell? ⟨w.heap.size + 1, 3, none⟩ = some (.int .i64 0) := p4.cell (i := 3) rfl
 have f4 := p4.thaw 3
 have q4' := p4.lt
 have Hpx4 : Hid (Blk (w4.setCell ⟨w.heap.size + 1, 3, none⟩ (.int .i64 (n4 : Int))) (w.heap.size + 1) 95 #[Value.int .i64 ((n1 : Int) - 1), .int .i64 (n2 : Int), .int .i64 (n3 : Int), .int .i64 (n4 : Int), .int .i64 0, .int .i64 0, .string ⟨#[]⟩, .string ⟨#[]⟩]) := hidP (p4.setAt 3 (.int .i64 (n4 : Int)))
 have Hpr4 := hidP (g4.other (show w.heap.size ≠ w.heap.size + 1 by omega) 3 (.int .i64 (n4 : Int)))
 have HC4 := hidP (h4.apart ((Only.refl (w.heap.size + 1) w4).set 3 (.int .i64 (n4 : Int))) (by omega) Hfar.out)
 have HO4 := hidP (Qb0 (Qao HO3.out o4) ((Only.refl (w.heap.size + 1) w4).set 3 (.int .i64 (n4 : Int))) (by omega))
 clear o4 h4 p4 g4 HC3 HO3 Hpx3 Hpr3 d3 f3 q3'
 go_wp2_with fail
 refine (Qbe r A cap l ((c4 : Int)) hl _ HC4.out).mono ?_
 intro e w5 h5
 cases hx5 : getN l ((c4 : Int)) with
 | none =>
  have hN : getC l i = none := by simp [getC, q1, q2, q3, q4, q5, q6, q7, q8, nS, tS, nO, hx1, hx2, hx3, hx4, hx5]
  rw [hx5] at h5
  obtain ⟨o5, t, v, rfl⟩ := h5
  refine ⟨rfl, ?_⟩
  rw [hN]
  exact ⟨Qao HO4.out o5, t, v, rfl⟩
 | some x =>
 obtain ⟨n5, c5⟩ := x
 rw [hx5] at h5
 obtain ⟨o5, h5, v, rfl, rfl⟩ := h5
 have hle5 := Qbw hx5
 have p5 : Blk w5 (w.heap.size + 1) 95 #[Value.int .i64 ((n1 : Int) - 1), .int .i64 (n2 : Int), .int .i64 (n3 : Int), .int .i64 (n4 : Int), .int .i64 0, .int .i64 0, .string ⟨#[]⟩, .string ⟨#[]⟩] := Hpx4.out.only o5 (by omega)
 have g5 := Hpr4.out.only o5 (by omega)
 have d5 : w5.cell? ⟨w.heap.size + 1, 4, none⟩ = some (.int .i64 0) := p5.cell (i := 4) rfl
 have f5 := p5.thaw 4
 have q5' := p5.lt
 have Hpx5 : Hid (Blk (w5.setCell ⟨w.heap.size + 1, 4, none⟩ (.int .i64 (n5 : Int))) (w.heap.size + 1) 95 #[Value.int .i64 ((n1 : Int) - 1), .int .i64 (n2 : Int), .int .i64 (n3 : Int), .int .i64 (n4 : Int), .int .i64 (n5 : Int), .int .i64 0, .string ⟨#[]⟩, .string ⟨#[]⟩]) := hidP (p5.setAt 4 (.int .i64 (n5 : Int)))
 have Hpr5 := hidP (g5.other (show w.heap.size ≠ w.heap.size + 1 by omega) 4 (.int .i64 (n5 : Int)))
 have HC5 := hidP (h5.apart ((Only.refl (w.heap.size + 1) w5).set 4 (.int .i64 (n5 : Int))) (by omega) Hfar.out)
 have HO5 := hidP (Qb0 (Qao HO4.out o5) ((Only.refl (w.heap.size + 1) w5).set 4 (.int .i64 (n5 : Int))) (by omega))
 clear o5 h5 p5 g5 HC4 HO4 Hpx4 Hpr4 d4 f4 q4'
 go_wp2_with fail
 refine (Qbe r A cap l ((c5 : Int)) hl _ HC5.out).mono ?_
 intro e w6 h6
 cases hx6 : getN l ((c5 : Int)) with
 | none =>
  have hN : getC l i = none := by simp [getC, q1, q2, q3, q4, q5, q6, q7, q8, nS, tS, nO, hx1, hx2, hx3, hx4, hx5, hx6]
  rw [hx6] at h6
  obtain ⟨o6, t, v, rfl⟩ := h6
  refine ⟨rfl, ?_⟩
  rw [hN]
  exact ⟨Qao HO5.out o6, t, v, rfl⟩
 | some x =>
 obtain ⟨n6, c6⟩ := x
 rw [hx6] at h6
 obtain ⟨o6, h6, v, rfl, rfl⟩ := h6
 have hle6 := Qbw hx6
 have p6 : Blk w6 (w.heap.size + 1) 95 #[Value.int .i64 ((n1 : Int) - 1), .int .i64 (n2 : Int), .int .i64 (n3 : Int), .int .i64 (n4 : Int), .int .i64 (n5 : Int), .int .i64 0, .string ⟨#[]⟩, .string ⟨#[]⟩] := Hpx5.out.only o6 (by omega)
 have g6 := Hpr5.out.only o6 (by omega)
 have d6 : w6.cell? ⟨w.heap.size + 1, 5, none⟩ = some (.int .i64 0) := p6.cell (i := 5) rfl
 have f6 := p6.thaw 5
 have q6' := p6.lt
 have Hpx6 : Hid (Blk (w6.setCell ⟨w.heap.size + 1, 5, none⟩ (.int .i64 (n6 : Int))) (w.heap.size + 1) 95 #[Value.int .i64 ((n1 : Int) - 1), .int .i64 (n2 : Int), .int .i64 (n3 : Int), .int .i64 (n4 : Int), .int .i64 (n5 : Int), .int .i64 (n6 : Int), .string ⟨#[]⟩, .string ⟨#[]⟩]) := hidP (p6.setAt 5 (.int .i64 (n6 : Int)))
 have Hpr6 := hidP (g6.other (show w.heap.size ≠ w.heap.size + 1 by omega) 5 (.int .i64 (n6 : Int)))
 have HC6 := hidP (h6.apart ((Only.refl (w.heap.size + 1) w6).set 5 (.int .i64 (n6 : Int))) (by omega) Hfar.out)
 have HO6 := hidP (Qb0 (Qao HO5.out o6) ((Only.refl (w.heap.size + 1) w6).set 5 (.int .i64 (n6 : Int))) (by omega))
 clear o6 h6 p6 g6 HC5 HO5 Hpx5 Hpr5 d5 f5 q5'
 go_wp2_with fail
 refine (Qd5 r A cap l ((c6 : Int)) hl hcap hcm _ HC6.out).mono ?_
 intro e w7 h7
 cases hx7 : getT l ((c6 : Int)) with
 | none =>
  have hN : getC l i = none := by simp [getC, q1, q2, q3, q4, q5, q6, q7, q8, nS, tS, nO, hx1, hx2, hx3, hx4, hx5, hx6, hx7]
  rw [hx7] at h7
  obtain ⟨o7, t, v, rfl⟩ := h7
  refine ⟨rfl, ?_⟩
  rw [hN]
  exact ⟨Qao HO6.out o7, t, v, rfl⟩
 | some x =>
 obtain ⟨s7, c7⟩ := x
 rw [hx7] at h7
 obtain ⟨o7, h7, v, rfl, rfl⟩ := h7
 have hle7 := Qd9 hx7
 have p7 : Blk w7 (w.heap.size + 1) 95 #[Value.int .i64 ((n1 : Int) - 1), .int .i64 (n2 : Int), .int .i64 (n3 : Int), .int .i64 (n4 : Int), .int .i64 (n5 : Int), .int .i64 (n6 : Int), .string ⟨#[]⟩, .string ⟨#[]⟩] := Hpx6.out.only o7 (by omega)
 have g7 := Hpr6.out.only o7 (by omega)
 have d7 : w7.cell? ⟨w.heap.size + 1, 6, none⟩ = some (.string ⟨#[]⟩) := p7.cell (i := 6) rfl
 have f7 := p7.thaw 6
 have q7' := p7.lt
 have Hpx7 : Hid (Blk (w7.setCell ⟨w.heap.size + 1, 6, none⟩ (Value.string s7)) (w.heap.size + 1) 95 #[Value.int .i64 ((n1 : Int) - 1), .int .i64 (n2 : Int), .int .i64 (n3 : Int), .int .i64 (n4 : Int), .int .i64 (n5 : Int), .int .i64 (n6 : Int), Value.string s7, .string ⟨#[]⟩]) := hidP (p7.setAt 6 (Value.string s7))
 have Hpr7 := hidP (g7.other (show w.heap.size ≠ w.heap.size + 1 by omega) 6 (Value.string s7))
 have HC7 := hidP (h7.apart ((Only.refl (w.heap.size + 1) w7).set 6 (Value.string s7)) (by omega) Hfar.out)
 have HO7 := hidP (Qb0 (Qao HO6.out o7) ((Only.refl (w.heap.size + 1) w7).set 6 (Value.string s7)) (by omega))
 clear o7 h7 p7 g7 HC6 HO6 Hpx6 Hpr6 d6 f6 q6'
 go_wp2_with fail
 refine (Qd5 r A cap l ((c7 : Int)) hl hcap hcm _ HC7.out).mono ?_
 intro e w8 h8
 cases hx8 : getT l ((c7 : Int)) with
 | none =>
  have hN : getC l i = none := by simp [getC, q1, q2, q3, q4, q5, q6, q7, q8, nS, tS, nO, hx1, hx2, hx3, hx4, hx5, hx6, hx7, hx8]
  rw [hx8] at h8
  obtain ⟨o8, t, v, rfl⟩ := h8
  refine ⟨rfl, ?_⟩
  rw [hN]
  exact ⟨Qao HO7.out o8, t, v, rfl⟩
 | some x =>
 obtain ⟨s8, c8⟩ := x
 rw [hx8] at h8
 obtain ⟨o8, h8, v, rfl, rfl⟩ := h8
 have hle8 := Qd9 hx8
 have p8 : Blk w8 (w.heap.size + 1) 95 #[Value.int .i64 ((n1 : Int) - 1), .int .i64 (n2 : Int), .int .i64 (n3 : Int), .int .i64 (n4 : Int), .int .i64 (n5 : Int), .int .i64 (n6 : Int), Value.string s7, .string ⟨#[]⟩] := Hpx7.out.only o8 (by omega)
 have g8 := Hpr7.out.only o8 (by omega)
 have d8 : w8.cell? ⟨w.heap.size + 1, 7, none⟩ = some (.string ⟨#[]⟩) := p8.cell (i := 7) rfl
 have f8 := p8.thaw 7
 have q8' := p8.lt
 have e0 : w8.cell? ⟨w.heap.size + 1, 0, none⟩ = some (Value.int .i64 ((n1 : Int) - 1)) := p8.cell (i := 0) rfl
 have e1 : w8.cell? ⟨w.heap.size + 1, 1, none⟩ = some (.int .i64 (n2 : Int)) := p8.cell (i := 1) rfl
 have e2 : w8.cell? ⟨w.heap.size + 1, 2, none⟩ = some (.int .i64 (n3 : Int)) := p8.cell (i := 2) rfl
 have e3 : w8.cell? ⟨w.heap.size + 1, 3, none⟩ = some (.int .i64 (n4 : Int)) := p8.cell (i := 3) rfl
 have e4 : w8.cell? ⟨w.heap.size + 1, 4, none⟩ = some (.int .i64 (n5 : Int)) := p8.cell (i := 4) rfl
 have e5 : w8.cell? ⟨w.heap.size + 1, 5, none⟩ = some (.int .i64 (n6 : Int)) := p8.cell (i := 5) rfl
 have e6 : w8.cell? ⟨w.heap.size + 1, 6, none⟩ = some (Value.string s7) := p8.cell (i := 6) rfl
 have r0 : w8.cell? ⟨w.heap.size, 0, none⟩ = some (.int .i64 0) := g8.cell (i := 0) rfl
 have z0 := g8.thaw 0
 have r1 : w8.cell? ⟨w.heap.size, 1, none⟩ = some (.int .i64 0) := g8.cell (i := 1) rfl
 have z1 := g8.thaw 1
 have r2 : w8.cell? ⟨w.heap.size, 2, none⟩ = some (.int .i64 0) := g8.cell (i := 2) rfl
 have z2 := g8.thaw 2
 have r3 : w8.cell? ⟨w.heap.size, 3, none⟩ = some (.int .i64 0) := g8.cell (i := 3) rfl
 have z3 := g8.thaw 3
 have r4 : w8.cell? ⟨w.heap.size, 4, none⟩ = some (.int .i64 0) := g8.cell (i := 4) rfl
 have z4 := g8.thaw 4
 have r5 : w8.cell? ⟨w.heap.size, 5, none⟩ = some (.int .i64 0) := g8.cell (i := 5) rfl
 have z5 := g8.thaw 5
 have r6 : w8.cell? ⟨w.heap.size, 6, none⟩ = some (.string ⟨#[]⟩) := g8.cell (i := 6) rfl
 have z6 := g8.thaw 6
 have r7 : w8.cell? ⟨w.heap.size, 7, none⟩ = some (.string ⟨#[]⟩) := g8.cell (i := 7) rfl
 have z7 := g8.thaw 7
 have qr := g8.lt
 have Hpx8 : Hid (Blk (w8.setCell ⟨w.heap.size + 1, 7, none⟩ (.string s8)) (w.heap.size + 1) 95 #[Value.int .i64 ((n1 : Int) - 1), .int .i64 (n2 : Int), .int .i64 (n3 : Int), .int .i64 (n4 : Int), .int .i64 (n5 : Int), .int .i64 (n6 : Int), Value.string s7, .string s8]) := hidP (p8.setAt 7 (.string s8))
 have Hpr8 := hidP (g8.other (show w.heap.size ≠ w.heap.size + 1 by omega) 7 (.string s8))
 have HC8 := hidP (h8.apart ((Only.refl (w.heap.size + 1) w8).set 7 (.string s8)) (by omega) Hfar.out)
 have HO8 := hidP (Qb0 (Qao HO7.out o8) ((Only.refl (w.heap.size + 1) w8).set 7 (.string s8)) (by omega))
 clear o8 h8 p8 g8 HC7 HO7 Hpx7 Hpr7 d7 f7 q7'
 have HOz := hidP (Qb0 (Qb0 (Qb0 (Qb0 (Qb0 (Qb0 (Qb0 (Qb0 (HO8.out) ((Only.refl w.heap.size _).set 0 (Value.int .i64 ((n1 : Int) - 1))) (Nat.le_refl _)) ((Only.refl w.heap.size _).set 1 (.int .i64 (n2 : Int))) (Nat.le_refl _)) ((Only.refl w.heap.size _).set 2 (.int .i64 (n3 : Int))) (Nat.le_refl _)) ((Only.refl w.heap.size _).set 3 (.int .i64 (n4 : Int))) (Nat.le_refl _)) ((Only.refl w.heap.size _).set 4 (.int .i64 (n5 : Int))) (Nat.le_refl _)) ((Only.refl w.heap.size _).set 5 (.int .i64 (n6 : Int))) (Nat.le_refl _)) ((Only.refl w.heap.size _).set 6 (Value.string s7)) (Nat.le_refl _)) ((Only.refl w.heap.size _).set 7 (.string s8)) (Nat.le_refl _))
 have HCz := hidP (Rd.apart (Rd.apart (Rd.apart (Rd.apart (Rd.apart (Rd.apart (Rd.apart (Rd.apart (HC8.out) ((Only.refl w.heap.size _).set 0 (Value.int .i64 ((n1 : Int) - 1))) (by omega) Hfar0.out) ((Only.refl w.heap.size _).set 1 (.int .i64 (n2 : Int))) (by omega) Hfar0.out) ((Only.refl w.heap.size _).set 2 (.int .i64 (n3 : Int))) (by omega) Hfar0.out) ((Only.refl w.heap.size _).set 3 (.int .i64 (n4 : Int))) (by omega) Hfar0.out) ((Only.refl w.heap.size _).set 4 (.int .i64 (n5 : Int))) (by omega) Hfar0.out) ((Only.refl w.heap.size _).set 5 (.int .i64 (n6 : Int))) (by omega) Hfar0.out) ((Only.refl w.heap.size _).set 6 (Value.string s7)) (by omega) Hfar0.out) ((Only.refl w.heap.size _).set 7 (.string s8)) (by omega) Hfar0.out)
 have hN : Hid (getC l i = some (⟨(n1 : Int) - 1, n2, n3, n4, n5, n6, s7, s8⟩, c8)) := hidP (by simp [getC, cmOf, nV, tV, q1, q2, q3, q4, q5, q6, q7, q8, nS, tS, nO, hx1, hx2, hx3, hx4, hx5, hx6, hx7, hx8])
 clear HO8 HC8 Hpx8 Hpr8
 go_wp2
 refine bodyPost_ret (v := Cm.v ⟨(n1 : Int) - 1, n2, n3, n4, n5, n6, s7, s8⟩) (by simp [results, Tryz.results225, go_sem, Cm.v, r0, r1, r2, r3, r4, r5, r6, r7]) rfl ?_
 rw [hN.out]
 exact ⟨HOz.out, HCz.out, _, rfl, rfl⟩
end Go.Proofs.YtenhcjkkpnlbeaaGreatDoor.Gen
namespace Go.Proofs.YtenhcjkkpnlbeaaGreatDoor.Items
open ChangeShapes WideShapes ChangeAt RowKit Base
def zeroItem : Value := .agg l0ITTII
def zeros (n : Nat) : Array Value := madeCells zeroItem.cells (n * 5)
theorem zeros_size (n : Nat) : (zeros n).size = n * 5 := size_madeCells _ _
theorem Qdu {w : World} {b o : Nat} {xs ys : List Value} (h1 : w.rangeAt b o xs) (h2 : w.rangeAt b (o + xs.length) ys) : w.rangeAt b o (xs ++ ys) := fun j v hv => by
 by_cases hj : j < xs.length
 . exact h1 j v (by rwa [List.getElem?_append_left hj] at hv)
 . rw [List.getElem?_append_right (by omega)] at hv
   have := h2 (j - xs.length) v hv
   have e : o + xs.length + (j - xs.length) = o + j := by omega
   rwa [e] at this
theorem Qe7 {w w' : World} {b o n : Nat} (h : w.there b o n) (hb : b < w.heap.size) (hw : Below w.heap.size w w') : w'.there b o n := fun j hj => by
 rw [hw.cell (p := ⟨b, o + j, none⟩) hb, hw.frozen (p := ⟨b, o + j, none⟩) hb]
 exact h j hj
theorem Qes (w : World) (n : Nat) : (w.alloc (.cells (zeros n) 163)).there w.heap.size 0 (n * 5) := fun j hj => by
 have : j < (zeros n).size := by rw [zeros_size]; exact hj
 simp [this]
theorem In.set {w : World} {b o : Nat} {l : List It} (h : In w b o l) (p : Addr) (v : Value) (hp : p.block ≠ b) : In (w.setCell p v) b o l := fun j u hu => by
 rw [World.cell?_setCell_other (h := fun e => hp (by rw [e]))]; exact h j u hu
theorem Qj5 {w : World} {b o n : Nat} (h : w.there b o n) (b' o' : Nat) (v : Value) : (w.setCell ⟨b', o', none⟩ v).there b o n := World.there_setCells h b' o' [v]
def Fresh (B : Nat) (w : World) (v : Value) (l : List It) : Prop :=
  ∃ (A : Option Addr) (c : Nat), v = .slice A l.length c /\ l.length <= c /\ (l = [] ∨ ∃ b o, A = some ⟨b, o, none⟩ /\ B <= b /\ b < w.heap.size /\ In w b o l /\ w.there b o (l.length * 5))
end Go.Proofs.YtenhcjkkpnlbeaaGreatDoor.Items
namespace Go.Proofs.YtenhcjkkpnlbeaaGreatDoor.Items
open ChangeShapes WideShapes ChangeAt RowKit Joins Deep Base
instance : Inhabited It := ⟨⟨0, ⟨#[]⟩, ⟨#[]⟩, 0, 0⟩⟩
abbrev At (w : World) (A : Option Addr) (l : List It) : Prop := l = [] ∨ ∃ b o, A = some ⟨b, o, none⟩ /\ b < w.heap.size /\ In w b o l
theorem At.below {w w' : World} {A : Option Addr} {l : List It} (h : At w A l) (hw : Below w.heap.size w w') : At w' A l :=
 h.imp id fun ⟨b, o, e, hb, hi⟩ => ⟨b, o, e, Nat.lt_of_lt_of_le hb hw.size, hi.below hb hw⟩
def I64 (x : Int) : Prop := -9223372036854775808 <= x /\ x <= 9223372036854775807
theorem Qir {x : Int} (hx : (Lit.int .i64 x).wf = true) : I64 x := by simpa [I64, Lit.wf, IntKind.min, IntKind.max, IntKind.signed, IntKind.bits] using hx
def It.right (x : It) : Prop := I64 x.off /\ I64 x.who /\ I64 x.time /\ x.key.size <= 9223372036854775807 /\ x.text.size <= 9223372036854775807
end Go.Proofs.YtenhcjkkpnlbeaaGreatDoor.Items
namespace Go.Proofs.YtenhcjkkpnlbeaaGreatDoor.Items
open ChangeShapes WideShapes ChangeAt RowKit Shelf Base
theorem infoI : (Tryz.prog.info? 163).map (fun i => (i.zero, i.size, i.bytes)) = some (some (.agg l0ITTII), 5, 56) := by kernel_rfl
theorem flat_one' (l : List It) : ∀ u ∈ flat l, u.oneCell' = true := by
 intro u hu
 obtain ⟨x, _, hx⟩ := List.mem_flatMap.1 hu
 simp [It.cs] at hx
 rcases hx with rfl | rfl | rfl | rfl | rfl<;>rfl
theorem Qfp {B : Nat} {W : World} {g cap : Nat} {cur : Array Value} {t : TypeId} {l : List It} (h : Blk W g t cur) (hB : B <= g) (hc : l.length <= cap) (hsz : cur.size = cap * 5) (ht : cur.toList.take (l.length * 5) = flat l) :
 Fresh B W (.slice (some ⟨g, 0, none⟩) l.length cap) l := by
 refine ⟨_, _, rfl, hc, .inr ⟨g, 0, rfl, hB, h.lt, ?_, ?_⟩⟩
 . intro j v hv
   rw [← ht, List.getElem?_take] at hv
   split at hv
   . exact (h.cell (i := 0 + j) (by simpa using hv))
   . cases hv
 . intro j hj
   refine ⟨?_, h.thaw _⟩
   have hlt : 0 + j < cur.size := by rw [hsz]; have := Nat.mul_le_mul_right 5 hc; omega
   rw [h.cell (Array.getElem?_eq_getElem hlt)]; rfl
theorem Qgn (A : Option Addr) (cap : Nat) (w : World) : Src Tryz.prog 5 137 (.slice A 0 cap) 0 [] w :=
 ⟨.inl ⟨_, Tryz.underlying137⟩, fun w' => by cases A<;>rfl, by cases A<;>simp [Builtin.firstCells, loadCells, loadCellsFrom], by cases A<;>simp [Builtin.firstCells, loadCells, loadCellsFrom], rfl, by simp⟩
theorem Qbj {P : Program} {w w' : World} {o : Oper} {a : Act} {K : Act -> World -> Prop} {Q : Exit -> Act -> World -> Prop} (s x : Operand) (t : TypeId)
 (ho : o.op = .call { callee := .builtin .append, args := #[s, x], argTypes := #[t, t] }) (v xv r : Value) (hs : a.eval s = v) (hx : a.eval x = xv)
 (hr : (Builtin.append_ #[t, t] o.type #[v, xv]).run P w = .ok r w') (h : K (a.put o.dst r) w') : o.wp P a w K Q := by
 unfold Oper.wp execOp
 simp only [ho, resolve, invoke, builtin, Sem.run_bind, Sem.run_pure, Result.andThen_ok, List.map_toArray, List.map_cons, List.map_nil, hs, hx, hr]
 exact h
theorem Qa8 {P : Program} {w w' : World} {ops : Array Oper} {rest : List Oper} {o : Oper} {a : Act} {Q : Exit -> Act -> World -> Prop} (hgd : o.guard = none) (s x : Operand) (t : TypeId)
 (ho : o.op = .call { callee := .builtin .append, args := #[s, x], argTypes := #[t, t] }) (v xv r : Value) (hs : a.eval s = v) (hx : a.eval x = xv)
 (hr : (Builtin.append_ #[t, t] o.type #[v, xv]).run P w = .ok r w') (h : wpList P ops Q rest (a.put o.dst r) w') : wpList P ops Q (o :: rest) a w :=
 wpList_plain hgd fun _ hK => Qbj s x t ho v xv r hs hx hr (hK _ _ h)
theorem Ql4 (B : Nat) (v : Value) (l m : List It) (A : Option Addr) (cap : Nat) (w : World) (hB : B <= w.heap.size) (hv : w.ownsRow B 163 5 v l.length (flat l)) (hA : At w A m) (hlen : l.length + m.length <= 3000000) :
 ∃ v' w', (Builtin.append_ #[137, 137] 137 #[v, .slice A m.length cap]).run Tryz.prog w = .ok v' w' /\ w'.ownsRow B 163 5 v' (l.length + m.length) (flat (l ++ m)) /\ w.grownBy w' v.ownBlock /\ (v'.ownBlock = v.ownBlock ∨ v'.ownBlock = some w.heap.size) := by
 obtain ⟨i0, hi, hz0, hz1, hz2⟩ := info_parts infoI
 by_cases h0 : m = []
 . subst h0
   have e0 : ∃ a n c, v = .slice a n c /\ n <= c := by
    rcases hv.2 with ⟨rfl, _⟩ | ⟨g, c, cur, rfl, _, _, h, _⟩
    . exact ⟨_, _, _, rfl, Nat.le_refl _⟩
    . exact ⟨_, _, _, rfl, h⟩
   obtain ⟨a, n, c, rfl, hle⟩ := e0
   exact ⟨_, _, run_append_nothing w 137 137 137 163 i0 Tryz.underlying137 hi a n c hle _ (hz1 ▸ Qgn A cap w), by simpa using hv, World.grownBy.refl _ _, .inl rfl⟩
 . obtain ⟨b, o, rfl, hb, hin⟩ := hA.resolve_left h0
   have hm : 0 < m.length := List.length_pos_iff.2 h0
   obtain ⟨g, c, w', hr, h1, h2, h3, h4⟩ := run_append_lies (P := Tryz.prog) w 137 137 B 163 i0 _ 5 56 Tryz.underlying137 hi hz0 hz1 hz2 rfl (by omega) v l.length (flat l) hv ⟨b, o, none⟩ m.length cap (flat m) (Qa6 m)
    (fun j u hu => by rw [Addr.add_mid]; exact hin j u hu) (flat_one' m) hm (by simp [maxLen]; omega) (by omega) hB _ rfl
   exact ⟨_, _, hr, by rw [Qbf]; exact h1, h2, h3.imp (fun e => by rw [e]; rfl) (fun e => by rw [← e]; rfl)⟩
theorem Qet {B : Nat} {W : World} {v : Value} {t : TypeId} {l : List It} (h : W.ownsRow B t 5 v l.length (flat l)) : Fresh B W v l := by
 rcases h.2 with ⟨rfl, h0⟩ | ⟨g, c, cur, rfl, hB, hg, hc, _, hsz, ht⟩
 . have : l = [] := List.length_eq_zero_iff.1 h0
   subst this
   exact ⟨none, 0, rfl, Nat.le_refl _, .inl rfl⟩
 . exact Qfp (t := t) hg hB hc hsz ht
theorem Qb2 {B : Nat} {W : World} {v : Value} {t : TypeId} {k n : Nat} {xs : List Value} (h : W.ownsRow B t k v n xs) : ∃ a c, v = .slice a n c /\ n <= c := by
 rcases h.2 with ⟨rfl, rfl⟩ | ⟨g, c, cur, rfl, hB, hg, hc, _⟩
 . exact ⟨none, 0, rfl, Nat.le_refl _⟩
 . exact ⟨_, _, rfl, hc⟩
theorem owns_far {B C : Nat} {W : World} {v : Value} {t : TypeId} {k n : Nat} {xs : List Value} (h : W.ownsRow B t k v n xs) (hC : C < B) : some C ≠ v.ownBlock := by
 rcases h.2 with ⟨rfl, rfl⟩ | ⟨g, c, cur, rfl, hB, _⟩
 . simp [Value.ownBlock]
 . simp [Value.ownBlock]; omega
theorem Qcd {B C i : Nat} {W : World} {v u : Value} {t : TypeId} {k n : Nat} {xs : List Value} (h : W.ownsRow B t k v n xs) (hne : some C ≠ v.ownBlock) : (W.setCell ⟨C, i, none⟩ u).ownsRow B t k v n xs := by
 refine ⟨h.1, ?_⟩
 rcases h.2 with ⟨rfl, rfl⟩ | ⟨g, c, cur, rfl, hB, hg, hc, hm, hsz, ht⟩
 . exact .inl ⟨rfl, rfl⟩
 . have hCg : g ≠ C := fun e => hne (by simp [Value.ownBlock, e])
   exact .inr ⟨g, c, cur, rfl, hB, Blk.other (show Blk W g t cur from hg) hCg i u, hc, hm, hsz, ht⟩
theorem copied_any (start next : Int) (A : Option Addr) (cap : Nat) (l : List It) (hl : l.length <= 1048576) (w : World) (hA : At w A l) :
 Calls Tryz.prog 118 #[.agg (Qay start next A l.length cap)] w fun e w' => ∃ v, e = .returned (.agg #[.int .i64 start, .int .i64 next, v]) /\ w'.ownsRow w.heap.size 163 5 v l.length (flat l) /\ Below w.heap.size w w' := by
 have B0 : Below w.heap.size w ((w.alloc (.cells (Qay start next A l.length cap) 160)).alloc (.cells Qjc 160)) := Qab (Qab (Below.refl _ _) _) _
 obtain ⟨v, w1, hr, hown, hgrow, hat⟩ := Ql4 w.heap.size (.slice none 0 0) [] l A cap ((w.alloc (.cells (Qay start next A l.length cap) 160)).alloc (.cells Qjc 160)) B0.size (World.ownsRow_nil _ _ _ _) (hA.below B0) (by simp; omega)
 simp only [List.length_nil, Nat.zero_add, List.nil_append] at hown
 have p0 := ((Blk.new w 160 (Qay start next A l.length cap)).alloc (.cells Qjc 160)).kept hgrow (by simp [Value.ownBlock])
 have p1 := (Blk.new (w.alloc (.cells (Qay start next A l.length cap) 160)) 160 Qjc).kept hgrow (by simp [Value.ownBlock])
 rw [World.size_alloc] at p1
 have B1 : Below w.heap.size w w1 := B0.grown hgrow B0.size (by simp [Value.ownBlock])
 obtain ⟨c0, c1, c2⟩ := p0.row
 obtain ⟨d0, d1, d2⟩ := p1.row
 have f0 := p0.thaw 0
 have f1 := p0.thaw 1
 have f2 := p0.thaw 2
 have g0 := p1.thaw 0
 have g1 := p1.thaw 1
 have g2 := p1.thaw 2
 obtain ⟨a, c, rfl, hc⟩ := Qb2 hown
 have hn0 : some w.heap.size ≠ (Value.slice a l.length c).ownBlock := by
  rcases hat with e | e
  . rw [e]; simp [Value.ownBlock]
  . rw [e]; intro h; have := Option.some.inj h; simp only [World.size_alloc] at this; omega
 have hn1 : some (w.heap.size + 1) ≠ (Value.slice a l.length c).ownBlock := by
  rcases hat with e | e
  . rw [e]; simp [Value.ownBlock]
  . rw [e]; intro h; have := Option.some.inj h; simp only [World.size_alloc] at this; omega
 have Hn0 : Hid (some w.heap.size ≠ (Value.slice a l.length c).ownBlock) := hn0
 have Hn1 : Hid (some (w.heap.size + 1) ≠ (Value.slice a l.length c).ownBlock) := hn1
 have Hown : Hid (w1.ownsRow w.heap.size 163 5 (.slice a l.length c) l.length (flat l)) := hown
 clear hgrow hA hat hown hn0 hn1
 go_enter Tryz.func118, Tryz.ntmps118
 go_wp2_with (at_builtin; refine Qa8 rfl _ _ _ rfl _ _ _ rfl rfl hr ?_)
 have p2 := (((p1.other (B' := w.heap.size) (by omega) 2 (.slice a l.length c)).setAt 0 (.int .i64 start)).setAt 1 (.int .i64 next)).setAt 2 (.slice a l.length c)
 obtain ⟨e0, e1, e2⟩ := Blk.row (show Blk _ (w.heap.size + 1) 160 (Qay start next a l.length c) from p2)
 exact bodyPost_ret (v := .agg (Qay start next a l.length c)) (by simp [results, Tryz.results118, go_sem, e0, e1, e2]) rfl
  ⟨_, rfl, Qcd (Qcd (Qcd (Qcd Hown.out Hn0.out) Hn1.out) Hn1.out) Hn1.out, Qa7 (Qa7 (Qa7 (Qa7 B1 (Nat.le_refl _) _) (by omega) _) (by omega) _) (by omega) _⟩
end Go.Proofs.YtenhcjkkpnlbeaaGreatDoor.Items
