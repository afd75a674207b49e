/-
  A command read by the program's reader. Condition: at most 1048576 bytes.
-/
import Derived.Test.YtfbbifdfjjkknaaDoorCmdRd
namespace Go.Proofs.YtfbbifdfjjkknaaDoor.Gen
open Go.ChangeShapes Go.WideShapes Go.ChangeAt Go.RowKit Go.Joins Go.Deep Base
set_option linter.unusedVariables false

set_option maxRecDepth 100000 in
set_option maxHeartbeats 4000000 in
theorem readCmd_any (r : Nat) (A : Option Addr) (cap : Nat) (l : List UInt8) (i : Int) (hl : l.length ≤ 1048576) (hcap : l.length ≤ cap) (hcm : cap ≤ 9223372036854775807) (w : World) (h : Rd w r A cap l i) :
    Calls Tryd.prog 62 #[.pointer (some ⟨r, 0, none⟩)] w fun e w' => Reads isCm r A cap l w e w' (getC l i) := by
  obtain ⟨hr, hfar⟩ := h.far
  have Hfar : Hid (l = [] ∨ ∀ c o, A = some ⟨c, o, none⟩ → c ≠ w.heap.size + 1) := hidP (hfar.imp id fun h c o e => by have := h c o e; omega)
  have Hfar0 : Hid (l = [] ∨ ∀ c o, A = some ⟨c, o, none⟩ → c ≠ w.heap.size) := hidP (hfar.imp id fun h c o e => by have := h c o e; omega)
  have px0 := Blk.new (w.alloc (.cells #[.int .i64 0, .int .i64 0, .int .i64 0, .int .i64 0, .int .i64 0, .int .i64 0, .string ⟨#[]⟩, .string ⟨#[]⟩] 78)) 78 #[.int .i64 0, .int .i64 0, .int .i64 0, .int .i64 0, .int .i64 0, .int .i64 0, .string ⟨#[]⟩, .string ⟨#[]⟩]
  have pr0 := (Blk.new w 78 #[.int .i64 0, .int .i64 0, .int .i64 0, .int .i64 0, .int .i64 0, .int .i64 0, .string ⟨#[]⟩, .string ⟨#[]⟩]).alloc (.cells #[.int .i64 0, .int .i64 0, .int .i64 0, .int .i64 0, .int .i64 0, .int .i64 0, .string ⟨#[]⟩, .string ⟨#[]⟩] 78)
  simp only [World.size_alloc] at px0
  have HC0 := hidP (h.below (alloc0 (alloc0 (Below.refl _ w) (.cells #[.int .i64 0, .int .i64 0, .int .i64 0, .int .i64 0, .int .i64 0, .int .i64 0, .string ⟨#[]⟩, .string ⟨#[]⟩] 78)) (.cells #[.int .i64 0, .int .i64 0, .int .i64 0, .int .i64 0, .int .i64 0, .int .i64 0, .string ⟨#[]⟩, .string ⟨#[]⟩] 78)))
  have HO0 : Hid (Only r w ((w.alloc (.cells #[.int .i64 0, .int .i64 0, .int .i64 0, .int .i64 0, .int .i64 0, .int .i64 0, .string ⟨#[]⟩, .string ⟨#[]⟩] 78)).alloc (.cells #[.int .i64 0, .int .i64 0, .int .i64 0, .int .i64 0, .int .i64 0, .int .i64 0, .string ⟨#[]⟩, .string ⟨#[]⟩] 78))) := (Only.refl r w).below (alloc0 (alloc0 (Below.refl _ w) _) _)
  have Hpx0 := hidP px0
  have Hpr0 := hidP pr0
  clear px0 pr0 h hfar
  go_enter Tryd.func62, Tryd.ntmps62
  go_wp2_with fail
  refine (readNum_any r A cap l (i) hl _ HC0.out).mono ?_
  intro e w1 h1
  cases hx1 : getN l (i) with
  | none =>
    have hN : getC l i = none := by simp [getC, q1, q2, q3, q4, q5, q6, q7, q8, nS, tS, nO, hx1]
    rw [hx1] at h1
    obtain ⟨o1, t, v, rfl⟩ := h1
    refine ⟨rfl, ?_⟩
    rw [hN]
    exact ⟨only_trans HO0.out o1, t, v, rfl⟩
  | some x =>
  obtain ⟨n1, c1⟩ := x
  rw [hx1] at h1
  obtain ⟨o1, h1, v, rfl, rfl⟩ := h1
  have hle1 := getN_le hx1
  have p1 : Blk w1 (w.heap.size + 1) 78 #[.int .i64 0, .int .i64 0, .int .i64 0, .int .i64 0, .int .i64 0, .int .i64 0, .string ⟨#[]⟩, .string ⟨#[]⟩] := Hpx0.out.only o1 (by omega)
  have g1 := Hpr0.out.only o1 (by omega)
  have d1 : w1.cell? ⟨w.heap.size + 1, 0, none⟩ = some (.int .i64 0) := p1.cell (i := 0) rfl
  have f1 := p1.thaw 0
  have q1' := p1.lt
  have Hpx1 : Hid (Blk (w1.setCell ⟨w.heap.size + 1, 0, none⟩ (Value.int .i64 ((n1 : Int) - 1))) (w.heap.size + 1) 78 #[Value.int .i64 ((n1 : Int) - 1), .int .i64 0, .int .i64 0, .int .i64 0, .int .i64 0, .int .i64 0, .string ⟨#[]⟩, .string ⟨#[]⟩]) := hidP (p1.setAt 0 (Value.int .i64 ((n1 : Int) - 1)))
  have Hpr1 := hidP (g1.other (show w.heap.size ≠ w.heap.size + 1 by omega) 0 (Value.int .i64 ((n1 : Int) - 1)))
  have HC1 := hidP (h1.apart ((Only.refl (w.heap.size + 1) w1).set 0 (Value.int .i64 ((n1 : Int) - 1))) (by omega) Hfar.out)
  have HO1 := hidP (only_new (only_trans HO0.out o1) ((Only.refl (w.heap.size + 1) w1).set 0 (Value.int .i64 ((n1 : Int) - 1))) (by omega))
  clear o1 h1 p1 g1 HC0 HO0 Hpx0 Hpr0
  go_wp2_with fail
  refine (readNum_any r A cap l ((c1 : Int)) hl _ HC1.out).mono ?_
  intro e w2 h2
  cases hx2 : getN l ((c1 : Int)) with
  | none =>
    have hN : getC l i = none := by simp [getC, q1, q2, q3, q4, q5, q6, q7, q8, nS, tS, nO, hx1, hx2]
    rw [hx2] at h2
    obtain ⟨o2, t, v, rfl⟩ := h2
    refine ⟨rfl, ?_⟩
    rw [hN]
    exact ⟨only_trans HO1.out o2, t, v, rfl⟩
  | some x =>
  obtain ⟨n2, c2⟩ := x
  rw [hx2] at h2
  obtain ⟨o2, h2, v, rfl, rfl⟩ := h2
  have hle2 := getN_le hx2
  have p2 : Blk w2 (w.heap.size + 1) 78 #[Value.int .i64 ((n1 : Int) - 1), .int .i64 0, .int .i64 0, .int .i64 0, .int .i64 0, .int .i64 0, .string ⟨#[]⟩, .string ⟨#[]⟩] := Hpx1.out.only o2 (by omega)
  have g2 := Hpr1.out.only o2 (by omega)
  have d2 : w2.cell? ⟨w.heap.size + 1, 1, none⟩ = some (.int .i64 0) := p2.cell (i := 1) rfl
  have f2 := p2.thaw 1
  have q2' := p2.lt
  have Hpx2 : Hid (Blk (w2.setCell ⟨w.heap.size + 1, 1, none⟩ (.int .i64 (n2 : Int))) (w.heap.size + 1) 78 #[Value.int .i64 ((n1 : Int) - 1), .int .i64 (n2 : Int), .int .i64 0, .int .i64 0, .int .i64 0, .int .i64 0, .string ⟨#[]⟩, .string ⟨#[]⟩]) := hidP (p2.setAt 1 (.int .i64 (n2 : Int)))
  have Hpr2 := hidP (g2.other (show w.heap.size ≠ w.heap.size + 1 by omega) 1 (.int .i64 (n2 : Int)))
  have HC2 := hidP (h2.apart ((Only.refl (w.heap.size + 1) w2).set 1 (.int .i64 (n2 : Int))) (by omega) Hfar.out)
  have HO2 := hidP (only_new (only_trans HO1.out o2) ((Only.refl (w.heap.size + 1) w2).set 1 (.int .i64 (n2 : Int))) (by omega))
  clear o2 h2 p2 g2 HC1 HO1 Hpx1 Hpr1 d1 f1 q1'
  go_wp2_with fail
  refine (readNum_any r A cap l ((c2 : Int)) hl _ HC2.out).mono ?_
  intro e w3 h3
  cases hx3 : getN l ((c2 : Int)) with
  | none =>
    have hN : getC l i = none := by simp [getC, q1, q2, q3, q4, q5, q6, q7, q8, nS, tS, nO, hx1, hx2, hx3]
    rw [hx3] at h3
    obtain ⟨o3, t, v, rfl⟩ := h3
    refine ⟨rfl, ?_⟩
    rw [hN]
    exact ⟨only_trans HO2.out o3, t, v, rfl⟩
  | some x =>
  obtain ⟨n3, c3⟩ := x
  rw [hx3] at h3
  obtain ⟨o3, h3, v, rfl, rfl⟩ := h3
  have hle3 := getN_le hx3
  have p3 : Blk w3 (w.heap.size + 1) 78 #[Value.int .i64 ((n1 : Int) - 1), .int .i64 (n2 : Int), .int .i64 0, .int .i64 0, .int .i64 0, .int .i64 0, .string ⟨#[]⟩, .string ⟨#[]⟩] := Hpx2.out.only o3 (by omega)
  have g3 := Hpr2.out.only o3 (by omega)
  have d3 : w3.cell? ⟨w.heap.size + 1, 2, none⟩ = some (.int .i64 0) := p3.cell (i := 2) rfl
  have f3 := p3.thaw 2
  have q3' := p3.lt
  have Hpx3 : Hid (Blk (w3.setCell ⟨w.heap.size + 1, 2, none⟩ (.int .i64 (n3 : Int))) (w.heap.size + 1) 78 #[Value.int .i64 ((n1 : Int) - 1), .int .i64 (n2 : Int), .int .i64 (n3 : Int), .int .i64 0, .int .i64 0, .int .i64 0, .string ⟨#[]⟩, .string ⟨#[]⟩]) := hidP (p3.setAt 2 (.int .i64 (n3 : Int)))
  have Hpr3 := hidP (g3.other (show w.heap.size ≠ w.heap.size + 1 by omega) 2 (.int .i64 (n3 : Int)))
  have HC3 := hidP (h3.apart ((Only.refl (w.heap.size + 1) w3).set 2 (.int .i64 (n3 : Int))) (by omega) Hfar.out)
  have HO3 := hidP (only_new (only_trans HO2.out o3) ((Only.refl (w.heap.size + 1) w3).set 2 (.int .i64 (n3 : Int))) (by omega))
  clear o3 h3 p3 g3 HC2 HO2 Hpx2 Hpr2 d2 f2 q2'
  go_wp2_with fail
  refine (readNum_any r A cap l ((c3 : Int)) hl _ HC3.out).mono ?_
  intro e w4 h4
  cases hx4 : getN l ((c3 : Int)) with
  | none =>
    have hN : getC l i = none := by simp [getC, q1, q2, q3, q4, q5, q6, q7, q8, nS, tS, nO, hx1, hx2, hx3, hx4]
    rw [hx4] at h4
    obtain ⟨o4, t, v, rfl⟩ := h4
    refine ⟨rfl, ?_⟩
    rw [hN]
    exact ⟨only_trans HO3.out o4, t, v, rfl⟩
  | some x =>
  obtain ⟨n4, c4⟩ := x
  rw [hx4] at h4
  obtain ⟨o4, h4, v, rfl, rfl⟩ := h4
  have hle4 := getN_le hx4
  have p4 : Blk w4 (w.heap.size + 1) 78 #[Value.int .i64 ((n1 : Int) - 1), .int .i64 (n2 : Int), .int .i64 (n3 : Int), .int .i64 0, .int .i64 0, .int .i64 0, .string ⟨#[]⟩, .string ⟨#[]⟩] := Hpx3.out.only o4 (by omega)
  have g4 := Hpr3.out.only o4 (by omega)
  have d4 : w4.cell? ⟨w.heap.size + 1, 3, none⟩ = some (.int .i64 0) := p4.cell (i := 3) rfl
  have f4 := p4.thaw 3
  have q4' := p4.lt
  have Hpx4 : Hid (Blk (w4.setCell ⟨w.heap.size + 1, 3, none⟩ (.int .i64 (n4 : Int))) (w.heap.size + 1) 78 #[Value.int .i64 ((n1 : Int) - 1), .int .i64 (n2 : Int), .int .i64 (n3 : Int), .int .i64 (n4 : Int), .int .i64 0, .int .i64 0, .string ⟨#[]⟩, .string ⟨#[]⟩]) := hidP (p4.setAt 3 (.int .i64 (n4 : Int)))
  have Hpr4 := hidP (g4.other (show w.heap.size ≠ w.heap.size + 1 by omega) 3 (.int .i64 (n4 : Int)))
  have HC4 := hidP (h4.apart ((Only.refl (w.heap.size + 1) w4).set 3 (.int .i64 (n4 : Int))) (by omega) Hfar.out)
  have HO4 := hidP (only_new (only_trans HO3.out o4) ((Only.refl (w.heap.size + 1) w4).set 3 (.int .i64 (n4 : Int))) (by omega))
  clear o4 h4 p4 g4 HC3 HO3 Hpx3 Hpr3 d3 f3 q3'
  go_wp2_with fail
  refine (readNum_any r A cap l ((c4 : Int)) hl _ HC4.out).mono ?_
  intro e w5 h5
  cases hx5 : getN l ((c4 : Int)) with
  | none =>
    have hN : getC l i = none := by simp [getC, q1, q2, q3, q4, q5, q6, q7, q8, nS, tS, nO, hx1, hx2, hx3, hx4, hx5]
    rw [hx5] at h5
    obtain ⟨o5, t, v, rfl⟩ := h5
    refine ⟨rfl, ?_⟩
    rw [hN]
    exact ⟨only_trans HO4.out o5, t, v, rfl⟩
  | some x =>
  obtain ⟨n5, c5⟩ := x
  rw [hx5] at h5
  obtain ⟨o5, h5, v, rfl, rfl⟩ := h5
  have hle5 := getN_le hx5
  have p5 : Blk w5 (w.heap.size + 1) 78 #[Value.int .i64 ((n1 : Int) - 1), .int .i64 (n2 : Int), .int .i64 (n3 : Int), .int .i64 (n4 : Int), .int .i64 0, .int .i64 0, .string ⟨#[]⟩, .string ⟨#[]⟩] := Hpx4.out.only o5 (by omega)
  have g5 := Hpr4.out.only o5 (by omega)
  have d5 : w5.cell? ⟨w.heap.size + 1, 4, none⟩ = some (.int .i64 0) := p5.cell (i := 4) rfl
  have f5 := p5.thaw 4
  have q5' := p5.lt
  have Hpx5 : Hid (Blk (w5.setCell ⟨w.heap.size + 1, 4, none⟩ (.int .i64 (n5 : Int))) (w.heap.size + 1) 78 #[Value.int .i64 ((n1 : Int) - 1), .int .i64 (n2 : Int), .int .i64 (n3 : Int), .int .i64 (n4 : Int), .int .i64 (n5 : Int), .int .i64 0, .string ⟨#[]⟩, .string ⟨#[]⟩]) := hidP (p5.setAt 4 (.int .i64 (n5 : Int)))
  have Hpr5 := hidP (g5.other (show w.heap.size ≠ w.heap.size + 1 by omega) 4 (.int .i64 (n5 : Int)))
  have HC5 := hidP (h5.apart ((Only.refl (w.heap.size + 1) w5).set 4 (.int .i64 (n5 : Int))) (by omega) Hfar.out)
  have HO5 := hidP (only_new (only_trans HO4.out o5) ((Only.refl (w.heap.size + 1) w5).set 4 (.int .i64 (n5 : Int))) (by omega))
  clear o5 h5 p5 g5 HC4 HO4 Hpx4 Hpr4 d4 f4 q4'
  go_wp2_with fail
  refine (readNum_any r A cap l ((c5 : Int)) hl _ HC5.out).mono ?_
  intro e w6 h6
  cases hx6 : getN l ((c5 : Int)) with
  | none =>
    have hN : getC l i = none := by simp [getC, q1, q2, q3, q4, q5, q6, q7, q8, nS, tS, nO, hx1, hx2, hx3, hx4, hx5, hx6]
    rw [hx6] at h6
    obtain ⟨o6, t, v, rfl⟩ := h6
    refine ⟨rfl, ?_⟩
    rw [hN]
    exact ⟨only_trans HO5.out o6, t, v, rfl⟩
  | some x =>
  obtain ⟨n6, c6⟩ := x
  rw [hx6] at h6
  obtain ⟨o6, h6, v, rfl, rfl⟩ := h6
  have hle6 := getN_le hx6
  have p6 : Blk w6 (w.heap.size + 1) 78 #[Value.int .i64 ((n1 : Int) - 1), .int .i64 (n2 : Int), .int .i64 (n3 : Int), .int .i64 (n4 : Int), .int .i64 (n5 : Int), .int .i64 0, .string ⟨#[]⟩, .string ⟨#[]⟩] := Hpx5.out.only o6 (by omega)
  have g6 := Hpr5.out.only o6 (by omega)
  have d6 : w6.cell? ⟨w.heap.size + 1, 5, none⟩ = some (.int .i64 0) := p6.cell (i := 5) rfl
  have f6 := p6.thaw 5
  have q6' := p6.lt
  have Hpx6 : Hid (Blk (w6.setCell ⟨w.heap.size + 1, 5, none⟩ (.int .i64 (n6 : Int))) (w.heap.size + 1) 78 #[Value.int .i64 ((n1 : Int) - 1), .int .i64 (n2 : Int), .int .i64 (n3 : Int), .int .i64 (n4 : Int), .int .i64 (n5 : Int), .int .i64 (n6 : Int), .string ⟨#[]⟩, .string ⟨#[]⟩]) := hidP (p6.setAt 5 (.int .i64 (n6 : Int)))
  have Hpr6 := hidP (g6.other (show w.heap.size ≠ w.heap.size + 1 by omega) 5 (.int .i64 (n6 : Int)))
  have HC6 := hidP (h6.apart ((Only.refl (w.heap.size + 1) w6).set 5 (.int .i64 (n6 : Int))) (by omega) Hfar.out)
  have HO6 := hidP (only_new (only_trans HO5.out o6) ((Only.refl (w.heap.size + 1) w6).set 5 (.int .i64 (n6 : Int))) (by omega))
  clear o6 h6 p6 g6 HC5 HO5 Hpx5 Hpr5 d5 f5 q5'
  go_wp2_with fail
  refine (readTxt_any r A cap l ((c6 : Int)) hl hcap hcm _ HC6.out).mono ?_
  intro e w7 h7
  cases hx7 : getT l ((c6 : Int)) with
  | none =>
    have hN : getC l i = none := by simp [getC, q1, q2, q3, q4, q5, q6, q7, q8, nS, tS, nO, hx1, hx2, hx3, hx4, hx5, hx6, hx7]
    rw [hx7] at h7
    obtain ⟨o7, t, v, rfl⟩ := h7
    refine ⟨rfl, ?_⟩
    rw [hN]
    exact ⟨only_trans HO6.out o7, t, v, rfl⟩
  | some x =>
  obtain ⟨s7, c7⟩ := x
  rw [hx7] at h7
  obtain ⟨o7, h7, v, rfl, rfl⟩ := h7
  have hle7 := getT_le hx7
  have p7 : Blk w7 (w.heap.size + 1) 78 #[Value.int .i64 ((n1 : Int) - 1), .int .i64 (n2 : Int), .int .i64 (n3 : Int), .int .i64 (n4 : Int), .int .i64 (n5 : Int), .int .i64 (n6 : Int), .string ⟨#[]⟩, .string ⟨#[]⟩] := Hpx6.out.only o7 (by omega)
  have g7 := Hpr6.out.only o7 (by omega)
  have d7 : w7.cell? ⟨w.heap.size + 1, 6, none⟩ = some (.string ⟨#[]⟩) := p7.cell (i := 6) rfl
  have f7 := p7.thaw 6
  have q7' := p7.lt
  have Hpx7 : Hid (Blk (w7.setCell ⟨w.heap.size + 1, 6, none⟩ (Value.string s7)) (w.heap.size + 1) 78 #[Value.int .i64 ((n1 : Int) - 1), .int .i64 (n2 : Int), .int .i64 (n3 : Int), .int .i64 (n4 : Int), .int .i64 (n5 : Int), .int .i64 (n6 : Int), Value.string s7, .string ⟨#[]⟩]) := hidP (p7.setAt 6 (Value.string s7))
  have Hpr7 := hidP (g7.other (show w.heap.size ≠ w.heap.size + 1 by omega) 6 (Value.string s7))
  have HC7 := hidP (h7.apart ((Only.refl (w.heap.size + 1) w7).set 6 (Value.string s7)) (by omega) Hfar.out)
  have HO7 := hidP (only_new (only_trans HO6.out o7) ((Only.refl (w.heap.size + 1) w7).set 6 (Value.string s7)) (by omega))
  clear o7 h7 p7 g7 HC6 HO6 Hpx6 Hpr6 d6 f6 q6'
  go_wp2_with fail
  refine (readTxt_any r A cap l ((c7 : Int)) hl hcap hcm _ HC7.out).mono ?_
  intro e w8 h8
  cases hx8 : getT l ((c7 : Int)) with
  | none =>
    have hN : getC l i = none := by simp [getC, q1, q2, q3, q4, q5, q6, q7, q8, nS, tS, nO, hx1, hx2, hx3, hx4, hx5, hx6, hx7, hx8]
    rw [hx8] at h8
    obtain ⟨o8, t, v, rfl⟩ := h8
    refine ⟨rfl, ?_⟩
    rw [hN]
    exact ⟨only_trans HO7.out o8, t, v, rfl⟩
  | some x =>
  obtain ⟨s8, c8⟩ := x
  rw [hx8] at h8
  obtain ⟨o8, h8, v, rfl, rfl⟩ := h8
  have hle8 := getT_le hx8
  have p8 : Blk w8 (w.heap.size + 1) 78 #[Value.int .i64 ((n1 : Int) - 1), .int .i64 (n2 : Int), .int .i64 (n3 : Int), .int .i64 (n4 : Int), .int .i64 (n5 : Int), .int .i64 (n6 : Int), Value.string s7, .string ⟨#[]⟩] := Hpx7.out.only o8 (by omega)
  have g8 := Hpr7.out.only o8 (by omega)
  have d8 : w8.cell? ⟨w.heap.size + 1, 7, none⟩ = some (.string ⟨#[]⟩) := p8.cell (i := 7) rfl
  have f8 := p8.thaw 7
  have q8' := p8.lt
  have e0 : w8.cell? ⟨w.heap.size + 1, 0, none⟩ = some (Value.int .i64 ((n1 : Int) - 1)) := p8.cell (i := 0) rfl
  have e1 : w8.cell? ⟨w.heap.size + 1, 1, none⟩ = some (.int .i64 (n2 : Int)) := p8.cell (i := 1) rfl
  have e2 : w8.cell? ⟨w.heap.size + 1, 2, none⟩ = some (.int .i64 (n3 : Int)) := p8.cell (i := 2) rfl
  have e3 : w8.cell? ⟨w.heap.size + 1, 3, none⟩ = some (.int .i64 (n4 : Int)) := p8.cell (i := 3) rfl
  have e4 : w8.cell? ⟨w.heap.size + 1, 4, none⟩ = some (.int .i64 (n5 : Int)) := p8.cell (i := 4) rfl
  have e5 : w8.cell? ⟨w.heap.size + 1, 5, none⟩ = some (.int .i64 (n6 : Int)) := p8.cell (i := 5) rfl
  have e6 : w8.cell? ⟨w.heap.size + 1, 6, none⟩ = some (Value.string s7) := p8.cell (i := 6) rfl
  have r0 : w8.cell? ⟨w.heap.size, 0, none⟩ = some (.int .i64 0) := g8.cell (i := 0) rfl
  have z0 := g8.thaw 0
  have r1 : w8.cell? ⟨w.heap.size, 1, none⟩ = some (.int .i64 0) := g8.cell (i := 1) rfl
  have z1 := g8.thaw 1
  have r2 : w8.cell? ⟨w.heap.size, 2, none⟩ = some (.int .i64 0) := g8.cell (i := 2) rfl
  have z2 := g8.thaw 2
  have r3 : w8.cell? ⟨w.heap.size, 3, none⟩ = some (.int .i64 0) := g8.cell (i := 3) rfl
  have z3 := g8.thaw 3
  have r4 : w8.cell? ⟨w.heap.size, 4, none⟩ = some (.int .i64 0) := g8.cell (i := 4) rfl
  have z4 := g8.thaw 4
  have r5 : w8.cell? ⟨w.heap.size, 5, none⟩ = some (.int .i64 0) := g8.cell (i := 5) rfl
  have z5 := g8.thaw 5
  have r6 : w8.cell? ⟨w.heap.size, 6, none⟩ = some (.string ⟨#[]⟩) := g8.cell (i := 6) rfl
  have z6 := g8.thaw 6
  have r7 : w8.cell? ⟨w.heap.size, 7, none⟩ = some (.string ⟨#[]⟩) := g8.cell (i := 7) rfl
  have z7 := g8.thaw 7
  have qr := g8.lt
  have Hpx8 : Hid (Blk (w8.setCell ⟨w.heap.size + 1, 7, none⟩ (.string s8)) (w.heap.size + 1) 78 #[Value.int .i64 ((n1 : Int) - 1), .int .i64 (n2 : Int), .int .i64 (n3 : Int), .int .i64 (n4 : Int), .int .i64 (n5 : Int), .int .i64 (n6 : Int), Value.string s7, .string s8]) := hidP (p8.setAt 7 (.string s8))
  have Hpr8 := hidP (g8.other (show w.heap.size ≠ w.heap.size + 1 by omega) 7 (.string s8))
  have HC8 := hidP (h8.apart ((Only.refl (w.heap.size + 1) w8).set 7 (.string s8)) (by omega) Hfar.out)
  have HO8 := hidP (only_new (only_trans HO7.out o8) ((Only.refl (w.heap.size + 1) w8).set 7 (.string s8)) (by omega))
  clear o8 h8 p8 g8 HC7 HO7 Hpx7 Hpr7 d7 f7 q7'
  have HOz := hidP (only_new (only_new (only_new (only_new (only_new (only_new (only_new (only_new (HO8.out) ((Only.refl w.heap.size _).set 0 (Value.int .i64 ((n1 : Int) - 1))) (Nat.le_refl _)) ((Only.refl w.heap.size _).set 1 (.int .i64 (n2 : Int))) (Nat.le_refl _)) ((Only.refl w.heap.size _).set 2 (.int .i64 (n3 : Int))) (Nat.le_refl _)) ((Only.refl w.heap.size _).set 3 (.int .i64 (n4 : Int))) (Nat.le_refl _)) ((Only.refl w.heap.size _).set 4 (.int .i64 (n5 : Int))) (Nat.le_refl _)) ((Only.refl w.heap.size _).set 5 (.int .i64 (n6 : Int))) (Nat.le_refl _)) ((Only.refl w.heap.size _).set 6 (Value.string s7)) (Nat.le_refl _)) ((Only.refl w.heap.size _).set 7 (.string s8)) (Nat.le_refl _))
  have HCz := hidP (Rd.apart (Rd.apart (Rd.apart (Rd.apart (Rd.apart (Rd.apart (Rd.apart (Rd.apart (HC8.out) ((Only.refl w.heap.size _).set 0 (Value.int .i64 ((n1 : Int) - 1))) (by omega) Hfar0.out) ((Only.refl w.heap.size _).set 1 (.int .i64 (n2 : Int))) (by omega) Hfar0.out) ((Only.refl w.heap.size _).set 2 (.int .i64 (n3 : Int))) (by omega) Hfar0.out) ((Only.refl w.heap.size _).set 3 (.int .i64 (n4 : Int))) (by omega) Hfar0.out) ((Only.refl w.heap.size _).set 4 (.int .i64 (n5 : Int))) (by omega) Hfar0.out) ((Only.refl w.heap.size _).set 5 (.int .i64 (n6 : Int))) (by omega) Hfar0.out) ((Only.refl w.heap.size _).set 6 (Value.string s7)) (by omega) Hfar0.out) ((Only.refl w.heap.size _).set 7 (.string s8)) (by omega) Hfar0.out)
  have hN : Hid (getC l i = some (⟨(n1 : Int) - 1, n2, n3, n4, n5, n6, s7, s8⟩, c8)) := hidP (by simp [getC, cmOf, nV, tV, q1, q2, q3, q4, q5, q6, q7, q8, nS, tS, nO, hx1, hx2, hx3, hx4, hx5, hx6, hx7, hx8])
  clear HO8 HC8 Hpx8 Hpr8
  go_wp2
  refine bodyPost_ret (v := Cm.v ⟨(n1 : Int) - 1, n2, n3, n4, n5, n6, s7, s8⟩) (by simp [results, Tryd.results62, go_sem, Cm.v, r0, r1, r2, r3, r4, r5, r6, r7]) rfl ?_
  rw [hN.out]
  exact ⟨HOz.out, HCz.out, _, rfl, rfl⟩
end Go.Proofs.YtfbbifdfjjkknaaDoor.Gen
