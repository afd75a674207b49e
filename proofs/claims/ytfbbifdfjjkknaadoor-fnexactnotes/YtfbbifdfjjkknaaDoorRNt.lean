/-
  A note's body read by the program's reader. Condition: at most 1048576 bytes.
-/
import Derived.Test.YtfbbifdfjjkknaaDoorREnt
namespace Go.Proofs.YtfbbifdfjjkknaaDoor.Gen
open Go.ChangeShapes Go.WideShapes Go.ChangeAt Go.RowKit Go.Joins Go.Deep Base
set_option linter.unusedVariables false
set_option linter.unusedSimpArgs false

/-- A note as it is read. -/
structure Nt where
  kind : Int
  term : Int
  vote : Int
  prev : Int
  l : List En
  snap : ByteArray
def getNt (l : List UInt8) (i : Int) : Option (Nt × Nat) := match getN l i with | none => none | some (n1, c1) => match getN l (c1 : Int) with | none => none | some (n2, c2) => match getN l (c2 : Int) with | none => none | some (n3, c3) => match getN l (c3 : Int) with | none => none | some (n4, c4) => match getList l (getEnt l) (c4 : Int) with | none => none | some (s5, c5) => match getT l (c5 : Int) with | none => none | some (s6, c6) => some (⟨(n1 : Int), (n2 : Int), (n3 : Int) - 1, (n4 : Int), s5, s6⟩, c6)
def isNt (B : Nat) (x : Nt) (v : Value) (W : World) : Prop := ∃ u, v = .agg #[.int .i64 x.kind, .int .i64 x.term, .int .i64 x.vote, .int .i64 x.prev, u, .string x.snap] ∧ isList 80 B x.l u W
theorem getNt_le {l : List UInt8} {i : Nat} {x : Nt} {c : Nat} (h : getNt l (i : Int) = some (x, c)) : i < c ∧ c ≤ l.length := by
  unfold getNt at h
  cases hx1 : getN l (i : Int) with
  | none => simp [hx1] at h
  | some p1 =>
  obtain ⟨n1, c1⟩ := p1
  have hl1 := getN_le hx1
  cases hx2 : getN l (c1 : Int) with
  | none => simp [hx1, hx2] at h
  | some p2 =>
  obtain ⟨n2, c2⟩ := p2
  have hl2 := getN_le hx2
  cases hx3 : getN l (c2 : Int) with
  | none => simp [hx1, hx2, hx3] at h
  | some p3 =>
  obtain ⟨n3, c3⟩ := p3
  have hl3 := getN_le hx3
  cases hx4 : getN l (c3 : Int) with
  | none => simp [hx1, hx2, hx3, hx4] at h
  | some p4 =>
  obtain ⟨n4, c4⟩ := p4
  have hl4 := getN_le hx4
  cases hx5 : getList l (getEnt l) (c4 : Int) with
  | none => simp [hx1, hx2, hx3, hx4, hx5] at h
  | some p5 =>
  obtain ⟨s5, c5⟩ := p5
  have hl5 := getList_le (fun i x c h => getEnt_le h) hx5
  cases hx6 : getT l (c5 : Int) with
  | none => simp [hx1, hx2, hx3, hx4, hx5, hx6] at h
  | some p6 =>
  obtain ⟨s6, c6⟩ := p6
  have hl6 := getT_le hx6
  simp [hx1, hx2, hx3, hx4, hx5, hx6] at h
  omega
set_option maxRecDepth 100000 in
set_option maxHeartbeats 4000000 in
theorem readNt_any (r : Nat) (A : Option Addr) (cap : Nat) (l : List UInt8) (i : Int) (hl : l.length ≤ 1048576) (hcap : l.length ≤ cap) (hcm : cap ≤ 9223372036854775807) (w : World) (h : Rd w r A cap l i) :
    Calls Tryd.prog 26 #[.pointer (some ⟨r, 0, none⟩)] w fun e w' => Reads (isNt w.heap.size) r A cap l w e w' (getNt l i) := by
  obtain ⟨hr, hfar⟩ := h.far'
  have Hfar : Hid (l = [] ∨ ∀ c o, A = some ⟨c, o, none⟩ → c ≠ w.heap.size + 1) := hidP (hfar.imp id fun h c o e => by have := h c o e; omega)
  have Hfar0 : Hid (l = [] ∨ ∀ c o, A = some ⟨c, o, none⟩ → c ≠ w.heap.size) := hidP (hfar.imp id fun h c o e => by have := h c o e; omega)
  have px0 := Blk.new (w.alloc (.cells #[.int .i64 0, .int .i64 0, .int .i64 0, .int .i64 0, .slice none 0 0, .string ⟨#[]⟩] 34)) 34 #[.int .i64 0, .int .i64 0, .int .i64 0, .int .i64 0, .slice none 0 0, .string ⟨#[]⟩]
  have pr0 := (Blk.new w 34 #[.int .i64 0, .int .i64 0, .int .i64 0, .int .i64 0, .slice none 0 0, .string ⟨#[]⟩]).alloc (.cells #[.int .i64 0, .int .i64 0, .int .i64 0, .int .i64 0, .slice none 0 0, .string ⟨#[]⟩] 34)
  simp only [World.size_alloc] at px0
  have HC0 := hidP (h.below (alloc0 (alloc0 (Below.refl _ w) (.cells #[.int .i64 0, .int .i64 0, .int .i64 0, .int .i64 0, .slice none 0 0, .string ⟨#[]⟩] 34)) (.cells #[.int .i64 0, .int .i64 0, .int .i64 0, .int .i64 0, .slice none 0 0, .string ⟨#[]⟩] 34)))
  have HO0 : Hid (Only r w ((w.alloc (.cells #[.int .i64 0, .int .i64 0, .int .i64 0, .int .i64 0, .slice none 0 0, .string ⟨#[]⟩] 34)).alloc (.cells #[.int .i64 0, .int .i64 0, .int .i64 0, .int .i64 0, .slice none 0 0, .string ⟨#[]⟩] 34))) := (Only.refl r w).below (alloc0 (alloc0 (Below.refl _ w) _) _)
  have Hpx0 := hidP px0
  have Hpr0 := hidP pr0
  clear px0 pr0 h hfar
  go_enter Tryd.func26, Tryd.ntmps26
  go_wp2_with fail
  refine (readNum_any r A cap l (i) hl _ HC0.out).mono ?_
  intro e w1 h1
  cases hx1 : getN l (i) with
  | none =>
    have hN : getNt l i = none := by simp [getNt, hx1]
    rw [hx1] at h1
    obtain ⟨o1, t, v, rfl⟩ := h1
    refine ⟨rfl, ?_⟩
    rw [hN]
    exact ⟨only_trans HO0.out o1, t, v, rfl⟩
  | some x =>
  obtain ⟨n1, c1⟩ := x
  rw [hx1] at h1
  obtain ⟨o1, h1, v, rfl, rfl⟩ := h1
  have hle1 := getN_le hx1
  have p1 : Blk w1 (w.heap.size + 1) 34 #[.int .i64 0, .int .i64 0, .int .i64 0, .int .i64 0, .slice none 0 0, .string ⟨#[]⟩] := Hpx0.out.only o1 (by omega)
  have g1 := Hpr0.out.only o1 (by omega)
  have d0 : w1.cell? ⟨w.heap.size + 1, 0, none⟩ = some (.int .i64 0) := p1.cell (i := 0) rfl
  have f0 := p1.thaw 0
  have q1' := p1.lt
  have Hpx1 : Hid (Blk (w1.setCell ⟨w.heap.size + 1, 0, none⟩ (Value.int .i64 (n1 : Int))) (w.heap.size + 1) 34 #[Value.int .i64 (n1 : Int), .int .i64 0, .int .i64 0, .int .i64 0, .slice none 0 0, .string ⟨#[]⟩]) := hidP (p1.setAt 0 (Value.int .i64 (n1 : Int)))
  have Hpr1 := hidP (g1.other (show w.heap.size ≠ w.heap.size + 1 by omega) 0 (Value.int .i64 (n1 : Int)))
  have HC1 := hidP (h1.offp (Offp.of_only ((Only.refl (w.heap.size + 1) w1).set 0 (Value.int .i64 (n1 : Int)))) (by show r ≠ _; omega) Hfar.out)
  have HO1 := hidP (only_offp (only_trans HO0.out o1) (Offp.of_only ((Only.refl (w.heap.size + 1) w1).set 0 (Value.int .i64 (n1 : Int)))) (fun x e => by subst e; omega))
  clear o1 h1 p1 g1 HC0 HO0 Hpx0 Hpr0
  go_wp2_with fail
  refine (readNum_any r A cap l ((c1 : Int)) hl _ HC1.out).mono ?_
  intro e w2 h2
  cases hx2 : getN l ((c1 : Int)) with
  | none =>
    have hN : getNt l i = none := by simp [getNt, hx1, hx2]
    rw [hx2] at h2
    obtain ⟨o2, t, v, rfl⟩ := h2
    refine ⟨rfl, ?_⟩
    rw [hN]
    exact ⟨only_trans HO1.out o2, t, v, rfl⟩
  | some x =>
  obtain ⟨n2, c2⟩ := x
  rw [hx2] at h2
  obtain ⟨o2, h2, v, rfl, rfl⟩ := h2
  have hle2 := getN_le hx2
  have p2 : Blk w2 (w.heap.size + 1) 34 #[Value.int .i64 (n1 : Int), .int .i64 0, .int .i64 0, .int .i64 0, .slice none 0 0, .string ⟨#[]⟩] := Hpx1.out.only o2 (by omega)
  have g2 := Hpr1.out.only o2 (by omega)
  have d1 : w2.cell? ⟨w.heap.size + 1, 1, none⟩ = some (.int .i64 0) := p2.cell (i := 1) rfl
  have f1 := p2.thaw 1
  have q2' := p2.lt
  have Hpx2 : Hid (Blk (w2.setCell ⟨w.heap.size + 1, 1, none⟩ (Value.int .i64 (n2 : Int))) (w.heap.size + 1) 34 #[Value.int .i64 (n1 : Int), Value.int .i64 (n2 : Int), .int .i64 0, .int .i64 0, .slice none 0 0, .string ⟨#[]⟩]) := hidP (p2.setAt 1 (Value.int .i64 (n2 : Int)))
  have Hpr2 := hidP (g2.other (show w.heap.size ≠ w.heap.size + 1 by omega) 1 (Value.int .i64 (n2 : Int)))
  have HC2 := hidP (h2.offp (Offp.of_only ((Only.refl (w.heap.size + 1) w2).set 1 (Value.int .i64 (n2 : Int)))) (by show r ≠ _; omega) Hfar.out)
  have HO2 := hidP (only_offp (only_trans HO1.out o2) (Offp.of_only ((Only.refl (w.heap.size + 1) w2).set 1 (Value.int .i64 (n2 : Int)))) (fun x e => by subst e; omega))
  clear o2 h2 p2 g2 HC1 HO1 Hpx1 Hpr1 d0 f0 q1'
  go_wp2_with fail
  refine (readNum_any r A cap l ((c2 : Int)) hl _ HC2.out).mono ?_
  intro e w3 h3
  cases hx3 : getN l ((c2 : Int)) with
  | none =>
    have hN : getNt l i = none := by simp [getNt, hx1, hx2, hx3]
    rw [hx3] at h3
    obtain ⟨o3, t, v, rfl⟩ := h3
    refine ⟨rfl, ?_⟩
    rw [hN]
    exact ⟨only_trans HO2.out o3, t, v, rfl⟩
  | some x =>
  obtain ⟨n3, c3⟩ := x
  rw [hx3] at h3
  obtain ⟨o3, h3, v, rfl, rfl⟩ := h3
  have hle3 := getN_le hx3
  have p3 : Blk w3 (w.heap.size + 1) 34 #[Value.int .i64 (n1 : Int), Value.int .i64 (n2 : Int), .int .i64 0, .int .i64 0, .slice none 0 0, .string ⟨#[]⟩] := Hpx2.out.only o3 (by omega)
  have g3 := Hpr2.out.only o3 (by omega)
  have d2 : w3.cell? ⟨w.heap.size + 1, 2, none⟩ = some (.int .i64 0) := p3.cell (i := 2) rfl
  have f2 := p3.thaw 2
  have q3' := p3.lt
  have Hpx3 : Hid (Blk (w3.setCell ⟨w.heap.size + 1, 2, none⟩ (Value.int .i64 ((n3 : Int) - 1))) (w.heap.size + 1) 34 #[Value.int .i64 (n1 : Int), Value.int .i64 (n2 : Int), Value.int .i64 ((n3 : Int) - 1), .int .i64 0, .slice none 0 0, .string ⟨#[]⟩]) := hidP (p3.setAt 2 (Value.int .i64 ((n3 : Int) - 1)))
  have Hpr3 := hidP (g3.other (show w.heap.size ≠ w.heap.size + 1 by omega) 2 (Value.int .i64 ((n3 : Int) - 1)))
  have HC3 := hidP (h3.offp (Offp.of_only ((Only.refl (w.heap.size + 1) w3).set 2 (Value.int .i64 ((n3 : Int) - 1)))) (by show r ≠ _; omega) Hfar.out)
  have HO3 := hidP (only_offp (only_trans HO2.out o3) (Offp.of_only ((Only.refl (w.heap.size + 1) w3).set 2 (Value.int .i64 ((n3 : Int) - 1)))) (fun x e => by subst e; omega))
  clear o3 h3 p3 g3 HC2 HO2 Hpx2 Hpr2 d1 f1 q2'
  go_wp2_with fail
  refine (readNum_any r A cap l ((c3 : Int)) hl _ HC3.out).mono ?_
  intro e w4 h4
  cases hx4 : getN l ((c3 : Int)) with
  | none =>
    have hN : getNt l i = none := by simp [getNt, hx1, hx2, hx3, hx4]
    rw [hx4] at h4
    obtain ⟨o4, t, v, rfl⟩ := h4
    refine ⟨rfl, ?_⟩
    rw [hN]
    exact ⟨only_trans HO3.out o4, t, v, rfl⟩
  | some x =>
  obtain ⟨n4, c4⟩ := x
  rw [hx4] at h4
  obtain ⟨o4, h4, v, rfl, rfl⟩ := h4
  have hle4 := getN_le hx4
  have p4 : Blk w4 (w.heap.size + 1) 34 #[Value.int .i64 (n1 : Int), Value.int .i64 (n2 : Int), Value.int .i64 ((n3 : Int) - 1), .int .i64 0, .slice none 0 0, .string ⟨#[]⟩] := Hpx3.out.only o4 (by omega)
  have g4 := Hpr3.out.only o4 (by omega)
  have d3 : w4.cell? ⟨w.heap.size + 1, 3, none⟩ = some (.int .i64 0) := p4.cell (i := 3) rfl
  have f3 := p4.thaw 3
  have q4' := p4.lt
  have Hpx4 : Hid (Blk (w4.setCell ⟨w.heap.size + 1, 3, none⟩ (Value.int .i64 (n4 : Int))) (w.heap.size + 1) 34 #[Value.int .i64 (n1 : Int), Value.int .i64 (n2 : Int), Value.int .i64 ((n3 : Int) - 1), Value.int .i64 (n4 : Int), .slice none 0 0, .string ⟨#[]⟩]) := hidP (p4.setAt 3 (Value.int .i64 (n4 : Int)))
  have Hpr4 := hidP (g4.other (show w.heap.size ≠ w.heap.size + 1 by omega) 3 (Value.int .i64 (n4 : Int)))
  have HC4 := hidP (h4.offp (Offp.of_only ((Only.refl (w.heap.size + 1) w4).set 3 (Value.int .i64 (n4 : Int)))) (by show r ≠ _; omega) Hfar.out)
  have HO4 := hidP (only_offp (only_trans HO3.out o4) (Offp.of_only ((Only.refl (w.heap.size + 1) w4).set 3 (Value.int .i64 (n4 : Int)))) (fun x e => by subst e; omega))
  clear o4 h4 p4 g4 HC3 HO3 Hpx3 Hpr3 d2 f2 q3'
  go_wp2_with fail
  refine (readListEn_any r A cap l ((c4 : Int)) hl hcap hcm _ HC4.out).mono ?_
  intro e w5 h5
  cases hx5 : getList l (getEnt l) ((c4 : Int)) with
  | none =>
    have hN : getNt l i = none := by simp [getNt, hx1, hx2, hx3, hx4, hx5]
    rw [hx5] at h5
    obtain ⟨o5, t, v, rfl⟩ := h5
    refine ⟨rfl, ?_⟩
    rw [hN]
    exact ⟨only_trans HO4.out o5, t, v, rfl⟩
  | some x =>
  obtain ⟨s5, c5⟩ := x
  rw [hx5] at h5
  obtain ⟨o5, h5, v, rfl, hv⟩ := h5
  have hle5 := getList_le (fun i x c h => getEnt_le h) hx5
  have hv' := hv.mono (B' := w.heap.size + 2) (Nat.succ_le_of_lt Hpx4.out.lt)
  obtain ⟨a, cp, rfl, hown⟩ := hv'
  have HL := hidP (owns_only' hown ((Only.refl (w.heap.size + 1) w5).set 4 (Value.slice a (List.length s5) cp)) (by omega))
  clear hv hown
  have p5 : Blk w5 (w.heap.size + 1) 34 #[Value.int .i64 (n1 : Int), Value.int .i64 (n2 : Int), Value.int .i64 ((n3 : Int) - 1), Value.int .i64 (n4 : Int), .slice none 0 0, .string ⟨#[]⟩] := Hpx4.out.only o5 (by omega)
  have g5 := Hpr4.out.only o5 (by omega)
  have d4 : w5.cell? ⟨w.heap.size + 1, 4, none⟩ = some (.slice none 0 0) := p5.cell (i := 4) rfl
  have f4 := p5.thaw 4
  have q5' := p5.lt
  have Hpx5 : Hid (Blk (w5.setCell ⟨w.heap.size + 1, 4, none⟩ (Value.slice a (List.length s5) cp)) (w.heap.size + 1) 34 #[Value.int .i64 (n1 : Int), Value.int .i64 (n2 : Int), Value.int .i64 ((n3 : Int) - 1), Value.int .i64 (n4 : Int), Value.slice a (List.length s5) cp, .string ⟨#[]⟩]) := hidP (p5.setAt 4 (Value.slice a (List.length s5) cp))
  have Hpr5 := hidP (g5.other (show w.heap.size ≠ w.heap.size + 1 by omega) 4 (Value.slice a (List.length s5) cp))
  have HC5 := hidP (h5.offp (Offp.of_only ((Only.refl (w.heap.size + 1) w5).set 4 (Value.slice a (List.length s5) cp))) (by show r ≠ _; omega) Hfar.out)
  have HO5 := hidP (only_offp (only_trans HO4.out o5) (Offp.of_only ((Only.refl (w.heap.size + 1) w5).set 4 (Value.slice a (List.length s5) cp))) (fun x e => by subst e; omega))
  clear o5 h5 p5 g5 HC4 HO4 Hpx4 Hpr4 d3 f3 q4'
  go_wp2_with fail
  refine (readTxt_any r A cap l ((c5 : Int)) hl hcap hcm _ HC5.out).mono ?_
  intro e w6 h6
  cases hx6 : getT l ((c5 : Int)) with
  | none =>
    have hN : getNt l i = none := by simp [getNt, hx1, hx2, hx3, hx4, hx5, hx6]
    rw [hx6] at h6
    obtain ⟨o6, t, v, rfl⟩ := h6
    refine ⟨rfl, ?_⟩
    rw [hN]
    exact ⟨only_trans HO5.out o6, t, v, rfl⟩
  | some x =>
  obtain ⟨s6, c6⟩ := x
  rw [hx6] at h6
  obtain ⟨o6, h6, v, rfl, rfl⟩ := h6
  have hle6 := getT_le hx6
  have HL := hidP (owns_only' (owns_only' HL.out o6 (by omega)) ((Only.refl (w.heap.size + 1) w6).set 5 (Value.string s6)) (by omega))
  have p6 : Blk w6 (w.heap.size + 1) 34 #[Value.int .i64 (n1 : Int), Value.int .i64 (n2 : Int), Value.int .i64 ((n3 : Int) - 1), Value.int .i64 (n4 : Int), Value.slice a (List.length s5) cp, .string ⟨#[]⟩] := Hpx5.out.only o6 (by omega)
  have g6 := Hpr5.out.only o6 (by omega)
  have d5 : w6.cell? ⟨w.heap.size + 1, 5, none⟩ = some (.string ⟨#[]⟩) := p6.cell (i := 5) rfl
  have f5 := p6.thaw 5
  have q6' := p6.lt
  have e0 : w6.cell? ⟨w.heap.size + 1, 0, none⟩ = some (Value.int .i64 (n1 : Int)) := p6.cell (i := 0) rfl
  have e1 : w6.cell? ⟨w.heap.size + 1, 1, none⟩ = some (Value.int .i64 (n2 : Int)) := p6.cell (i := 1) rfl
  have e2 : w6.cell? ⟨w.heap.size + 1, 2, none⟩ = some (Value.int .i64 ((n3 : Int) - 1)) := p6.cell (i := 2) rfl
  have e3 : w6.cell? ⟨w.heap.size + 1, 3, none⟩ = some (Value.int .i64 (n4 : Int)) := p6.cell (i := 3) rfl
  have e4 : w6.cell? ⟨w.heap.size + 1, 4, none⟩ = some (Value.slice a (List.length s5) cp) := p6.cell (i := 4) rfl
  have r0 : w6.cell? ⟨w.heap.size, 0, none⟩ = some (.int .i64 0) := g6.cell (i := 0) rfl
  have z0 := g6.thaw 0
  have r1 : w6.cell? ⟨w.heap.size, 1, none⟩ = some (.int .i64 0) := g6.cell (i := 1) rfl
  have z1 := g6.thaw 1
  have r2 : w6.cell? ⟨w.heap.size, 2, none⟩ = some (.int .i64 0) := g6.cell (i := 2) rfl
  have z2 := g6.thaw 2
  have r3 : w6.cell? ⟨w.heap.size, 3, none⟩ = some (.int .i64 0) := g6.cell (i := 3) rfl
  have z3 := g6.thaw 3
  have r4 : w6.cell? ⟨w.heap.size, 4, none⟩ = some (.slice none 0 0) := g6.cell (i := 4) rfl
  have z4 := g6.thaw 4
  have r5 : w6.cell? ⟨w.heap.size, 5, none⟩ = some (.string ⟨#[]⟩) := g6.cell (i := 5) rfl
  have z5 := g6.thaw 5
  have qr := g6.lt
  have Hpx6 : Hid (Blk (w6.setCell ⟨w.heap.size + 1, 5, none⟩ (Value.string s6)) (w.heap.size + 1) 34 #[Value.int .i64 (n1 : Int), Value.int .i64 (n2 : Int), Value.int .i64 ((n3 : Int) - 1), Value.int .i64 (n4 : Int), Value.slice a (List.length s5) cp, Value.string s6]) := hidP (p6.setAt 5 (Value.string s6))
  have Hpr6 := hidP (g6.other (show w.heap.size ≠ w.heap.size + 1 by omega) 5 (Value.string s6))
  have HC6 := hidP (h6.offp (Offp.of_only ((Only.refl (w.heap.size + 1) w6).set 5 (Value.string s6))) (by show r ≠ _; omega) Hfar.out)
  have HO6 := hidP (only_offp (only_trans HO5.out o6) (Offp.of_only ((Only.refl (w.heap.size + 1) w6).set 5 (Value.string s6))) (fun x e => by subst e; omega))
  clear o6 h6 p6 g6 HC5 HO5 Hpx5 Hpr5 d4 f4 q5'
  have HOz := hidP (only_offp (HO6.out) (Offp.of_only (((((((Only.refl w.heap.size _).set 0 (Value.int .i64 (n1 : Int))).set 1 (Value.int .i64 (n2 : Int))).set 2 (Value.int .i64 ((n3 : Int) - 1))).set 3 (Value.int .i64 (n4 : Int))).set 4 (Value.slice a (List.length s5) cp)).set 5 (Value.string s6))) (fun x e => by subst e; exact Nat.le_refl _))
  have HCz := hidP (Rd.offp (HC6.out) (Offp.of_only (((((((Only.refl w.heap.size _).set 0 (Value.int .i64 (n1 : Int))).set 1 (Value.int .i64 (n2 : Int))).set 2 (Value.int .i64 ((n3 : Int) - 1))).set 3 (Value.int .i64 (n4 : Int))).set 4 (Value.slice a (List.length s5) cp)).set 5 (Value.string s6))) (by show r ≠ _; omega) Hfar0.out)
  have HLz := hidP (owns_only' HL.out (((((((Only.refl w.heap.size _).set 0 (Value.int .i64 (n1 : Int))).set 1 (Value.int .i64 (n2 : Int))).set 2 (Value.int .i64 ((n3 : Int) - 1))).set 3 (Value.int .i64 (n4 : Int))).set 4 (Value.slice a (List.length s5) cp)).set 5 (Value.string s6)) (by omega))
  have hN : Hid (getNt l i = some (⟨(n1 : Int), (n2 : Int), (n3 : Int) - 1, (n4 : Int), s5, s6⟩, c6)) := hidP (by simp [getNt, hx1, hx2, hx3, hx4, hx5, hx6])
  clear HO6 HC6 Hpx6 Hpr6 HL
  go_wp2
  refine bodyPost_ret (v := .agg #[Value.int .i64 (n1 : Int), Value.int .i64 (n2 : Int), Value.int .i64 ((n3 : Int) - 1), Value.int .i64 (n4 : Int), Value.slice a (List.length s5) cp, Value.string s6]) (by simp [results, Tryd.results26, go_sem, r0, r1, r2, r3, r4, r5]) rfl ?_
  rw [hN.out]
  exact ⟨HOz.out, HCz.out, _, rfl, _, rfl, isList.mono ⟨a, cp, rfl, HLz.out⟩ (Nat.le_add_right _ 2)⟩
end Go.Proofs.YtfbbifdfjjkknaaDoor.Gen
