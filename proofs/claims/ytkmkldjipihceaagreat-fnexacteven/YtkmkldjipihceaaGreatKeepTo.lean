/-
  A keeper that a law is handed: its size told, made anew in memory of its own, and opened. No condition but the length that every list and text has.
-/
import Derived.Test.YtkmkldjipihceaaGreatMakList2
set_option linter.unusedVariables false
set_option linter.unusedSimpArgs false
set_option maxRecDepth 100000
set_option maxHeartbeats 8000000
set_option maxRecDepth 100000
set_option maxHeartbeats 8000000
namespace Go.Proofs.YtkmkldjipihceaaGreat.Gen
open ChangeShapes WideShapes ChangeAt RowKit Joins Deep Base
structure KRight (x : KC) : Prop where
  rl : x.rs.length <= 9223372036854775807
  ml : x.ms.length <= 9223372036854775807
  gl : x.gs.length <= 9223372036854775807
  dl : x.ds.length <= 9223372036854775807
  ll : x.ls.length <= 9223372036854775807
  rr : ∀ y ∈ x.rs, y.right
  mr : ∀ y ∈ x.ms, y.right
  gr : ∀ y ∈ x.gs, y.right
  dr : ∀ y ∈ x.ds, I64 y
  lr : ∀ y ∈ x.ls, y.right
  t : I64 x.time
theorem Qby {α : Type} (c s : α -> Nat) (p q : Nat) : ∀ (l : List α), (∀ y ∈ l, c y <= p + q * s y) -> Qat c l <= p * l.length + q * Qat s l
 | [], _ => by simp [Qat]
 | a :: l, h => by
  have h1 := Qby c s p q l (fun y hy => h y (by simp [hy]))
  have h2 := h a (by simp)
  simp only [Qat, List.map_cons, List.sum_cons, List.length_cons, Nat.mul_add] at h1 ⊢
  omega
theorem fit_of {x : KC} (h : x.rs.length + Qat szRC x.rs + szM x.ms + x.gs.length + Qat szGC x.gs + x.ds.length + x.ls.length + Qat szAn x.ls <= 1048576) : KFit x := by
 have hm : szM x.ms = x.ms.length + Qat (fun y : MC => y.ms.length) x.ms := rfl
 have c1 := Qby cR szRC 2 5 x.rs (fun y _ => by simp only [cR, szRC]; omega)
 have c2 := Qby cM (fun y : MC => y.ms.length) 4 2 x.ms (fun y _ => by simp only [cM]; omega)
 have c3 := Qby cG szGC 1 1 x.gs (fun y _ => by simp only [cG, szGC]; omega)
 refine ⟨by omega, by omega, by omega, by omega, by omega, fun y hy => ?_, fun y hy => ?_, fun y hy => ?_, by omega, by omega, by omega⟩
 . have h9 := Qc2 szRC x.rs y hy; simp only [szRC] at h9; omega
 . have h9 : y.ms.length <= Qat (fun y : MC => y.ms.length) x.ms := Qc2 (fun y : MC => y.ms.length) x.ms y hy; omega
 . have h9 := Qc2 szGC x.gs y hy; simp only [szGC] at h9; omega
theorem kct_of (x : KC) : (kct x : Int) <= 5 * ((x.rs.length : Int) + (Qat szRC x.rs : Int)) + 4 * ((x.ms.length : Int) + (Qat (fun y : MC => y.ms.length) x.ms : Int)) + ((x.gs.length : Int) + (Qat szGC x.gs : Int)) + (x.ds.length : Int) + 4 * (x.ls.length : Int) := by
 have c1 := Qby cR szRC 2 5 x.rs (fun y _ => by simp only [cR, szRC]; omega)
 have c2 := Qby cM (fun y : MC => y.ms.length) 4 2 x.ms (fun y _ => by simp only [cM]; omega)
 have c3 := Qby cG szGC 1 1 x.gs (fun y _ => by simp only [cG, szGC]; omega)
 unfold kct
 omega
theorem Qff (x : KC) (hr : KRight x) (left : Int) (k0 : 0 <= left) (k1 : left <= 1048576) (w : World) (hx : KAt w x) :
 Calls Tryz.prog 73 #[.agg (Qae x.rA x.rs.length x.rc x.mA x.ms.length x.mc x.gA x.gs.length x.gc x.time x.dA x.ds.length x.dc x.lA x.ls.length x.lc), .int .i64 left] w fun e w' => (∃ r : Int, e = .returned (.int .i64 r) /\ (r < 0 ∨ (0 <= r /\ r <= left /\ KFit x /\ (kct x : Int) <= 5 * (left - r)))) /\ Below w.heap.size w w' := by
 have HX := hidP hx
 have Hr := hidP hr
 clear hx hr
 have p0 : Blk (w.alloc (.cells (Qae x.rA x.rs.length x.rc x.mA x.ms.length x.mc x.gA x.gs.length x.gc x.time x.dA x.ds.length x.dc x.lA x.ls.length x.lc) 92)) w.heap.size 92 (Qae x.rA x.rs.length x.rc x.mA x.ms.length x.mc x.gA x.gs.length x.gc x.time x.dA x.ds.length x.dc x.lA x.ls.length x.lc) := Blk.new w _ _
 have B0 : Below w.heap.size w (w.alloc (.cells (Qae x.rA x.rs.length x.rc x.mA x.ms.length x.mc x.gA x.gs.length x.gc x.time x.dA x.ds.length x.dc x.lA x.ls.length x.lc) 92)) := Qab (Below.refl _ _) _
 go_enter Tryz.func73, Tryz.ntmps73
 go_wp2_with fail
 refine (szRowS_any _ _ x.rs Hr.out.rl Hr.out.rr left k0 k1 _ (HX.out.below B0).ra (HX.out.below B0).re).mono ?_
 rintro e w1 ⟨⟨z1, rfl, hz⟩, g⟩
 have p1 := p0.below g p0.lt
 have B1 := via0 g B0
 clear p0 B0 g
 obtain ⟨u0, u1, u2, u3, u4, u5⟩ := p1.row6
 rcases hz with hz | ⟨hz, hz1⟩
 . go_wp2
   go_ret
   exact ⟨⟨-1, rfl, .inl (by omega)⟩, B1⟩
 have n1 : ¬ z1 < 0 := by omega
 have Hz1 := hidP hz1
 have b1 : z1 <= 1048576 := by omega
 clear hz1
 go_wp2_with fail
 refine (Qgm _ _ x.ms Hr.out.ml (fun y hy => (Hr.out.mr y hy).2.2.2.2.1) z1 hz b1 _ (HX.out.below B1).ma).mono ?_
 rintro e w2 ⟨⟨z2, rfl, hz⟩, g⟩
 have p2 := p1.below g p1.lt
 have B2 := via0 g B1
 clear p1 B1 g u0 u1 u2 u3 u4 u5
 obtain ⟨u0, u1, u2, u3, u4, u5⟩ := p2.row6
 rcases hz with hz | ⟨hz, hz2⟩
 . go_wp2
   go_ret
   exact ⟨⟨-1, rfl, .inl (by omega)⟩, B2⟩
 have n2 : ¬ z2 < 0 := by omega
 have Hz2 := hidP hz2
 have b2 : z2 <= 1048576 := by omega
 clear hz2 n1 b1
 go_wp2_with fail
 refine (Qgo _ _ x.gs Hr.out.gl Hr.out.gr z2 hz b2 _ (HX.out.below B2).ga (HX.out.below B2).ge).mono ?_
 rintro e w3 ⟨⟨z3, rfl, hz⟩, g⟩
 have p3 := p2.below g p2.lt
 have B3 := via0 g B2
 clear p2 B2 g u0 u1 u2 u3 u4 u5
 obtain ⟨u0, u1, u2, u3, u4, u5⟩ := p3.row6
 rcases hz with hz | ⟨hz, hz3⟩
 . go_wp2
   go_ret
   exact ⟨⟨-1, rfl, .inl (by omega)⟩, B3⟩
 have n3 : ¬ z3 < 0 := by omega
 have Hz3 := hidP hz3
 have b3 : z3 <= 1048576 := by omega
 clear hz3 n2 b2
 obtain ⟨z4, hz4⟩ : ∃ z : Int, z = (if z3 < (x.ds.length : Int) then -1 else z3 - (x.ds.length : Int)) := ⟨_, rfl⟩
 have S4 : Hid (∀ W : World, Calls Tryz.prog 15 #[.slice x.dA x.ds.length x.dc, .int .i64 z3] W fun e w' => e = .returned (.int .i64 z4) /\ w' = W) := fun W => by
  refine (Qb5 x.dA x.ds.length x.dc Hr.out.dl z3 hz b3 W).mono ?_
  rw [← hz4]
  exact fun e w' h => h
 have Hz4 := hidP hz4
 clear hz4
 go_wp2_with fail
 refine (S4.out _).mono ?_
 rintro e w4 ⟨rfl, rfl⟩
 by_cases k4 : z4 < 0
 . go_wp2
   go_ret
   exact ⟨⟨-1, rfl, .inl (by omega)⟩, B3⟩
 have e4 : Hid (z4 = z3 - (x.ds.length : Int)) := by
  have h := Hz4.out
  split at h
  . omega
  . exact h
 have b4 : z4 <= 1048576 := by have := e4.out; omega
 clear Hz4 n3 b3
 go_wp2_with fail
 refine (Qfs _ _ x.ls Hr.out.ll (fun y hy => (Hr.out.lr y hy).2.2) z4 (by omega) b4 _ (HX.out.below B3).la).mono ?_
 rintro e w5 ⟨⟨z5, rfl, hz⟩, g⟩
 have B5 := via0 g B3
 clear p3 B3 g u0 u1 u2 u3 u4 u5
 rcases hz with hz | ⟨hz, hz5⟩
 . go_wp2
   go_ret
   exact ⟨⟨-1, rfl, .inl (by omega)⟩, B5⟩
 have n5 : ¬ z5 < 0 := by omega
 have Hz5 := hidP hz5
 clear hz5
 go_wp2
 go_ret
 have hle : z5 <= left := by
  have h1 := Hz1.out
  have h2 := Hz2.out
  have h3 := Hz3.out
  have h4 := e4.out
  have h5 := Hz5.out
  omega
 refine ⟨⟨z5, rfl, .inr ⟨hz, hle, fit_of ?_, ?_⟩⟩, B5⟩
 rotate_left
 . have h1 := Hz1.out
   have h2 := Hz2.out
   have h3 := Hz3.out
   have h4 := e4.out
   have h5 := Hz5.out
   have c := kct_of x
   have hm : szM x.ms = x.ms.length + Qat (fun y : MC => y.ms.length) x.ms := rfl
   omega
 have h1 := Hz1.out
 have h2 := Hz2.out
 have h3 := Hz3.out
 have h4 := e4.out
 have h5 := Hz5.out
 omega
def NewK (w w' : World) (e : Ending) (c : PK) : Prop := ∃ y : KC, e = .returned (.agg y.cells) /\ y.p = c /\ KOwn w' y (fun b => w.heap.size <= b /\ b < w'.heap.size) /\ Below w.heap.size w w'
theorem Qfb (x : KC) (hf : KFit x) (w : World) (hx : KAt w x) :
 Calls Tryz.prog 85 #[.agg (Qae x.rA x.rs.length x.rc x.mA x.ms.length x.mc x.gA x.gs.length x.gc x.time x.dA x.ds.length x.dc x.lA x.ls.length x.lc)] w fun e w' => NewK w w' e x.p := by
 have HX := hidP hx
 have Hf := hidP hf
 clear hx hf
 have B : Below w.heap.size w (((w.alloc (.cells (Qae x.rA x.rs.length x.rc x.mA x.ms.length x.mc x.gA x.gs.length x.gc x.time x.dA x.ds.length x.dc x.lA x.ls.length x.lc) 92)).alloc (.cells Qay 59)).alloc (.cells Qay 59)) := by repeat (first | exact Below.refl _ _ | assumption | refine via0 (by assumption) ?_ | refine Below.drew ?_ | refine Qab ?_ _)
 have P1 : Blk (((w.alloc (.cells (Qae x.rA x.rs.length x.rc x.mA x.ms.length x.mc x.gA x.gs.length x.gc x.time x.dA x.ds.length x.dc x.lA x.ls.length x.lc) 92)).alloc (.cells Qay 59)).alloc (.cells Qay 59)) w.heap.size 92 (Qae x.rA x.rs.length x.rc x.mA x.ms.length x.mc x.gA x.gs.length x.gc x.time x.dA x.ds.length x.dc x.lA x.ls.length x.lc) := ((Blk.new w _ _).alloc _).alloc _
 have P2 : Blk (((w.alloc (.cells (Qae x.rA x.rs.length x.rc x.mA x.ms.length x.mc x.gA x.gs.length x.gc x.time x.dA x.ds.length x.dc x.lA x.ls.length x.lc) 92)).alloc (.cells Qay 59)).alloc (.cells Qay 59)) (w.heap.size + 1) 59 Qay := by have := (Blk.new (w.alloc (.cells (Qae x.rA x.rs.length x.rc x.mA x.ms.length x.mc x.gA x.gs.length x.gc x.time x.dA x.ds.length x.dc x.lA x.ls.length x.lc) 92)) 59 Qay).alloc (.cells Qay 59); rwa [World.size_alloc] at this
 have P3 : Blk (((w.alloc (.cells (Qae x.rA x.rs.length x.rc x.mA x.ms.length x.mc x.gA x.gs.length x.gc x.time x.dA x.ds.length x.dc x.lA x.ls.length x.lc) 92)).alloc (.cells Qay 59)).alloc (.cells Qay 59)) (w.heap.size + 1 + 1) 59 Qay := by have := Blk.new ((w.alloc (.cells (Qae x.rA x.rs.length x.rc x.mA x.ms.length x.mc x.gA x.gs.length x.gc x.time x.dA x.ds.length x.dc x.lA x.ls.length x.lc) 92)).alloc (.cells Qay 59)) 59 Qay; rwa [World.size_alloc, World.size_alloc] at this
 have z0 : w.heap.size + 1 + 1 < (((w.alloc (.cells (Qae x.rA x.rs.length x.rc x.mA x.ms.length x.mc x.gA x.gs.length x.gc x.time x.dA x.ds.length x.dc x.lA x.ls.length x.lc) 92)).alloc (.cells Qay 59)).alloc (.cells Qay 59)).heap.size := P3.lt
 go_enter Tryz.func85, Tryz.ntmps85
 obtain ⟨s0, hs0⟩ : ∃ s, (((w.alloc (.cells (Qae x.rA x.rs.length x.rc x.mA x.ms.length x.mc x.gA x.gs.length x.gc x.time x.dA x.ds.length x.dc x.lA x.ls.length x.lc) 92)).alloc (.cells Qay 59)).alloc (.cells Qay 59)).heap.size = s := ⟨_, rfl⟩
 have C : Hid (Calls Tryz.prog 119 #[.slice x.rA x.rs.length x.rc] (((w.alloc (.cells (Qae x.rA x.rs.length x.rc x.mA x.ms.length x.mc x.gA x.gs.length x.gc x.time x.dA x.ds.length x.dc x.lA x.ls.length x.lc) 92)).alloc (.cells Qay 59)).alloc (.cells Qay 59)) fun e w' => e = .returned (.slice (some ⟨s0, 0, none⟩) x.rs.length x.rs.length) /\ Below s0 (((w.alloc (.cells (Qae x.rA x.rs.length x.rc x.mA x.ms.length x.mc x.gA x.gs.length x.gc x.time x.dA x.ds.length x.dc x.lA x.ls.length x.lc) 92)).alloc (.cells Qay 59)).alloc (.cells Qay 59)) w' /\ ∃ l' : List RC, Grow rowP w' s0 x.rs.length l' /\ l'.map RC.p = x.rs.map RC.p) := by
  have h := toRowS_any x.rA x.rc x.rs Hf.out.rl Hf.out.ri (((w.alloc (.cells (Qae x.rA x.rs.length x.rc x.mA x.ms.length x.mc x.gA x.gs.length x.gc x.time x.dA x.ds.length x.dc x.lA x.ls.length x.lc) 92)).alloc (.cells Qay 59)).alloc (.cells Qay 59)) (HX.out.below B).ra (HX.out.below B).re
  rw [hs0] at h
  exact h
 go_wp2_with fail
 refine C.out.mono ?_
 rintro e w1 ⟨rfl, g, l1, Gr, hp1⟩
 rw [← hs0] at g
 replace B := via0 g B
 replace P1 := P1.below g P1.lt
 replace P2 := P2.below g P2.lt
 replace P3 := P3.below g P3.lt
 have zz1 := g.size
 have O1 := Gr.own
 clear C g
 obtain ⟨u0, u1, u2, u3, u4, u5⟩ := P1.row6
 obtain ⟨v0, v1, v2, v3, v4, v5⟩ := P3.row6
 have q1 := P1.lt
 have q3 := P3.lt
 have f0 := P3.thaw 0
 have f1 := P3.thaw 1
 have f2 := P3.thaw 2
 have f3 := P3.thaw 3
 have f4 := P3.thaw 4
 have f5 := P3.thaw 5
 have kk : Offp (fun b => b = w.heap.size + 1 + 1) w1 (w1.setCell ⟨w.heap.size + 1 + 1, 0, none⟩ (.slice (some ⟨s0, 0, none⟩) x.rs.length x.rs.length)) := Offp.of_only ((Only.refl _ _).set _ _)
 replace B := B.trans (kk.toBelow (B := w.heap.size) (fun b hb => by omega) B.size)
 replace P1 := P1.offp kk (by omega)
 replace P2 := P2.offp kk (by omega)
 replace P3 : Blk (w1.setCell ⟨w.heap.size + 1 + 1, 0, none⟩ (.slice (some ⟨s0, 0, none⟩) x.rs.length x.rs.length)) (w.heap.size + 1 + 1) 59 (Qae (some ⟨s0, 0, none⟩) x.rs.length x.rs.length none 0 0 none 0 0 0 none 0 0 none 0 0) := P3.setAt 0 _
 replace O1 := O1.offp Qa7 kk (fun b hb => by omega)
 clear kk
 have sz1 : (w1.setCell ⟨w.heap.size + 1 + 1, 0, none⟩ (.slice (some ⟨s0, 0, none⟩) x.rs.length x.rs.length)).heap.size = w1.heap.size := by simp
 obtain ⟨s1, hs1⟩ : ∃ s, (w1.setCell ⟨w.heap.size + 1 + 1, 0, none⟩ (.slice (some ⟨s0, 0, none⟩) x.rs.length x.rs.length)).heap.size = s := ⟨_, rfl⟩
 have C : Hid (Calls Tryz.prog 120 #[.slice x.mA x.ms.length x.mc] (w1.setCell ⟨w.heap.size + 1 + 1, 0, none⟩ (.slice (some ⟨s0, 0, none⟩) x.rs.length x.rs.length)) fun e w' => e = .returned (.slice (some ⟨s1, 0, none⟩) x.ms.length x.ms.length) /\ Below s1 (w1.setCell ⟨w.heap.size + 1 + 1, 0, none⟩ (.slice (some ⟨s0, 0, none⟩) x.rs.length x.rs.length)) w' /\ ∃ l' : List MC, Grow makP w' s1 x.ms.length l' /\ l'.map MC.p = x.ms.map MC.p) := by
  have h := Qfq x.mA x.mc x.ms Hf.out.ml Hf.out.mi (w1.setCell ⟨w.heap.size + 1 + 1, 0, none⟩ (.slice (some ⟨s0, 0, none⟩) x.rs.length x.rs.length)) (HX.out.below B).ma (HX.out.below B).me
  rw [hs1] at h
  exact h
 go_wp2_with fail
 clear u0 u1 u2 u3 u4 u5 v0 v1 v2 v3 v4 v5 q1 q3 f0 f1 f2 f3 f4 f5
 refine C.out.mono ?_
 rintro e w2 ⟨rfl, g, l2, Gr, hp2⟩
 rw [← hs1] at g
 replace B := via0 g B
 replace P1 := P1.below g P1.lt
 replace P2 := P2.below g P2.lt
 replace P3 := P3.below g P3.lt
 replace O1 := O1.below Qa7 g
 have zz2 := g.size
 have O2 := Gr.own
 clear C g
 obtain ⟨u0, u1, u2, u3, u4, u5⟩ := P1.row6
 obtain ⟨v0, v1, v2, v3, v4, v5⟩ := P3.row6
 have q1 := P1.lt
 have q3 := P3.lt
 have f0 := P3.thaw 0
 have f1 := P3.thaw 1
 have f2 := P3.thaw 2
 have f3 := P3.thaw 3
 have f4 := P3.thaw 4
 have f5 := P3.thaw 5
 have kk : Offp (fun b => b = w.heap.size + 1 + 1) w2 (w2.setCell ⟨w.heap.size + 1 + 1, 1, none⟩ (.slice (some ⟨s1, 0, none⟩) x.ms.length x.ms.length)) := Offp.of_only ((Only.refl _ _).set _ _)
 replace B := B.trans (kk.toBelow (B := w.heap.size) (fun b hb => by omega) B.size)
 replace P1 := P1.offp kk (by omega)
 replace P2 := P2.offp kk (by omega)
 replace P3 : Blk (w2.setCell ⟨w.heap.size + 1 + 1, 1, none⟩ (.slice (some ⟨s1, 0, none⟩) x.ms.length x.ms.length)) (w.heap.size + 1 + 1) 59 (Qae (some ⟨s0, 0, none⟩) x.rs.length x.rs.length (some ⟨s1, 0, none⟩) x.ms.length x.ms.length none 0 0 0 none 0 0 none 0 0) := P3.setAt 1 _
 replace O1 := O1.offp Qa7 kk (fun b hb => by omega)
 replace O2 := O2.offp Qbe kk (fun b hb => by omega)
 clear kk
 have sz2 : (w2.setCell ⟨w.heap.size + 1 + 1, 1, none⟩ (.slice (some ⟨s1, 0, none⟩) x.ms.length x.ms.length)).heap.size = w2.heap.size := by simp
 obtain ⟨s2, hs2⟩ : ∃ s, (w2.setCell ⟨w.heap.size + 1 + 1, 1, none⟩ (.slice (some ⟨s1, 0, none⟩) x.ms.length x.ms.length)).heap.size = s := ⟨_, rfl⟩
 have C : Hid (Calls Tryz.prog 121 #[.slice x.gA x.gs.length x.gc] (w2.setCell ⟨w.heap.size + 1 + 1, 1, none⟩ (.slice (some ⟨s1, 0, none⟩) x.ms.length x.ms.length)) fun e w' => e = .returned (.slice (some ⟨s2, 0, none⟩) x.gs.length x.gs.length) /\ Below s2 (w2.setCell ⟨w.heap.size + 1 + 1, 1, none⟩ (.slice (some ⟨s1, 0, none⟩) x.ms.length x.ms.length)) w' /\ ∃ l' : List GC, Grow grpP w' s2 x.gs.length l' /\ l'.map GC.p = x.gs.map GC.p) := by
  have h := Qgj x.gA x.gc x.gs Hf.out.gl Hf.out.gi (w2.setCell ⟨w.heap.size + 1 + 1, 1, none⟩ (.slice (some ⟨s1, 0, none⟩) x.ms.length x.ms.length)) (HX.out.below B).ga (HX.out.below B).ge
  rw [hs2] at h
  exact h
 go_wp2_with fail
 clear u0 u1 u2 u3 u4 u5 v0 v1 v2 v3 v4 v5 q1 q3 f0 f1 f2 f3 f4 f5
 refine C.out.mono ?_
 rintro e w3 ⟨rfl, g, l3, Gr, hp3⟩
 rw [← hs2] at g
 replace B := via0 g B
 replace P1 := P1.below g P1.lt
 replace P2 := P2.below g P2.lt
 replace P3 := P3.below g P3.lt
 replace O1 := O1.below Qa7 g
 replace O2 := O2.below Qbe g
 have zz3 := g.size
 have O3 := Gr.own
 clear C g
 obtain ⟨u0, u1, u2, u3, u4, u5⟩ := P1.row6
 obtain ⟨v0, v1, v2, v3, v4, v5⟩ := P3.row6
 have q1 := P1.lt
 have q3 := P3.lt
 have f0 := P3.thaw 0
 have f1 := P3.thaw 1
 have f2 := P3.thaw 2
 have f3 := P3.thaw 3
 have f4 := P3.thaw 4
 have f5 := P3.thaw 5
 have kk : Offp (fun b => b = w.heap.size + 1 + 1) w3 (w3.setCell ⟨w.heap.size + 1 + 1, 2, none⟩ (.slice (some ⟨s2, 0, none⟩) x.gs.length x.gs.length)) := Offp.of_only ((Only.refl _ _).set _ _)
 replace B := B.trans (kk.toBelow (B := w.heap.size) (fun b hb => by omega) B.size)
 replace P1 := P1.offp kk (by omega)
 replace P2 := P2.offp kk (by omega)
 replace P3 : Blk (w3.setCell ⟨w.heap.size + 1 + 1, 2, none⟩ (.slice (some ⟨s2, 0, none⟩) x.gs.length x.gs.length)) (w.heap.size + 1 + 1) 59 (Qae (some ⟨s0, 0, none⟩) x.rs.length x.rs.length (some ⟨s1, 0, none⟩) x.ms.length x.ms.length (some ⟨s2, 0, none⟩) x.gs.length x.gs.length 0 none 0 0 none 0 0) := P3.setAt 2 _
 replace O1 := O1.offp Qa7 kk (fun b hb => by omega)
 replace O2 := O2.offp Qbe kk (fun b hb => by omega)
 replace O3 := O3.offp Qbq kk (fun b hb => by omega)
 clear kk
 have kk : Offp (fun b => b = w.heap.size + 1 + 1) (w3.setCell ⟨w.heap.size + 1 + 1, 2, none⟩ (.slice (some ⟨s2, 0, none⟩) x.gs.length x.gs.length)) ((w3.setCell ⟨w.heap.size + 1 + 1, 2, none⟩ (.slice (some ⟨s2, 0, none⟩) x.gs.length x.gs.length)).setCell ⟨w.heap.size + 1 + 1, 3, none⟩ (.int .i64 x.time)) := Offp.of_only ((Only.refl _ _).set _ _)
 replace B := B.trans (kk.toBelow (B := w.heap.size) (fun b hb => by omega) B.size)
 replace P1 := P1.offp kk (by omega)
 replace P2 := P2.offp kk (by omega)
 replace P3 : Blk ((w3.setCell ⟨w.heap.size + 1 + 1, 2, none⟩ (.slice (some ⟨s2, 0, none⟩) x.gs.length x.gs.length)).setCell ⟨w.heap.size + 1 + 1, 3, none⟩ (.int .i64 x.time)) (w.heap.size + 1 + 1) 59 (Qae (some ⟨s0, 0, none⟩) x.rs.length x.rs.length (some ⟨s1, 0, none⟩) x.ms.length x.ms.length (some ⟨s2, 0, none⟩) x.gs.length x.gs.length x.time none 0 0 none 0 0) := P3.setAt 3 _
 replace O1 := O1.offp Qa7 kk (fun b hb => by omega)
 replace O2 := O2.offp Qbe kk (fun b hb => by omega)
 replace O3 := O3.offp Qbq kk (fun b hb => by omega)
 clear kk
 have sz3 : ((w3.setCell ⟨w.heap.size + 1 + 1, 2, none⟩ (.slice (some ⟨s2, 0, none⟩) x.gs.length x.gs.length)).setCell ⟨w.heap.size + 1 + 1, 3, none⟩ (.int .i64 x.time)).heap.size = w3.heap.size := by simp
 obtain ⟨s3, hs3⟩ : ∃ s, ((w3.setCell ⟨w.heap.size + 1 + 1, 2, none⟩ (.slice (some ⟨s2, 0, none⟩) x.gs.length x.gs.length)).setCell ⟨w.heap.size + 1 + 1, 3, none⟩ (.int .i64 x.time)).heap.size = s := ⟨_, rfl⟩
 have C : Hid (Calls Tryz.prog 22 #[.slice x.dA x.ds.length x.dc] ((w3.setCell ⟨w.heap.size + 1 + 1, 2, none⟩ (.slice (some ⟨s2, 0, none⟩) x.gs.length x.gs.length)).setCell ⟨w.heap.size + 1 + 1, 3, none⟩ (.int .i64 x.time)) fun e w' => e = .returned (.slice (some ⟨s3, 0, none⟩) x.ds.length x.ds.length) /\ Below s3 ((w3.setCell ⟨w.heap.size + 1 + 1, 2, none⟩ (.slice (some ⟨s2, 0, none⟩) x.gs.length x.gs.length)).setCell ⟨w.heap.size + 1 + 1, 3, none⟩ (.int .i64 x.time)) w' /\ s3 < w'.heap.size /\ In w' s3 0 x.ds /\ w'.there s3 0 (x.ds.length * 1)) := by
  have h := Qb4 x.dA x.dc x.ds Hf.out.dl ((w3.setCell ⟨w.heap.size + 1 + 1, 2, none⟩ (.slice (some ⟨s2, 0, none⟩) x.gs.length x.gs.length)).setCell ⟨w.heap.size + 1 + 1, 3, none⟩ (.int .i64 x.time)) (HX.out.below B).da
  rw [hs3] at h
  exact h
 go_wp2_with fail
 clear u0 u1 u2 u3 u4 u5 v0 v1 v2 v3 v4 v5 q1 q3 f0 f1 f2 f3 f4 f5
 refine C.out.mono ?_
 rintro e w4 ⟨rfl, g, hlt, hin, hth⟩
 rw [← hs3] at g
 replace B := via0 g B
 replace P1 := P1.below g P1.lt
 replace P2 := P2.below g P2.lt
 replace P3 := P3.below g P3.lt
 replace O1 := O1.below Qa7 g
 replace O2 := O2.below Qbe g
 replace O3 := O3.below Qbq g
 have zz4 := g.size
 have O4 : Sub w4 (some ⟨s3, 0, none⟩) x.ds (fun b => s3 <= b /\ b < w4.heap.size) := .inr ⟨s3, 0, rfl, ⟨Nat.le_refl _, hlt⟩, hlt, hin, hth⟩
 clear C g
 obtain ⟨u0, u1, u2, u3, u4, u5⟩ := P1.row6
 obtain ⟨v0, v1, v2, v3, v4, v5⟩ := P3.row6
 have q1 := P1.lt
 have q3 := P3.lt
 have f0 := P3.thaw 0
 have f1 := P3.thaw 1
 have f2 := P3.thaw 2
 have f3 := P3.thaw 3
 have f4 := P3.thaw 4
 have f5 := P3.thaw 5
 have kk : Offp (fun b => b = w.heap.size + 1 + 1) w4 (w4.setCell ⟨w.heap.size + 1 + 1, 4, none⟩ (.slice (some ⟨s3, 0, none⟩) x.ds.length x.ds.length)) := Offp.of_only ((Only.refl _ _).set _ _)
 replace B := B.trans (kk.toBelow (B := w.heap.size) (fun b hb => by omega) B.size)
 replace P1 := P1.offp kk (by omega)
 replace P2 := P2.offp kk (by omega)
 replace P3 : Blk (w4.setCell ⟨w.heap.size + 1 + 1, 4, none⟩ (.slice (some ⟨s3, 0, none⟩) x.ds.length x.ds.length)) (w.heap.size + 1 + 1) 59 (Qae (some ⟨s0, 0, none⟩) x.rs.length x.rs.length (some ⟨s1, 0, none⟩) x.ms.length x.ms.length (some ⟨s2, 0, none⟩) x.gs.length x.gs.length x.time (some ⟨s3, 0, none⟩) x.ds.length x.ds.length none 0 0) := P3.setAt 4 _
 replace O1 := O1.offp Qa7 kk (fun b hb => by omega)
 replace O2 := O2.offp Qbe kk (fun b hb => by omega)
 replace O3 := O3.offp Qbq kk (fun b hb => by omega)
 replace O4 := O4.offp kk (fun b hb => by omega)
 clear kk
 have sz4 : (w4.setCell ⟨w.heap.size + 1 + 1, 4, none⟩ (.slice (some ⟨s3, 0, none⟩) x.ds.length x.ds.length)).heap.size = w4.heap.size := by simp
 obtain ⟨s4, hs4⟩ : ∃ s, (w4.setCell ⟨w.heap.size + 1 + 1, 4, none⟩ (.slice (some ⟨s3, 0, none⟩) x.ds.length x.ds.length)).heap.size = s := ⟨_, rfl⟩
 have C : Hid (Calls Tryz.prog 122 #[.slice x.lA x.ls.length x.lc] (w4.setCell ⟨w.heap.size + 1 + 1, 4, none⟩ (.slice (some ⟨s3, 0, none⟩) x.ds.length x.ds.length)) fun e w' => e = .returned (.slice (some ⟨s4, 0, none⟩) x.ls.length x.ls.length) /\ Below s4 (w4.setCell ⟨w.heap.size + 1 + 1, 4, none⟩ (.slice (some ⟨s3, 0, none⟩) x.ds.length x.ds.length)) w' /\ s4 < w'.heap.size /\ In w' s4 0 x.ls /\ w'.there s4 0 (x.ls.length * 4)) := by
  have h := Qfr x.lA x.lc x.ls Hf.out.ll (w4.setCell ⟨w.heap.size + 1 + 1, 4, none⟩ (.slice (some ⟨s3, 0, none⟩) x.ds.length x.ds.length)) (HX.out.below B).la
  rw [hs4] at h
  exact h
 go_wp2_with fail
 clear u0 u1 u2 u3 u4 u5 v0 v1 v2 v3 v4 v5 q1 q3 f0 f1 f2 f3 f4 f5
 refine C.out.mono ?_
 rintro e w5 ⟨rfl, g, hlt, hin, hth⟩
 rw [← hs4] at g
 replace B := via0 g B
 replace P1 := P1.below g P1.lt
 replace P2 := P2.below g P2.lt
 replace P3 := P3.below g P3.lt
 replace O1 := O1.below Qa7 g
 replace O2 := O2.below Qbe g
 replace O3 := O3.below Qbq g
 replace O4 := O4.below g
 have zz5 := g.size
 have O5 : Sub w5 (some ⟨s4, 0, none⟩) x.ls (fun b => s4 <= b /\ b < w5.heap.size) := .inr ⟨s4, 0, rfl, ⟨Nat.le_refl _, hlt⟩, hlt, hin, hth⟩
 clear C g
 obtain ⟨u0, u1, u2, u3, u4, u5⟩ := P2.row6
 obtain ⟨v0, v1, v2, v3, v4, v5⟩ := P3.row6
 have q1 := P2.lt
 have q3 := P3.lt
 have f0 := P3.thaw 0
 have f1 := P3.thaw 1
 have f2 := P3.thaw 2
 have f3 := P3.thaw 3
 have f4 := P3.thaw 4
 have f5 := P3.thaw 5
 have e0 := P2.thaw 0
 have e1 := P2.thaw 1
 have e2 := P2.thaw 2
 have e3 := P2.thaw 3
 have e4 := P2.thaw 4
 have e5 := P2.thaw 5
 have kk : Offp (fun b => b = w.heap.size + 1 + 1) w5 (w5.setCell ⟨w.heap.size + 1 + 1, 5, none⟩ (.slice (some ⟨s4, 0, none⟩) x.ls.length x.ls.length)) := Offp.of_only ((Only.refl _ _).set _ _)
 replace B := B.trans (kk.toBelow (B := w.heap.size) (fun b hb => by omega) B.size)
 replace P1 := P1.offp kk (by omega)
 replace P2 := P2.offp kk (by omega)
 replace P3 : Blk (w5.setCell ⟨w.heap.size + 1 + 1, 5, none⟩ (.slice (some ⟨s4, 0, none⟩) x.ls.length x.ls.length)) (w.heap.size + 1 + 1) 59 (Qae (some ⟨s0, 0, none⟩) x.rs.length x.rs.length (some ⟨s1, 0, none⟩) x.ms.length x.ms.length (some ⟨s2, 0, none⟩) x.gs.length x.gs.length x.time (some ⟨s3, 0, none⟩) x.ds.length x.ds.length (some ⟨s4, 0, none⟩) x.ls.length x.ls.length) := P3.setAt 5 _
 replace O1 := O1.offp Qa7 kk (fun b hb => by omega)
 replace O2 := O2.offp Qbe kk (fun b hb => by omega)
 replace O3 := O3.offp Qbq kk (fun b hb => by omega)
 replace O4 := O4.offp kk (fun b hb => by omega)
 replace O5 := O5.offp kk (fun b hb => by omega)
 clear kk
 have sz5 : (w5.setCell ⟨w.heap.size + 1 + 1, 5, none⟩ (.slice (some ⟨s4, 0, none⟩) x.ls.length x.ls.length)).heap.size = w5.heap.size := by simp
 have HB := hidP B
 have HO1 := hidP O1
 have HO2 := hidP O2
 have HO3 := hidP O3
 have HO4 := hidP O4
 have HO5 := hidP O5
 have HP2 := hidP P2
 clear B O1 O2 O3 O4 O5 P1 P2 P3
 go_wp2
 have E6 := ((((((HP2.out.setAt 0 (.slice (some ⟨s0, 0, none⟩) x.rs.length x.rs.length)).setAt 1 (.slice (some ⟨s1, 0, none⟩) x.ms.length x.ms.length)).setAt 2 (.slice (some ⟨s2, 0, none⟩) x.gs.length x.gs.length)).setAt 3 (.int .i64 x.time)).setAt 4 (.slice (some ⟨s3, 0, none⟩) x.ds.length x.ds.length)).setAt 5 (.slice (some ⟨s4, 0, none⟩) x.ls.length x.ls.length))
 have E6' : Blk _ (w.heap.size + 1) 59 (Qae (some ⟨s0, 0, none⟩) x.rs.length x.rs.length (some ⟨s1, 0, none⟩) x.ms.length x.ms.length (some ⟨s2, 0, none⟩) x.gs.length x.gs.length x.time (some ⟨s3, 0, none⟩) x.ds.length x.ds.length (some ⟨s4, 0, none⟩) x.ls.length x.ls.length) := E6
 obtain ⟨x0, y1, y2, y3, y4, y5⟩ := E6'.row6
 refine bodyPost_ret (v := .agg (Qae (some ⟨s0, 0, none⟩) x.rs.length x.rs.length (some ⟨s1, 0, none⟩) x.ms.length x.ms.length (some ⟨s2, 0, none⟩) x.gs.length x.gs.length x.time (some ⟨s3, 0, none⟩) x.ds.length x.ds.length (some ⟨s4, 0, none⟩) x.ls.length x.ls.length)) (by simp [results, Tryz.results85, go_sem, x0, y1, y2, y3, y4, y5]) rfl ?_
 have kk : Offp (fun b => b = w.heap.size + 1) (w5.setCell ⟨w.heap.size + 1 + 1, 5, none⟩ (.slice (some ⟨s4, 0, none⟩) x.ls.length x.ls.length)) _ := ((((((Offp.refl (fun b => b = w.heap.size + 1) (w5.setCell ⟨w.heap.size + 1 + 1, 5, none⟩ (.slice (some ⟨s4, 0, none⟩) x.ls.length x.ls.length))).set (b := w.heap.size + 1) rfl 0 (.slice (some ⟨s0, 0, none⟩) x.rs.length x.rs.length)).set (b := w.heap.size + 1) rfl 1 (.slice (some ⟨s1, 0, none⟩) x.ms.length x.ms.length)).set (b := w.heap.size + 1) rfl 2 (.slice (some ⟨s2, 0, none⟩) x.gs.length x.gs.length)).set (b := w.heap.size + 1) rfl 3 (.int .i64 x.time)).set (b := w.heap.size + 1) rfl 4 (.slice (some ⟨s3, 0, none⟩) x.ds.length x.ds.length)).set (b := w.heap.size + 1) rfl 5 (.slice (some ⟨s4, 0, none⟩) x.ls.length x.ls.length)
 have O1 := HO1.out.offp Qa7 kk (fun b hb => by omega)
 have O2 := HO2.out.offp Qbe kk (fun b hb => by omega)
 have O3 := HO3.out.offp Qbq kk (fun b hb => by omega)
 have O4 := HO4.out.offp kk (fun b hb => by omega)
 have O5 := HO5.out.offp kk (fun b hb => by omega)
 have BB := HB.out.trans (kk.toBelow (B := w.heap.size) (fun b hb => by omega) HB.out.size)
 have le1 : l1.length = x.rs.length := by have := congrArg List.length hp1; simpa using this
 have le2 : l2.length = x.ms.length := by have := congrArg List.length hp2; simpa using this
 have le3 : l3.length = x.gs.length := by have := congrArg List.length hp3; simpa using this
 have kz := kk.size
 refine ⟨⟨some ⟨s0, 0, none⟩, x.rs.length, l1, some ⟨s1, 0, none⟩, x.ms.length, l2, some ⟨s2, 0, none⟩, x.gs.length, l3, x.time, some ⟨s3, 0, none⟩, x.ds.length, x.ds, some ⟨s4, 0, none⟩, x.ls.length, x.ls⟩, by simp only [KC.cells, le1, le2, le3], by simp only [KC.p, hp1, hp2, hp3], ⟨fun b => if b < s1 then 1 else if b < s2 then 2 else if b < s3 then 3 else if b < s4 then 4 else 5, ?_, ?_, ?_, ?_, ?_⟩, BB⟩
 skip
 . exact O1.mono (fun b hb => ⟨⟨by omega, by omega⟩, by repeat (first | rw [if_pos (by omega)] | rw [if_neg (by omega)])⟩)
 . exact O2.mono (fun b hb => ⟨⟨by omega, by omega⟩, by repeat (first | rw [if_pos (by omega)] | rw [if_neg (by omega)])⟩)
 . exact O3.mono (fun b hb => ⟨⟨by omega, by omega⟩, by repeat (first | rw [if_pos (by omega)] | rw [if_neg (by omega)])⟩)
 . exact O4.mono (fun b hb => ⟨⟨by omega, by omega⟩, by repeat (first | rw [if_pos (by omega)] | rw [if_neg (by omega)])⟩)
 . exact O5.mono (fun b hb => ⟨⟨by omega, by omega⟩, by repeat (first | rw [if_pos (by omega)] | rw [if_neg (by omega)])⟩)
end Go.Proofs.YtkmkldjipihceaaGreat.Gen
