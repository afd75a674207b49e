/-
  The specification's KeepOk at this seat: it answers as the program's. No condition but that its lists have at most 1048576 records in all.
-/
import Derived.Test.YtkmkldjipihceaaGreatKOkMak
set_option linter.unusedVariables false
set_option linter.unusedSimpArgs false
set_option maxRecDepth 100000
set_option maxHeartbeats 8000000
set_option maxRecDepth 100000
set_option maxHeartbeats 8000000
namespace Go.Proofs.YtkmkldjipihceaaGreat.Gen
open ChangeShapes WideShapes ChangeAt RowKit Joins Deep Base
theorem keepB_eq (ro wi le ke : Int) (x : KC) : Qbo ro wi le ke x = (setB ro wi le ke && decide ((x.rs.length : Int) = ro) && decide ((x.gs.length : Int) = 2) && decide ((x.ds.length : Int) = 4) && decide ((x.ls.length : Int) = 4) && inB x.time 0 100000 && (x.ms.all (makF ro wi) && Qbn x.ms x.ms.length) && x.rs.all rowF && x.gs.all (grpF ro) && (Qbm x.ds x.ds.length && x.ls.all ansF)) := by
 unfold Qbo
 ac_rfl
theorem Qc7 (ro wi le ke : Int) (x : KC) (ha : KAsk x) (w : World) (hx : KAt w x) :
 Calls Tryz.prog 79 #[.agg (Qag ro wi le ke), .agg (Qae x.rA x.rs.length x.rc x.mA x.ms.length x.mc x.gA x.gs.length x.gc x.time x.dA x.ds.length x.dc x.lA x.ls.length x.lc)] w fun e w' => e = .returned (.bool (Qbo ro wi le ke x)) /\ Below w.heap.size w w' := by
 obtain ⟨b1, h1⟩ : ∃ b, setB ro wi le ke = b := ⟨_, rfl⟩
 obtain ⟨b2, h2⟩ : ∃ b, decide ((x.rs.length : Int) = ro) = b := ⟨_, rfl⟩
 obtain ⟨b6, h6⟩ : ∃ b, decide ((x.gs.length : Int) = 2) = b := ⟨_, rfl⟩
 obtain ⟨b8, h8⟩ : ∃ b, inB x.time 0 100000 = b := ⟨_, rfl⟩
 obtain ⟨b9, h9⟩ : ∃ b, decide ((x.ds.length : Int) = 4) = b := ⟨_, rfl⟩
 obtain ⟨b11, h11⟩ : ∃ b, decide ((x.ls.length : Int) = 4) = b := ⟨_, rfl⟩
 obtain ⟨b13, h13⟩ : ∃ b, (x.ms.all (makF ro wi) && Qbn x.ms x.ms.length) = b := ⟨_, rfl⟩
 have hF : Hid (Qbo ro wi le ke x = (b1 && b2 && b6 && b9 && b11 && b8 && b13 && x.rs.all rowF && x.gs.all (grpF ro) && (Qbm x.ds x.ds.length && x.ls.all ansF))) := by
  show _ = _
  rw [keepB_eq, h1, h2, h6, h8, h9, h11, h13]
 have q2 : ((x.rs.length : Int) != ro) = !b2 := by rw [← h2]; rfl
 have q6 : ((x.gs.length : Int) != 2) = !b6 := by rw [← h6]; rfl
 have q9 : ((x.ds.length : Int) != 4) = !b9 := by rw [← h9]; rfl
 have q11 : ((x.ls.length : Int) != 4) = !b11 := by rw [← h11]; rfl
 have f := ha.fit
 have E1 : Hid (∀ W : World, Calls Tryz.prog 39 #[.agg (Qag ro wi le ke)] W fun e w' => e = .returned (.bool b1) /\ Below W.heap.size W w') := fun W => h1 ▸ Qde ro wi le ke W
 have E8 : Hid (∀ W : World, Calls Tryz.prog 32 (Qa4 x.time 0 100000) W fun e w' => e = .returned (.bool b8) /\ w' = W) := fun W => h8 ▸ in_any _ _ _ W
 have E13 : Hid (∀ W : World, Below w.heap.size w W -> Calls Tryz.prog 115 #[.agg (Qag ro wi le ke), .slice x.mA x.ms.length x.mc] W fun e w' => e = .returned (.bool b13) /\ Below W.heap.size W w') := fun W g => h13 ▸ Qeo ro wi le ke _ _ x.ms f.ml f.mi W (hx.below g).ma (hx.below g).me
 have HX := hidP hx
 have Ha := hidP ha
 have H2 := hidP h2
 have H6 := hidP h6
 have H9 := hidP h9
 have H11 := hidP h11
 clear h1 h2 h6 h8 h9 h11 h13 f hx ha
 cases b1
 case false =>
  have hF : Hid (Qbo ro wi le ke x = false) := by show _ = _; rw [hF.out]; simp
  go_enter Tryz.func79, Tryz.ntmps79
  have B : Below w.heap.size w ((w.alloc (.cells (Qag ro wi le ke) 33)).alloc (.cells (Qae x.rA x.rs.length x.rc x.mA x.ms.length x.mc x.gA x.gs.length x.gc x.time x.dA x.ds.length x.dc x.lA x.ls.length x.lc) 59)) := Qab (Qab (Below.refl _ _) _) _
  have P : Blk ((w.alloc (.cells (Qag ro wi le ke) 33)).alloc (.cells (Qae x.rA x.rs.length x.rc x.mA x.ms.length x.mc x.gA x.gs.length x.gc x.time x.dA x.ds.length x.dc x.lA x.ls.length x.lc) 59)) w.heap.size 33 (Qag ro wi le ke) := (Blk.new w _ _).alloc _
  have R : Blk ((w.alloc (.cells (Qag ro wi le ke) 33)).alloc (.cells (Qae x.rA x.rs.length x.rc x.mA x.ms.length x.mc x.gA x.gs.length x.gc x.time x.dA x.ds.length x.dc x.lA x.ls.length x.lc) 59)) (w.heap.size + 1) 59 (Qae x.rA x.rs.length x.rc x.mA x.ms.length x.mc x.gA x.gs.length x.gc x.time x.dA x.ds.length x.dc x.lA x.ls.length x.lc) := by have := Blk.new (w.alloc (.cells (Qag ro wi le ke) 33)) 59 (Qae x.rA x.rs.length x.rc x.mA x.ms.length x.mc x.gA x.gs.length x.gc x.time x.dA x.ds.length x.dc x.lA x.ls.length x.lc); rwa [World.size_alloc] at this
  go_wp2_with fail
  refine (E1.out _).mono ?_
  rintro e w1 ⟨rfl, g⟩
  replace B := via0 g B
  replace P := P.below g P.lt
  replace R := R.below g R.lt
  clear g
  obtain ⟨u0, u1, u2, u3⟩ := P.row4
  obtain ⟨v0, v1, v2, v3, v4, v5⟩ := R.row6
  have q1 := P.lt
  have q2 := R.lt
  go_wp2
  go_ret
  exact ⟨by rw [hF.out]; rfl, B⟩
 cases b2
 case false =>
  have hF : Hid (Qbo ro wi le ke x = false) := by show _ = _; rw [hF.out]; simp
  go_enter Tryz.func79, Tryz.ntmps79
  have B : Below w.heap.size w ((w.alloc (.cells (Qag ro wi le ke) 33)).alloc (.cells (Qae x.rA x.rs.length x.rc x.mA x.ms.length x.mc x.gA x.gs.length x.gc x.time x.dA x.ds.length x.dc x.lA x.ls.length x.lc) 59)) := Qab (Qab (Below.refl _ _) _) _
  have P : Blk ((w.alloc (.cells (Qag ro wi le ke) 33)).alloc (.cells (Qae x.rA x.rs.length x.rc x.mA x.ms.length x.mc x.gA x.gs.length x.gc x.time x.dA x.ds.length x.dc x.lA x.ls.length x.lc) 59)) w.heap.size 33 (Qag ro wi le ke) := (Blk.new w _ _).alloc _
  have R : Blk ((w.alloc (.cells (Qag ro wi le ke) 33)).alloc (.cells (Qae x.rA x.rs.length x.rc x.mA x.ms.length x.mc x.gA x.gs.length x.gc x.time x.dA x.ds.length x.dc x.lA x.ls.length x.lc) 59)) (w.heap.size + 1) 59 (Qae x.rA x.rs.length x.rc x.mA x.ms.length x.mc x.gA x.gs.length x.gc x.time x.dA x.ds.length x.dc x.lA x.ls.length x.lc) := by have := Blk.new (w.alloc (.cells (Qag ro wi le ke) 33)) 59 (Qae x.rA x.rs.length x.rc x.mA x.ms.length x.mc x.gA x.gs.length x.gc x.time x.dA x.ds.length x.dc x.lA x.ls.length x.lc); rwa [World.size_alloc] at this
  go_wp2_with fail
  refine (E1.out _).mono ?_
  rintro e w1 ⟨rfl, g⟩
  replace B := via0 g B
  replace P := P.below g P.lt
  replace R := R.below g R.lt
  clear g
  obtain ⟨u0, u1, u2, u3⟩ := P.row4
  obtain ⟨v0, v1, v2, v3, v4, v5⟩ := R.row6
  have q1 := P.lt
  have q2 := R.lt
  go_wp2
  go_ret
  exact ⟨by rw [hF.out]; rfl, B⟩
 cases b6
 case false =>
  have hF : Hid (Qbo ro wi le ke x = false) := by show _ = _; rw [hF.out]; simp
  go_enter Tryz.func79, Tryz.ntmps79
  have B : Below w.heap.size w ((w.alloc (.cells (Qag ro wi le ke) 33)).alloc (.cells (Qae x.rA x.rs.length x.rc x.mA x.ms.length x.mc x.gA x.gs.length x.gc x.time x.dA x.ds.length x.dc x.lA x.ls.length x.lc) 59)) := Qab (Qab (Below.refl _ _) _) _
  have P : Blk ((w.alloc (.cells (Qag ro wi le ke) 33)).alloc (.cells (Qae x.rA x.rs.length x.rc x.mA x.ms.length x.mc x.gA x.gs.length x.gc x.time x.dA x.ds.length x.dc x.lA x.ls.length x.lc) 59)) w.heap.size 33 (Qag ro wi le ke) := (Blk.new w _ _).alloc _
  have R : Blk ((w.alloc (.cells (Qag ro wi le ke) 33)).alloc (.cells (Qae x.rA x.rs.length x.rc x.mA x.ms.length x.mc x.gA x.gs.length x.gc x.time x.dA x.ds.length x.dc x.lA x.ls.length x.lc) 59)) (w.heap.size + 1) 59 (Qae x.rA x.rs.length x.rc x.mA x.ms.length x.mc x.gA x.gs.length x.gc x.time x.dA x.ds.length x.dc x.lA x.ls.length x.lc) := by have := Blk.new (w.alloc (.cells (Qag ro wi le ke) 33)) 59 (Qae x.rA x.rs.length x.rc x.mA x.ms.length x.mc x.gA x.gs.length x.gc x.time x.dA x.ds.length x.dc x.lA x.ls.length x.lc); rwa [World.size_alloc] at this
  go_wp2_with fail
  refine (E1.out _).mono ?_
  rintro e w1 ⟨rfl, g⟩
  replace B := via0 g B
  replace P := P.below g P.lt
  replace R := R.below g R.lt
  clear g
  obtain ⟨u0, u1, u2, u3⟩ := P.row4
  obtain ⟨v0, v1, v2, v3, v4, v5⟩ := R.row6
  have q1 := P.lt
  have q2 := R.lt
  go_wp2
  go_ret
  exact ⟨by rw [hF.out]; rfl, B⟩
 cases b9
 case false =>
  have hF : Hid (Qbo ro wi le ke x = false) := by show _ = _; rw [hF.out]; simp
  go_enter Tryz.func79, Tryz.ntmps79
  have B : Below w.heap.size w ((w.alloc (.cells (Qag ro wi le ke) 33)).alloc (.cells (Qae x.rA x.rs.length x.rc x.mA x.ms.length x.mc x.gA x.gs.length x.gc x.time x.dA x.ds.length x.dc x.lA x.ls.length x.lc) 59)) := Qab (Qab (Below.refl _ _) _) _
  have P : Blk ((w.alloc (.cells (Qag ro wi le ke) 33)).alloc (.cells (Qae x.rA x.rs.length x.rc x.mA x.ms.length x.mc x.gA x.gs.length x.gc x.time x.dA x.ds.length x.dc x.lA x.ls.length x.lc) 59)) w.heap.size 33 (Qag ro wi le ke) := (Blk.new w _ _).alloc _
  have R : Blk ((w.alloc (.cells (Qag ro wi le ke) 33)).alloc (.cells (Qae x.rA x.rs.length x.rc x.mA x.ms.length x.mc x.gA x.gs.length x.gc x.time x.dA x.ds.length x.dc x.lA x.ls.length x.lc) 59)) (w.heap.size + 1) 59 (Qae x.rA x.rs.length x.rc x.mA x.ms.length x.mc x.gA x.gs.length x.gc x.time x.dA x.ds.length x.dc x.lA x.ls.length x.lc) := by have := Blk.new (w.alloc (.cells (Qag ro wi le ke) 33)) 59 (Qae x.rA x.rs.length x.rc x.mA x.ms.length x.mc x.gA x.gs.length x.gc x.time x.dA x.ds.length x.dc x.lA x.ls.length x.lc); rwa [World.size_alloc] at this
  go_wp2_with fail
  refine (E1.out _).mono ?_
  rintro e w1 ⟨rfl, g⟩
  replace B := via0 g B
  replace P := P.below g P.lt
  replace R := R.below g R.lt
  clear g
  obtain ⟨u0, u1, u2, u3⟩ := P.row4
  obtain ⟨v0, v1, v2, v3, v4, v5⟩ := R.row6
  have q1 := P.lt
  have q2 := R.lt
  go_wp2
  go_ret
  exact ⟨by rw [hF.out]; rfl, B⟩
 cases b11
 case false =>
  have hF : Hid (Qbo ro wi le ke x = false) := by show _ = _; rw [hF.out]; simp
  go_enter Tryz.func79, Tryz.ntmps79
  have B : Below w.heap.size w ((w.alloc (.cells (Qag ro wi le ke) 33)).alloc (.cells (Qae x.rA x.rs.length x.rc x.mA x.ms.length x.mc x.gA x.gs.length x.gc x.time x.dA x.ds.length x.dc x.lA x.ls.length x.lc) 59)) := Qab (Qab (Below.refl _ _) _) _
  have P : Blk ((w.alloc (.cells (Qag ro wi le ke) 33)).alloc (.cells (Qae x.rA x.rs.length x.rc x.mA x.ms.length x.mc x.gA x.gs.length x.gc x.time x.dA x.ds.length x.dc x.lA x.ls.length x.lc) 59)) w.heap.size 33 (Qag ro wi le ke) := (Blk.new w _ _).alloc _
  have R : Blk ((w.alloc (.cells (Qag ro wi le ke) 33)).alloc (.cells (Qae x.rA x.rs.length x.rc x.mA x.ms.length x.mc x.gA x.gs.length x.gc x.time x.dA x.ds.length x.dc x.lA x.ls.length x.lc) 59)) (w.heap.size + 1) 59 (Qae x.rA x.rs.length x.rc x.mA x.ms.length x.mc x.gA x.gs.length x.gc x.time x.dA x.ds.length x.dc x.lA x.ls.length x.lc) := by have := Blk.new (w.alloc (.cells (Qag ro wi le ke) 33)) 59 (Qae x.rA x.rs.length x.rc x.mA x.ms.length x.mc x.gA x.gs.length x.gc x.time x.dA x.ds.length x.dc x.lA x.ls.length x.lc); rwa [World.size_alloc] at this
  go_wp2_with fail
  refine (E1.out _).mono ?_
  rintro e w1 ⟨rfl, g⟩
  replace B := via0 g B
  replace P := P.below g P.lt
  replace R := R.below g R.lt
  clear g
  obtain ⟨u0, u1, u2, u3⟩ := P.row4
  obtain ⟨v0, v1, v2, v3, v4, v5⟩ := R.row6
  have q1 := P.lt
  have q2 := R.lt
  go_wp2
  go_ret
  exact ⟨by rw [hF.out]; rfl, B⟩
 cases b8
 case false =>
  have hF : Hid (Qbo ro wi le ke x = false) := by show _ = _; rw [hF.out]; simp
  go_enter Tryz.func79, Tryz.ntmps79
  have B : Below w.heap.size w ((w.alloc (.cells (Qag ro wi le ke) 33)).alloc (.cells (Qae x.rA x.rs.length x.rc x.mA x.ms.length x.mc x.gA x.gs.length x.gc x.time x.dA x.ds.length x.dc x.lA x.ls.length x.lc) 59)) := Qab (Qab (Below.refl _ _) _) _
  have P : Blk ((w.alloc (.cells (Qag ro wi le ke) 33)).alloc (.cells (Qae x.rA x.rs.length x.rc x.mA x.ms.length x.mc x.gA x.gs.length x.gc x.time x.dA x.ds.length x.dc x.lA x.ls.length x.lc) 59)) w.heap.size 33 (Qag ro wi le ke) := (Blk.new w _ _).alloc _
  have R : Blk ((w.alloc (.cells (Qag ro wi le ke) 33)).alloc (.cells (Qae x.rA x.rs.length x.rc x.mA x.ms.length x.mc x.gA x.gs.length x.gc x.time x.dA x.ds.length x.dc x.lA x.ls.length x.lc) 59)) (w.heap.size + 1) 59 (Qae x.rA x.rs.length x.rc x.mA x.ms.length x.mc x.gA x.gs.length x.gc x.time x.dA x.ds.length x.dc x.lA x.ls.length x.lc) := by have := Blk.new (w.alloc (.cells (Qag ro wi le ke) 33)) 59 (Qae x.rA x.rs.length x.rc x.mA x.ms.length x.mc x.gA x.gs.length x.gc x.time x.dA x.ds.length x.dc x.lA x.ls.length x.lc); rwa [World.size_alloc] at this
  go_wp2_with fail
  refine (E1.out _).mono ?_
  rintro e w1 ⟨rfl, g⟩
  replace B := via0 g B
  replace P := P.below g P.lt
  replace R := R.below g R.lt
  clear g
  obtain ⟨u0, u1, u2, u3⟩ := P.row4
  obtain ⟨v0, v1, v2, v3, v4, v5⟩ := R.row6
  have q1 := P.lt
  have q2 := R.lt
  go_wp2_with fail
  refine (E8.out _).mono ?_
  rintro e w8 ⟨rfl, rfl⟩
  go_wp2
  go_ret
  exact ⟨by rw [hF.out]; rfl, B⟩
 cases b13
 case false =>
  have hF : Hid (Qbo ro wi le ke x = false) := by show _ = _; rw [hF.out]; simp
  go_enter Tryz.func79, Tryz.ntmps79
  have B : Below w.heap.size w ((w.alloc (.cells (Qag ro wi le ke) 33)).alloc (.cells (Qae x.rA x.rs.length x.rc x.mA x.ms.length x.mc x.gA x.gs.length x.gc x.time x.dA x.ds.length x.dc x.lA x.ls.length x.lc) 59)) := Qab (Qab (Below.refl _ _) _) _
  have P : Blk ((w.alloc (.cells (Qag ro wi le ke) 33)).alloc (.cells (Qae x.rA x.rs.length x.rc x.mA x.ms.length x.mc x.gA x.gs.length x.gc x.time x.dA x.ds.length x.dc x.lA x.ls.length x.lc) 59)) w.heap.size 33 (Qag ro wi le ke) := (Blk.new w _ _).alloc _
  have R : Blk ((w.alloc (.cells (Qag ro wi le ke) 33)).alloc (.cells (Qae x.rA x.rs.length x.rc x.mA x.ms.length x.mc x.gA x.gs.length x.gc x.time x.dA x.ds.length x.dc x.lA x.ls.length x.lc) 59)) (w.heap.size + 1) 59 (Qae x.rA x.rs.length x.rc x.mA x.ms.length x.mc x.gA x.gs.length x.gc x.time x.dA x.ds.length x.dc x.lA x.ls.length x.lc) := by have := Blk.new (w.alloc (.cells (Qag ro wi le ke) 33)) 59 (Qae x.rA x.rs.length x.rc x.mA x.ms.length x.mc x.gA x.gs.length x.gc x.time x.dA x.ds.length x.dc x.lA x.ls.length x.lc); rwa [World.size_alloc] at this
  go_wp2_with fail
  refine (E1.out _).mono ?_
  rintro e w1 ⟨rfl, g⟩
  replace B := via0 g B
  replace P := P.below g P.lt
  replace R := R.below g R.lt
  clear g
  obtain ⟨u0, u1, u2, u3⟩ := P.row4
  obtain ⟨v0, v1, v2, v3, v4, v5⟩ := R.row6
  have q1 := P.lt
  have q2 := R.lt
  go_wp2_with fail
  refine (E8.out _).mono ?_
  rintro e w8 ⟨rfl, rfl⟩
  go_wp2_with fail
  refine (E13.out _ B).mono ?_
  rintro e w13 ⟨rfl, g⟩
  replace B := via0 g B
  replace P := P.below g P.lt
  replace R := R.below g R.lt
  clear g u0 u1 u2 u3 v0 v1 v2 v3 v4 v5 q1 q2
  obtain ⟨u0, u1, u2, u3⟩ := P.row4
  obtain ⟨v0, v1, v2, v3, v4, v5⟩ := R.row6
  have q1 := P.lt
  have q2 := R.lt
  go_wp2
  go_ret
  exact ⟨by rw [hF.out]; rfl, B⟩
 obtain ⟨nr, hnr⟩ : ∃ m, x.rs.length = m := ⟨_, rfl⟩
 have hro : ro = (nr : Int) := by have := of_decide_eq_true H2.out; omega
 have hg2 : Hid (x.gs.length = 2) := by have := of_decide_eq_true H6.out; show _ = _; omega
 have hd4 : Hid (x.ds.length = 4) := by have := of_decide_eq_true H9.out; show _ = _; omega
 have hl4 : Hid (x.ls.length = 4) := by have := of_decide_eq_true H11.out; show _ = _; omega
 have hFl : Hid (Qbo ro wi le ke x = (x.rs.all rowF && x.gs.all (grpF ro) && (Qbm x.ds x.ds.length && x.ls.all ansF))) := by show _ = _; rw [hF.out]; simp
 have Hnr := hidP hnr
 have hnb : nr <= 1048576 := by have := Ha.out.fit.rl; omega
 subst hro
 clear hF hnr H2 H6 H9 H11
 go_enter Tryz.func79, Tryz.ntmps79
 have B : Below w.heap.size w ((w.alloc (.cells (Qag (nr : Int) wi le ke) 33)).alloc (.cells (Qae x.rA x.rs.length x.rc x.mA x.ms.length x.mc x.gA x.gs.length x.gc x.time x.dA x.ds.length x.dc x.lA x.ls.length x.lc) 59)) := Qab (Qab (Below.refl _ _) _) _
 have P : Blk ((w.alloc (.cells (Qag (nr : Int) wi le ke) 33)).alloc (.cells (Qae x.rA x.rs.length x.rc x.mA x.ms.length x.mc x.gA x.gs.length x.gc x.time x.dA x.ds.length x.dc x.lA x.ls.length x.lc) 59)) w.heap.size 33 (Qag (nr : Int) wi le ke) := (Blk.new w _ _).alloc _
 have R : Blk ((w.alloc (.cells (Qag (nr : Int) wi le ke) 33)).alloc (.cells (Qae x.rA x.rs.length x.rc x.mA x.ms.length x.mc x.gA x.gs.length x.gc x.time x.dA x.ds.length x.dc x.lA x.ls.length x.lc) 59)) (w.heap.size + 1) 59 (Qae x.rA x.rs.length x.rc x.mA x.ms.length x.mc x.gA x.gs.length x.gc x.time x.dA x.ds.length x.dc x.lA x.ls.length x.lc) := by have := Blk.new (w.alloc (.cells (Qag (nr : Int) wi le ke) 33)) 59 (Qae x.rA x.rs.length x.rc x.mA x.ms.length x.mc x.gA x.gs.length x.gc x.time x.dA x.ds.length x.dc x.lA x.ls.length x.lc); rwa [World.size_alloc] at this
 go_wp2_with fail
 refine (E1.out _).mono ?_
 rintro e w1 ⟨rfl, g⟩
 replace B := via0 g B
 replace P := P.below g P.lt
 replace R := R.below g R.lt
 clear g
 obtain ⟨u0, u1, u2, u3⟩ := P.row4
 obtain ⟨v0, v1, v2, v3, v4, v5⟩ := R.row6
 have q1 := P.lt
 have q2 := R.lt
 go_wp2_with fail
 refine (E8.out _).mono ?_
 rintro e w8 ⟨rfl, rfl⟩
 go_wp2_with fail
 refine (E13.out _ B).mono ?_
 rintro e w13 ⟨rfl, g⟩
 replace B := via0 g B
 replace P := P.below g P.lt
 replace R := R.below g R.lt
 clear g u0 u1 u2 u3 v0 v1 v2 v3 v4 v5 q1 q2
 obtain ⟨u0, u1, u2, u3⟩ := P.row4
 obtain ⟨v0, v1, v2, v3, v4, v5⟩ := R.row6
 have q1 := P.lt
 have q2 := R.lt
 have HP := hidP P
 have HR := hidP R
 clear P R u0 u1 u2 u3 v0 v1 v2 v3 v4 v5 q1 q2 q6 q9 q11 E1 E8 E13
 go_wp2
 go_loopw [5] (fun i w' => ∃ (n : Nat), i = .int .i64 (n : Int) /\ n <= nr /\ Hid ((x.rs.take n).all rowF = true) /\ Hid (Blk w' w.heap.size 33 (Qag (nr : Int) wi le ke)) /\ Hid (Blk w' (w.heap.size + 1) 59 (Qae x.rA x.rs.length x.rc x.mA x.ms.length x.mc x.gA x.gs.length x.gc x.time x.dA x.ds.length x.dc x.lA x.ls.length x.lc)) /\ Below w.heap.size w w') (fun i _ => nr - (intOf i).toNat)
 case atStart => exact ⟨0, rfl, by omega, rfl, HP, HR, B⟩
 case round =>
  obtain ⟨n, rfl, hn, hal, HP, HR, B⟩ := hrel
  obtain ⟨u0, u1, u2, u3⟩ := HP.out.row4
  obtain ⟨v0, v1, v2, v3, v4, v5⟩ := HR.out.row6
  have q1 := HP.out.lt
  have q2 := HR.out.lt
  by_cases hlt' : n < nr
  . have hlt : n < x.rs.length := by have := Hnr.out; omega
    have hi0 : (0 : Int) <= (n : Int) := by omega
    have hi1 : (n : Int) < (x.rs.length : Int) := by omega
    obtain ⟨b, o, hbo, hbs, hIn⟩ : ∃ b o, x.rA = some ⟨b, o, none⟩ /\ b < w.heap.size /\ In w b o x.rs := by
     rcases HX.out.ra with h | h
     . rw [h] at hlt; simp at hlt
     . exact h
    obtain ⟨c0, c1, c2⟩ := (hIn.below hbs B).getRC n hlt
    rw [hbo] at v0
    have hri := Ha.out.rr _ (List.getElem_mem hlt)
    have HC : ∀ W : World, Below wr.heap.size wr W -> Calls Tryz.prog 116 #[.agg (Qap x.rs[n].start x.rs[n].next x.rs[n].A x.rs[n].its.length x.rs[n].cap)] W fun e w' => e = .returned (.bool (rowF x.rs[n])) /\ Below W.heap.size W w' := fun W g => Items.specRowOk_any _ _ _ _ _ hri.2.2.1 (fun y hy => (hri.2.2.2 y hy).2.2.2) hri.2.1.1 hri.2.1.2 W (((HX.out.re _ (List.getElem_mem hlt)).below B).below g)
    have hsu := Qbs rowF hlt
    have hno := Qc3 rowF hlt
    generalize hb : rowF x.rs[n] = bb at HC hsu hno
    have HC := hidP HC
    clear hb hri hbo
    have qb : b < wr.heap.size := Nat.lt_of_lt_of_le hbs B.size
    cases bb
    . have hF : Hid (Qbo (nr : Int) wi le ke x = false) := by show _ = _; rw [hFl.out, hno rfl]; rfl
      clear hno hsu
      go_wp2_with fail
      refine (HC.out _ (Below.refl _ _)).mono ?_
      rintro e w1 ⟨rfl, g1⟩
      go_wp2
      go_ret
      exact ⟨by rw [hF.out]; rfl, via0 g1 B⟩
    . have hal1 : Hid ((x.rs.take (n + 1)).all rowF = true) := by show _ = _; rw [hsu, hal.out]; rfl
      clear hno hsu
      go_wp2_with fail
      refine (HC.out _ (Below.refl _ _)).mono ?_
      rintro e w1 ⟨rfl, g1⟩
      have HP1 := hidP (HP.out.below g1 q1)
      have HR1 := hidP (HR.out.below g1 q2)
      go_wp2
      exact ⟨⟨n + 1, by go_num, by omega, hal1, HP1, HR1, via0 g1 B⟩, by simp [intOf]; omega⟩
  . have hR : Hid (x.rs.all rowF = true) := by
     have h := hal.out
     rw [List.take_of_length_le (by have := Hnr.out; omega)] at h
     exact h
    clear hal
    go_wp2
    clear u0 u1 u2 u3 v0 v1 v2 v3 v4 v5 q1 q2
    go_loopw [6] (fun i w' => ∃ (n : Nat), i = .int .i64 (n : Int) /\ n <= 2 /\ Hid ((x.gs.take n).all (grpF (nr : Int)) = true) /\ Hid (Blk w' w.heap.size 33 (Qag (nr : Int) wi le ke)) /\ Hid (Blk w' (w.heap.size + 1) 59 (Qae x.rA x.rs.length x.rc x.mA x.ms.length x.mc x.gA x.gs.length x.gc x.time x.dA x.ds.length x.dc x.lA x.ls.length x.lc)) /\ Below w.heap.size w w') (fun i _ => 2 - (intOf i).toNat)
    case atStart => exact ⟨0, rfl, by omega, rfl, HP, HR, B⟩
    case round =>
     obtain ⟨n, rfl, hn, hal, HP, HR, B⟩ := hrel
     obtain ⟨u0, u1, u2, u3⟩ := HP.out.row4
     obtain ⟨v0, v1, v2, v3, v4, v5⟩ := HR.out.row6
     have q1 := HP.out.lt
     have q2 := HR.out.lt
     by_cases hlt' : n < 2
     . have hlt : n < x.gs.length := by have := hg2.out; omega
       have hi0 : (0 : Int) <= (n : Int) := by omega
       have hi1 : (n : Int) < (x.gs.length : Int) := by omega
       obtain ⟨b, o, hbo, hbs, hIn⟩ : ∃ b o, x.gA = some ⟨b, o, none⟩ /\ b < w.heap.size /\ In w b o x.gs := by
        rcases HX.out.ga with h | h
        . rw [h] at hlt; simp at hlt
        . exact h
       obtain ⟨c0, c1, c2, c3⟩ := (hIn.below hbs B).getGC n hlt
       rw [hbo] at v2
       have HC : ∀ W : World, Below wr.heap.size wr W -> Calls Tryz.prog 117 #[.agg (Qa3 x.gs[n].gen x.gs[n].a1 x.gs[n].m.length x.gs[n].c1 x.gs[n].a2 x.gs[n].b.length x.gs[n].c2 x.gs[n].a3 x.gs[n].o.length x.gs[n].c3), .int .i64 (nr : Int)] W fun e w' => e = .returned (.bool (grpF (nr : Int) x.gs[n])) /\ Below W.heap.size W w' := fun W g => by
        have h3 := ((HX.out.ge _ (List.getElem_mem hlt)).below B).below g
        exact Qh0 _ _ _ _ _ _ _ _ _ _ _ (Ha.out.fit.gi _ (List.getElem_mem hlt)) W h3.1 h3.2.1 h3.2.2
       have hsu := Qbs (grpF (nr : Int)) hlt
       have hno := Qc3 (grpF (nr : Int)) hlt
       generalize hb : grpF (nr : Int) x.gs[n] = bb at HC hsu hno
       generalize x.gs[n] = y at c0 c1 c2 c3 HC
       have HC := hidP HC
       clear hb hbo
       have qb : b < wr.heap.size := Nat.lt_of_lt_of_le hbs B.size
       cases bb
       . have hF : Hid (Qbo (nr : Int) wi le ke x = false) := by show _ = _; rw [hFl.out, hno rfl, hR.out]; rfl
         clear hno hsu
         go_wp2_with fail
         refine wp_region_noPanic ?_
         refine wp_region_held_drew (S := (fun w' => w'.cell? ⟨w.heap.size + 1, 2, none⟩ = some (.slice (some ⟨b, o, none⟩) x.gs.length x.gc) /\ w'.cell? ⟨b, o + n * 4, none⟩ = some (.int .i64 y.gen) /\ w'.cell? ⟨b, o + n * 4 + 1, none⟩ = some (.slice y.a1 y.m.length y.c1) /\ w'.cell? ⟨b, o + n * 4 + 2, none⟩ = some (.slice y.a2 y.b.length y.c2) /\ w'.cell? ⟨b, o + n * 4 + 3, none⟩ = some (.slice y.a3 y.o.length y.c3) /\ w'.cell? ⟨w.heap.size, 0, none⟩ = some (.int .i64 (nr : Int)))) (by kernel_rfl) ?_ (fun hH => ?_)
         . (refine ⟨?_, ?_, ?_, ?_, ?_, ?_⟩<;>assumption)
         refine ztk [0,1,2,3,4,5,6] ?_; repeat (refine ztn (h := ?_); try simp only [zX,zY])
         refine zte ?_
         refine zR1 7 (fun K hK => ?_)
         simp only [zG]
         go_simp
         (go_at_call 117; refine (HC.out _ (Below.drew (Below.refl _ _))).mono ?_; rintro e w1 ⟨rfl, g1⟩; obtain ⟨k1, m1⟩ := Qax g1; have HG1 := hidP g1)
         refine hK.out _ _ ?_ (fun hH => ?_)
         . (go_split_ands; exact ⟨(k1 _ _ q2).trans (by assumption), (k1 _ _ qb).trans (by assumption), (k1 _ _ qb).trans (by assumption), (k1 _ _ qb).trans (by assumption), (k1 _ _ qb).trans (by assumption), (k1 _ _ q1).trans (by assumption)⟩)
         clear hK K
         try simp only [zX,zY]
         refine zt1 8 ?_; refine ztn (h := ?_); try simp only [zX,zY]
         refine zte ?_
         refine zdn ?_
         go_wp2
         go_ret
         exact ⟨by rw [hF.out]; rfl, via0 HG1.out B.drew⟩
       . have hal1 : Hid ((x.gs.take (n + 1)).all (grpF (nr : Int)) = true) := by show _ = _; rw [hsu, hal.out]; rfl
         clear hno hsu
         go_wp2_with fail
         refine wp_region_noPanic ?_
         refine wp_region_held_drew (S := (fun w' => w'.cell? ⟨w.heap.size + 1, 2, none⟩ = some (.slice (some ⟨b, o, none⟩) x.gs.length x.gc) /\ w'.cell? ⟨b, o + n * 4, none⟩ = some (.int .i64 y.gen) /\ w'.cell? ⟨b, o + n * 4 + 1, none⟩ = some (.slice y.a1 y.m.length y.c1) /\ w'.cell? ⟨b, o + n * 4 + 2, none⟩ = some (.slice y.a2 y.b.length y.c2) /\ w'.cell? ⟨b, o + n * 4 + 3, none⟩ = some (.slice y.a3 y.o.length y.c3) /\ w'.cell? ⟨w.heap.size, 0, none⟩ = some (.int .i64 (nr : Int)))) (by kernel_rfl) ?_ (fun hH => ?_)
         . (refine ⟨?_, ?_, ?_, ?_, ?_, ?_⟩<;>assumption)
         refine ztk [0,1,2,3,4,5,6] ?_; repeat (refine ztn (h := ?_); try simp only [zX,zY])
         refine zte ?_
         refine zR1 7 (fun K hK => ?_)
         simp only [zG]
         go_simp
         (go_at_call 117; refine (HC.out _ (Below.drew (Below.refl _ _))).mono ?_; rintro e w1 ⟨rfl, g1⟩; obtain ⟨k1, m1⟩ := Qax g1; have HG1 := hidP g1)
         refine hK.out _ _ ?_ (fun hH => ?_)
         . (go_split_ands; exact ⟨(k1 _ _ q2).trans (by assumption), (k1 _ _ qb).trans (by assumption), (k1 _ _ qb).trans (by assumption), (k1 _ _ qb).trans (by assumption), (k1 _ _ qb).trans (by assumption), (k1 _ _ q1).trans (by assumption)⟩)
         clear hK K
         try simp only [zX,zY]
         refine zt1 8 ?_; refine ztn (h := ?_); try simp only [zX,zY]
         refine zte ?_
         refine zdn ?_
         have HP1 := hidP (HP.out.below (via0 HG1.out (Below.drew (Below.refl _ _))) q1)
         have HR1 := hidP (HR.out.below (via0 HG1.out (Below.drew (Below.refl _ _))) q2)
         go_wp2
         exact ⟨⟨n + 1, by go_num, by omega, hal1, HP1, HR1, via0 HG1.out B.drew⟩, by simp [intOf]; omega⟩
     . have hG : Hid (x.gs.all (grpF (nr : Int)) = true) := by
        have h := hal.out
        rw [List.take_of_length_le (by have := hg2.out; omega)] at h
        exact h
       clear hal
       go_wp2
       clear u0 u1 u2 u3 v0 v1 v2 v3 v4 v5 q1 q2
       go_loopw [7] (fun i w' => ∃ (n : Nat), i = .int .i64 (n : Int) /\ n <= 4 /\ Hid (Qbm x.ds n = true) /\ Hid ((x.ls.take n).all ansF = true) /\ Hid (Blk w' (w.heap.size + 1) 59 (Qae x.rA x.rs.length x.rc x.mA x.ms.length x.mc x.gA x.gs.length x.gc x.time x.dA x.ds.length x.dc x.lA x.ls.length x.lc)) /\ Below w.heap.size w w') (fun i _ => 4 - (intOf i).toNat)
       case atStart => exact ⟨0, rfl, by omega, rfl, rfl, HR, B⟩
       case round =>
        obtain ⟨n, rfl, hn, hnu, hal, HR, B⟩ := hrel
        obtain ⟨v0, v1, v2, v3, v4, v5⟩ := HR.out.row6
        have q2 := HR.out.lt
        by_cases hlt' : n < 4
        . have hlt : n < x.ds.length := by have := hd4.out; omega
          have hltl : n < x.ls.length := by have := hl4.out; omega
          have hi0 : (0 : Int) <= (n : Int) := by omega
          have hi1 : (n : Int) < (x.ds.length : Int) := by omega
          have hi2 : (n : Int) < (x.ls.length : Int) := by omega
          obtain ⟨b, o, hbo, hbs, hIn⟩ : ∃ b o, x.dA = some ⟨b, o, none⟩ /\ b < w.heap.size /\ In w b o x.ds := by
           rcases HX.out.da with h | h
           . rw [h] at hlt; simp at hlt
           . exact h
          obtain ⟨b', o', hbo', hbs', hIn'⟩ : ∃ b o, x.lA = some ⟨b, o, none⟩ /\ b < w.heap.size /\ In w b o x.ls := by
           rcases HX.out.la with h | h
           . rw [h] at hltl; simp at hltl
           . exact h
          have d0 := (hIn.below hbs B).getInt n hlt
          obtain ⟨c0, c1, c2, c3⟩ := (hIn'.below hbs' B).getAn n hltl
          rw [hbo] at v4
          rw [hbo'] at v5
          have hri := Ha.out.lr _ (List.getElem_mem hltl)
          have HC : ∀ W : World, Calls Tryz.prog 77 #[.agg (Qcr x.ls[n].code x.ls[n].n x.ls[n].key x.ls[n].text)] W fun e w' => e = .returned (.bool (ansF x.ls[n])) /\ Below W.heap.size W w' := fun W => Qc8 _ _ _ _ hri.2.2.1 hri.2.2.2 W
          have HD : ∀ W : World, Calls Tryz.prog 32 (Qa4 x.ds[n] 0 100000) W fun e w' => e = .returned (.bool (inB x.ds[n] 0 100000)) /\ w' = W := fun W => in_any _ _ _ W
          have hsu := Qbs ansF hltl
          have hno := Qc3 ansF hltl
          have hsd := Qci hlt
          have hnd := Qdi hlt
          generalize hb : ansF x.ls[n] = bb at HC hsu hno
          generalize hb' : inB x.ds[n] 0 100000 = cc at HD hsd hnd
          have HC := hidP HC
          have HD := hidP HD
          clear hb hb' hri hbo hbo'
          have qb : b < wr.heap.size := Nat.lt_of_lt_of_le hbs B.size
          have qb' : b' < wr.heap.size := Nat.lt_of_lt_of_le hbs' B.size
          cases cc
          . have hF : Hid (Qbo (nr : Int) wi le ke x = false) := by show _ = _; rw [hFl.out, hnd rfl]; simp
            clear hno hsu hnd hsd
            go_wp2_with fail
            refine (HD.out _).mono ?_
            rintro e w1 ⟨rfl, rfl⟩
            go_wp2
            go_ret
            exact ⟨by rw [hF.out]; rfl, B⟩
          have hnu1 : Hid (Qbm x.ds (n + 1) = true) := by show _ = _; rw [hsd, hnu.out]; rfl
          cases bb
          . have hF : Hid (Qbo (nr : Int) wi le ke x = false) := by show _ = _; rw [hFl.out, hno rfl]; simp
            clear hno hsu hnd hsd
            go_wp2_with fail
            refine (HD.out _).mono ?_
            rintro e w1 ⟨rfl, rfl⟩
            go_wp2_with fail
            refine (HC.out _).mono ?_
            rintro e w2 ⟨rfl, g2⟩
            go_wp2
            go_ret
            exact ⟨by rw [hF.out]; rfl, via0 g2 B⟩
          . have hal1 : Hid ((x.ls.take (n + 1)).all ansF = true) := by show _ = _; rw [hsu, hal.out]; rfl
            clear hno hsu hnd hsd
            go_wp2_with fail
            refine (HD.out _).mono ?_
            rintro e w1 ⟨rfl, rfl⟩
            go_wp2_with fail
            refine (HC.out _).mono ?_
            rintro e w2 ⟨rfl, g2⟩
            have HR1 := hidP (HR.out.below g2 q2)
            go_wp2
            exact ⟨⟨n + 1, by go_num, by omega, hnu1, hal1, HR1, via0 g2 B⟩, by simp [intOf]; omega⟩
        . have hF : Hid (Qbo (nr : Int) wi le ke x = true) := by
           show _ = _
           have h1 := hnu.out
           have h2 := hal.out
           have e1 : n = x.ds.length := by have := hd4.out; omega
           rw [List.take_of_length_le (by have := hl4.out; omega)] at h2
           rw [e1] at h1
           rw [hFl.out, hR.out, hG.out, h1, h2]; rfl
          go_wp2
          go_ret
          exact ⟨by rw [hF.out]; rfl, B⟩
end Go.Proofs.YtkmkldjipihceaaGreat.Gen
