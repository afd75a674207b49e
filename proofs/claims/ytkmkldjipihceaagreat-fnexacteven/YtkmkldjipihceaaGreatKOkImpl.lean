/-
  The program's KeepOk at this seat. No condition but that its lists have at most 1048576 records in all.
-/
import Derived.Test.YtkmkldjipihceaaGreatKOk
set_option linter.unusedVariables false
set_option linter.unusedSimpArgs false
set_option maxRecDepth 100000
set_option maxHeartbeats 8000000
set_option maxRecDepth 100000
set_option maxHeartbeats 8000000
namespace Go.Proofs.YtkmkldjipihceaaGreat.Gen
open ChangeShapes WideShapes ChangeAt RowKit Joins Deep Base
theorem Qc9 (ro wi le ke : Int) (x : KC) (ha : KAsk x) (w : World) (hx : KAt w x) :
 Calls Tryz.prog 147 #[.agg (Qag ro wi le ke), .agg (Qae x.rA x.rs.length x.rc x.mA x.ms.length x.mc x.gA x.gs.length x.gc x.time x.dA x.ds.length x.dc x.lA x.ls.length x.lc)] w fun e w' => e = .returned (.bool (Qbo ro wi le ke x)) /\ Below w.heap.size w w' := by
 obtain ⟨b1, h1⟩ : ∃ b, setB ro wi le ke = b := ⟨_, rfl⟩
 obtain ⟨b2, h2⟩ : ∃ b, decide ((x.rs.length : Int) = ro) = b := ⟨_, rfl⟩
 obtain ⟨b3, h3⟩ : ∃ b, x.rs.all rowF = b := ⟨_, rfl⟩
 obtain ⟨b4, h4⟩ : ∃ b, Qbn x.ms x.ms.length = b := ⟨_, rfl⟩
 obtain ⟨b5, h5⟩ : ∃ b, x.ms.all (makF ro wi) = b := ⟨_, rfl⟩
 obtain ⟨b6, h6⟩ : ∃ b, decide ((x.gs.length : Int) = 2) = b := ⟨_, rfl⟩
 obtain ⟨b7, h7⟩ : ∃ b, x.gs.all (grpF ro) = b := ⟨_, rfl⟩
 obtain ⟨b8, h8⟩ : ∃ b, inB x.time 0 100000 = b := ⟨_, rfl⟩
 obtain ⟨b9, h9⟩ : ∃ b, decide ((x.ds.length : Int) = 4) = b := ⟨_, rfl⟩
 obtain ⟨b10, h10⟩ : ∃ b, Qbm x.ds x.ds.length = b := ⟨_, rfl⟩
 obtain ⟨b11, h11⟩ : ∃ b, decide ((x.ls.length : Int) = 4) = b := ⟨_, rfl⟩
 obtain ⟨b12, h12⟩ : ∃ b, x.ls.all ansF = b := ⟨_, rfl⟩
 have hF : Hid (Qbo ro wi le ke x = (b1 && b2 && b3 && b4 && b5 && b6 && b7 && b8 && b9 && b10 && b11 && b12)) := by
  show _ = _
  rw [Qbo, h1, h2, h3, h4, h5, h6, h7, h8, h9, h10, h11, h12]
 have q2 : ((x.rs.length : Int) == ro) = b2 := h2
 have q6 : ((x.gs.length : Int) == 2) = b6 := h6
 have q9 : ((x.ds.length : Int) == 4) = b9 := h9
 have q11 : ((x.ls.length : Int) == 4) = b11 := h11
 have f := ha.fit
 have E1 : Hid (∀ W : World, Calls Tryz.prog 48 #[.agg (Qag ro wi le ke)] W fun e w' => e = .returned (.bool b1) /\ Below W.heap.size W w') := fun W => h1 ▸ Qdj ro wi le ke W
 have E3 : Hid (∀ W : World, Below w.heap.size w W -> Calls Tryz.prog 161 #[.slice x.rA x.rs.length x.rc, .func (.func 162) #[] #[]] W fun e w' => e = .returned (.bool b3) /\ Below W.heap.size W w') := fun W g => h3 ▸ Qih _ _ x.rs f.rl f.ri ha.rr W (hx.below g).ra (hx.below g).re
 have E4 : Hid (∀ W : World, Below w.heap.size w W -> Calls Tryz.prog 163 #[.slice x.mA x.ms.length x.mc] W fun e w' => e = .returned (.bool b4) /\ Below W.heap.size W w') := fun W g => h4 ▸ Qgy _ _ x.ms f.ml W (hx.below g).ma
 have E5 : Hid (∀ W : World, Below w.heap.size w W -> Blk W w.heap.size 33 (Qag ro wi le ke) -> Calls Tryz.prog 164 #[.slice x.mA x.ms.length x.mc, .func (.func 165) #[] #[.pointer (some ⟨w.heap.size, 0, none⟩)]] W fun e w' => e = .returned (.bool b5) /\ Below W.heap.size W w') := fun W g hs => h5 ▸ Qf8 ro wi le ke _ _ _ x.ms f.ml f.mi W hs (hx.below g).ma (hx.below g).me
 have E7 : Hid (∀ W : World, Below w.heap.size w W -> Blk W w.heap.size 33 (Qag ro wi le ke) -> Calls Tryz.prog 167 #[.slice x.gA x.gs.length x.gc, .func (.func 168) #[] #[.pointer (some ⟨w.heap.size, 0, none⟩)]] W fun e w' => e = .returned (.bool b7) /\ Below W.heap.size W w') := fun W g hs => h7 ▸ Qga ro wi le ke _ _ _ x.gs f.gl f.gi W hs (hx.below g).ga (hx.below g).ge
 have E8 : Hid (∀ W : World, Calls Tryz.prog 89 (Qa4 x.time 0 100000) W fun e w' => e = .returned (.bool b8) /\ w' = W) := fun W => h8 ▸ within_any _ _ _ W
 have E10 : Hid (∀ W : World, Below w.heap.size w W -> Calls Tryz.prog 170 #[.slice x.dA x.ds.length x.dc] W fun e w' => e = .returned (.bool b10) /\ w' = W) := fun W g => h10 ▸ Qdu _ _ x.ds f.dl W (hx.below g).da
 have E12 : Hid (∀ W : World, Below w.heap.size w W -> Calls Tryz.prog 171 #[.slice x.lA x.ls.length x.lc, .func (.func 97) #[] #[]] W fun e w' => e = .returned (.bool b12) /\ Below W.heap.size W w') := fun W g => h12 ▸ Qe5 _ _ x.ls f.ll ha.lr W (hx.below g).la
 clear h1 h2 h3 h4 h5 h6 h7 h8 h9 h10 h11 h12 f hx ha
 go_enter Tryz.func147, Tryz.ntmps147
 have B : Below w.heap.size w ((w.alloc (.cells (Qag ro wi le ke) 33)).alloc (.cells (Qae x.rA x.rs.length x.rc x.mA x.ms.length x.mc x.gA x.gs.length x.gc x.time x.dA x.ds.length x.dc x.lA x.ls.length x.lc) 59)) := Qab (Qab (Below.refl _ _) _) _
 have P : Blk ((w.alloc (.cells (Qag ro wi le ke) 33)).alloc (.cells (Qae x.rA x.rs.length x.rc x.mA x.ms.length x.mc x.gA x.gs.length x.gc x.time x.dA x.ds.length x.dc x.lA x.ls.length x.lc) 59)) w.heap.size 33 (Qag ro wi le ke) := (Blk.new w _ _).alloc _
 have R : Blk ((w.alloc (.cells (Qag ro wi le ke) 33)).alloc (.cells (Qae x.rA x.rs.length x.rc x.mA x.ms.length x.mc x.gA x.gs.length x.gc x.time x.dA x.ds.length x.dc x.lA x.ls.length x.lc) 59)) (w.heap.size + 1) 59 (Qae x.rA x.rs.length x.rc x.mA x.ms.length x.mc x.gA x.gs.length x.gc x.time x.dA x.ds.length x.dc x.lA x.ls.length x.lc) := by have := Blk.new (w.alloc (.cells (Qag ro wi le ke) 33)) 59 (Qae x.rA x.rs.length x.rc x.mA x.ms.length x.mc x.gA x.gs.length x.gc x.time x.dA x.ds.length x.dc x.lA x.ls.length x.lc); rwa [World.size_alloc] at this
 go_wp2_with fail
 refine (E1.out _).mono ?_
 rintro e w1 ⟨rfl, g⟩
 replace B := via0 g B
 replace P := P.below g P.lt
 replace R := R.below g R.lt
 clear g
 obtain ⟨u0, u1, u2, u3⟩ := P.row4
 obtain ⟨v0, v1, v2, v3, v4, v5⟩ := R.row6
 have q1 := P.lt
 have q2' := R.lt
 cases b1
 . go_wp2
   go_ret
   exact ⟨by rw [hF.out]; rfl, B⟩
 cases b2
 . go_wp2
   go_ret
   exact ⟨by rw [hF.out]; rfl, B⟩
 go_wp2_with fail
 refine (E3.out _ B).mono ?_
 rintro e w3 ⟨rfl, g⟩
 replace B := via0 g B
 replace P := P.below g P.lt
 replace R := R.below g R.lt
 clear g u0 u1 u2 u3 v0 v1 v2 v3 v4 v5 q1 q2'
 obtain ⟨u0, u1, u2, u3⟩ := P.row4
 obtain ⟨v0, v1, v2, v3, v4, v5⟩ := R.row6
 have q1 := P.lt
 have q2' := R.lt
 cases b3
 . go_wp2
   go_ret
   exact ⟨by rw [hF.out]; rfl, B⟩
 go_wp2_with fail
 refine (E4.out _ B).mono ?_
 rintro e w4 ⟨rfl, g⟩
 replace B := via0 g B
 replace P := P.below g P.lt
 replace R := R.below g R.lt
 clear g u0 u1 u2 u3 v0 v1 v2 v3 v4 v5 q1 q2'
 obtain ⟨u0, u1, u2, u3⟩ := P.row4
 obtain ⟨v0, v1, v2, v3, v4, v5⟩ := R.row6
 have q1 := P.lt
 have q2' := R.lt
 cases b4
 . go_wp2
   go_ret
   exact ⟨by rw [hF.out]; rfl, B⟩
 go_wp2_with fail
 refine (E5.out _ B P).mono ?_
 rintro e w5 ⟨rfl, g⟩
 replace B := via0 g B
 replace P := P.below g P.lt
 replace R := R.below g R.lt
 clear g u0 u1 u2 u3 v0 v1 v2 v3 v4 v5 q1 q2'
 obtain ⟨u0, u1, u2, u3⟩ := P.row4
 obtain ⟨v0, v1, v2, v3, v4, v5⟩ := R.row6
 have q1 := P.lt
 have q2' := R.lt
 cases b5
 . go_wp2
   go_ret
   exact ⟨by rw [hF.out]; rfl, B⟩
 cases b6
 . go_wp2
   go_ret
   exact ⟨by rw [hF.out]; rfl, B⟩
 go_wp2_with fail
 refine (E7.out _ B P).mono ?_
 rintro e w7 ⟨rfl, g⟩
 replace B := via0 g B
 replace P := P.below g P.lt
 replace R := R.below g R.lt
 clear g u0 u1 u2 u3 v0 v1 v2 v3 v4 v5 q1 q2'
 obtain ⟨u0, u1, u2, u3⟩ := P.row4
 obtain ⟨v0, v1, v2, v3, v4, v5⟩ := R.row6
 have q1 := P.lt
 have q2' := R.lt
 cases b7
 . go_wp2
   go_ret
   exact ⟨by rw [hF.out]; rfl, B⟩
 go_wp2_with fail
 refine (E8.out _).mono ?_
 rintro e w8 ⟨rfl, rfl⟩
 cases b8
 . go_wp2
   go_ret
   exact ⟨by rw [hF.out]; rfl, B⟩
 cases b9
 . go_wp2
   go_ret
   exact ⟨by rw [hF.out]; rfl, B⟩
 go_wp2_with fail
 refine (E10.out _ B).mono ?_
 rintro e w10 ⟨rfl, rfl⟩
 cases b10
 . go_wp2
   go_ret
   exact ⟨by rw [hF.out]; rfl, B⟩
 cases b11
 . go_wp2
   go_ret
   exact ⟨by rw [hF.out]; rfl, B⟩
 go_wp2_with fail
 refine (E12.out _ B).mono ?_
 rintro e w12 ⟨rfl, g⟩
 replace B := via0 g B
 replace P := P.below g P.lt
 replace R := R.below g R.lt
 clear g u0 u1 u2 u3 v0 v1 v2 v3 v4 v5 q1 q2'
 obtain ⟨u0, u1, u2, u3⟩ := P.row4
 obtain ⟨v0, v1, v2, v3, v4, v5⟩ := R.row6
 have q1 := P.lt
 have q2' := R.lt
 cases b12
 . go_wp2
   go_ret
   exact ⟨by rw [hF.out]; rfl, B⟩
 go_wp2
 go_ret
 exact ⟨by rw [hF.out]; rfl, B⟩
end Go.Proofs.YtkmkldjipihceaaGreat.Gen
