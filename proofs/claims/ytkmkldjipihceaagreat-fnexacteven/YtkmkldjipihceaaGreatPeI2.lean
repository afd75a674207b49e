/-
  The program's feedsRight, walked. No condition but the sizes of lists.
-/
import Derived.Test.YtkmkldjipihceaaGreatPeI1
set_option linter.unusedVariables false
set_option linter.unusedSimpArgs false
set_option maxRecDepth 100000
set_option maxHeartbeats 8000000
set_option maxRecDepth 100000
set_option maxHeartbeats 8000000
namespace Go.Proofs.YtkmkldjipihceaaGreat.Gen
open ChangeShapes WideShapes ChangeAt RowKit Joins Deep Base
theorem Blk.row31 {W : World} {B : Nat} {t : TypeId} {v0 v1 v2 v3 v4 v5 v6 v7 v8 v9 v10 v11 v12 v13 v14 v15 v16 v17 v18 v19 v20 v21 v22 v23 v24 v25 v26 v27 v28 v29 v30 : Value} (p : Blk W B t #[v0, v1, v2, v3, v4, v5, v6, v7, v8, v9, v10, v11, v12, v13, v14, v15, v16, v17, v18, v19, v20, v21, v22, v23, v24, v25, v26, v27, v28, v29, v30]) :
 W.cell? ⟨B, 0, none⟩ = some v0 /\ W.cell? ⟨B, 1, none⟩ = some v1 /\ W.cell? ⟨B, 2, none⟩ = some v2 /\ W.cell? ⟨B, 3, none⟩ = some v3 /\ W.cell? ⟨B, 4, none⟩ = some v4 /\ W.cell? ⟨B, 5, none⟩ = some v5 /\ W.cell? ⟨B, 6, none⟩ = some v6 /\ W.cell? ⟨B, 7, none⟩ = some v7 /\ W.cell? ⟨B, 8, none⟩ = some v8 /\ W.cell? ⟨B, 9, none⟩ = some v9 /\ W.cell? ⟨B, 10, none⟩ = some v10 /\ W.cell? ⟨B, 11, none⟩ = some v11 /\ W.cell? ⟨B, 11 + 1, none⟩ = some v12 /\ W.cell? ⟨B, 11 + 2, none⟩ = some v13 /\ W.cell? ⟨B, 11 + 3, none⟩ = some v14 /\ W.cell? ⟨B, 15, none⟩ = some v15 /\ W.cell? ⟨B, 16, none⟩ = some v16 /\ W.cell? ⟨B, 17, none⟩ = some v17 /\ W.cell? ⟨B, 18, none⟩ = some v18 /\ W.cell? ⟨B, 19, none⟩ = some v19 /\ W.cell? ⟨B, 20, none⟩ = some v20 /\ W.cell? ⟨B, 21, none⟩ = some v21 /\ W.cell? ⟨B, 22, none⟩ = some v22 /\ W.cell? ⟨B, 22 + 1, none⟩ = some v23 /\ W.cell? ⟨B, 22 + 2, none⟩ = some v24 /\ W.cell? ⟨B, 22 + 3, none⟩ = some v25 /\ W.cell? ⟨B, 22 + 4, none⟩ = some v26 /\ W.cell? ⟨B, 22 + 5, none⟩ = some v27 /\ W.cell? ⟨B, 28, none⟩ = some v28 /\ W.cell? ⟨B, 28 + 1, none⟩ = some v29 /\ W.cell? ⟨B, 30, none⟩ = some v30 :=
 ⟨p.cell (by rfl), p.cell (by rfl), p.cell (by rfl), p.cell (by rfl), p.cell (by rfl), p.cell (by rfl), p.cell (by rfl), p.cell (by rfl), p.cell (by rfl), p.cell (by rfl), p.cell (by rfl), p.cell (by rfl), p.cell (by rfl), p.cell (by rfl), p.cell (by rfl), p.cell (by rfl), p.cell (by rfl), p.cell (by rfl), p.cell (by rfl), p.cell (by rfl), p.cell (by rfl), p.cell (by rfl), p.cell (by rfl), p.cell (by rfl), p.cell (by rfl), p.cell (by rfl), p.cell (by rfl), p.cell (by rfl), p.cell (by rfl), p.cell (by rfl), p.cell (by rfl)⟩
theorem Qcg (te vo base bt : Int) (A : Option Addr) (cap : Nat) (l : List En) (hl : l.length <= 1048576) (x : KC) (w : World) (hA : At w A l) :
 Calls Tryz.prog 67 #[.agg (Qad te vo base bt A l.length cap x.rA x.rs.length x.rc x.mA x.ms.length x.mc x.gA x.gs.length x.gc x.time x.dA x.ds.length x.dc x.lA x.ls.length x.lc)] w fun e w' => e = .returned (.int .i64 (Qbc base l)) /\ Below w.heap.size w w' := by
 obtain ⟨ln, hln⟩ : ∃ z, Qbc base l = z := ⟨_, rfl⟩
 obtain ⟨lt, hlt0⟩ : ∃ z, Qds bt l = z := ⟨_, rfl⟩
 have P0 := Blk.new w 61 (Qad te vo base bt A l.length cap x.rA x.rs.length x.rc x.mA x.ms.length x.mc x.gA x.gs.length x.gc x.time x.dA x.ds.length x.dc x.lA x.ls.length x.lc)
 have B0 : Below w.heap.size w (w.alloc (.cells (Qad te vo base bt A l.length cap x.rA x.rs.length x.rc x.mA x.ms.length x.mc x.gA x.gs.length x.gc x.time x.dA x.ds.length x.dc x.lA x.ls.length x.lc) 61)) := Qab (Below.refl _ w) _
 have E6 : Hid (Calls Tryz.prog 106 #[.agg (Qap base bt A l.length cap)] (w.alloc (.cells (Qad te vo base bt A l.length cap x.rA x.rs.length x.rc x.mA x.ms.length x.mc x.gA x.gs.length x.gc x.time x.dA x.ds.length x.dc x.lA x.ls.length x.lc) 61)) fun e w' => e = .returned (.tuple #[.int .i64 ln, .int .i64 lt]) /\ Below (w.alloc (.cells (Qad te vo base bt A l.length cap x.rA x.rs.length x.rc x.mA x.ms.length x.mc x.gA x.gs.length x.gc x.time x.dA x.ds.length x.dc x.lA x.ls.length x.lc) 61)).heap.size (w.alloc (.cells (Qad te vo base bt A l.length cap x.rA x.rs.length x.rc x.mA x.ms.length x.mc x.gA x.gs.length x.gc x.time x.dA x.ds.length x.dc x.lA x.ls.length x.lc) 61)) w') := by have h := Qdz base bt A cap l (by omega) (w.alloc (.cells (Qad te vo base bt A l.length cap x.rA x.rs.length x.rc x.mA x.ms.length x.mc x.gA x.gs.length x.gc x.time x.dA x.ds.length x.dc x.lA x.ls.length x.lc) 61)) (hA.below B0); rw [hln, hlt0] at h; exact h
 rw [hln]
 obtain ⟨u0, u1, u2, u3, u4, u5, u6, u7, u8, u9, u10⟩ := P0.row11
 clear P0 hA hln hlt0
 go_enter Tryz.func67, Tryz.ntmps67
 go_wp2_with fail
 refine E6.out.mono ?_
 rintro e w1 ⟨rfl, g1⟩
 go_wp2
 go_ret
 exact ⟨rfl, via0 g1 B0⟩
theorem Qe2 (ro wi le ke id te vo base bt role com su size : Int) (A vA nA pA dA hA0 : Option Addr) (cap vn vc nn nc pn pc dc hc : Nat) (l : List En) (ns ps : List Int) (db : List UInt8) (hs : List RpC) (x y : KC) (hl : l.length <= 1048576) (hnn : nn = ns.length) (hpn : pn = ps.length) (hnl : nn <= 1048576) (hpl : pn <= 1048576) (hln : 0 <= Qbc base l /\ Qbc base l <= 300) (w : World) (hA : At w A l) (hN : At w nA ns) (hP : At w pA ps) :
 Calls Tryz.prog 146 #[.agg (Qac te vo base bt A l.length cap x.rA x.rs.length x.rc x.mA x.ms.length x.mc x.gA x.gs.length x.gc x.time x.dA x.ds.length x.dc x.lA x.ls.length x.lc ro wi le ke size id role vA vn vc nA nn nc pA pn pc com y.rA y.rs.length y.rc y.mA y.ms.length y.mc y.gA y.gs.length y.gc y.time y.dA y.ds.length y.dc y.lA y.ls.length y.lc dA db.length dc su hA0 hs.length hc)] w fun e w' => e = .returned (.bool (decide ((nn : Int) = size) && ns.all (fun z => inB z 1 (Qbc base l + 1)) && decide ((pn : Int) = size) && ps.all (fun z => inB z 0 (Qbc base l)))) /\ Below w.heap.size w w' := by
 have P0 := hidP (Blk.new w 195 (Qac te vo base bt A l.length cap x.rA x.rs.length x.rc x.mA x.ms.length x.mc x.gA x.gs.length x.gc x.time x.dA x.ds.length x.dc x.lA x.ls.length x.lc ro wi le ke size id role vA vn vc nA nn nc pA pn pc com y.rA y.rs.length y.rc y.mA y.ms.length y.mc y.gA y.gs.length y.gc y.time y.dA y.ds.length y.dc y.lA y.ls.length y.lc dA db.length dc su hA0 hs.length hc))
 have B0 : Below w.heap.size w (w.alloc (.cells (Qac te vo base bt A l.length cap x.rA x.rs.length x.rc x.mA x.ms.length x.mc x.gA x.gs.length x.gc x.time x.dA x.ds.length x.dc x.lA x.ls.length x.lc ro wi le ke size id role vA vn vc nA nn nc pA pn pc com y.rA y.rs.length y.rc y.mA y.ms.length y.mc y.gA y.gs.length y.gc y.time y.dA y.ds.length y.dc y.lA y.ls.length y.lc dA db.length dc su hA0 hs.length hc) 195)) := Qab (Below.refl _ w) _
 have E1 := hidP (Qcg te vo base bt A cap l hl x (w.alloc (.cells (Qac te vo base bt A l.length cap x.rA x.rs.length x.rc x.mA x.ms.length x.mc x.gA x.gs.length x.gc x.time x.dA x.ds.length x.dc x.lA x.ls.length x.lc ro wi le ke size id role vA vn vc nA nn nc pA pn pc com y.rA y.rs.length y.rc y.mA y.ms.length y.mc y.gA y.gs.length y.gc y.time y.dA y.ds.length y.dc y.lA y.ls.length y.lc dA db.length dc su hA0 hs.length hc) 195)) (hA.below B0))
 generalize hlz : Qbc base l = ln at *
 have E2 : Hid (∀ (W : World) (Bl : Nat), Below w.heap.size w W -> Blk W Bl 156 #[.int .i64 ln] -> Calls Tryz.prog 55 #[.slice nA nn nc, .func (.func 159) #[] #[.pointer (some ⟨Bl, 0, none⟩)]] W fun e w' => e = .returned (.bool (ns.all (fun z => inB z 1 (ln + 1)))) /\ Below W.heap.size W w') := fun W Bl g hb => by have h := Qgc ln hln Bl nA nc ns (by omega) W hb (hN.below g); rw [← hnn] at h; exact h
 have E3 : Hid (∀ (W : World) (Bl : Nat), Below w.heap.size w W -> Blk W Bl 156 #[.int .i64 ln] -> Calls Tryz.prog 55 #[.slice pA pn pc, .func (.func 160) #[] #[.pointer (some ⟨Bl, 0, none⟩)]] W fun e w' => e = .returned (.bool (ps.all (fun z => inB z 0 ln))) /\ Below W.heap.size W w') := fun W Bl g hb => by have h := Qgb ln hln Bl pA pc ps (by omega) W hb (hP.below g); rw [← hpn] at h; exact h
 generalize ns.all (fun z => inB z 1 (ln + 1)) = b1 at *
 generalize ps.all (fun z => inB z 0 ln) = b2 at *
 have hmf : ∀ (fn : Fn) (first cap : Array Value) (w : World), (Instr.makeFunc fn first cap).run Tryz.prog w = .ok (.func fn first cap) w := fun _ _ _ _ => rfl
 have HB0 := hidP B0
 clear hA hN hP hnn hpn hlz hl B0
 obtain ⟨c0, c1, c2, c3, c4, c5, c6, c7, c8, c9, c10, -, -, -, -, -, -, -, -, -, -, -, -, -, -, -, -, -, -, -, -⟩ := P0.out.row31
 go_enter Tryz.func146, Tryz.ntmps146
 go_wp2_with fail
 refine E1.out.mono ?_
 rintro e w1 ⟨rfl, g1⟩
 have B1 := via0 g1 HB0.out
 have PL := Blk.new w1 156 #[.int .i64 ln]
 have P1 := (P0.out.below g1 P0.out.lt).alloc (.cells #[.int .i64 ln] 156)
 have B2 : Below w.heap.size w (w1.alloc (.cells #[.int .i64 ln] 156)) := Qab B1 _
 have HX2 := hidP (And.intro B2 (And.intro PL P1))
 clear c0 c1 c2 c3 c4 c5 c6 c7 c8 c9 c10 g1 B1 PL P1 B2 P0 E1 HB0
 obtain ⟨-, -, -, -, -, -, -, -, -, -, -, -, -, -, -, c15, -, -, -, c19, c20, -, -, -, -, -, -, -, -, -, -⟩ := HX2.out.2.2.row31
 have q0 := HX2.out.2.2.lt
 have q1 := HX2.out.2.1.lt
 by_cases h1 : (nn : Int) = size
 case neg =>
  go_wp2
  go_ret
  exact ⟨by simp [h1], HX2.out.1⟩
 subst h1
 go_wp2_with fail
 refine (E2.out _ _ HX2.out.1 HX2.out.2.1).mono ?_
 rintro e w3 ⟨rfl, g3⟩
 have HX3 := hidP (And.intro (via0 g3 HX2.out.1) (And.intro (HX2.out.2.1.below g3 HX2.out.2.1.lt) (HX2.out.2.2.below g3 HX2.out.2.2.lt)))
 clear c15 c19 c20 q0 q1 g3 HX2 E2
 obtain ⟨-, -, -, -, -, -, -, -, -, -, -, -, -, -, -, c15, -, -, -, -, c20, -, -, -, -, -, -, -, -, -, -⟩ := HX3.out.2.2.row31
 have q0 := HX3.out.2.2.lt
 have q1 := HX3.out.2.1.lt
 cases b1
 . go_wp2
   go_ret
   exact ⟨by simp, HX3.out.1⟩
 by_cases h2 : pn = nn
 case neg =>
  have hf1 : Hid (decide ((pn : Int) = (nn : Int)) = false) := decide_eq_false (fun h => h2 (Int.ofNat.inj h))
  have hb1 : ((pn : Int) == (nn : Int)) = false := beq_eq_false_iff_ne.2 (fun h => h2 (Int.ofNat.inj h))
  go_wp2
  go_ret
  exact ⟨by rw [hf1.out]; simp, HX3.out.1⟩
 subst h2
 go_wp2_with fail
 refine (E3.out _ _ HX3.out.1 HX3.out.2.1).mono ?_
 rintro e w4 ⟨rfl, g4⟩
 have B4 := hidP (via0 g4 HX3.out.1)
 cases b2
 . go_wp2
   go_ret
   exact ⟨by simp, B4.out⟩
 . go_wp2
   go_ret
   exact ⟨by simp, B4.out⟩
end Go.Proofs.YtkmkldjipihceaaGreat.Gen
