/-
  Nodes: how they lie; that the laws' eq function finds two that are the same the same. No condition but the sizes of their lists.
-/
import Derived.Test.YtlcjaabnfdnfmaaGreatDoorKeepV
import Derived.Test.YtlcjaabnfdnfmaaGreatDoorRpcV
set_option linter.unusedVariables false
set_option linter.unusedSimpArgs false
set_option maxRecDepth 100000
set_option maxHeartbeats 8000000
namespace Go.Proofs.YtlcjaabnfdnfmaaGreatDoor.Gen
open ChangeShapes WideShapes ChangeAt RowKit Joins Deep Base
theorem Blk.row26 {W : World} {B : Nat} {t : TypeId} {v0 v1 v2 v3 v4 v5 v6 v7 v8 v9 v10 v11 v12 v13 v14 v15 v16 v17 v18 v19 v20 v21 v22 v23 v24 v25 : Value} (p : Blk W B t #[v0, v1, v2, v3, v4, v5, v6, v7, v8, v9, v10, v11, v12, v13, v14, v15, v16, v17, v18, v19, v20, v21, v22, v23, v24, v25]) :
 W.cell? ⟨B, 0, none⟩ = some v0 /\ W.cell? ⟨B, 1, none⟩ = some v1 /\ W.cell? ⟨B, 1 + 1, none⟩ = some v2 /\ W.cell? ⟨B, 1 + 2, none⟩ = some v3 /\ W.cell? ⟨B, 1 + 3, none⟩ = some v4 /\ W.cell? ⟨B, 1 + 4, none⟩ = some v5 /\ W.cell? ⟨B, 1 + 5, none⟩ = some v6 /\ W.cell? ⟨B, 1 + 6, none⟩ = some v7 /\ W.cell? ⟨B, 1 + 7, none⟩ = some v8 /\ W.cell? ⟨B, 1 + 8, none⟩ = some v9 /\ W.cell? ⟨B, 1 + 9, none⟩ = some v10 /\ W.cell? ⟨B, 1 + 10, none⟩ = some v11 /\ W.cell? ⟨B, 12, none⟩ = some v12 /\ W.cell? ⟨B, 13, none⟩ = some v13 /\ W.cell? ⟨B, 14, none⟩ = some v14 /\ W.cell? ⟨B, 15, none⟩ = some v15 /\ W.cell? ⟨B, 16, none⟩ = some v16 /\ W.cell? ⟨B, 17, none⟩ = some v17 /\ W.cell? ⟨B, 17 + 1, none⟩ = some v18 /\ W.cell? ⟨B, 17 + 2, none⟩ = some v19 /\ W.cell? ⟨B, 17 + 3, none⟩ = some v20 /\ W.cell? ⟨B, 17 + 4, none⟩ = some v21 /\ W.cell? ⟨B, 17 + 5, none⟩ = some v22 /\ W.cell? ⟨B, 23, none⟩ = some v23 /\ W.cell? ⟨B, 23 + 1, none⟩ = some v24 /\ W.cell? ⟨B, 25, none⟩ = some v25 :=
 ⟨p.cell (by rfl), p.cell (by rfl), p.cell (by rfl), p.cell (by rfl), p.cell (by rfl), p.cell (by rfl), p.cell (by rfl), p.cell (by rfl), p.cell (by rfl), p.cell (by rfl), p.cell (by rfl), p.cell (by rfl), p.cell (by rfl), p.cell (by rfl), p.cell (by rfl), p.cell (by rfl), p.cell (by rfl), p.cell (by rfl), p.cell (by rfl), p.cell (by rfl), p.cell (by rfl), p.cell (by rfl), p.cell (by rfl), p.cell (by rfl), p.cell (by rfl), p.cell (by rfl)⟩
theorem Qkp (id te vo base bt role com su : Int) (A A' vA vA' nA nA' pA pA' dA dA' hA0 hA0' : Option Addr) (cap cap' vc vc' nc nc' pc pc' dc dc' hc hc' : Nat) (l : List En) (vs : List Bool) (ns ps : List Int) (db : List UInt8) (hs hs' : List RpC) (x x' y y' : KC)
 (hl : l.length <= 9223372036854775807) (hvl : vs.length <= 9223372036854775807) (hnl : ns.length <= 9223372036854775807) (hpl : ps.length <= 9223372036854775807) (hdl : db.length <= 9223372036854775807) (hhl : hs.length <= 9223372036854775807) (hhr : ∀ z ∈ hs, z.l.length <= 9223372036854775807)
 (hfx : KFit x) (hpx : x'.p = x.p) (hfy : KFit y) (hpy : y'.p = y.p) (hhp : hs'.map RpC.p = hs.map RpC.p) (w : World)
 (hA : At w A l) (hA' : At w A' l) (hx : KAt w x) (hx' : KAt w x') (hV : At w vA vs) (hV' : At w vA' vs) (hN : At w nA ns) (hN' : At w nA' ns) (hP : At w pA ps) (hP' : At w pA' ps) (hy : KAt w y) (hy' : KAt w y') (hD : At w dA db) (hD' : At w dA' db) (hH : At w hA0 hs) (hE : EachP w hs) (hH' : At w hA0' hs') (hE' : EachP w hs') :
 Calls Tryz.prog 7 #[.agg #[.int .i64 id, .int .i64 te, .int .i64 vo, .int .i64 base, .int .i64 bt, .slice A l.length cap, .slice x.rA x.rs.length x.rc, .slice x.mA x.ms.length x.mc, .slice x.gA x.gs.length x.gc, .int .i64 x.time, .slice x.dA x.ds.length x.dc, .slice x.lA x.ls.length x.lc, .int .i64 role, .slice vA vs.length vc, .slice nA ns.length nc, .slice pA ps.length pc, .int .i64 com, .slice y.rA y.rs.length y.rc, .slice y.mA y.ms.length y.mc, .slice y.gA y.gs.length y.gc, .int .i64 y.time, .slice y.dA y.ds.length y.dc, .slice y.lA y.ls.length y.lc, .slice dA db.length dc, .int .i64 su, .slice hA0 hs.length hc], .agg #[.int .i64 id, .int .i64 te, .int .i64 vo, .int .i64 base, .int .i64 bt, .slice A' l.length cap', .slice x'.rA x'.rs.length x'.rc, .slice x'.mA x'.ms.length x'.mc, .slice x'.gA x'.gs.length x'.gc, .int .i64 x'.time, .slice x'.dA x'.ds.length x'.dc, .slice x'.lA x'.ls.length x'.lc, .int .i64 role, .slice vA' vs.length vc', .slice nA' ns.length nc', .slice pA' ps.length pc', .int .i64 com, .slice y'.rA y'.rs.length y'.rc, .slice y'.mA y'.ms.length y'.mc, .slice y'.gA y'.gs.length y'.gc, .int .i64 y'.time, .slice y'.dA y'.ds.length y'.dc, .slice y'.lA y'.ls.length y'.lc, .slice dA' db.length dc', .int .i64 su, .slice hA0' hs.length hc']] w fun e w' => e = .returned (.bool true) /\ Below w.heap.size w w' := by
 have E1 : Hid (∀ W : World, Below w.heap.size w W -> Calls Tryz.prog 20 #[.agg #[.int .i64 te, .int .i64 vo, .int .i64 base, .int .i64 bt, .slice A l.length cap, .slice x.rA x.rs.length x.rc, .slice x.mA x.ms.length x.mc, .slice x.gA x.gs.length x.gc, .int .i64 x.time, .slice x.dA x.ds.length x.dc, .slice x.lA x.ls.length x.lc], .agg #[.int .i64 te, .int .i64 vo, .int .i64 base, .int .i64 bt, .slice A' l.length cap', .slice x'.rA x'.rs.length x'.rc, .slice x'.mA x'.ms.length x'.mc, .slice x'.gA x'.gs.length x'.gc, .int .i64 x'.time, .slice x'.dA x'.ds.length x'.dc, .slice x'.lA x'.ls.length x'.lc]] W fun e w' => e = .returned (.bool true) /\ Below W.heap.size W w') := fun W g => Qks te vo base bt A A' cap cap' l hl x x' hfx hpx W (hA.below g) (hA'.below g) (hx.below g) (hx'.below g)
 have E2 : Hid (∀ W : World, Below w.heap.size w W -> Calls Tryz.prog 21 #[.slice vA vs.length vc, .slice vA' vs.length vc'] W fun e w' => e = .returned (.bool true) /\ Below W.heap.size W w') := fun W g => Qku vA vA' vc vc' vs hvl W (hV.below g) (hV'.below g)
 have E3 : Hid (∀ W : World, Below w.heap.size w W -> Calls Tryz.prog 22 #[.slice nA ns.length nc, .slice nA' ns.length nc'] W fun e w' => e = .returned (.bool true) /\ Below W.heap.size W w') := fun W g => Qcd nA nA' nc nc' ns hnl W (hN.below g) (hN'.below g)
 have E4 : Hid (∀ W : World, Below w.heap.size w W -> Calls Tryz.prog 22 #[.slice pA ps.length pc, .slice pA' ps.length pc'] W fun e w' => e = .returned (.bool true) /\ Below W.heap.size W w') := fun W g => Qcd pA pA' pc pc' ps hpl W (hP.below g) (hP'.below g)
 have E5 : Hid (∀ W : World, Below w.heap.size w W -> Calls Tryz.prog 23 #[.agg #[.slice y.rA y.rs.length y.rc, .slice y.mA y.ms.length y.mc, .slice y.gA y.gs.length y.gc, .int .i64 y.time, .slice y.dA y.ds.length y.dc, .slice y.lA y.ls.length y.lc], .agg #[.slice y'.rA y'.rs.length y'.rc, .slice y'.mA y'.ms.length y'.mc, .slice y'.gA y'.gs.length y'.gc, .int .i64 y'.time, .slice y'.dA y'.ds.length y'.dc, .slice y'.lA y'.ls.length y'.lc]] W fun e w' => e = .returned (.bool true) /\ Below W.heap.size W w') := fun W g => Qjh y y' hfy hpy W (hy.below g) (hy'.below g)
 have E6 : Hid (∀ W : World, Below w.heap.size w W -> Calls Tryz.prog 24 #[.agg #[.slice dA db.length dc, .int .i64 su], .agg #[.slice dA' db.length dc', .int .i64 su]] W fun e w' => e = .returned (.bool true) /\ Below W.heap.size W w') := fun W g => Qkt su dA dA' dc dc' db hdl W (hD.below g) (hD'.below g)
 have E7 : Hid (∀ W : World, Below w.heap.size w W -> Calls Tryz.prog 25 #[.slice hA0 hs.length hc, .slice hA0' hs.length hc'] W fun e w' => e = .returned (.bool true) /\ Below W.heap.size W w') := fun W g => Qkn hA0 hA0' hc hc' hs hs' hhl hhr hhp W (hH.below g) (hE.below g) (hH'.below g) (hE'.below g)
 clear hA hA' hx hx' hV hV' hN hN' hP hP' hy hy' hD hD' hH hE hH' hE' hl hvl hnl hpl hdl hhl hhr hfx hpx hfy hpy hhp
 have P0 : Blk ((w.alloc (.cells #[.int .i64 id, .int .i64 te, .int .i64 vo, .int .i64 base, .int .i64 bt, .slice A l.length cap, .slice x.rA x.rs.length x.rc, .slice x.mA x.ms.length x.mc, .slice x.gA x.gs.length x.gc, .int .i64 x.time, .slice x.dA x.ds.length x.dc, .slice x.lA x.ls.length x.lc, .int .i64 role, .slice vA vs.length vc, .slice nA ns.length nc, .slice pA ps.length pc, .int .i64 com, .slice y.rA y.rs.length y.rc, .slice y.mA y.ms.length y.mc, .slice y.gA y.gs.length y.gc, .int .i64 y.time, .slice y.dA y.ds.length y.dc, .slice y.lA y.ls.length y.lc, .slice dA db.length dc, .int .i64 su, .slice hA0 hs.length hc] 42)).alloc (.cells #[.int .i64 id, .int .i64 te, .int .i64 vo, .int .i64 base, .int .i64 bt, .slice A' l.length cap', .slice x'.rA x'.rs.length x'.rc, .slice x'.mA x'.ms.length x'.mc, .slice x'.gA x'.gs.length x'.gc, .int .i64 x'.time, .slice x'.dA x'.ds.length x'.dc, .slice x'.lA x'.ls.length x'.lc, .int .i64 role, .slice vA' vs.length vc', .slice nA' ns.length nc', .slice pA' ps.length pc', .int .i64 com, .slice y'.rA y'.rs.length y'.rc, .slice y'.mA y'.ms.length y'.mc, .slice y'.gA y'.gs.length y'.gc, .int .i64 y'.time, .slice y'.dA y'.ds.length y'.dc, .slice y'.lA y'.ls.length y'.lc, .slice dA' db.length dc', .int .i64 su, .slice hA0' hs.length hc'] 42)) w.heap.size 42 #[.int .i64 id, .int .i64 te, .int .i64 vo, .int .i64 base, .int .i64 bt, .slice A l.length cap, .slice x.rA x.rs.length x.rc, .slice x.mA x.ms.length x.mc, .slice x.gA x.gs.length x.gc, .int .i64 x.time, .slice x.dA x.ds.length x.dc, .slice x.lA x.ls.length x.lc, .int .i64 role, .slice vA vs.length vc, .slice nA ns.length nc, .slice pA ps.length pc, .int .i64 com, .slice y.rA y.rs.length y.rc, .slice y.mA y.ms.length y.mc, .slice y.gA y.gs.length y.gc, .int .i64 y.time, .slice y.dA y.ds.length y.dc, .slice y.lA y.ls.length y.lc, .slice dA db.length dc, .int .i64 su, .slice hA0 hs.length hc] := (Blk.new w _ _).alloc _
 have Q0 : Blk ((w.alloc (.cells #[.int .i64 id, .int .i64 te, .int .i64 vo, .int .i64 base, .int .i64 bt, .slice A l.length cap, .slice x.rA x.rs.length x.rc, .slice x.mA x.ms.length x.mc, .slice x.gA x.gs.length x.gc, .int .i64 x.time, .slice x.dA x.ds.length x.dc, .slice x.lA x.ls.length x.lc, .int .i64 role, .slice vA vs.length vc, .slice nA ns.length nc, .slice pA ps.length pc, .int .i64 com, .slice y.rA y.rs.length y.rc, .slice y.mA y.ms.length y.mc, .slice y.gA y.gs.length y.gc, .int .i64 y.time, .slice y.dA y.ds.length y.dc, .slice y.lA y.ls.length y.lc, .slice dA db.length dc, .int .i64 su, .slice hA0 hs.length hc] 42)).alloc (.cells #[.int .i64 id, .int .i64 te, .int .i64 vo, .int .i64 base, .int .i64 bt, .slice A' l.length cap', .slice x'.rA x'.rs.length x'.rc, .slice x'.mA x'.ms.length x'.mc, .slice x'.gA x'.gs.length x'.gc, .int .i64 x'.time, .slice x'.dA x'.ds.length x'.dc, .slice x'.lA x'.ls.length x'.lc, .int .i64 role, .slice vA' vs.length vc', .slice nA' ns.length nc', .slice pA' ps.length pc', .int .i64 com, .slice y'.rA y'.rs.length y'.rc, .slice y'.mA y'.ms.length y'.mc, .slice y'.gA y'.gs.length y'.gc, .int .i64 y'.time, .slice y'.dA y'.ds.length y'.dc, .slice y'.lA y'.ls.length y'.lc, .slice dA' db.length dc', .int .i64 su, .slice hA0' hs.length hc'] 42)) (w.heap.size + 1) 42 #[.int .i64 id, .int .i64 te, .int .i64 vo, .int .i64 base, .int .i64 bt, .slice A' l.length cap', .slice x'.rA x'.rs.length x'.rc, .slice x'.mA x'.ms.length x'.mc, .slice x'.gA x'.gs.length x'.gc, .int .i64 x'.time, .slice x'.dA x'.ds.length x'.dc, .slice x'.lA x'.ls.length x'.lc, .int .i64 role, .slice vA' vs.length vc', .slice nA' ns.length nc', .slice pA' ps.length pc', .int .i64 com, .slice y'.rA y'.rs.length y'.rc, .slice y'.mA y'.ms.length y'.mc, .slice y'.gA y'.gs.length y'.gc, .int .i64 y'.time, .slice y'.dA y'.ds.length y'.dc, .slice y'.lA y'.ls.length y'.lc, .slice dA' db.length dc', .int .i64 su, .slice hA0' hs.length hc'] := by have := Blk.new (w.alloc (.cells #[.int .i64 id, .int .i64 te, .int .i64 vo, .int .i64 base, .int .i64 bt, .slice A l.length cap, .slice x.rA x.rs.length x.rc, .slice x.mA x.ms.length x.mc, .slice x.gA x.gs.length x.gc, .int .i64 x.time, .slice x.dA x.ds.length x.dc, .slice x.lA x.ls.length x.lc, .int .i64 role, .slice vA vs.length vc, .slice nA ns.length nc, .slice pA ps.length pc, .int .i64 com, .slice y.rA y.rs.length y.rc, .slice y.mA y.ms.length y.mc, .slice y.gA y.gs.length y.gc, .int .i64 y.time, .slice y.dA y.ds.length y.dc, .slice y.lA y.ls.length y.lc, .slice dA db.length dc, .int .i64 su, .slice hA0 hs.length hc] 42)) 42 #[.int .i64 id, .int .i64 te, .int .i64 vo, .int .i64 base, .int .i64 bt, .slice A' l.length cap', .slice x'.rA x'.rs.length x'.rc, .slice x'.mA x'.ms.length x'.mc, .slice x'.gA x'.gs.length x'.gc, .int .i64 x'.time, .slice x'.dA x'.ds.length x'.dc, .slice x'.lA x'.ls.length x'.lc, .int .i64 role, .slice vA' vs.length vc', .slice nA' ns.length nc', .slice pA' ps.length pc', .int .i64 com, .slice y'.rA y'.rs.length y'.rc, .slice y'.mA y'.ms.length y'.mc, .slice y'.gA y'.gs.length y'.gc, .int .i64 y'.time, .slice y'.dA y'.ds.length y'.dc, .slice y'.lA y'.ls.length y'.lc, .slice dA' db.length dc', .int .i64 su, .slice hA0' hs.length hc']; rwa [World.size_alloc] at this
 have B0 : Below w.heap.size w ((w.alloc (.cells #[.int .i64 id, .int .i64 te, .int .i64 vo, .int .i64 base, .int .i64 bt, .slice A l.length cap, .slice x.rA x.rs.length x.rc, .slice x.mA x.ms.length x.mc, .slice x.gA x.gs.length x.gc, .int .i64 x.time, .slice x.dA x.ds.length x.dc, .slice x.lA x.ls.length x.lc, .int .i64 role, .slice vA vs.length vc, .slice nA ns.length nc, .slice pA ps.length pc, .int .i64 com, .slice y.rA y.rs.length y.rc, .slice y.mA y.ms.length y.mc, .slice y.gA y.gs.length y.gc, .int .i64 y.time, .slice y.dA y.ds.length y.dc, .slice y.lA y.ls.length y.lc, .slice dA db.length dc, .int .i64 su, .slice hA0 hs.length hc] 42)).alloc (.cells #[.int .i64 id, .int .i64 te, .int .i64 vo, .int .i64 base, .int .i64 bt, .slice A' l.length cap', .slice x'.rA x'.rs.length x'.rc, .slice x'.mA x'.ms.length x'.mc, .slice x'.gA x'.gs.length x'.gc, .int .i64 x'.time, .slice x'.dA x'.ds.length x'.dc, .slice x'.lA x'.ls.length x'.lc, .int .i64 role, .slice vA' vs.length vc', .slice nA' ns.length nc', .slice pA' ps.length pc', .int .i64 com, .slice y'.rA y'.rs.length y'.rc, .slice y'.mA y'.ms.length y'.mc, .slice y'.gA y'.gs.length y'.gc, .int .i64 y'.time, .slice y'.dA y'.ds.length y'.dc, .slice y'.lA y'.ls.length y'.lc, .slice dA' db.length dc', .int .i64 su, .slice hA0' hs.length hc'] 42)) := Qaa (Qaa (Below.refl _ w) _) _
 have H0 := hidP (And.intro B0 (And.intro P0 Q0))
 clear P0 Q0 B0
 go_enter Tryz.func7, Tryz.ntmps7
 go_wp2_with fail
 refine (E1.out _ H0.out.1).mono ?_
 rintro e w1 ⟨rfl, g1⟩
 have H1 := hidP (And.intro (via0 g1 H0.out.1) (And.intro (H0.out.2.1.below g1 H0.out.2.1.lt) (H0.out.2.2.below g1 H0.out.2.2.lt)))
 clear g1 H0 E1
 obtain ⟨-, -, -, -, -, -, -, -, -, -, -, -, c12, c13, -, -, -, -, -, -, -, -, -, -, -, -⟩ := H1.out.2.1.row26
 obtain ⟨-, -, -, -, -, -, -, -, -, -, -, -, d12, d13, -, -, -, -, -, -, -, -, -, -, -, -⟩ := H1.out.2.2.row26
 have q0 := H1.out.2.1.lt
 have q1 := H1.out.2.2.lt
 go_wp2_with fail
 refine (E2.out _ H1.out.1).mono ?_
 rintro e w2 ⟨rfl, g2⟩
 have H2 := hidP (And.intro (via0 g2 H1.out.1) (And.intro (H1.out.2.1.below g2 H1.out.2.1.lt) (H1.out.2.2.below g2 H1.out.2.2.lt)))
 clear q0 q1 c12 c13 d12 d13
 clear g2 H1 E2
 obtain ⟨-, -, -, -, -, -, -, -, -, -, -, -, -, -, c14, -, -, -, -, -, -, -, -, -, -, -⟩ := H2.out.2.1.row26
 obtain ⟨-, -, -, -, -, -, -, -, -, -, -, -, -, -, d14, -, -, -, -, -, -, -, -, -, -, -⟩ := H2.out.2.2.row26
 have q0 := H2.out.2.1.lt
 have q1 := H2.out.2.2.lt
 go_wp2_with fail
 refine (E3.out _ H2.out.1).mono ?_
 rintro e w3 ⟨rfl, g3⟩
 have H3 := hidP (And.intro (via0 g3 H2.out.1) (And.intro (H2.out.2.1.below g3 H2.out.2.1.lt) (H2.out.2.2.below g3 H2.out.2.2.lt)))
 clear q0 q1 c14 d14
 clear g3 H2 E3
 obtain ⟨-, -, -, -, -, -, -, -, -, -, -, -, -, -, -, c15, -, -, -, -, -, -, -, -, -, -⟩ := H3.out.2.1.row26
 obtain ⟨-, -, -, -, -, -, -, -, -, -, -, -, -, -, -, d15, -, -, -, -, -, -, -, -, -, -⟩ := H3.out.2.2.row26
 have q0 := H3.out.2.1.lt
 have q1 := H3.out.2.2.lt
 go_wp2_with fail
 refine (E4.out _ H3.out.1).mono ?_
 rintro e w4 ⟨rfl, g4⟩
 have H4 := hidP (And.intro (via0 g4 H3.out.1) (And.intro (H3.out.2.1.below g4 H3.out.2.1.lt) (H3.out.2.2.below g4 H3.out.2.2.lt)))
 clear q0 q1 c15 d15
 clear g4 H3 E4
 obtain ⟨-, -, -, -, -, -, -, -, -, -, -, -, -, -, -, -, c16, c17, c18, c19, c20, c21, c22, -, -, -⟩ := H4.out.2.1.row26
 obtain ⟨-, -, -, -, -, -, -, -, -, -, -, -, -, -, -, -, d16, d17, d18, d19, d20, d21, d22, -, -, -⟩ := H4.out.2.2.row26
 have q0 := H4.out.2.1.lt
 have q1 := H4.out.2.2.lt
 go_wp2_with fail
 refine (E5.out _ H4.out.1).mono ?_
 rintro e w5 ⟨rfl, g5⟩
 have H5 := hidP (And.intro (via0 g5 H4.out.1) (And.intro (H4.out.2.1.below g5 H4.out.2.1.lt) (H4.out.2.2.below g5 H4.out.2.2.lt)))
 clear q0 q1 c16 c17 c18 c19 c20 c21 c22 d16 d17 d18 d19 d20 d21 d22
 clear g5 H4 E5
 obtain ⟨-, -, -, -, -, -, -, -, -, -, -, -, -, -, -, -, -, -, -, -, -, -, -, c23, c24, -⟩ := H5.out.2.1.row26
 obtain ⟨-, -, -, -, -, -, -, -, -, -, -, -, -, -, -, -, -, -, -, -, -, -, -, d23, d24, -⟩ := H5.out.2.2.row26
 have q0 := H5.out.2.1.lt
 have q1 := H5.out.2.2.lt
 go_wp2_with fail
 refine (E6.out _ H5.out.1).mono ?_
 rintro e w6 ⟨rfl, g6⟩
 have H6 := hidP (And.intro (via0 g6 H5.out.1) (And.intro (H5.out.2.1.below g6 H5.out.2.1.lt) (H5.out.2.2.below g6 H5.out.2.2.lt)))
 clear q0 q1 c23 c24 d23 d24
 clear g6 H5 E6
 obtain ⟨-, -, -, -, -, -, -, -, -, -, -, -, -, -, -, -, -, -, -, -, -, -, -, -, -, c25⟩ := H6.out.2.1.row26
 obtain ⟨-, -, -, -, -, -, -, -, -, -, -, -, -, -, -, -, -, -, -, -, -, -, -, -, -, d25⟩ := H6.out.2.2.row26
 have q0 := H6.out.2.1.lt
 have q1 := H6.out.2.2.lt
 go_wp2_with fail
 refine (E7.out _ H6.out.1).mono ?_
 rintro e w7 ⟨rfl, g7⟩
 have H7 := hidP (And.intro (via0 g7 H6.out.1) (And.intro (H6.out.2.1.below g7 H6.out.2.1.lt) (H6.out.2.2.below g7 H6.out.2.2.lt)))
 clear q0 q1 c25 d25
 clear g7 H6 E7
 go_wp2
 go_ret
 exact ⟨rfl, H7.out.1⟩
end Go.Proofs.YtlcjaabnfdnfmaaGreatDoor.Gen
namespace Go.Proofs.YtlcjaabnfdnfmaaGreatDoor.Gen
section
variable {P : Program} {ops : Array Oper} {Q : Exit -> Act -> World -> Prop} {md : Region.Mode} {S : World -> Prop} {z : Nat}
def Qbz (md : Region.Mode) (ops : Array Oper) (z : Nat) : Bool :=
  match ops[z]? with
  | none => false
  | some o => (List.range ops.size).all fun j => j == z || o.after.any fun e => Region.binds md e && e.on == j
theorem not_last {i : Nat} {L : Array Bool} (hz : Qbz md ops z = true) (hi : i ∈ Region.ready md ops L) (hne : i ≠ z) : z ∉ Region.ready md ops L := fun h => by
 obtain ⟨hu, oi, hoi, _⟩ := mem_ready.1 hi
 obtain ⟨_, oz, hoz, hall⟩ := mem_ready.1 h
 have hlt : i < ops.size := (Array.getElem?_eq_some_iff.1 hoi).1
 simp only [Qbz, hoz, List.all_eq_true, List.mem_range, Bool.or_eq_true, beq_iff_eq] at hz
 have h1 := (hz i hlt).resolve_left hne
 obtain ⟨e, he, hb⟩ := Array.any_eq_true'.1 h1
 simp only [Bool.and_eq_true, beq_iff_eq] at hb
 have h2 := hall e he hb.1
 rw [hb.2] at h2
 rcases Nat.lt_or_ge i L.size with h' | h'
 . simp [h'] at hu h2
   rw [hu] at h2; cases h2
 . simp [Array.getElem?_eq_none h'] at h2
def Qbn (P : Program) (md : Region.Mode) (ops : Array Oper) (Q : Exit -> Act -> World -> Prop) (S : World -> Prop) (z : Nat) : Nat -> Array Bool -> Act -> World -> Prop
  | 0, L, a, w => Region.ready md ops L = [] /\ Q .normal a w
  | n + 1, L, a, w => (Region.ready md ops L = [] -> Q .normal a w) /\
    ∀ i ∈ Region.ready md ops L, wpOp P ops Q i (fun a' w' => (i = z ∨ S w') /\ Qbn P md ops Q S z n (L.setIfInBounds i true) a' w') a w
theorem Qk0 (n : Nat) : ∀ (L : Array Bool) (a : Act) (w : World), Qbn P md ops Q S z n L a w -> wpAny P md ops Q n L a w := by
 induction n with
 | zero => exact fun _ _ _ h => h
 | succ n ih => exact fun L a w h => ⟨h.1, fun i hi => wpOp_mono (fun a' w' g => ih _ a' w' g.2) (h.2 i hi)⟩
theorem upTo_take {i : Nat} {oi : Oper} {v : Value} (hz : Qbz md ops z = true) (hi : ops[i]? = some oi) (hs : Region.noSelect ops = true) (hQ : ∀ c a w, Q (.panic c) (a.put oi.dst v) w -> Q (.panic c) a w) (hiz : i ≠ z) (n : Nat) :
 ∀ (L : Array Bool) (a : Act) (w : World), Region.free md ops L i = true -> i ∈ Region.ready md ops L -> YieldsIf P ops S oi v a -> S w ->
  Qbn P md ops Q S z n (L.setIfInBounds i true) (a.put oi.dst v) w -> Qbn P md ops Q S z (n + 1) L a w := by
 have sel : ∀ (j : Nat) (o : Oper) cs b, ops[j]? = some o -> o.op ≠ .select cs b := Region.noSelect_spec hs
 suffices key : ∀ (L : Array Bool) (a : Act) (w : World), (∀ j oj, ops[j]? = some oj -> j ≠ i -> L.getD j true = false -> (∀ e ∈ oj.after, Region.binds md e = true -> e.on ≠ i) -> oi.apart ops oj = true) ->
  i ∈ Region.ready md ops L -> YieldsIf P ops S oi v a -> S w -> Qbn P md ops Q S z n (L.setIfInBounds i true) (a.put oi.dst v) w -> Qbn P md ops Q S z (n + 1) L a w from
  fun L a w hf hr hy hS H => key L a w (Region.free_spec hi hf) hr hy hS H
 induction n with
 | zero =>
  intro L a w _ hr hy hS H
  constructor
  . intro h; rw [h] at hr; exact absurd hr (List.not_mem_nil)
  . intro j hj
    rcases Decidable.em (j = i) with e | e
    . subst e; exact hy.wpOp hi hS ⟨.inr hS, H⟩
    . have g := ready_mono hj e
      rw [H.1] at g
      exact absurd g (List.not_mem_nil)
 | succ n ih =>
  intro L a w hfr hr hy hS H
  constructor
  . intro h; rw [h] at hr; exact absurd hr (List.not_mem_nil)
  . intro j hj
    rcases Decidable.em (j = i) with e | e
    . subst e; exact hy.wpOp hi hS ⟨.inr hS, H⟩
    . obtain ⟨hun, oj, hoj, hwait⟩ := mem_ready.1 hj
      have hjz : j ≠ z := fun h => by subst h; exact not_last hz hr hiz hj
      have iun := (mem_ready.1 hr).1
      have hno : ∀ d ∈ oj.after, Region.binds md d = true -> d.on ≠ i := fun d hd hb q => by
       have g := hwait d hd hb
       rw [q] at g
       rcases Nat.lt_or_ge i L.size with k | k
       . simp [k] at iun g
         rw [iun] at g; cases g
       . simp [Array.getElem?_eq_none k] at g
      have step := wpOp_putIf hoj (hfr j oj hoj e hun hno) (fun cs b => sel i oi cs b hi) (fun cs b => sel j oj cs b hoj) hQ hy (H.2 j (ready_mono hj e))
      refine wpOp_mono (fun a' w' g => ?_) step
      have hS' : S w' := g.2.1.resolve_left hjz
      refine ⟨.inr hS', ih _ a' w' (fun k ok hk hki hu hn => ?_) (ready_mono hr (Ne.symm e)) g.1 hS' ?_⟩
      . refine hfr k ok hk hki ?_ hn
        rcases Decidable.em (j = k) with q | q
        . subst q; exact hun
        . rwa [getD_set_ne true q] at hu
      . have := g.2.2
        rwa [Array.setIfInBounds_comm _ _ (Ne.symm e)] at this
theorem Qgi {i : Nat} {oi : Oper} {v : Value} {n : Nat} {L : Array Bool} {a : Act} {w : World} (hz : Qbz md ops z = true) (hi : ops[i]? = some oi) (hs : Region.noSelect ops = true) (hiz : i ≠ z)
 (hf : Region.free md ops L i = true) (hr : (Region.ready md ops L).contains i = true) (hQ : ∀ c a w, Q (.panic c) (a.put oi.dst v) w -> Q (.panic c) a w) (hy : YieldsIf P ops S oi v a) (hS : S w)
 (h : Qbn P md ops Q S z n (L.setIfInBounds i true) (a.put oi.dst v) w) : Qbn P md ops Q S z (n + 1) L a w :=
 upTo_take hz hi hs hQ hiz n L a w hf (by simpa using hr) hy hS h
theorem Qaw {i : Nat} {o : Oper} {n : Nat} {L : Array Bool} {a : Act} {w : World} (hr : Region.ready md ops L = [i]) (ho : ops[i]? = some o)
 (h : ∀ K' : Act -> World -> Prop, Shut (∀ a w, (i = z ∨ S w) -> Qbn P md ops Q S z n (L.setIfInBounds i true) a w -> K' a w) -> if Region.wanted o (yielded ops a.tmps) = true then Oper.wp P o a w K' Q else K' (a.put o.dst undef) w) :
 Qbn P md ops Q S z (n + 1) L a w := by
 refine ⟨fun h0 => (by rw [hr] at h0; cases h0), fun j hj => ?_⟩
 rw [hr] at hj
 obtain rfl : j = i := by simpa using hj
 exact wpOp_step ho (fun K' hK => h K' (fun a w h1 h2 => hK a w ⟨h1, h2⟩))
theorem Qdu {L : Array Bool} {a : Act} {w : World} (hr : Region.ready md ops L = []) (h : Q .normal a w) : ∀ n, Qbn P md ops Q S z n L a w
 | 0 => ⟨hr, h⟩
 | _ + 1 => ⟨fun _ => h, by rw [hr]; simp⟩
theorem Qcy {id : Nat} {a : Act} {w : World} (z : Nat) (S : World -> Prop) (hm : P.follows .mixedOrders = true) (h : Qbn P .any ops Q S z ops.size (Array.replicate ops.size false) a w.drew) : (Code.region id ops true).wp P Q a w :=
 wp_region_any hm (Qk0 _ _ _ _ h)
end
end Go.Proofs.YtlcjaabnfdnfmaaGreatDoor.Gen
namespace Go.Proofs.YtlcjaabnfdnfmaaGreatDoor
open Gen
theorem zG {α : Type} : (∀ (l : List α) (i : Nat) (h : i < l.toArray.size), l.toArray[i] = l[i]'(by simpa using h)) /\ (∀ (a : α) (l : List α) (i : Nat) (h : i + 1 < (a :: l).length), (a :: l)[i + 1] = l[i]'(by simpa using h)) /\ (∀ (a : α) (l : List α) (h : 0 < (a :: l).length), (a :: l)[0] = a) := ⟨fun _ _ _ => rfl, fun _ _ _ _ => rfl, fun _ _ _ => rfl⟩
theorem zY {α : Type} : (∀ (l : List α) (i : Nat) (h : i < l.toArray.size), l.toArray[i] = l[i]'(by simpa using h)) /\ (∀ (a : α) (l : List α) (i : Nat) (h : i + 1 < (a :: l).length), (a :: l)[i + 1] = l[i]'(by simpa using h)) /\ (∀ (a : α) (l : List α) (h : 0 < (a :: l).length), (a :: l)[0] = a) /\ (∀ (l : List α) (i : Nat) (v : α), l.toArray.setIfInBounds i v = (l.set i v).toArray) /\ (∀ (a v : α) (l : List α), (a :: l).set 0 v = v :: l) /\ (∀ (a v : α) (l : List α) (i : Nat), (a :: l).set (i + 1) v = a :: l.set i v) := ⟨fun _ _ _ => rfl, fun _ _ _ _ => rfl, fun _ _ _ => rfl, fun _ _ _ => by simp, fun _ _ _ => rfl, fun _ _ _ _ => rfl⟩
theorem zX : (∀ (a : Act) (v : Value), a.put none v = a) /\ (∀ (a : Act) (t : Tmp) (v : Value), a.put (some t) v = { a with tmps := a.tmps.setIfInBounds t v }) := ⟨fun _ _ => rfl, fun _ _ _ => rfl⟩
section
variable {P : Program} {md : Region.Mode} {ops : Array Oper} {Q : Go.Exit -> Act -> World -> Prop} {S : World -> Prop} {fuel : Nat} {listed : Array Bool} {a : Act} {w : World}
def ZTk (_ : List Nat) (P : Program) (md : Region.Mode) (ops : Array Oper) (Q : Go.Exit -> Act -> World -> Prop) (S : World -> Prop) (fuel : Nat) (listed : Array Bool) (a : Act) (w : World) : Prop := wpAnyH P md ops Q S fuel listed a w
theorem ztk (is : List Nat) (h : ZTk is P md ops Q S fuel listed a w) : wpAnyH P md ops Q S fuel listed a w := h
theorem zt1 (i : Nat) (h : ZTk [i] P md ops Q S fuel listed a w) : wpAnyH P md ops Q S fuel listed a w := h
theorem zte (h : wpAnyH P md ops Q S fuel listed a w) : ZTk [] P md ops Q S fuel listed a w := h
theorem ztn {i : Nat} {is : List Nat} {oi : Oper} {v : Value} (hi : ops[i]? = some oi := by rfl) (hw : Region.wanted oi (yielded ops a.tmps) = true := by rfl) (hy : ∀ w, S w -> (execOp a.eval oi).run P w = .ok (.value v) w := by (intro w hSw; (try dsimp only at hSw); go_simp<;>with_reducible rfl)) (hS : S w := by assumption) (hs : Region.noSelect ops = true := by kernel_rfl) (hf : Region.free md ops listed i = true := by kernel_rfl) (hr : (Region.ready md ops listed).contains i = true := by kernel_rfl)
 (hQ : ∀ c a w, Q (.panic c) (a.put oi.dst v) w -> Q (.panic c) a w := by exact fun _ _ _ h => h) (h : ZTk is P md ops Q S fuel (listed.setIfInBounds i true) (a.put oi.dst v) w) : ZTk (i :: is) P md ops Q S (fuel + 1) listed a w := wpAnyH_take hi hs hf hr hQ (.inl ⟨hw, hy⟩) hS h
theorem ztu {i : Nat} {is : List Nat} {oi : Oper} (hi : ops[i]? = some oi := by rfl) (hw : Region.wanted oi (yielded ops a.tmps) = false := by rfl) (hS : S w := by assumption) (hs : Region.noSelect ops = true := by kernel_rfl) (hf : Region.free md ops listed i = true := by kernel_rfl) (hr : (Region.ready md ops listed).contains i = true := by kernel_rfl)
 (hQ : ∀ c a w, Q (.panic c) (a.put oi.dst undef) w -> Q (.panic c) a w := by exact fun _ _ _ h => h) (h : ZTk is P md ops Q S fuel (listed.setIfInBounds i true) (a.put oi.dst undef) w) : ZTk (i :: is) P md ops Q S (fuel + 1) listed a w := wpAnyH_take hi hs hf hr hQ (.inr ⟨hw, rfl⟩) hS h
theorem zR1 (i : Nat) {o : Oper} (h : ∀ K' : Act -> World -> Prop, Shut (∀ a w, S w -> (S w -> wpAnyH P md ops Q S fuel (listed.setIfInBounds i true) a w) -> K' a w) -> if Region.wanted o (yielded ops a.tmps) = true then Oper.wp P o a w K' Q else K' (a.put o.dst undef) w) (ho : ops[i]? = some o := by rfl) (hr : Region.ready md ops listed = [i] := by kernel_rfl) : wpAnyH P md ops Q S (fuel + 1) listed a w := wpAnyH_ready hr (by simp) (.cons ho h .nil)
theorem zR2 (i j : Nat) {o o2 : Oper} (h : ∀ K' : Act -> World -> Prop, Shut (∀ a w, S w -> (S w -> wpAnyH P md ops Q S fuel (listed.setIfInBounds i true) a w) -> K' a w) -> if Region.wanted o (yielded ops a.tmps) = true then Oper.wp P o a w K' Q else K' (a.put o.dst undef) w) (h2 : ∀ K' : Act -> World -> Prop, Shut (∀ a w, S w -> (S w -> wpAnyH P md ops Q S fuel (listed.setIfInBounds j true) a w) -> K' a w) -> if Region.wanted o2 (yielded ops a.tmps) = true then Oper.wp P o2 a w K' Q else K' (a.put o2.dst undef) w)
 (ho : ops[i]? = some o := by rfl) (ho2 : ops[j]? = some o2 := by rfl) (hr : Region.ready md ops listed = [i, j] := by kernel_rfl) : wpAnyH P md ops Q S (fuel + 1) listed a w := wpAnyH_ready hr (by simp) (.cons ho h (.cons ho2 h2 .nil))
theorem zR3 (i j k : Nat) {o o2 o3 : Oper} (h : ∀ K' : Act -> World -> Prop, Shut (∀ a w, S w -> (S w -> wpAnyH P md ops Q S fuel (listed.setIfInBounds i true) a w) -> K' a w) -> if Region.wanted o (yielded ops a.tmps) = true then Oper.wp P o a w K' Q else K' (a.put o.dst undef) w) (h2 : ∀ K' : Act -> World -> Prop, Shut (∀ a w, S w -> (S w -> wpAnyH P md ops Q S fuel (listed.setIfInBounds j true) a w) -> K' a w) -> if Region.wanted o2 (yielded ops a.tmps) = true then Oper.wp P o2 a w K' Q else K' (a.put o2.dst undef) w)
 (h3 : ∀ K' : Act -> World -> Prop, Shut (∀ a w, S w -> (S w -> wpAnyH P md ops Q S fuel (listed.setIfInBounds k true) a w) -> K' a w) -> if Region.wanted o3 (yielded ops a.tmps) = true then Oper.wp P o3 a w K' Q else K' (a.put o3.dst undef) w)
 (ho : ops[i]? = some o := by rfl) (ho2 : ops[j]? = some o2 := by rfl) (ho3 : ops[k]? = some o3 := by rfl) (hr : Region.ready md ops listed = [i, j, k] := by kernel_rfl) : wpAnyH P md ops Q S (fuel + 1) listed a w := wpAnyH_ready hr (by simp) (.cons ho h (.cons ho2 h2 (.cons ho3 h3 .nil)))
theorem zdn (h : Q .normal a w) (hr : Region.ready md ops listed = [] := by kernel_rfl) : wpAnyH P md ops (NoPanic Q) S fuel listed a w := wpAnyH_done hr (NoPanic.normal h) _
end
section
variable {P : Program} {md : Region.Mode} {ops : Array Oper} {Q : Go.Exit -> Act -> World -> Prop} {S : World -> Prop} {z fuel : Nat} {listed : Array Bool} {a : Act} {w : World}
def ZPk (_ : List Nat) (P : Program) (md : Region.Mode) (ops : Array Oper) (Q : Go.Exit -> Act -> World -> Prop) (S : World -> Prop) (z fuel : Nat) (listed : Array Bool) (a : Act) (w : World) : Prop := Qbn P md ops Q S z fuel listed a w
theorem zpk (is : List Nat) (h : ZPk is P md ops Q S z fuel listed a w) : Qbn P md ops Q S z fuel listed a w := h
theorem zp1 (i : Nat) (h : ZPk [i] P md ops Q S z fuel listed a w) : Qbn P md ops Q S z fuel listed a w := h
theorem zpe (h : Qbn P md ops Q S z fuel listed a w) : ZPk [] P md ops Q S z fuel listed a w := h
theorem zpn {i : Nat} {is : List Nat} {oi : Oper} {v : Value} (hi : ops[i]? = some oi := by rfl) (hw : Region.wanted oi (yielded ops a.tmps) = true := by rfl) (hy : ∀ w, S w -> (execOp a.eval oi).run P w = .ok (.value v) w := by (intro w hSw; (try dsimp only at hSw); go_simp<;>with_reducible rfl)) (hS : S w := by assumption) (hz : Qbz md ops z = true := by kernel_rfl) (hs : Region.noSelect ops = true := by kernel_rfl) (hiz : i ≠ z := by decide) (hf : Region.free md ops listed i = true := by kernel_rfl) (hr : (Region.ready md ops listed).contains i = true := by kernel_rfl)
 (hQ : ∀ c a w, Q (.panic c) (a.put oi.dst v) w -> Q (.panic c) a w := by exact fun _ _ _ h => h) (h : ZPk is P md ops Q S z fuel (listed.setIfInBounds i true) (a.put oi.dst v) w) : ZPk (i :: is) P md ops Q S z (fuel + 1) listed a w := Qgi hz hi hs hiz hf hr hQ (.inl ⟨hw, hy⟩) hS h
theorem zpu {i : Nat} {is : List Nat} {oi : Oper} (hi : ops[i]? = some oi := by rfl) (hw : Region.wanted oi (yielded ops a.tmps) = false := by rfl) (hS : S w := by assumption) (hz : Qbz md ops z = true := by kernel_rfl) (hs : Region.noSelect ops = true := by kernel_rfl) (hiz : i ≠ z := by decide) (hf : Region.free md ops listed i = true := by kernel_rfl) (hr : (Region.ready md ops listed).contains i = true := by kernel_rfl)
 (hQ : ∀ c a w, Q (.panic c) (a.put oi.dst undef) w -> Q (.panic c) a w := by exact fun _ _ _ h => h) (h : ZPk is P md ops Q S z fuel (listed.setIfInBounds i true) (a.put oi.dst undef) w) : ZPk (i :: is) P md ops Q S z (fuel + 1) listed a w := Qgi hz hi hs hiz hf hr hQ (.inr ⟨hw, rfl⟩) hS h
end
end Go.Proofs.YtlcjaabnfdnfmaaGreatDoor
namespace Go.Proofs.YtlcjaabnfdnfmaaGreatDoor.Gen
open ChangeShapes WideShapes ChangeAt RowKit Joins Deep Base
def setB (ro wi le ke : Int) : Bool := inB ro 1 4 && inB wi 1 5 && inB le 1 8 && inB ke 0 60
theorem Qcr {ro wi le ke : Int} (h : setB ro wi le ke = true) : 1 <= ro /\ ro <= 4 := by
 simp only [setB, inB, Bool.and_eq_true, decide_eq_true_eq] at h; exact h.1.1.1
theorem Qjd (p q r s : Bool) : p = false ∨ (p = true /\ q = false) ∨ (p = true /\ q = true /\ r = false) ∨ (p = true /\ q = true /\ r = true /\ s = false) ∨ (p = true /\ q = true /\ r = true /\ s = true) := by
 cases p<;>cases q<;>cases r<;>cases s<;>simp
theorem Qa7 (ro wi le ke : Int) (w : World) :
 Calls Tryz.prog 10 #[.agg #[.int .i64 ro, .int .i64 wi, .int .i64 le, .int .i64 ke]] w fun e w' => e = .returned (.bool (setB ro wi le ke)) /\ Below w.heap.size w w' := by
 rcases Qjd (inB ro 1 4) (inB wi 1 5) (inB le 1 8) (inB ke 0 60) with h1 | ⟨h1, h2⟩ | ⟨h1, h2, h3⟩ | ⟨h1, h2, h3, h4⟩ | ⟨h1, h2, h3, h4⟩
 all_goals
  go_enter Tryz.func10, Tryz.ntmps10
  go_wp2_with (go_at_call 11; refine (in_any _ _ _ _).mono ?_; rintro e w' ⟨rfl, rfl⟩)
  go_ret
  exact ⟨by simp [setB, *], by repeat (first | exact Below.refl _ _ | refine Below.drew ?_ | refine Below.alloc ?_ (by simp<;>omega) _)⟩
theorem Qbw (ro wi le ke : Int) (w : World) :
 Calls Tryz.prog 99 #[.agg #[.int .i64 ro, .int .i64 wi, .int .i64 le, .int .i64 ke]] w fun e w' => e = .returned (.bool (setB ro wi le ke)) /\ Below w.heap.size w w' := by
 rcases Qjd (inB ro 1 4) (inB wi 1 5) (inB le 1 8) (inB ke 0 60) with h1 | ⟨h1, h2⟩ | ⟨h1, h2, h3⟩ | ⟨h1, h2, h3, h4⟩ | ⟨h1, h2, h3, h4⟩
 all_goals
  go_enter Tryz.func99, Tryz.ntmps99
  go_wp2_with (go_at_call 44; refine (within_any _ _ _ _).mono ?_; rintro e w' ⟨rfl, rfl⟩)
  go_ret
  exact ⟨by simp [setB, *], by repeat (first | exact Below.refl _ _ | refine Below.drew ?_ | refine Below.alloc ?_ (by simp<;>omega) _)⟩
theorem Qdp (ro wi le ke : Int) (w : World) :
 Calls Tryz.prog 5 #[.agg #[.int .i64 ro, .int .i64 wi, .int .i64 le, .int .i64 ke]] w fun e w' => e = .returned (.agg #[.int .i64 ro, .int .i64 wi, .int .i64 le, .int .i64 ke]) /\ Below w.heap.size w w' := by
 go_enter Tryz.func5, Tryz.ntmps5
 go_wp2
 exact bodyPost_ret (v := .agg #[.int .i64 ro, .int .i64 wi, .int .i64 le, .int .i64 ke]) (by simp [results, Tryz.results5, go_sem]) rfl
  ⟨rfl, by repeat (first | exact Below.refl _ _ | refine Below.drew ?_ | refine Below.alloc ?_ (by simp<;>omega) _)⟩
theorem cellsSetup : Tryz.prog.cellsOf 23 = 4 := by kernel_rfl
theorem openSetup {H : Type} {enc : TypeId × Value -> H} {W : World} {base b0 : Nat} {r : Reach} {spare : Nat -> Bool} {held : Bool} {v : Value} {d : DataW H} {p : List MemPlace}
 (hv : Value.okWide Tryz.prog W r b0 23 v) (h : DataW.Trod enc Tryz.prog W base spare held 23 v d p) :
 ∃ (ro wi le ke : Int), v = .agg #[.int .i64 ro, .int .i64 wi, .int .i64 le, .int .i64 ke] /\ I64 ro /\ I64 wi /\ I64 le /\ I64 ke := by
 obtain ⟨c0, c1, c2, c3, y0, y1, y2, y3, m, rfl, rfl, rfl, hy0, hy1, hy2, hy3⟩ := open_agg4 Tryz.underlying23 (by kernel_rfl) cellsSetup hv h
 obtain ⟨a, e0, rfl, wa⟩ := DataW.trod_int Tryz.underlying3 hy0
 obtain ⟨b, e1, rfl, wb⟩ := DataW.trod_int Tryz.underlying3 hy1
 obtain ⟨c, e2, rfl, wc⟩ := DataW.trod_int Tryz.underlying3 hy2
 obtain ⟨d, e3, rfl, wd⟩ := DataW.trod_int Tryz.underlying3 hy3
 simp at e0 e1 e2 e3
 subst e0 e1 e2 e3
 exact ⟨a, b, c, d, rfl, Qgp wa, Qgp wb, Qgp wc, Qgp wd⟩
end Go.Proofs.YtlcjaabnfdnfmaaGreatDoor.Gen
