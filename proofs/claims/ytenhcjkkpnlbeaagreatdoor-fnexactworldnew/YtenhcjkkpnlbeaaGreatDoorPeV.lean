/-
  Nodes: how they lie; that the laws' eq function finds two that are the same the same. No condition but the sizes of their lists.
-/
import Derived.Test.YtenhcjkkpnlbeaaGreatDoorMakList2
set_option linter.unusedVariables false
set_option linter.unusedSimpArgs false
set_option maxRecDepth 100000
set_option maxHeartbeats 8000000
namespace Go.Proofs.YtenhcjkkpnlbeaaGreatDoor.Gen
open ChangeShapes WideShapes ChangeAt RowKit Joins Deep Base
theorem Blk.row26 {W : World} {B : Nat} {t : TypeId} {v0 v1 v2 v3 v4 v5 v6 v7 v8 v9 v10 v11 v12 v13 v14 v15 v16 v17 v18 v19 v20 v21 v22 v23 v24 v25 : Value} (p : Blk W B t #[v0, v1, v2, v3, v4, v5, v6, v7, v8, v9, v10, v11, v12, v13, v14, v15, v16, v17, v18, v19, v20, v21, v22, v23, v24, v25]) :
 W.cell? ⟨B, 0, none⟩ = some v0 /\ W.cell? ⟨B, 1, none⟩ = some v1 /\ W.cell? ⟨B, 1 + 1, none⟩ = some v2 /\ W.cell? ⟨B, 1 + 2, none⟩ = some v3 /\ W.cell? ⟨B, 1 + 3, none⟩ = some v4 /\ W.cell? ⟨B, 1 + 4, none⟩ = some v5 /\ W.cell? ⟨B, 1 + 5, none⟩ = some v6 /\ W.cell? ⟨B, 1 + 6, none⟩ = some v7 /\ W.cell? ⟨B, 1 + 7, none⟩ = some v8 /\ W.cell? ⟨B, 1 + 8, none⟩ = some v9 /\ W.cell? ⟨B, 1 + 9, none⟩ = some v10 /\ W.cell? ⟨B, 1 + 10, none⟩ = some v11 /\ W.cell? ⟨B, 12, none⟩ = some v12 /\ W.cell? ⟨B, 13, none⟩ = some v13 /\ W.cell? ⟨B, 14, none⟩ = some v14 /\ W.cell? ⟨B, 15, none⟩ = some v15 /\ W.cell? ⟨B, 16, none⟩ = some v16 /\ W.cell? ⟨B, 17, none⟩ = some v17 /\ W.cell? ⟨B, 17 + 1, none⟩ = some v18 /\ W.cell? ⟨B, 17 + 2, none⟩ = some v19 /\ W.cell? ⟨B, 17 + 3, none⟩ = some v20 /\ W.cell? ⟨B, 17 + 4, none⟩ = some v21 /\ W.cell? ⟨B, 17 + 5, none⟩ = some v22 /\ W.cell? ⟨B, 23, none⟩ = some v23 /\ W.cell? ⟨B, 23 + 1, none⟩ = some v24 /\ W.cell? ⟨B, 25, none⟩ = some v25 :=
 ⟨p.cell (by rfl), p.cell (by rfl), p.cell (by rfl), p.cell (by rfl), p.cell (by rfl), p.cell (by rfl), p.cell (by rfl), p.cell (by rfl), p.cell (by rfl), p.cell (by rfl), p.cell (by rfl), p.cell (by rfl), p.cell (by rfl), p.cell (by rfl), p.cell (by rfl), p.cell (by rfl), p.cell (by rfl), p.cell (by rfl), p.cell (by rfl), p.cell (by rfl), p.cell (by rfl), p.cell (by rfl), p.cell (by rfl), p.cell (by rfl), p.cell (by rfl), p.cell (by rfl)⟩
theorem Qm2 (id te vo base bt role com su : Int) (A A' vA vA' nA nA' pA pA' dA dA' hA0 hA0' : Option Addr) (cap cap' vc vc' nc nc' pc pc' dc dc' hc hc' : Nat) (l : List En) (vs : List Bool) (ns ps : List Int) (db : List UInt8) (hs hs' : List RpC) (x x' y y' : KC)
 (hl : l.length <= 9223372036854775807) (hvl : vs.length <= 9223372036854775807) (hnl : ns.length <= 9223372036854775807) (hpl : ps.length <= 9223372036854775807) (hdl : db.length <= 9223372036854775807) (hhl : hs.length <= 9223372036854775807) (hhr : ∀ z ∈ hs, z.l.length <= 9223372036854775807)
 (hfx : KFit x) (hpx : x'.p = x.p) (hfy : KFit y) (hpy : y'.p = y.p) (hhp : hs'.map RpC.p = hs.map RpC.p) (w : World)
 (hA : At w A l) (hA' : At w A' l) (hx : KAt w x) (hx' : KAt w x') (hV : At w vA vs) (hV' : At w vA' vs) (hN : At w nA ns) (hN' : At w nA' ns) (hP : At w pA ps) (hP' : At w pA' ps) (hy : KAt w y) (hy' : KAt w y') (hD : At w dA db) (hD' : At w dA' db) (hH : At w hA0 hs) (hE : EachP w hs) (hH' : At w hA0' hs') (hE' : EachP w hs') :
 Calls Tryz.prog 51 #[.agg (Qac id te vo base bt A l.length cap x.rA x.rs.length x.rc x.mA x.ms.length x.mc x.gA x.gs.length x.gc x.time x.dA x.ds.length x.dc x.lA x.ls.length x.lc role vA vs.length vc nA ns.length nc pA ps.length pc com y.rA y.rs.length y.rc y.mA y.ms.length y.mc y.gA y.gs.length y.gc y.time y.dA y.ds.length y.dc y.lA y.ls.length y.lc dA db.length dc su hA0 hs.length hc), .agg (Qac id te vo base bt A' l.length cap' x'.rA x'.rs.length x'.rc x'.mA x'.ms.length x'.mc x'.gA x'.gs.length x'.gc x'.time x'.dA x'.ds.length x'.dc x'.lA x'.ls.length x'.lc role vA' vs.length vc' nA' ns.length nc' pA' ps.length pc' com y'.rA y'.rs.length y'.rc y'.mA y'.ms.length y'.mc y'.gA y'.gs.length y'.gc y'.time y'.dA y'.ds.length y'.dc y'.lA y'.ls.length y'.lc dA' db.length dc' su hA0' hs.length hc')] w fun e w' => e = .returned (.bool true) /\ Below w.heap.size w w' := by
 have E1 : Hid (∀ W : World, Below w.heap.size w W -> Calls Tryz.prog 97 #[.agg (Qaj te vo base bt A l.length cap x.rA x.rs.length x.rc x.mA x.ms.length x.mc x.gA x.gs.length x.gc x.time x.dA x.ds.length x.dc x.lA x.ls.length x.lc), .agg (Qaj te vo base bt A' l.length cap' x'.rA x'.rs.length x'.rc x'.mA x'.ms.length x'.mc x'.gA x'.gs.length x'.gc x'.time x'.dA x'.ds.length x'.dc x'.lA x'.ls.length x'.lc)] W fun e w' => e = .returned (.bool true) /\ Below W.heap.size W w') := fun W g => Qm5 te vo base bt A A' cap cap' l hl x x' hfx hpx W (hA.below g) (hA'.below g) (hx.below g) (hx'.below g)
 have E2 : Hid (∀ W : World, Below w.heap.size w W -> Calls Tryz.prog 98 #[.slice vA vs.length vc, .slice vA' vs.length vc'] W fun e w' => e = .returned (.bool true) /\ Below W.heap.size W w') := fun W g => Qm7 vA vA' vc vc' vs hvl W (hV.below g) (hV'.below g)
 have E3 : Hid (∀ W : World, Below w.heap.size w W -> Calls Tryz.prog 19 #[.slice nA ns.length nc, .slice nA' ns.length nc'] W fun e w' => e = .returned (.bool true) /\ Below W.heap.size W w') := fun W g => Qc5 nA nA' nc nc' ns hnl W (hN.below g) (hN'.below g)
 have E4 : Hid (∀ W : World, Below w.heap.size w W -> Calls Tryz.prog 19 #[.slice pA ps.length pc, .slice pA' ps.length pc'] W fun e w' => e = .returned (.bool true) /\ Below W.heap.size W w') := fun W g => Qc5 pA pA' pc pc' ps hpl W (hP.below g) (hP'.below g)
 have E5 : Hid (∀ W : World, Below w.heap.size w W -> Calls Tryz.prog 99 #[.agg (Qah y.rA y.rs.length y.rc y.mA y.ms.length y.mc y.gA y.gs.length y.gc y.time y.dA y.ds.length y.dc y.lA y.ls.length y.lc), .agg (Qah y'.rA y'.rs.length y'.rc y'.mA y'.ms.length y'.mc y'.gA y'.gs.length y'.gc y'.time y'.dA y'.ds.length y'.dc y'.lA y'.ls.length y'.lc)] W fun e w' => e = .returned (.bool true) /\ Below W.heap.size W w') := fun W g => Qlv y y' hfy hpy W (hy.below g) (hy'.below g)
 have E6 : Hid (∀ W : World, Below w.heap.size w W -> Calls Tryz.prog 100 #[.agg #[.slice dA db.length dc, .int .i64 su], .agg #[.slice dA' db.length dc', .int .i64 su]] W fun e w' => e = .returned (.bool true) /\ Below W.heap.size W w') := fun W g => Qm6 su dA dA' dc dc' db hdl W (hD.below g) (hD'.below g)
 have E7 : Hid (∀ W : World, Below w.heap.size w W -> Calls Tryz.prog 17 #[.slice hA0 hs.length hc, .slice hA0' hs.length hc'] W fun e w' => e = .returned (.bool true) /\ Below W.heap.size W w') := fun W g => Qhh hA0 hA0' hc hc' hs hs' hhl hhr hhp W (hH.below g) (hE.below g) (hH'.below g) (hE'.below g)
 clear hA hA' hx hx' hV hV' hN hN' hP hP' hy hy' hD hD' hH hE hH' hE' hl hvl hnl hpl hdl hhl hhr hfx hpx hfy hpy hhp
 have P0 : Blk ((w.alloc (.cells (Qac id te vo base bt A l.length cap x.rA x.rs.length x.rc x.mA x.ms.length x.mc x.gA x.gs.length x.gc x.time x.dA x.ds.length x.dc x.lA x.ls.length x.lc role vA vs.length vc nA ns.length nc pA ps.length pc com y.rA y.rs.length y.rc y.mA y.ms.length y.mc y.gA y.gs.length y.gc y.time y.dA y.ds.length y.dc y.lA y.ls.length y.lc dA db.length dc su hA0 hs.length hc) 56)).alloc (.cells (Qac id te vo base bt A' l.length cap' x'.rA x'.rs.length x'.rc x'.mA x'.ms.length x'.mc x'.gA x'.gs.length x'.gc x'.time x'.dA x'.ds.length x'.dc x'.lA x'.ls.length x'.lc role vA' vs.length vc' nA' ns.length nc' pA' ps.length pc' com y'.rA y'.rs.length y'.rc y'.mA y'.ms.length y'.mc y'.gA y'.gs.length y'.gc y'.time y'.dA y'.ds.length y'.dc y'.lA y'.ls.length y'.lc dA' db.length dc' su hA0' hs.length hc') 56)) w.heap.size 56 (Qac id te vo base bt A l.length cap x.rA x.rs.length x.rc x.mA x.ms.length x.mc x.gA x.gs.length x.gc x.time x.dA x.ds.length x.dc x.lA x.ls.length x.lc role vA vs.length vc nA ns.length nc pA ps.length pc com y.rA y.rs.length y.rc y.mA y.ms.length y.mc y.gA y.gs.length y.gc y.time y.dA y.ds.length y.dc y.lA y.ls.length y.lc dA db.length dc su hA0 hs.length hc) := (Blk.new w _ _).alloc _
 have Q0 : Blk ((w.alloc (.cells (Qac id te vo base bt A l.length cap x.rA x.rs.length x.rc x.mA x.ms.length x.mc x.gA x.gs.length x.gc x.time x.dA x.ds.length x.dc x.lA x.ls.length x.lc role vA vs.length vc nA ns.length nc pA ps.length pc com y.rA y.rs.length y.rc y.mA y.ms.length y.mc y.gA y.gs.length y.gc y.time y.dA y.ds.length y.dc y.lA y.ls.length y.lc dA db.length dc su hA0 hs.length hc) 56)).alloc (.cells (Qac id te vo base bt A' l.length cap' x'.rA x'.rs.length x'.rc x'.mA x'.ms.length x'.mc x'.gA x'.gs.length x'.gc x'.time x'.dA x'.ds.length x'.dc x'.lA x'.ls.length x'.lc role vA' vs.length vc' nA' ns.length nc' pA' ps.length pc' com y'.rA y'.rs.length y'.rc y'.mA y'.ms.length y'.mc y'.gA y'.gs.length y'.gc y'.time y'.dA y'.ds.length y'.dc y'.lA y'.ls.length y'.lc dA' db.length dc' su hA0' hs.length hc') 56)) (w.heap.size + 1) 56 (Qac id te vo base bt A' l.length cap' x'.rA x'.rs.length x'.rc x'.mA x'.ms.length x'.mc x'.gA x'.gs.length x'.gc x'.time x'.dA x'.ds.length x'.dc x'.lA x'.ls.length x'.lc role vA' vs.length vc' nA' ns.length nc' pA' ps.length pc' com y'.rA y'.rs.length y'.rc y'.mA y'.ms.length y'.mc y'.gA y'.gs.length y'.gc y'.time y'.dA y'.ds.length y'.dc y'.lA y'.ls.length y'.lc dA' db.length dc' su hA0' hs.length hc') := by have := Blk.new (w.alloc (.cells (Qac id te vo base bt A l.length cap x.rA x.rs.length x.rc x.mA x.ms.length x.mc x.gA x.gs.length x.gc x.time x.dA x.ds.length x.dc x.lA x.ls.length x.lc role vA vs.length vc nA ns.length nc pA ps.length pc com y.rA y.rs.length y.rc y.mA y.ms.length y.mc y.gA y.gs.length y.gc y.time y.dA y.ds.length y.dc y.lA y.ls.length y.lc dA db.length dc su hA0 hs.length hc) 56)) 56 (Qac id te vo base bt A' l.length cap' x'.rA x'.rs.length x'.rc x'.mA x'.ms.length x'.mc x'.gA x'.gs.length x'.gc x'.time x'.dA x'.ds.length x'.dc x'.lA x'.ls.length x'.lc role vA' vs.length vc' nA' ns.length nc' pA' ps.length pc' com y'.rA y'.rs.length y'.rc y'.mA y'.ms.length y'.mc y'.gA y'.gs.length y'.gc y'.time y'.dA y'.ds.length y'.dc y'.lA y'.ls.length y'.lc dA' db.length dc' su hA0' hs.length hc'); rwa [World.size_alloc] at this
 have B0 : Below w.heap.size w ((w.alloc (.cells (Qac id te vo base bt A l.length cap x.rA x.rs.length x.rc x.mA x.ms.length x.mc x.gA x.gs.length x.gc x.time x.dA x.ds.length x.dc x.lA x.ls.length x.lc role vA vs.length vc nA ns.length nc pA ps.length pc com y.rA y.rs.length y.rc y.mA y.ms.length y.mc y.gA y.gs.length y.gc y.time y.dA y.ds.length y.dc y.lA y.ls.length y.lc dA db.length dc su hA0 hs.length hc) 56)).alloc (.cells (Qac id te vo base bt A' l.length cap' x'.rA x'.rs.length x'.rc x'.mA x'.ms.length x'.mc x'.gA x'.gs.length x'.gc x'.time x'.dA x'.ds.length x'.dc x'.lA x'.ls.length x'.lc role vA' vs.length vc' nA' ns.length nc' pA' ps.length pc' com y'.rA y'.rs.length y'.rc y'.mA y'.ms.length y'.mc y'.gA y'.gs.length y'.gc y'.time y'.dA y'.ds.length y'.dc y'.lA y'.ls.length y'.lc dA' db.length dc' su hA0' hs.length hc') 56)) := Qab (Qab (Below.refl _ w) _) _
 have H0 := hidP (And.intro B0 (And.intro P0 Q0))
 clear P0 Q0 B0
 go_enter Tryz.func51, Tryz.ntmps51
 go_wp2_with fail
 refine (E1.out _ H0.out.1).mono ?_
 rintro e w1 ⟨rfl, g1⟩
 have H1 := hidP (And.intro (via0 g1 H0.out.1) (And.intro (H0.out.2.1.below g1 H0.out.2.1.lt) (H0.out.2.2.below g1 H0.out.2.2.lt)))
 clear g1 H0 E1
 obtain ⟨-, -, -, -, -, -, -, -, -, -, -, -, c12, c13, -, -, -, -, -, -, -, -, -, -, -, -⟩ := H1.out.2.1.row26
 obtain ⟨-, -, -, -, -, -, -, -, -, -, -, -, d12, d13, -, -, -, -, -, -, -, -, -, -, -, -⟩ := H1.out.2.2.row26
 have q0 := H1.out.2.1.lt
 have q1 := H1.out.2.2.lt
 go_wp2_with fail
 refine (E2.out _ H1.out.1).mono ?_
 rintro e w2 ⟨rfl, g2⟩
 have H2 := hidP (And.intro (via0 g2 H1.out.1) (And.intro (H1.out.2.1.below g2 H1.out.2.1.lt) (H1.out.2.2.below g2 H1.out.2.2.lt)))
 clear q0 q1 c12 c13 d12 d13
 clear g2 H1 E2
 obtain ⟨-, -, -, -, -, -, -, -, -, -, -, -, -, -, c14, -, -, -, -, -, -, -, -, -, -, -⟩ := H2.out.2.1.row26
 obtain ⟨-, -, -, -, -, -, -, -, -, -, -, -, -, -, d14, -, -, -, -, -, -, -, -, -, -, -⟩ := H2.out.2.2.row26
 have q0 := H2.out.2.1.lt
 have q1 := H2.out.2.2.lt
 go_wp2_with fail
 refine (E3.out _ H2.out.1).mono ?_
 rintro e w3 ⟨rfl, g3⟩
 have H3 := hidP (And.intro (via0 g3 H2.out.1) (And.intro (H2.out.2.1.below g3 H2.out.2.1.lt) (H2.out.2.2.below g3 H2.out.2.2.lt)))
 clear q0 q1 c14 d14
 clear g3 H2 E3
 obtain ⟨-, -, -, -, -, -, -, -, -, -, -, -, -, -, -, c15, -, -, -, -, -, -, -, -, -, -⟩ := H3.out.2.1.row26
 obtain ⟨-, -, -, -, -, -, -, -, -, -, -, -, -, -, -, d15, -, -, -, -, -, -, -, -, -, -⟩ := H3.out.2.2.row26
 have q0 := H3.out.2.1.lt
 have q1 := H3.out.2.2.lt
 go_wp2_with fail
 refine (E4.out _ H3.out.1).mono ?_
 rintro e w4 ⟨rfl, g4⟩
 have H4 := hidP (And.intro (via0 g4 H3.out.1) (And.intro (H3.out.2.1.below g4 H3.out.2.1.lt) (H3.out.2.2.below g4 H3.out.2.2.lt)))
 clear q0 q1 c15 d15
 clear g4 H3 E4
 obtain ⟨-, -, -, -, -, -, -, -, -, -, -, -, -, -, -, -, c16, c17, c18, c19, c20, c21, c22, -, -, -⟩ := H4.out.2.1.row26
 obtain ⟨-, -, -, -, -, -, -, -, -, -, -, -, -, -, -, -, d16, d17, d18, d19, d20, d21, d22, -, -, -⟩ := H4.out.2.2.row26
 have q0 := H4.out.2.1.lt
 have q1 := H4.out.2.2.lt
 go_wp2_with fail
 refine (E5.out _ H4.out.1).mono ?_
 rintro e w5 ⟨rfl, g5⟩
 have H5 := hidP (And.intro (via0 g5 H4.out.1) (And.intro (H4.out.2.1.below g5 H4.out.2.1.lt) (H4.out.2.2.below g5 H4.out.2.2.lt)))
 clear q0 q1 c16 c17 c18 c19 c20 c21 c22 d16 d17 d18 d19 d20 d21 d22
 clear g5 H4 E5
 obtain ⟨-, -, -, -, -, -, -, -, -, -, -, -, -, -, -, -, -, -, -, -, -, -, -, c23, c24, -⟩ := H5.out.2.1.row26
 obtain ⟨-, -, -, -, -, -, -, -, -, -, -, -, -, -, -, -, -, -, -, -, -, -, -, d23, d24, -⟩ := H5.out.2.2.row26
 have q0 := H5.out.2.1.lt
 have q1 := H5.out.2.2.lt
 go_wp2_with fail
 refine (E6.out _ H5.out.1).mono ?_
 rintro e w6 ⟨rfl, g6⟩
 have H6 := hidP (And.intro (via0 g6 H5.out.1) (And.intro (H5.out.2.1.below g6 H5.out.2.1.lt) (H5.out.2.2.below g6 H5.out.2.2.lt)))
 clear q0 q1 c23 c24 d23 d24
 clear g6 H5 E6
 obtain ⟨-, -, -, -, -, -, -, -, -, -, -, -, -, -, -, -, -, -, -, -, -, -, -, -, -, c25⟩ := H6.out.2.1.row26
 obtain ⟨-, -, -, -, -, -, -, -, -, -, -, -, -, -, -, -, -, -, -, -, -, -, -, -, -, d25⟩ := H6.out.2.2.row26
 have q0 := H6.out.2.1.lt
 have q1 := H6.out.2.2.lt
 go_wp2_with fail
 refine (E7.out _ H6.out.1).mono ?_
 rintro e w7 ⟨rfl, g7⟩
 have H7 := hidP (And.intro (via0 g7 H6.out.1) (And.intro (H6.out.2.1.below g7 H6.out.2.1.lt) (H6.out.2.2.below g7 H6.out.2.2.lt)))
 clear q0 q1 c25 d25
 clear g7 H6 E7
 go_wp2
 go_ret
 exact ⟨rfl, H7.out.1⟩
end Go.Proofs.YtenhcjkkpnlbeaaGreatDoor.Gen
namespace Go.Proofs.YtenhcjkkpnlbeaaGreatDoor.Gen
section
variable {P : Program} {ops : Array Oper} {Q : Exit -> Act -> World -> Prop} {md : Region.Mode} {S : World -> Prop} {z : Nat}
def Qc2 (md : Region.Mode) (ops : Array Oper) (z : Nat) : Bool :=
  match ops[z]? with
  | none => false
  | some o => (List.range ops.size).all fun j => j == z || o.after.any fun e => Region.binds md e && e.on == j
theorem not_last {i : Nat} {L : Array Bool} (hz : Qc2 md ops z = true) (hi : i ∈ Region.ready md ops L) (hne : i ≠ z) : z ∉ Region.ready md ops L := fun h => by
 obtain ⟨hu, oi, hoi, _⟩ := mem_ready.1 hi
 obtain ⟨_, oz, hoz, hall⟩ := mem_ready.1 h
 have hlt : i < ops.size := (Array.getElem?_eq_some_iff.1 hoi).1
 simp only [Qc2, hoz, List.all_eq_true, List.mem_range, Bool.or_eq_true, beq_iff_eq] at hz
 have h1 := (hz i hlt).resolve_left hne
 obtain ⟨e, he, hb⟩ := Array.any_eq_true'.1 h1
 simp only [Bool.and_eq_true, beq_iff_eq] at hb
 have h2 := hall e he hb.1
 rw [hb.2] at h2
 rcases Nat.lt_or_ge i L.size with h' | h'
 . simp [h'] at hu h2
   rw [hu] at h2; cases h2
 . simp [Array.getElem?_eq_none h'] at h2
def Qcp (P : Program) (md : Region.Mode) (ops : Array Oper) (Q : Exit -> Act -> World -> Prop) (S : World -> Prop) (z : Nat) : Nat -> Array Bool -> Act -> World -> Prop
  | 0, L, a, w => Region.ready md ops L = [] /\ Q .normal a w
  | n + 1, L, a, w => (Region.ready md ops L = [] -> Q .normal a w) /\
    ∀ i ∈ Region.ready md ops L, wpOp P ops Q i (fun a' w' => (i = z ∨ S w') /\ Qcp P md ops Q S z n (L.setIfInBounds i true) a' w') a w
theorem Qnh (n : Nat) : ∀ (L : Array Bool) (a : Act) (w : World), Qcp P md ops Q S z n L a w -> wpAny P md ops Q n L a w := by
 induction n with
 | zero => exact fun _ _ _ h => h
 | succ n ih => exact fun L a w h => ⟨h.1, fun i hi => wpOp_mono (fun a' w' g => ih _ a' w' g.2) (h.2 i hi)⟩
theorem upTo_take {i : Nat} {oi : Oper} {v : Value} (hz : Qc2 md ops z = true) (hi : ops[i]? = some oi) (hs : Region.noSelect ops = true) (hQ : ∀ c a w, Q (.panic c) (a.put oi.dst v) w -> Q (.panic c) a w) (hiz : i ≠ z) (n : Nat) :
 ∀ (L : Array Bool) (a : Act) (w : World), Region.free md ops L i = true -> i ∈ Region.ready md ops L -> YieldsIf P ops S oi v a -> S w ->
  Qcp P md ops Q S z n (L.setIfInBounds i true) (a.put oi.dst v) w -> Qcp P md ops Q S z (n + 1) L a w := by
 have sel : ∀ (j : Nat) (o : Oper) cs b, ops[j]? = some o -> o.op ≠ .select cs b := Region.noSelect_spec hs
 suffices key : ∀ (L : Array Bool) (a : Act) (w : World), (∀ j oj, ops[j]? = some oj -> j ≠ i -> L.getD j true = false -> (∀ e ∈ oj.after, Region.binds md e = true -> e.on ≠ i) -> oi.apart ops oj = true) ->
  i ∈ Region.ready md ops L -> YieldsIf P ops S oi v a -> S w -> Qcp P md ops Q S z n (L.setIfInBounds i true) (a.put oi.dst v) w -> Qcp P md ops Q S z (n + 1) L a w from
  fun L a w hf hr hy hS H => key L a w (Region.free_spec hi hf) hr hy hS H
 induction n with
 | zero =>
  intro L a w _ hr hy hS H
  constructor
  . intro h; rw [h] at hr; exact absurd hr (List.not_mem_nil)
  . intro j hj
    rcases Decidable.em (j = i) with e | e
    . subst e; exact hy.wpOp hi hS ⟨.inr hS, H⟩
    . have g := ready_mono hj e
      rw [H.1] at g
      exact absurd g (List.not_mem_nil)
 | succ n ih =>
  intro L a w hfr hr hy hS H
  constructor
  . intro h; rw [h] at hr; exact absurd hr (List.not_mem_nil)
  . intro j hj
    rcases Decidable.em (j = i) with e | e
    . subst e; exact hy.wpOp hi hS ⟨.inr hS, H⟩
    . obtain ⟨hun, oj, hoj, hwait⟩ := mem_ready.1 hj
      have hjz : j ≠ z := fun h => by subst h; exact not_last hz hr hiz hj
      have iun := (mem_ready.1 hr).1
      have hno : ∀ d ∈ oj.after, Region.binds md d = true -> d.on ≠ i := fun d hd hb q => by
       have g := hwait d hd hb
       rw [q] at g
       rcases Nat.lt_or_ge i L.size with k | k
       . simp [k] at iun g
         rw [iun] at g; cases g
       . simp [Array.getElem?_eq_none k] at g
      have step := wpOp_putIf hoj (hfr j oj hoj e hun hno) (fun cs b => sel i oi cs b hi) (fun cs b => sel j oj cs b hoj) hQ hy (H.2 j (ready_mono hj e))
      refine wpOp_mono (fun a' w' g => ?_) step
      have hS' : S w' := g.2.1.resolve_left hjz
      refine ⟨.inr hS', ih _ a' w' (fun k ok hk hki hu hn => ?_) (ready_mono hr (Ne.symm e)) g.1 hS' ?_⟩
      . refine hfr k ok hk hki ?_ hn
        rcases Decidable.em (j = k) with q | q
        . subst q; exact hun
        . rwa [getD_set_ne true q] at hu
      . have := g.2.2
        rwa [Array.setIfInBounds_comm _ _ (Ne.symm e)] at this
theorem Qik {i : Nat} {oi : Oper} {v : Value} {n : Nat} {L : Array Bool} {a : Act} {w : World} (hz : Qc2 md ops z = true) (hi : ops[i]? = some oi) (hs : Region.noSelect ops = true) (hiz : i ≠ z)
 (hf : Region.free md ops L i = true) (hr : (Region.ready md ops L).contains i = true) (hQ : ∀ c a w, Q (.panic c) (a.put oi.dst v) w -> Q (.panic c) a w) (hy : YieldsIf P ops S oi v a) (hS : S w)
 (h : Qcp P md ops Q S z n (L.setIfInBounds i true) (a.put oi.dst v) w) : Qcp P md ops Q S z (n + 1) L a w :=
 upTo_take hz hi hs hQ hiz n L a w hf (by simpa using hr) hy hS h
theorem Qbo {i : Nat} {o : Oper} {n : Nat} {L : Array Bool} {a : Act} {w : World} (hr : Region.ready md ops L = [i]) (ho : ops[i]? = some o)
 (h : ∀ K' : Act -> World -> Prop, Shut (∀ a w, (i = z ∨ S w) -> Qcp P md ops Q S z n (L.setIfInBounds i true) a w -> K' a w) -> if Region.wanted o (yielded ops a.tmps) = true then Oper.wp P o a w K' Q else K' (a.put o.dst undef) w) :
 Qcp P md ops Q S z (n + 1) L a w := by
 refine ⟨fun h0 => (by rw [hr] at h0; cases h0), fun j hj => ?_⟩
 rw [hr] at hj
 obtain rfl : j = i := by simpa using hj
 exact wpOp_step ho (fun K' hK => h K' (fun a w h1 h2 => hK a w ⟨h1, h2⟩))
theorem Qfe {L : Array Bool} {a : Act} {w : World} (hr : Region.ready md ops L = []) (h : Q .normal a w) : ∀ n, Qcp P md ops Q S z n L a w
 | 0 => ⟨hr, h⟩
 | _ + 1 => ⟨fun _ => h, by rw [hr]; simp⟩
theorem Qd4 {id : Nat} {a : Act} {w : World} (z : Nat) (S : World -> Prop) (hm : P.follows .mixedOrders = true) (h : Qcp P .any ops Q S z ops.size (Array.replicate ops.size false) a w.drew) : (Code.region id ops true).wp P Q a w :=
 wp_region_any hm (Qnh _ _ _ _ h)
end
end Go.Proofs.YtenhcjkkpnlbeaaGreatDoor.Gen
namespace Go.Proofs.YtenhcjkkpnlbeaaGreatDoor
open Gen
theorem zG {α : Type} : (∀ (l : List α) (i : Nat) (h : i < l.toArray.size), l.toArray[i] = l[i]'(by simpa using h)) /\ (∀ (a : α) (l : List α) (i : Nat) (h : i + 1 < (a :: l).length), (a :: l)[i + 1] = l[i]'(by simpa using h)) /\ (∀ (a : α) (l : List α) (h : 0 < (a :: l).length), (a :: l)[0] = a) := ⟨fun _ _ _ => rfl, fun _ _ _ _ => rfl, fun _ _ _ => rfl⟩
theorem zY {α : Type} : (∀ (l : List α) (i : Nat) (h : i < l.toArray.size), l.toArray[i] = l[i]'(by simpa using h)) /\ (∀ (a : α) (l : List α) (i : Nat) (h : i + 1 < (a :: l).length), (a :: l)[i + 1] = l[i]'(by simpa using h)) /\ (∀ (a : α) (l : List α) (h : 0 < (a :: l).length), (a :: l)[0] = a) /\ (∀ (l : List α) (i : Nat) (v : α), l.toArray.setIfInBounds i v = (l.set i v).toArray) /\ (∀ (a v : α) (l : List α), (a :: l).set 0 v = v :: l) /\ (∀ (a v : α) (l : List α) (i : Nat), (a :: l).set (i + 1) v = a :: l.set i v) := ⟨fun _ _ _ => rfl, fun _ _ _ _ => rfl, fun _ _ _ => rfl, fun _ _ _ => by simp, fun _ _ _ => rfl, fun _ _ _ _ => rfl⟩
theorem zX : (∀ (a : Act) (v : Value), a.put none v = a) /\ (∀ (a : Act) (t : Tmp) (v : Value), a.put (some t) v = { a with tmps := a.tmps.setIfInBounds t v }) := ⟨fun _ _ => rfl, fun _ _ _ => rfl⟩
section
variable {P : Program} {md : Region.Mode} {ops : Array Oper} {Q : Go.Exit -> Act -> World -> Prop} {S : World -> Prop} {fuel : Nat} {listed : Array Bool} {a : Act} {w : World}
def ZTk (_ : List Nat) (P : Program) (md : Region.Mode) (ops : Array Oper) (Q : Go.Exit -> Act -> World -> Prop) (S : World -> Prop) (fuel : Nat) (listed : Array Bool) (a : Act) (w : World) : Prop := wpAnyH P md ops Q S fuel listed a w
theorem ztk (is : List Nat) (h : ZTk is P md ops Q S fuel listed a w) : wpAnyH P md ops Q S fuel listed a w := h
theorem zt1 (i : Nat) (h : ZTk [i] P md ops Q S fuel listed a w) : wpAnyH P md ops Q S fuel listed a w := h
theorem zte (h : wpAnyH P md ops Q S fuel listed a w) : ZTk [] P md ops Q S fuel listed a w := h
theorem ztn {i : Nat} {is : List Nat} {oi : Oper} {v : Value} (hi : ops[i]? = some oi := by rfl) (hw : Region.wanted oi (yielded ops a.tmps) = true := by rfl) (hy : ∀ w, S w -> (execOp a.eval oi).run P w = .ok (.value v) w := by (intro w hSw; (try dsimp only at hSw); go_simp<;>with_reducible rfl)) (hS : S w := by assumption) (hs : Region.noSelect ops = true := by kernel_rfl) (hf : Region.free md ops listed i = true := by kernel_rfl) (hr : (Region.ready md ops listed).contains i = true := by kernel_rfl)
 (hQ : ∀ c a w, Q (.panic c) (a.put oi.dst v) w -> Q (.panic c) a w := by exact fun _ _ _ h => h) (h : ZTk is P md ops Q S fuel (listed.setIfInBounds i true) (a.put oi.dst v) w) : ZTk (i :: is) P md ops Q S (fuel + 1) listed a w := wpAnyH_take hi hs hf hr hQ (.inl ⟨hw, hy⟩) hS h
theorem ztu {i : Nat} {is : List Nat} {oi : Oper} (hi : ops[i]? = some oi := by rfl) (hw : Region.wanted oi (yielded ops a.tmps) = false := by rfl) (hS : S w := by assumption) (hs : Region.noSelect ops = true := by kernel_rfl) (hf : Region.free md ops listed i = true := by kernel_rfl) (hr : (Region.ready md ops listed).contains i = true := by kernel_rfl)
 (hQ : ∀ c a w, Q (.panic c) (a.put oi.dst undef) w -> Q (.panic c) a w := by exact fun _ _ _ h => h) (h : ZTk is P md ops Q S fuel (listed.setIfInBounds i true) (a.put oi.dst undef) w) : ZTk (i :: is) P md ops Q S (fuel + 1) listed a w := wpAnyH_take hi hs hf hr hQ (.inr ⟨hw, rfl⟩) hS h
theorem zR1 (i : Nat) {o : Oper} (h : ∀ K' : Act -> World -> Prop, Shut (∀ a w, S w -> (S w -> wpAnyH P md ops Q S fuel (listed.setIfInBounds i true) a w) -> K' a w) -> if Region.wanted o (yielded ops a.tmps) = true then Oper.wp P o a w K' Q else K' (a.put o.dst undef) w) (ho : ops[i]? = some o := by rfl) (hr : Region.ready md ops listed = [i] := by kernel_rfl) : wpAnyH P md ops Q S (fuel + 1) listed a w := wpAnyH_ready hr (by simp) (.cons ho h .nil)
theorem zR2 (i j : Nat) {o o2 : Oper} (h : ∀ K' : Act -> World -> Prop, Shut (∀ a w, S w -> (S w -> wpAnyH P md ops Q S fuel (listed.setIfInBounds i true) a w) -> K' a w) -> if Region.wanted o (yielded ops a.tmps) = true then Oper.wp P o a w K' Q else K' (a.put o.dst undef) w) (h2 : ∀ K' : Act -> World -> Prop, Shut (∀ a w, S w -> (S w -> wpAnyH P md ops Q S fuel (listed.setIfInBounds j true) a w) -> K' a w) -> if Region.wanted o2 (yielded ops a.tmps) = true then Oper.wp P o2 a w K' Q else K' (a.put o2.dst undef) w)
 (ho : ops[i]? = some o := by rfl) (ho2 : ops[j]? = some o2 := by rfl) (hr : Region.ready md ops listed = [i, j] := by kernel_rfl) : wpAnyH P md ops Q S (fuel + 1) listed a w := wpAnyH_ready hr (by simp) (.cons ho h (.cons ho2 h2 .nil))
theorem zR3 (i j k : Nat) {o o2 o3 : Oper} (h : ∀ K' : Act -> World -> Prop, Shut (∀ a w, S w -> (S w -> wpAnyH P md ops Q S fuel (listed.setIfInBounds i true) a w) -> K' a w) -> if Region.wanted o (yielded ops a.tmps) = true then Oper.wp P o a w K' Q else K' (a.put o.dst undef) w) (h2 : ∀ K' : Act -> World -> Prop, Shut (∀ a w, S w -> (S w -> wpAnyH P md ops Q S fuel (listed.setIfInBounds j true) a w) -> K' a w) -> if Region.wanted o2 (yielded ops a.tmps) = true then Oper.wp P o2 a w K' Q else K' (a.put o2.dst undef) w)
 (h3 : ∀ K' : Act -> World -> Prop, Shut (∀ a w, S w -> (S w -> wpAnyH P md ops Q S fuel (listed.setIfInBounds k true) a w) -> K' a w) -> if Region.wanted o3 (yielded ops a.tmps) = true then Oper.wp P o3 a w K' Q else K' (a.put o3.dst undef) w)
 (ho : ops[i]? = some o := by rfl) (ho2 : ops[j]? = some o2 := by rfl) (ho3 : ops[k]? = some o3 := by rfl) (hr : Region.ready md ops listed = [i, j, k] := by kernel_rfl) : wpAnyH P md ops Q S (fuel + 1) listed a w := wpAnyH_ready hr (by simp) (.cons ho h (.cons ho2 h2 (.cons ho3 h3 .nil)))
theorem zdn (h : Q .normal a w) (hr : Region.ready md ops listed = [] := by kernel_rfl) : wpAnyH P md ops (NoPanic Q) S fuel listed a w := wpAnyH_done hr (NoPanic.normal h) _
end
section
variable {P : Program} {md : Region.Mode} {ops : Array Oper} {Q : Go.Exit -> Act -> World -> Prop} {S : World -> Prop} {z fuel : Nat} {listed : Array Bool} {a : Act} {w : World}
def ZPk (_ : List Nat) (P : Program) (md : Region.Mode) (ops : Array Oper) (Q : Go.Exit -> Act -> World -> Prop) (S : World -> Prop) (z fuel : Nat) (listed : Array Bool) (a : Act) (w : World) : Prop := Qcp P md ops Q S z fuel listed a w
theorem zpk (is : List Nat) (h : ZPk is P md ops Q S z fuel listed a w) : Qcp P md ops Q S z fuel listed a w := h
theorem zp1 (i : Nat) (h : ZPk [i] P md ops Q S z fuel listed a w) : Qcp P md ops Q S z fuel listed a w := h
theorem zpe (h : Qcp P md ops Q S z fuel listed a w) : ZPk [] P md ops Q S z fuel listed a w := h
theorem zpn {i : Nat} {is : List Nat} {oi : Oper} {v : Value} (hi : ops[i]? = some oi := by rfl) (hw : Region.wanted oi (yielded ops a.tmps) = true := by rfl) (hy : ∀ w, S w -> (execOp a.eval oi).run P w = .ok (.value v) w := by (intro w hSw; (try dsimp only at hSw); go_simp<;>with_reducible rfl)) (hS : S w := by assumption) (hz : Qc2 md ops z = true := by kernel_rfl) (hs : Region.noSelect ops = true := by kernel_rfl) (hiz : i ≠ z := by decide) (hf : Region.free md ops listed i = true := by kernel_rfl) (hr : (Region.ready md ops listed).contains i = true := by kernel_rfl)
 (hQ : ∀ c a w, Q (.panic c) (a.put oi.dst v) w -> Q (.panic c) a w := by exact fun _ _ _ h => h) (h : ZPk is P md ops Q S z fuel (listed.setIfInBounds i true) (a.put oi.dst v) w) : ZPk (i :: is) P md ops Q S z (fuel + 1) listed a w := Qik hz hi hs hiz hf hr hQ (.inl ⟨hw, hy⟩) hS h
theorem zpu {i : Nat} {is : List Nat} {oi : Oper} (hi : ops[i]? = some oi := by rfl) (hw : Region.wanted oi (yielded ops a.tmps) = false := by rfl) (hS : S w := by assumption) (hz : Qc2 md ops z = true := by kernel_rfl) (hs : Region.noSelect ops = true := by kernel_rfl) (hiz : i ≠ z := by decide) (hf : Region.free md ops listed i = true := by kernel_rfl) (hr : (Region.ready md ops listed).contains i = true := by kernel_rfl)
 (hQ : ∀ c a w, Q (.panic c) (a.put oi.dst undef) w -> Q (.panic c) a w := by exact fun _ _ _ h => h) (h : ZPk is P md ops Q S z fuel (listed.setIfInBounds i true) (a.put oi.dst undef) w) : ZPk (i :: is) P md ops Q S z (fuel + 1) listed a w := Qik hz hi hs hiz hf hr hQ (.inr ⟨hw, rfl⟩) hS h
end
end Go.Proofs.YtenhcjkkpnlbeaaGreatDoor
namespace Go.Proofs.YtenhcjkkpnlbeaaGreatDoor.Gen
open ChangeShapes WideShapes ChangeAt RowKit Joins Deep Base
def setB (ro wi le ke : Int) : Bool := inB ro 1 4 && inB wi 1 5 && inB le 1 8 && inB ke 0 60
theorem Qdm {ro wi le ke : Int} (h : setB ro wi le ke = true) : 1 <= ro /\ ro <= 4 := by
 simp only [setB, inB, Bool.and_eq_true, decide_eq_true_eq] at h; exact h.1.1.1
theorem Qlp (p q r s : Bool) : p = false ∨ (p = true /\ q = false) ∨ (p = true /\ q = true /\ r = false) ∨ (p = true /\ q = true /\ r = true /\ s = false) ∨ (p = true /\ q = true /\ r = true /\ s = true) := by
 cases p<;>cases q<;>cases r<;>cases s<;>simp
theorem Qbp (ro wi le ke : Int) (w : World) :
 Calls Tryz.prog 10 #[.agg (Qag ro wi le ke)] w fun e w' => e = .returned (.bool (setB ro wi le ke)) /\ Below w.heap.size w w' := by
 rcases Qlp (inB ro 1 4) (inB wi 1 5) (inB le 1 8) (inB ke 0 60) with h1 | ⟨h1, h2⟩ | ⟨h1, h2, h3⟩ | ⟨h1, h2, h3, h4⟩ | ⟨h1, h2, h3, h4⟩
 all_goals
  go_enter Tryz.func10, Tryz.ntmps10
  go_wp2_with (go_at_call 11; refine (in_any _ _ _ _).mono ?_; rintro e w' ⟨rfl, rfl⟩)
  go_ret
  exact ⟨by simp [setB, *], by repeat (first | exact Below.refl _ _ | refine Below.drew ?_ | refine Below.alloc ?_ (by simp<;>omega) _)⟩
theorem Qcm (ro wi le ke : Int) (w : World) :
 Calls Tryz.prog 39 #[.agg (Qag ro wi le ke)] w fun e w' => e = .returned (.bool (setB ro wi le ke)) /\ Below w.heap.size w w' := by
 rcases Qlp (inB ro 1 4) (inB wi 1 5) (inB le 1 8) (inB ke 0 60) with h1 | ⟨h1, h2⟩ | ⟨h1, h2, h3⟩ | ⟨h1, h2, h3, h4⟩ | ⟨h1, h2, h3, h4⟩
 all_goals
  go_enter Tryz.func39, Tryz.ntmps39
  go_wp2_with (go_at_call 76; refine (within_any _ _ _ _).mono ?_; rintro e w' ⟨rfl, rfl⟩)
  go_ret
  exact ⟨by simp [setB, *], by repeat (first | exact Below.refl _ _ | refine Below.drew ?_ | refine Below.alloc ?_ (by simp<;>omega) _)⟩
theorem Qe6 (ro wi le ke : Int) (w : World) :
 Calls Tryz.prog 5 #[.agg (Qag ro wi le ke)] w fun e w' => e = .returned (.agg (Qag ro wi le ke)) /\ Below w.heap.size w w' := by
 go_enter Tryz.func5, Tryz.ntmps5
 go_wp2
 exact bodyPost_ret (v := .agg (Qag ro wi le ke)) (by simp [results, Tryz.results5, go_sem]) rfl
  ⟨rfl, by repeat (first | exact Below.refl _ _ | refine Below.drew ?_ | refine Below.alloc ?_ (by simp<;>omega) _)⟩
theorem cellsSetup : Tryz.prog.cellsOf 23 = 4 := by kernel_rfl
theorem openSetup {H : Type} {enc : TypeId × Value -> H} {W : World} {base b0 : Nat} {r : Reach} {spare : Nat -> Bool} {held : Bool} {v : Value} {d : DataW H} {p : List MemPlace}
 (hv : Value.okWide Tryz.prog W r b0 23 v) (h : DataW.Trod enc Tryz.prog W base spare held 23 v d p) :
 ∃ (ro wi le ke : Int), v = .agg (Qag ro wi le ke) /\ I64 ro /\ I64 wi /\ I64 le /\ I64 ke := by
 obtain ⟨c0, c1, c2, c3, y0, y1, y2, y3, m, rfl, rfl, rfl, hy0, hy1, hy2, hy3⟩ := open_agg4 Tryz.underlying23 (by kernel_rfl) cellsSetup hv h
 obtain ⟨a, e0, rfl, wa⟩ := DataW.trod_int Tryz.underlying3 hy0
 obtain ⟨b, e1, rfl, wb⟩ := DataW.trod_int Tryz.underlying3 hy1
 obtain ⟨c, e2, rfl, wc⟩ := DataW.trod_int Tryz.underlying3 hy2
 obtain ⟨d, e3, rfl, wd⟩ := DataW.trod_int Tryz.underlying3 hy3
 simp at e0 e1 e2 e3
 subst e0 e1 e2 e3
 exact ⟨a, b, c, d, rfl, Qir wa, Qir wb, Qir wc, Qir wd⟩
end Go.Proofs.YtenhcjkkpnlbeaaGreatDoor.Gen
namespace Go.Proofs.YtenhcjkkpnlbeaaGreatDoor.Items
open ChangeShapes WideShapes ChangeAt RowKit Base
def rowN (start next nb : Int) (l : List It) : Bool := Qa1 start nb l 0 && inB start 0 next && decide (next <= 100000) && decide (l.length <= 80)
theorem rowN_eq (start next : Int) (l : List It) (h0 : -9223372036854775808 <= next) (h1 : next <= 9223372036854775807) : rowN start next (IntKind.i64.wrap (next - 1)) l = rowB start next l := by
 by_cases h : next = -9223372036854775808
 . have e : inB start 0 next = false := by simp only [inB, decide_eq_false_iff_not]; omega
   simp [rowN, rowB, e]
 . have e : IntKind.i64.wrap (next - 1) = next - 1 := by rw [IntKind.wrap_i64]; omega
   rw [e]; rfl
theorem Qj7 (start next : Int) (A : Option Addr) (cap : Nat) (l : List It) (hl : l.length <= 9223372036854775807) (hs : ∀ x ∈ l, x.key.size <= 9223372036854775807 /\ x.text.size <= 9223372036854775807)
 (nb : Int) (hnb : Hid (IntKind.i64.wrap (next - 1) = nb)) (w : World) (hA : l = [] ∨ ∃ b o, A = some ⟨b, o, none⟩ /\ b < w.heap.size /\ In w b o l) :
 Calls Tryz.prog 110 #[.agg (Qay start next A l.length cap)] w fun e w' => e = .returned (.bool (rowN start next nb l)) /\ Below w.heap.size w w' := by
 have HA : Hid (l = [] ∨ ∃ b o, A = some ⟨b, o, none⟩ /\ b < w.heap.size /\ In w b o l) := hA
 clear hA
 go_enter Tryz.func110, Tryz.ntmps110
 go_wp2
 go_loopw [3] (fun i w' => ∃ (n : Nat), i = .int .i64 (n : Int) /\ n <= l.length /\ Below w.heap.size w w' /\ w.heap.size < w'.heap.size /\ w'.cell? ⟨w.heap.size, 0, none⟩ = some (.int .i64 start) /\ w'.cell? ⟨w.heap.size, 1, none⟩ = some (.int .i64 next) /\ w'.cell? ⟨w.heap.size, 2, none⟩ = some (.slice A l.length cap) /\
  Hid (Qa1 start nb l n = Qa1 start nb l 0)) (fun i _ => l.length - (intOf i).toNat)
 case atStart => exact ⟨0, rfl, by omega, by repeat (first | exact Below.refl _ _ | refine via0 (by assumption) ?_ | refine Below.drew ?_ | refine Qab ?_ _), by simp, by simp, by simp, by simp, rfl⟩
 case round =>
  obtain ⟨n, rfl, hn, hbl, hsz, b0, b1, b2, hch⟩ := hrel
  by_cases hlt : n < l.length
  . obtain ⟨b, o, rfl, hbs, hin⟩ : ∃ b o, A = some ⟨b, o, none⟩ /\ b < w.heap.size /\ In w b o l := by
     rcases HA.out with h | h
     . subst h; simp at hlt
     . exact h
    have hb1 : b < wr.heap.size := Nat.lt_of_lt_of_le hbs hbl.size
    have hIn := hin.below hbs hbl
    have hi0 : (0 : Int) <= (n : Int) := by omega
    have hi1 : (n : Int) < (l.length : Int) := by omega
    have hst := Qij (start := start) (nb := nb) hlt
    obtain ⟨c0, c1, c2, c3, c4⟩ := hIn.get n hlt
    obtain ⟨hk, ht⟩ := hs l[n] (List.getElem_mem hlt)
    cases hp : Qel l[n]
    . have h1 : Hid (Qhy l[n].key l[n].text l[n].who l[n].time = false) := hp
      have hF : Hid (Qa1 start nb l 0 = false) := by show Qa1 start nb l 0 = false; rw [← hch.out, hst, hp]; rfl
      clear hst hp
      go_wp2
      refine wp_region_noPanic ?_
      refine wp_region_held_drew (S := (fun w' => w'.cell? ⟨w.heap.size, 0, none⟩ = some (.int .i64 start) /\ w'.cell? ⟨w.heap.size, 1, none⟩ = some (.int .i64 next) /\ w'.cell? ⟨w.heap.size, 2, none⟩ = some (.slice (some ⟨b, o, none⟩) l.length cap) /\ w'.cell? ⟨b, o + n * 5, none⟩ = some (.int .i64 l[n].off) /\ w'.cell? ⟨b, o + n * 5 + 1, none⟩ = some (.string l[n].key) /\ w'.cell? ⟨b, o + n * 5 + 2, none⟩ = some (.string l[n].text) /\ w'.cell? ⟨b, o + n * 5 + 3, none⟩ = some (.int .i64 l[n].who) /\ w'.cell? ⟨b, o + n * 5 + 4, none⟩ = some (.int .i64 l[n].time) /\ w.heap.size < w'.heap.size /\ b < w'.heap.size)) (by kernel_rfl) ?_ (fun hH => ?_)
      . (refine ⟨?_, ?_, ?_, ?_, ?_, ?_, ?_, ?_, ?_, ?_⟩<;>first | assumption | (simp; done))
      refine ztk [0,1,2,3,4] ?_; repeat (refine ztn (h := ?_); try simp only [zX,zY])
      refine zte ?_
      refine zR1 5 (fun K hK => ?_)
      simp only [zG]
      go_simp
      (go_at_call 151; refine (Qdl false _ _ _ _ _ hk ht h1 _).mono ?_; rintro e w1 ⟨rfl, g1⟩; obtain ⟨k1, m1⟩ := Qax g1; have s1 := g1.size)
      refine hK.out _ _ ?_ (fun hH => ?_)
      . first | (go_split_ands; refine ⟨?_, ?_, ?_, ?_, ?_, ?_, ?_, ?_, ?_, ?_⟩<;>assumption) | (go_split_ands; refine ⟨?_, ?_, ?_, ?_, ?_, ?_, ?_, ?_, ?_, ?_⟩<;>first | assumption | exact (k1 _ _ (by assumption)).trans (by assumption) | exact Nat.lt_of_lt_of_le (by assumption) s1)
      clear hK K
      try simp only [zX,zY]
      refine ztk [6,7,8,9,10,11,12,13,14,15,16,17,18,19,20,21,22,23,24,25,26,27,28,29,30,31,32,33,34,35,36,37,38,39,40,41] ?_; repeat ((first | refine ztn (h := ?_) | refine ztu (h := ?_)); try simp only [zX,zY])
      refine zte ?_
      refine zdn ?_
      go_wp2
      go_ret
      exact ⟨by rw [show rowN start next nb l = false from by unfold rowN; rw [hF.out]; rfl]; rfl, via0 g1 hbl.drew⟩
    . have h1 : Hid (Qhy l[n].key l[n].text l[n].who l[n].time = true) := hp
      cases h2' : inB l[n].off start nb
      . have h2 : Hid (inB l[n].off start nb = false) := h2'
        have hF : Hid (Qa1 start nb l 0 = false) := by show Qa1 start nb l 0 = false; rw [← hch.out, hst, hp, h2']; rfl
        clear hst hp h2'
        go_wp2
        refine wp_region_noPanic ?_
        refine wp_region_held_drew (S := (fun w' => w'.cell? ⟨w.heap.size, 0, none⟩ = some (.int .i64 start) /\ w'.cell? ⟨w.heap.size, 1, none⟩ = some (.int .i64 next) /\ w'.cell? ⟨w.heap.size, 2, none⟩ = some (.slice (some ⟨b, o, none⟩) l.length cap) /\ w'.cell? ⟨b, o + n * 5, none⟩ = some (.int .i64 l[n].off) /\ w'.cell? ⟨b, o + n * 5 + 1, none⟩ = some (.string l[n].key) /\ w'.cell? ⟨b, o + n * 5 + 2, none⟩ = some (.string l[n].text) /\ w'.cell? ⟨b, o + n * 5 + 3, none⟩ = some (.int .i64 l[n].who) /\ w'.cell? ⟨b, o + n * 5 + 4, none⟩ = some (.int .i64 l[n].time) /\ w.heap.size < w'.heap.size /\ b < w'.heap.size)) (by kernel_rfl) ?_ (fun hH => ?_)
        . (refine ⟨?_, ?_, ?_, ?_, ?_, ?_, ?_, ?_, ?_, ?_⟩<;>first | assumption | (simp; done))
        refine ztk [0,1,2,3,4] ?_; repeat (refine ztn (h := ?_); try simp only [zX,zY])
        refine zte ?_
        refine zR1 5 (fun K hK => ?_)
        simp only [zG]
        go_simp
        (go_at_call 151; refine (Qdl true _ _ _ _ _ hk ht h1 _).mono ?_; rintro e w1 ⟨rfl, g1⟩; obtain ⟨k1, m1⟩ := Qax g1; have s1 := g1.size)
        refine hK.out _ _ ?_ (fun hH => ?_)
        . first | (go_split_ands; refine ⟨?_, ?_, ?_, ?_, ?_, ?_, ?_, ?_, ?_, ?_⟩<;>assumption) | (go_split_ands; refine ⟨?_, ?_, ?_, ?_, ?_, ?_, ?_, ?_, ?_, ?_⟩<;>first | assumption | exact (k1 _ _ (by assumption)).trans (by assumption) | exact Nat.lt_of_lt_of_le (by assumption) s1)
        clear hK K
        try simp only [zX,zY]
        refine ztk [6,7,8,9,10,11,12,13,14,15,16,17] ?_; repeat (refine ztn (h := ?_); try simp only [zX,zY])
        refine zte ?_
        refine' wpAnyH_take (i := 18) (v := _) rfl (by kernel_rfl) (by kernel_rfl) (by kernel_rfl) (fun _ _ _ h => h) (Or.inl ⟨by rfl, ?hy28⟩) (by assumption) ?rest28
        case hy28 => (intro w hSw; (try dsimp only at hSw); go_simp<;>(rw [hnb.out]<;>with_reducible rfl))
        try simp only [zX,zY]
        refine zR1 19 (fun K hK => ?_)
        simp only [zG]
        go_simp
        (go_at_call 11; refine (in_is false _ _ _ h2 _).mono ?_; rintro e w' ⟨rfl, rfl⟩)
        refine hK.out _ _ ?_ (fun hH => ?_)
        . first | (go_split_ands; refine ⟨?_, ?_, ?_, ?_, ?_, ?_, ?_, ?_, ?_, ?_⟩<;>assumption) | (go_split_ands; refine ⟨?_, ?_, ?_, ?_, ?_, ?_, ?_, ?_, ?_, ?_⟩<;>first | assumption | exact (k1 _ _ (by assumption)).trans (by assumption) | exact Nat.lt_of_lt_of_le (by assumption) s1)
        clear hK K
        try simp only [zX,zY]
        refine ztk [20,21,22,23,24,25,26,27,28,29,30,31,32,33,34,35,36,37,38,39,40,41] ?_; repeat ((first | refine ztn (h := ?_) | refine ztu (h := ?_)); try simp only [zX,zY])
        refine zte ?_
        refine zdn ?_
        go_wp2
        go_ret
        exact ⟨by rw [show rowN start next nb l = false from by unfold rowN; rw [hF.out]; rfl]; rfl, via0 g1 hbl.drew⟩
      . have h2 : Hid (inB l[n].off start nb = true) := h2'
        by_cases hz : n = 0
        . have ho : ordB l n l[n].off = true := by subst hz; exact ordB_zero l _
          have hd : Hid (decide (0 < n) = false) := decide_eq_false (by omega)
          have hF : Hid (Qa1 start nb l (n + 1) = Qa1 start nb l 0) := by show Qa1 start nb l (n + 1) = Qa1 start nb l 0; rw [← hch.out, hst, hp, h2', ho]; rfl
          clear hst hp h2' ho hz
          go_wp2
          refine wp_region_noPanic ?_
          refine wp_region_held_drew (S := (fun w' => w'.cell? ⟨w.heap.size, 0, none⟩ = some (.int .i64 start) /\ w'.cell? ⟨w.heap.size, 1, none⟩ = some (.int .i64 next) /\ w'.cell? ⟨w.heap.size, 2, none⟩ = some (.slice (some ⟨b, o, none⟩) l.length cap) /\ w'.cell? ⟨b, o + n * 5, none⟩ = some (.int .i64 l[n].off) /\ w'.cell? ⟨b, o + n * 5 + 1, none⟩ = some (.string l[n].key) /\ w'.cell? ⟨b, o + n * 5 + 2, none⟩ = some (.string l[n].text) /\ w'.cell? ⟨b, o + n * 5 + 3, none⟩ = some (.int .i64 l[n].who) /\ w'.cell? ⟨b, o + n * 5 + 4, none⟩ = some (.int .i64 l[n].time) /\ w.heap.size < w'.heap.size /\ b < w'.heap.size)) (by kernel_rfl) ?_ (fun hH => ?_)
          . (refine ⟨?_, ?_, ?_, ?_, ?_, ?_, ?_, ?_, ?_, ?_⟩<;>first | assumption | (simp; done))
          refine ztk [0,1,2,3,4] ?_; repeat (refine ztn (h := ?_); try simp only [zX,zY])
          refine zte ?_
          refine zR1 5 (fun K hK => ?_)
          simp only [zG]
          go_simp
          (go_at_call 151; refine (Qdl true _ _ _ _ _ hk ht h1 _).mono ?_; rintro e w1 ⟨rfl, g1⟩; obtain ⟨k1, m1⟩ := Qax g1; have s1 := g1.size)
          refine hK.out _ _ ?_ (fun hH => ?_)
          . first | (go_split_ands; refine ⟨?_, ?_, ?_, ?_, ?_, ?_, ?_, ?_, ?_, ?_⟩<;>assumption) | (go_split_ands; refine ⟨?_, ?_, ?_, ?_, ?_, ?_, ?_, ?_, ?_, ?_⟩<;>first | assumption | exact (k1 _ _ (by assumption)).trans (by assumption) | exact Nat.lt_of_lt_of_le (by assumption) s1)
          clear hK K
          try simp only [zX,zY]
          refine ztk [6,7,8,9,10,11,12,13,14,15,16,17] ?_; repeat (refine ztn (h := ?_); try simp only [zX,zY])
          refine zte ?_
          refine' wpAnyH_take (i := 18) (v := _) rfl (by kernel_rfl) (by kernel_rfl) (by kernel_rfl) (fun _ _ _ h => h) (Or.inl ⟨by rfl, ?hy50⟩) (by assumption) ?rest50
          case hy50 => (intro w hSw; (try dsimp only at hSw); go_simp<;>(rw [hnb.out]<;>with_reducible rfl))
          try simp only [zX,zY]
          refine zR1 19 (fun K hK => ?_)
          simp only [zG]
          go_simp
          (go_at_call 11; refine (in_is true _ _ _ h2 _).mono ?_; rintro e w' ⟨rfl, rfl⟩)
          refine hK.out _ _ ?_ (fun hH => ?_)
          . first | (go_split_ands; refine ⟨?_, ?_, ?_, ?_, ?_, ?_, ?_, ?_, ?_, ?_⟩<;>assumption) | (go_split_ands; refine ⟨?_, ?_, ?_, ?_, ?_, ?_, ?_, ?_, ?_, ?_⟩<;>first | assumption | exact (k1 _ _ (by assumption)).trans (by assumption) | exact Nat.lt_of_lt_of_le (by assumption) s1)
          clear hK K
          try simp only [zX,zY]
          refine ztk [20,21,22,23] ?_; repeat (refine ztn (h := ?_); try simp only [zX,zY])
          refine zte ?_
          refine' wpAnyH_take (i := 24) (v := _) rfl (by kernel_rfl) (by kernel_rfl) (by kernel_rfl) (fun _ _ _ h => h) (Or.inl ⟨by rfl, ?hy55⟩) (by assumption) ?rest55
          case hy55 => (intro w hSw; (try dsimp only at hSw); go_simp<;>(rw [hd.out]<;>with_reducible rfl))
          try simp only [zX,zY]
          refine ztk [25,26,27,28,29,30,31,32,33,34,35,36,37,38,39,40,41] ?_; repeat ((first | refine ztn (h := ?_) | refine ztu (h := ?_)); try simp only [zX,zY])
          refine zte ?_
          refine zdn ?_
          go_split_ands
          go_wp2
          exact ⟨⟨n + 1, by go_num, by omega, via0 g1 hbl.drew, by assumption, by assumption, by assumption, by assumption, hF⟩, by simp [intOf]; omega⟩
        . obtain ⟨p, hpn⟩ : ∃ p, n = p + 1 := ⟨n - 1, by omega⟩
          have hpl : p < l.length := by omega
          obtain ⟨p0, _⟩ := hIn.get p hpl
          have ho : ordB l n l[n].off = decide (l[p].off < l[n].off) := by rw [← ordB_succ hpl, ← hpn]
          have hd : Hid (decide (0 < n) = true) := decide_eq_true (by omega)
          have j0 : (0 : Int) <= (p : Int) := by omega
          have j1 : (p : Int) < (l.length : Int) := by omega
          have jw : Hid (IntKind.i64.wrap ((n : Int) - 1) = (p : Int)) := by
           show IntKind.i64.wrap ((n : Int) - 1) = (p : Int)
           rw [IntKind.wrap_i64]; omega
          clear hpn hz
          by_cases h4 : l[p].off < l[n].off
          . rw [decide_eq_true h4] at ho
            have hF : Hid (Qa1 start nb l (n + 1) = Qa1 start nb l 0) := by show Qa1 start nb l (n + 1) = Qa1 start nb l 0; rw [← hch.out, hst, hp, h2', ho]; rfl
            have h5 : ¬ l[p].off >= l[n].off := by omega
            clear hst hp h2' ho h4
            go_wp2
            refine wp_region_noPanic ?_
            refine wp_region_held_drew (S := (fun w' => w'.cell? ⟨w.heap.size, 0, none⟩ = some (.int .i64 start) /\ w'.cell? ⟨w.heap.size, 1, none⟩ = some (.int .i64 next) /\ w'.cell? ⟨w.heap.size, 2, none⟩ = some (.slice (some ⟨b, o, none⟩) l.length cap) /\ w'.cell? ⟨b, o + n * 5, none⟩ = some (.int .i64 l[n].off) /\ w'.cell? ⟨b, o + n * 5 + 1, none⟩ = some (.string l[n].key) /\ w'.cell? ⟨b, o + n * 5 + 2, none⟩ = some (.string l[n].text) /\ w'.cell? ⟨b, o + n * 5 + 3, none⟩ = some (.int .i64 l[n].who) /\ w'.cell? ⟨b, o + n * 5 + 4, none⟩ = some (.int .i64 l[n].time) /\ w'.cell? ⟨b, o + p * 5, none⟩ = some (.int .i64 l[p].off) /\ w.heap.size < w'.heap.size /\ b < w'.heap.size)) (by kernel_rfl) ?_ (fun hH => ?_)
            . (refine ⟨?_, ?_, ?_, ?_, ?_, ?_, ?_, ?_, ?_, ?_, ?_⟩<;>first | assumption | (simp; done))
            refine ztk [0,1,2,3,4] ?_; repeat (refine ztn (h := ?_); try simp only [zX,zY])
            refine zte ?_
            refine zR1 5 (fun K hK => ?_)
            simp only [zG]
            go_simp
            (go_at_call 151; refine (Qdl true _ _ _ _ _ hk ht h1 _).mono ?_; rintro e w1 ⟨rfl, g1⟩; obtain ⟨k1, m1⟩ := Qax g1; have s1 := g1.size)
            refine hK.out _ _ ?_ (fun hH => ?_)
            . first | (go_split_ands; refine ⟨?_, ?_, ?_, ?_, ?_, ?_, ?_, ?_, ?_, ?_, ?_⟩<;>assumption) | (go_split_ands; refine ⟨?_, ?_, ?_, ?_, ?_, ?_, ?_, ?_, ?_, ?_, ?_⟩<;>first | assumption | exact (k1 _ _ (by assumption)).trans (by assumption) | exact Nat.lt_of_lt_of_le (by assumption) s1)
            clear hK K
            try simp only [zX,zY]
            refine ztk [6,7,8,9,10,11,12,13,14,15,16,17] ?_; repeat (refine ztn (h := ?_); try simp only [zX,zY])
            refine zte ?_
            refine' wpAnyH_take (i := 18) (v := _) rfl (by kernel_rfl) (by kernel_rfl) (by kernel_rfl) (fun _ _ _ h => h) (Or.inl ⟨by rfl, ?hy76⟩) (by assumption) ?rest76
            case hy76 => (intro w hSw; (try dsimp only at hSw); go_simp<;>(rw [hnb.out]<;>with_reducible rfl))
            try simp only [zX,zY]
            refine zR1 19 (fun K hK => ?_)
            simp only [zG]
            go_simp
            (go_at_call 11; refine (in_is true _ _ _ h2 _).mono ?_; rintro e w' ⟨rfl, rfl⟩)
            refine hK.out _ _ ?_ (fun hH => ?_)
            . first | (go_split_ands; refine ⟨?_, ?_, ?_, ?_, ?_, ?_, ?_, ?_, ?_, ?_, ?_⟩<;>assumption) | (go_split_ands; refine ⟨?_, ?_, ?_, ?_, ?_, ?_, ?_, ?_, ?_, ?_, ?_⟩<;>first | assumption | exact (k1 _ _ (by assumption)).trans (by assumption) | exact Nat.lt_of_lt_of_le (by assumption) s1)
            clear hK K
            try simp only [zX,zY]
            refine ztk [20,21,22,23] ?_; repeat (refine ztn (h := ?_); try simp only [zX,zY])
            refine zte ?_
            refine' wpAnyH_take (i := 24) (v := _) rfl (by kernel_rfl) (by kernel_rfl) (by kernel_rfl) (fun _ _ _ h => h) (Or.inl ⟨by rfl, ?hy81⟩) (by assumption) ?rest81
            case hy81 => (intro w hSw; (try dsimp only at hSw); go_simp<;>(rw [hd.out]<;>with_reducible rfl))
            try simp only [zX,zY]
            refine ztk [25,26,27,28] ?_; repeat (refine ztn (h := ?_); try simp only [zX,zY])
            refine zte ?_
            refine' wpAnyH_take (i := 29) (v := _) rfl (by kernel_rfl) (by kernel_rfl) (by kernel_rfl) (fun _ _ _ h => h) (Or.inl ⟨by rfl, ?hy86⟩) (by assumption) ?rest86
            case hy86 => (intro w hSw; (try dsimp only at hSw); go_simp<;>(rw [jw.out]<;>with_reducible rfl))
            try simp only [zX,zY]
            refine ztk [30,31,32,33,34,35,36,37,38,39,40,41] ?_; repeat (refine ztn (h := ?_); try simp only [zX,zY])
            refine zte ?_
            refine zdn ?_
            go_split_ands
            go_wp2
            exact ⟨⟨n + 1, by go_num, by omega, via0 g1 hbl.drew, by assumption, by assumption, by assumption, by assumption, hF⟩, by simp [intOf]; omega⟩
          . rw [decide_eq_false h4] at ho
            have hF : Hid (Qa1 start nb l 0 = false) := by show Qa1 start nb l 0 = false; rw [← hch.out, hst, hp, h2', ho]; rfl
            have h5 : l[p].off >= l[n].off := by omega
            clear hst hp h2' ho h4
            go_wp2
            refine wp_region_noPanic ?_
            refine wp_region_held_drew (S := (fun w' => w'.cell? ⟨w.heap.size, 0, none⟩ = some (.int .i64 start) /\ w'.cell? ⟨w.heap.size, 1, none⟩ = some (.int .i64 next) /\ w'.cell? ⟨w.heap.size, 2, none⟩ = some (.slice (some ⟨b, o, none⟩) l.length cap) /\ w'.cell? ⟨b, o + n * 5, none⟩ = some (.int .i64 l[n].off) /\ w'.cell? ⟨b, o + n * 5 + 1, none⟩ = some (.string l[n].key) /\ w'.cell? ⟨b, o + n * 5 + 2, none⟩ = some (.string l[n].text) /\ w'.cell? ⟨b, o + n * 5 + 3, none⟩ = some (.int .i64 l[n].who) /\ w'.cell? ⟨b, o + n * 5 + 4, none⟩ = some (.int .i64 l[n].time) /\ w'.cell? ⟨b, o + p * 5, none⟩ = some (.int .i64 l[p].off) /\ w.heap.size < w'.heap.size /\ b < w'.heap.size)) (by kernel_rfl) ?_ (fun hH => ?_)
            . (refine ⟨?_, ?_, ?_, ?_, ?_, ?_, ?_, ?_, ?_, ?_, ?_⟩<;>first | assumption | (simp; done))
            refine ztk [0,1,2,3,4] ?_; repeat (refine ztn (h := ?_); try simp only [zX,zY])
            refine zte ?_
            refine zR1 5 (fun K hK => ?_)
            simp only [zG]
            go_simp
            (go_at_call 151; refine (Qdl true _ _ _ _ _ hk ht h1 _).mono ?_; rintro e w1 ⟨rfl, g1⟩; obtain ⟨k1, m1⟩ := Qax g1; have s1 := g1.size)
            refine hK.out _ _ ?_ (fun hH => ?_)
            . first | (go_split_ands; refine ⟨?_, ?_, ?_, ?_, ?_, ?_, ?_, ?_, ?_, ?_, ?_⟩<;>assumption) | (go_split_ands; refine ⟨?_, ?_, ?_, ?_, ?_, ?_, ?_, ?_, ?_, ?_, ?_⟩<;>first | assumption | exact (k1 _ _ (by assumption)).trans (by assumption) | exact Nat.lt_of_lt_of_le (by assumption) s1)
            clear hK K
            try simp only [zX,zY]
            refine ztk [6,7,8,9,10,11,12,13,14,15,16,17] ?_; repeat (refine ztn (h := ?_); try simp only [zX,zY])
            refine zte ?_
            refine' wpAnyH_take (i := 18) (v := _) rfl (by kernel_rfl) (by kernel_rfl) (by kernel_rfl) (fun _ _ _ h => h) (Or.inl ⟨by rfl, ?hy116⟩) (by assumption) ?rest116
            case hy116 => (intro w hSw; (try dsimp only at hSw); go_simp<;>(rw [hnb.out]<;>with_reducible rfl))
            try simp only [zX,zY]
            refine zR1 19 (fun K hK => ?_)
            simp only [zG]
            go_simp
            (go_at_call 11; refine (in_is true _ _ _ h2 _).mono ?_; rintro e w' ⟨rfl, rfl⟩)
            refine hK.out _ _ ?_ (fun hH => ?_)
            . first | (go_split_ands; refine ⟨?_, ?_, ?_, ?_, ?_, ?_, ?_, ?_, ?_, ?_, ?_⟩<;>assumption) | (go_split_ands; refine ⟨?_, ?_, ?_, ?_, ?_, ?_, ?_, ?_, ?_, ?_, ?_⟩<;>first | assumption | exact (k1 _ _ (by assumption)).trans (by assumption) | exact Nat.lt_of_lt_of_le (by assumption) s1)
            clear hK K
            try simp only [zX,zY]
            refine ztk [20,21,22,23] ?_; repeat (refine ztn (h := ?_); try simp only [zX,zY])
            refine zte ?_
            refine' wpAnyH_take (i := 24) (v := _) rfl (by kernel_rfl) (by kernel_rfl) (by kernel_rfl) (fun _ _ _ h => h) (Or.inl ⟨by rfl, ?hy121⟩) (by assumption) ?rest121
            case hy121 => (intro w hSw; (try dsimp only at hSw); go_simp<;>(rw [hd.out]<;>with_reducible rfl))
            try simp only [zX,zY]
            refine ztk [25,26,27,28] ?_; repeat (refine ztn (h := ?_); try simp only [zX,zY])
            refine zte ?_
            refine' wpAnyH_take (i := 29) (v := _) rfl (by kernel_rfl) (by kernel_rfl) (by kernel_rfl) (fun _ _ _ h => h) (Or.inl ⟨by rfl, ?hy126⟩) (by assumption) ?rest126
            case hy126 => (intro w hSw; (try dsimp only at hSw); go_simp<;>(rw [jw.out]<;>with_reducible rfl))
            try simp only [zX,zY]
            refine ztk [30,31,32,33,34,35,36,37,38,39,40,41] ?_; repeat (refine ztn (h := ?_); try simp only [zX,zY])
            refine zte ?_
            refine zdn ?_
            go_wp2
            go_ret
            exact ⟨by rw [show rowN start next nb l = false from by unfold rowN; rw [hF.out]; rfl]; rfl, via0 g1 hbl.drew⟩
  . have hT : Qa1 start nb l 0 = true := by rw [← hch.out, Qjv (by omega)]
    have HT : Hid (Qa1 start nb l 0 = true) := hT
    clear hT hch
    cases h1 : inB start 0 next
    . have hR : Hid (rowN start next nb l = false) := by show rowN start next nb l = false; unfold rowN; rw [h1]; simp
      go_wp2_with (go_at_call 11; refine (in_any _ _ _ _).mono ?_; rintro e w' ⟨rfl, rfl⟩)
      go_ret
      exact ⟨by rw [hR.out]; rfl, hbl⟩
    . by_cases h2 : next <= 100000
      . by_cases h3 : (l.length : Int) <= 80
        . have hR : Hid (rowN start next nb l = true) := by
           show rowN start next nb l = true
           have h3' : l.length <= 80 := by omega
           unfold rowN; rw [HT.out, h1]; simp [h2, h3']
          go_wp2_with (go_at_call 11; refine (in_any _ _ _ _).mono ?_; rintro e w' ⟨rfl, rfl⟩)
          go_ret
          exact ⟨by rw [hR.out]; rfl, hbl⟩
        . have hR : Hid (rowN start next nb l = false) := by
           show rowN start next nb l = false
           have h3' : ¬ l.length <= 80 := by omega
           unfold rowN; simp [h3']
          have h3d : decide ((l.length : Int) <= 80) = false := decide_eq_false h3
          go_wp2_with (go_at_call 11; refine (in_any _ _ _ _).mono ?_; rintro e w' ⟨rfl, rfl⟩)
          go_ret
          exact ⟨by first | (rw [hR.out]; rfl) | (rw [hR.out, ← h3d]; rfl), hbl⟩
      . have hR : Hid (rowN start next nb l = false) := by show rowN start next nb l = false; unfold rowN; simp [h2]
        go_wp2_with (go_at_call 11; refine (in_any _ _ _ _).mono ?_; rintro e w' ⟨rfl, rfl⟩)
        go_ret
        exact ⟨by rw [hR.out]; rfl, hbl⟩
theorem specRowOk_any (start next : Int) (A : Option Addr) (cap : Nat) (l : List It) (hl : l.length <= 9223372036854775807) (hs : ∀ x ∈ l, x.key.size <= 9223372036854775807 /\ x.text.size <= 9223372036854775807)
 (h0 : -9223372036854775808 <= next) (h1 : next <= 9223372036854775807) (w : World) (hA : l = [] ∨ ∃ b o, A = some ⟨b, o, none⟩ /\ b < w.heap.size /\ In w b o l) :
 Calls Tryz.prog 110 #[.agg (Qay start next A l.length cap)] w fun e w' => e = .returned (.bool (rowB start next l)) /\ Below w.heap.size w w' := by
 rw [← rowN_eq start next l h0 h1]
 exact Qj7 start next A cap l hl hs _ rfl w hA
end Go.Proofs.YtenhcjkkpnlbeaaGreatDoor.Items
namespace Go.Proofs.YtenhcjkkpnlbeaaGreatDoor.Gen
open ChangeShapes WideShapes ChangeAt RowKit Joins Deep Base
def Qgz (l : List Mk) (j : Nat) : Int := (l.getD j ⟨0, 0⟩).off
def Qmc (last : Int) (l : List Mk) (j : Nat) : Int := IntKind.i64.wrap (last - IntKind.i64.wrap (IntKind.i64.wrap ((l.length : Int) - 1) - (j : Int)))
def Qgw (last : Int) (l : List Mk) (j : Nat) : Bool := inB (Qgz l j) 0 100000 && decide ((l.getD j ⟨0, 0⟩).seq = Qmc last l j) && (decide (j = 0) || decide (Qgz l (j - 1) < Qgz l j))
def Qb9 (last : Int) (l : List Mk) (n : Nat) : Bool := (List.range n).all (Qgw last l)
theorem Qeh (last : Int) (l : List Mk) (n : Nat) : Qb9 last l (n + 1) = (Qb9 last l n && Qgw last l n) := by simp [Qb9, List.range_succ]
theorem Qdn {last : Int} {l : List Mk} {n : Nat} (h : n < l.length) (hr : Qgw last l n = false) : Qb9 last l l.length = false := by
 unfold Qb9
 rw [List.all_eq_false]
 exact ⟨n, by simpa using h, by simp [hr]⟩
theorem Qi5 {l : List Mk} {n : Nat} (h : n < l.length) : Qgz l n = l[n].off := by simp [Qgz, h]
theorem Qcu {last : Int} {l : List Mk} {n : Nat} (h : n < l.length) : Qgw last l n = (inB l[n].off 0 100000 && decide (l[n].seq = Qmc last l n) && (decide (n = 0) || decide (Qgz l (n - 1) < l[n].off))) := by
 simp [Qgw, Qi5 h, h]
theorem prev_is {l : List Mk} {n p : Nat} (h : p < l.length) (e : n = p + 1) : Qgz l (n - 1) = l[p].off := by subst e; simpa using Qi5 h
theorem seqAt_is {last : Int} (h0 : -1 <= last) (h1 : last <= 100000) {l : List Mk} (hl : l.length <= 1048576) {n : Nat} (hn : n < l.length) : Qmc last l n = last - l.length + 1 + n := by
 unfold Qmc
 have a : IntKind.i64.wrap ((l.length : Int) - 1) = (l.length : Int) - 1 := by rw [IntKind.wrap_i64]; omega
 have b : IntKind.i64.wrap ((l.length : Int) - 1 - (n : Int)) = (l.length : Int) - 1 - n := by rw [IntKind.wrap_i64]; omega
 rw [a, b, IntKind.wrap_i64]; omega
def okB (row who epoch last window : Int) (l : List Mk) : Bool :=
  inB row 0 3 && inB who 0 3 && inB epoch 0 100000 && inB last (-1) 100000 && decide ((l.length : Int) <= window) && decide ((l.length : Int) <= last + 1) && (decide ((l.length : Int) = 0) == decide (last = -1)) && Qb9 last l l.length
theorem okB_no {row who epoch last window : Int} {l : List Mk} (h : Qb9 last l l.length = false) : okB row who epoch last window l = false := by simp [okB, h]
theorem okB_yes {row who epoch last window : Int} {l : List Mk} (hl : l.length <= 1048576) (h : Qb9 last l l.length = true) (h1 : ¬ (l.length : Int) > window) (h2 : ¬ (l.length : Int) > wrap64 (last + 1)) (h3 : ¬ (last >= 0 /\ (l.length : Int) = 0)) :
 okB row who epoch last window l = (inB row 0 3 && (inB who 0 3 && (inB epoch 0 100000 && inB last (-1) 100000))) := by
 cases hL : inB last (-1) 100000
 . simp [okB, hL]
 . have hL' : -1 <= last /\ last <= 100000 := by simpa [inB] using hL
   have e : wrap64 (last + 1) = last + 1 := by simp only [wrap64]; omega
   rw [e] at h2
   have a1 : decide ((l.length : Int) <= window) = true := decide_eq_true (by omega)
   have a2 : decide ((l.length : Int) <= last + 1) = true := decide_eq_true (by omega)
   have a3 : (decide ((l.length : Int) = 0) == decide (last = -1)) = true := by
    by_cases hz : last = -1
    . rw [decide_eq_true hz, decide_eq_true (by omega)]; rfl
    . rw [decide_eq_false hz, decide_eq_false (by omega)]; rfl
   unfold okB
   rw [hL, a1, a2, a3, h]
   simp [Bool.and_assoc]
theorem okB_two {row who epoch last window : Int} {l : List Mk} (hl : l.length <= 1048576) (h2 : (l.length : Int) > wrap64 (last + 1)) : okB row who epoch last window l = false := by
 cases hL : inB last (-1) 100000
 . simp [okB, hL]
 . have hL' : -1 <= last /\ last <= 100000 := by simpa [inB] using hL
   have e : wrap64 (last + 1) = last + 1 := by simp only [wrap64]; omega
   rw [e] at h2
   have a2 : decide ((l.length : Int) <= last + 1) = false := decide_eq_false (by omega)
   unfold okB
   rw [a2]; simp
theorem okB_three {row who epoch last window : Int} {l : List Mk} (h3 : last >= 0) (h4 : (l.length : Int) = 0) : okB row who epoch last window l = false := by
 have a : (decide ((l.length : Int) = 0) == decide (last = -1)) = false := by rw [decide_eq_true h4, decide_eq_false (by omega)]; rfl
 unfold okB
 rw [a]; simp
theorem beqs (a b c d : Int) : ((a == b) = (c == d)) ↔ (decide (a = b) == decide (c = d)) = true := by
 have e1 : (a == b) = decide (a = b) := rfl
 have e2 : (c == d) = decide (c = d) := rfl
 rw [e1, e2]; simp
theorem Qmj (row who epoch last : Int) (h0 : -1 <= last) (h1 : last <= 100000) (A : Option Addr) (cap : Nat) (l : List Mk) (hl : l.length <= 1048576) (w : World) (hA : At w A l) :
 Calls Tryz.prog 171 #[.agg (Qbb row who epoch last A l.length cap)] w fun e w' => e = .returned (.bool (Qb9 last l l.length)) /\ Below w.heap.size w w' := by
 have HA : Hid (At w A l) := hA
 clear hA
 go_enter Tryz.func171, Tryz.ntmps171
 go_wp2
 go_loopw [3, 4, 16] (fun s lo i w' => ∃ (n : Nat) (x y : Int), i = .int .i64 (n : Int) /\ s = .int .i64 x /\ lo = .int .i64 y /\ n <= l.length /\ x <= last /\ -2000000 <= x /\ 0 <= y /\ y <= 100001 /\ Hid (x = last - l.length + n) /\ Hid (y = if n = 0 then 0 else Qgz l (n - 1) + 1) /\ Hid (Qb9 last l n = true) /\ Below w.heap.size w w') (fun _ _ i _ => l.length - (intOf i).toNat)
 case atStart => exact ⟨0, _, 0, rfl, rfl, rfl, by omega, by omega, by omega, by omega, by omega, by show _ = _; omega, rfl, rfl, Qab (Below.refl _ _) _⟩
 case round =>
  obtain ⟨n, x, y, rfl, rfl, rfl, hn, hx0, hx1, hy0, hy1, hx, hy, hR, hbl⟩ := hrel
  by_cases hlt : n < l.length
  . obtain ⟨b, o, rfl, hbs, hin⟩ : ∃ b o, A = some ⟨b, o, none⟩ /\ b < w.heap.size /\ In w b o l := by
     rcases HA.out with h | h
     . subst h; simp at hlt
     . exact h
    obtain ⟨c0, c1⟩ := (hin.below hbs hbl).getMk n hlt
    have hi0 : (0 : Int) <= (n : Int) := by omega
    have hi1 : (n : Int) < (l.length : Int) := by omega
    have HS : Hid (Qmc last l n = x + 1) := by show _ = _; rw [seqAt_is h0 h1 hl hlt, hx.out]; omega
    by_cases hs : l[n].seq = x + 1
    . have hxl : x + 1 <= last := by have := hx.out; omega
      cases hw : inB l[n].off y 100000
      . have hF : Hid (Qb9 last l l.length = false) := Qdn hlt (by
         rw [Qcu hlt]
         have hw' : ¬ (y <= l[n].off /\ l[n].off <= 100000) := by simpa [inB] using hw
         have hy' := hy.out
         by_cases hz : n = 0
         . rw [if_pos hz] at hy'
           subst hy'
           simp [hw]
         . rw [if_neg hz] at hy'
           by_cases hq : l[n].off <= 100000
           . have : decide (Qgz l (n - 1) < l[n].off) = false := decide_eq_false (by omega)
             rw [this]; simp [hz]
           . have : inB l[n].off 0 100000 = false := by simp [inB]; omega
             rw [this]; simp)
        go_wp2_with (go_at_call 76; refine (within_any _ _ _ _).mono ?_; rw [hw]; rintro e w1 ⟨rfl, rfl⟩)
        go_ret
        exact ⟨by rw [hF.out]; rfl, by repeat (first | exact Below.refl _ _ | assumption | refine via0 (by assumption) ?_ | refine Below.drew ?_ | refine Qab ?_ _)⟩
      . have hw' : y <= l[n].off /\ l[n].off <= 100000 := by simpa [inB] using hw
        have hF : Hid (Qb9 last l (n + 1) = true) := by
         show _ = _
         rw [Qeh, hR.out, Qcu hlt, HS.out, hs]
         have hy' := hy.out
         have a : inB l[n].off 0 100000 = true := by simp [inB]; omega
         rw [a]
         by_cases hz : n = 0
         . simp [hz]
         . rw [if_neg hz] at hy'
           have : decide (Qgz l (n - 1) < l[n].off) = true := decide_eq_true (by omega)
           rw [this]; simp
        have hO : Hid (l[n].off + 1 = if n + 1 = 0 then 0 else Qgz l (n + 1 - 1) + 1) := by show _ = _; simp [Qi5 hlt]
        obtain ⟨hw1, hw2⟩ := hw'
        go_wp2_with (go_at_call 76; refine (within_any _ _ _ _).mono ?_; rw [hw]; rintro e w1 ⟨rfl, rfl⟩)
        exact ⟨⟨n + 1, x + 1, l[n].off + 1, by go_num, rfl, rfl, by omega, hxl, by omega, by omega, by omega, by have := hx.out; show _ = _; omega, hO, hF, by repeat (first | exact Below.refl _ _ | assumption | refine via0 (by assumption) ?_ | refine Below.drew ?_ | refine Qab ?_ _)⟩, by simp [intOf]; omega⟩
    . have hF : Hid (Qb9 last l l.length = false) := Qdn hlt (by rw [Qcu hlt, HS.out]; simp [hs])
      go_wp2_with fail
      go_ret
      exact ⟨by rw [hF.out]; rfl, by repeat (first | exact Below.refl _ _ | assumption | refine via0 (by assumption) ?_ | refine Below.drew ?_ | refine Qab ?_ _)⟩
  . obtain rfl : n = l.length := by omega
    go_wp2
    go_ret
    exact ⟨by rw [hR.out]; rfl, hbl⟩
theorem implOk_is (row who epoch last window : Int) (A : Option Addr) (cap : Nat) (l : List Mk) (hl : l.length <= 1048576) (w : World) (hA : At w A l) :
 Calls Tryz.prog 131 #[.agg (Qbb row who epoch last A l.length cap), .int .i64 window] w fun e w' => e = .returned (.bool (okB row who epoch last window l)) /\ Below w.heap.size w w' := by
 have HA : Hid (At w A l) := hA
 clear hA
 by_cases hL : -1 <= last /\ last <= 100000
 . have HL := hidP hL
   have hr := fun W hW => Qmj row who epoch last HL.out.1 HL.out.2 A cap l hl W hW
   have Hr := hidP hr
   have hb : last + 1 <= 100001 := by omega
   have hb' : 0 <= last + 1 := by omega
   clear hr hL
   have Hok : Hid (∀ a1 a2 a3 a4 a5 a6 a7 a8 : Bool, a1 = inB row 0 3 -> a2 = inB who 0 3 -> a3 = inB epoch 0 100000 -> a4 = inB last (-1) 100000 -> a5 = decide ((l.length : Int) <= window) -> a6 = decide ((l.length : Int) <= last + 1) -> a7 = (decide ((l.length : Int) = 0) == decide (last = -1)) -> a8 = Qb9 last l l.length -> okB row who epoch last window l = (a1 && a2 && a3 && a4 && a5 && a6 && a7 && a8)) := by
    intro a1 a2 a3 a4 a5 a6 a7 a8 e1 e2 e3 e4 e5 e6 e7 e8
    subst e1 e2 e3 e4 e5 e6 e7 e8
    rfl
   generalize okB row who epoch last window l = ans at *
   generalize Qb9 last l l.length = rt at *
   go_enter Tryz.func131, Tryz.ntmps131
   go_wp2_with (first
    | (go_at_call 76; refine (within_any _ _ _ _).mono ?_; rintro e w' ⟨rfl, rfl⟩)
    | (go_at_call 171; refine (Hr.out _ (HA.out.below (Qab (Below.refl _ _) _))).mono ?_; rintro e w1 ⟨rfl, g1⟩))
   all_goals
    go_ret
    refine ⟨?_, by repeat (first | exact Below.refl _ _ | assumption | refine via0 (by assumption) ?_ | refine Below.drew ?_ | refine Qab ?_ _)⟩
    rw [Hok.out _ _ _ _ _ _ _ _ rfl rfl rfl rfl rfl rfl rfl rfl]
    clear Hok Hr HA
    refine congrArg (fun b : Bool => Ending.returned (Value.bool b)) (?_ : _ = _)
    try simp only [beqs] at *
    (try simp_all)<;>(intros; omega)
 . have h4 : inB last (-1) 100000 = false := by simp only [inB, decide_eq_false_iff_not]; exact hL
   have hF : Hid (okB row who epoch last window l = false) := by show _ = _; simp [okB, h4]
   clear hL
   go_enter Tryz.func131, Tryz.ntmps131
   go_wp2_with (go_at_call 76; refine (within_any _ _ _ _).mono ?_; rintro e w' ⟨rfl, rfl⟩)
   all_goals
    go_ret
    exact ⟨by rw [hF.out]; first | rfl | simp_all, by repeat (first | exact Below.refl _ _ | assumption | refine via0 (by assumption) ?_ | refine Below.drew ?_ | refine Qab ?_ _)⟩
end Go.Proofs.YtenhcjkkpnlbeaaGreatDoor.Gen
