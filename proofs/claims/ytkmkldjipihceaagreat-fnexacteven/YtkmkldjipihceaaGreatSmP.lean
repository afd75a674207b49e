/-
  A node as one record of cells; two of the same content; one made anew. No condition.
-/
import Derived.Test.YtkmkldjipihceaaGreatPeTo
set_option linter.unusedVariables false
set_option linter.unusedSimpArgs false
set_option maxRecDepth 100000
set_option maxHeartbeats 8000000
set_option maxRecDepth 100000
set_option maxHeartbeats 8000000
namespace Go.Proofs.YtkmkldjipihceaaGreat.Gen
open ChangeShapes WideShapes ChangeAt RowKit Joins Deep Base
def Qhd (p : PC) (v : Value) : Array Value := #[.int .i64 p.id, .int .i64 p.te, .int .i64 p.vo, .int .i64 p.base, .int .i64 p.bt, .slice p.A p.l.length p.cap, .slice p.x.rA p.x.rs.length p.x.rc, .slice p.x.mA p.x.ms.length p.x.mc, .slice p.x.gA p.x.gs.length p.x.gc, .int .i64 p.x.time, .slice p.x.dA p.x.ds.length p.x.dc, .slice p.x.lA p.x.ls.length p.x.lc, .int .i64 p.role, .slice p.vA p.vs.length p.vc, .slice p.nA p.ns.length p.nc, .slice p.pA p.ps.length p.pc, .int .i64 p.com, .slice p.y.rA p.y.rs.length p.y.rc, .slice p.y.mA p.y.ms.length p.y.mc, .slice p.y.gA p.y.gs.length p.y.gc, .int .i64 p.y.time, .slice p.y.dA p.y.ds.length p.y.dc, .slice p.y.lA p.y.ls.length p.y.lc, .slice p.dA p.db.length p.dc, .int .i64 p.su, v]
def heldV (p : PC) : Value := .slice p.hA p.hs.length p.hc
def Qaw (p : PC) : Array Value := Qhd p (heldV p)
theorem Qb3 (p : PC) : (Qaw p).all (·.oneCell') = true := by simp [Qaw, Qhd, heldV, Value.oneCell']
structure SameP (q p : PC) : Prop where
  id : q.id = p.id
  te : q.te = p.te
  vo : q.vo = p.vo
  base : q.base = p.base
  bt : q.bt = p.bt
  l : q.l = p.l
  x : q.x.p = p.x.p
  role : q.role = p.role
  vs : q.vs = p.vs
  ns : q.ns = p.ns
  ps : q.ps = p.ps
  com : q.com = p.com
  y : q.y.p = p.y.p
  db : q.db = p.db
  su : q.su = p.su
  hs : q.hs.map RpC.p = p.hs.map RpC.p
theorem SameP.refl (p : PC) : SameP p p := ⟨rfl, rfl, rfl, rfl, rfl, rfl, rfl, rfl, rfl, rfl, rfl, rfl, rfl, rfl, rfl, rfl⟩
theorem SameP.trans {a b c : PC} (h : SameP a b) (k : SameP b c) : SameP a c := ⟨h.id.trans k.id, h.te.trans k.te, h.vo.trans k.vo, h.base.trans k.base, h.bt.trans k.bt, h.l.trans k.l, h.x.trans k.x, h.role.trans k.role, h.vs.trans k.vs, h.ns.trans k.ns, h.ps.trans k.ps, h.com.trans k.com, h.y.trans k.y, h.db.trans k.db, h.su.trans k.su, h.hs.trans k.hs⟩
theorem SameP.symm {a b : PC} (h : SameP a b) : SameP b a := ⟨h.id.symm, h.te.symm, h.vo.symm, h.base.symm, h.bt.symm, h.l.symm, h.x.symm, h.role.symm, h.vs.symm, h.ns.symm, h.ps.symm, h.com.symm, h.y.symm, h.db.symm, h.su.symm, h.hs.symm⟩
theorem Blk.row26 {W : World} {B : Nat} {t : TypeId} {v0 v1 v2 v3 v4 v5 v6 v7 v8 v9 v10 v11 v12 v13 v14 v15 v16 v17 v18 v19 v20 v21 v22 v23 v24 v25 : Value} (p : Blk W B t #[v0, v1, v2, v3, v4, v5, v6, v7, v8, v9, v10, v11, v12, v13, v14, v15, v16, v17, v18, v19, v20, v21, v22, v23, v24, v25]) :
 W.cell? ⟨B, 0, none⟩ = some v0 /\ W.cell? ⟨B, 1, none⟩ = some v1 /\ W.cell? ⟨B, 1 + 1, none⟩ = some v2 /\ W.cell? ⟨B, 1 + 2, none⟩ = some v3 /\ W.cell? ⟨B, 1 + 3, none⟩ = some v4 /\ W.cell? ⟨B, 1 + 4, none⟩ = some v5 /\ W.cell? ⟨B, 1 + 5, none⟩ = some v6 /\ W.cell? ⟨B, 1 + 6, none⟩ = some v7 /\ W.cell? ⟨B, 1 + 7, none⟩ = some v8 /\ W.cell? ⟨B, 1 + 8, none⟩ = some v9 /\ W.cell? ⟨B, 1 + 9, none⟩ = some v10 /\ W.cell? ⟨B, 1 + 10, none⟩ = some v11 /\ W.cell? ⟨B, 12, none⟩ = some v12 /\ W.cell? ⟨B, 13, none⟩ = some v13 /\ W.cell? ⟨B, 14, none⟩ = some v14 /\ W.cell? ⟨B, 15, none⟩ = some v15 /\ W.cell? ⟨B, 16, none⟩ = some v16 /\ W.cell? ⟨B, 17, none⟩ = some v17 /\ W.cell? ⟨B, 17 + 1, none⟩ = some v18 /\ W.cell? ⟨B, 17 + 2, none⟩ = some v19 /\ W.cell? ⟨B, 17 + 3, none⟩ = some v20 /\ W.cell? ⟨B, 17 + 4, none⟩ = some v21 /\ W.cell? ⟨B, 17 + 5, none⟩ = some v22 /\ W.cell? ⟨B, 23, none⟩ = some v23 /\ W.cell? ⟨B, 23 + 1, none⟩ = some v24 /\ W.cell? ⟨B, 25, none⟩ = some v25 :=
 ⟨p.cell (by rfl), p.cell (by rfl), p.cell (by rfl), p.cell (by rfl), p.cell (by rfl), p.cell (by rfl), p.cell (by rfl), p.cell (by rfl), p.cell (by rfl), p.cell (by rfl), p.cell (by rfl), p.cell (by rfl), p.cell (by rfl), p.cell (by rfl), p.cell (by rfl), p.cell (by rfl), p.cell (by rfl), p.cell (by rfl), p.cell (by rfl), p.cell (by rfl), p.cell (by rfl), p.cell (by rfl), p.cell (by rfl), p.cell (by rfl), p.cell (by rfl), p.cell (by rfl)⟩
theorem Qh9 (id te vo base bt role com su : Int) (A A' vA vA' nA nA' pA pA' dA dA' hA0 hA0' : Option Addr) (cap cap' vc vc' nc nc' pc pc' dc dc' hc hc' : Nat) (l : List En) (vs : List Bool) (ns ps : List Int) (db : List UInt8) (hs hs' : List RpC) (x x' y y' : KC)
 (hl : l.length <= 9223372036854775807) (hvl : vs.length <= 9223372036854775807) (hnl : ns.length <= 9223372036854775807) (hpl : ps.length <= 9223372036854775807) (hdl : db.length <= 9223372036854775807) (hhl : hs.length <= 9223372036854775807) (hhr : ∀ z ∈ hs, z.l.length <= 9223372036854775807)
 (hfx : KFit x) (hpx : x'.p = x.p) (hfy : KFit y) (hpy : y'.p = y.p) (hhp : hs'.map RpC.p = hs.map RpC.p) (w : World)
 (hA : At w A l) (hA' : At w A' l) (hx : KAt w x) (hx' : KAt w x') (hV : At w vA vs) (hV' : At w vA' vs) (hN : At w nA ns) (hN' : At w nA' ns) (hP : At w pA ps) (hP' : At w pA' ps) (hy : KAt w y) (hy' : KAt w y') (hD : At w dA db) (hD' : At w dA' db) (hH : At w hA0 hs) (hE : EachP w hs) (hH' : At w hA0' hs') (hE' : EachP w hs') :
 Calls Tryz.prog 62 #[.agg (Qaa id te vo base bt A l.length cap x.rA x.rs.length x.rc x.mA x.ms.length x.mc x.gA x.gs.length x.gc x.time x.dA x.ds.length x.dc x.lA x.ls.length x.lc role vA vs.length vc nA ns.length nc pA ps.length pc com y.rA y.rs.length y.rc y.mA y.ms.length y.mc y.gA y.gs.length y.gc y.time y.dA y.ds.length y.dc y.lA y.ls.length y.lc dA db.length dc su hA0 hs.length hc), .agg (Qaa id te vo base bt A' l.length cap' x'.rA x'.rs.length x'.rc x'.mA x'.ms.length x'.mc x'.gA x'.gs.length x'.gc x'.time x'.dA x'.ds.length x'.dc x'.lA x'.ls.length x'.lc role vA' vs.length vc' nA' ns.length nc' pA' ps.length pc' com y'.rA y'.rs.length y'.rc y'.mA y'.ms.length y'.mc y'.gA y'.gs.length y'.gc y'.time y'.dA y'.ds.length y'.dc y'.lA y'.ls.length y'.lc dA' db.length dc' su hA0' hs.length hc')] w fun e w' => e = .returned (.bool true) /\ Below w.heap.size w w' := by
 have E1 : Hid (∀ W : World, Below w.heap.size w W -> Calls Tryz.prog 100 #[.agg (Qad te vo base bt A l.length cap x.rA x.rs.length x.rc x.mA x.ms.length x.mc x.gA x.gs.length x.gc x.time x.dA x.ds.length x.dc x.lA x.ls.length x.lc), .agg (Qad te vo base bt A' l.length cap' x'.rA x'.rs.length x'.rc x'.mA x'.ms.length x'.mc x'.gA x'.gs.length x'.gc x'.time x'.dA x'.ds.length x'.dc x'.lA x'.ls.length x'.lc)] W fun e w' => e = .returned (.bool true) /\ Below W.heap.size W w') := fun W g => Qic te vo base bt A A' cap cap' l hl x x' hfx hpx W (hA.below g) (hA'.below g) (hx.below g) (hx'.below g)
 have E2 : Hid (∀ W : World, Below w.heap.size w W -> Calls Tryz.prog 101 #[.slice vA vs.length vc, .slice vA' vs.length vc'] W fun e w' => e = .returned (.bool true) /\ Below W.heap.size W w') := fun W g => Qie vA vA' vc vc' vs hvl W (hV.below g) (hV'.below g)
 have E3 : Hid (∀ W : World, Below w.heap.size w W -> Calls Tryz.prog 30 #[.slice nA ns.length nc, .slice nA' ns.length nc'] W fun e w' => e = .returned (.bool true) /\ Below W.heap.size W w') := fun W g => Qbv nA nA' nc nc' ns hnl W (hN.below g) (hN'.below g)
 have E4 : Hid (∀ W : World, Below w.heap.size w W -> Calls Tryz.prog 30 #[.slice pA ps.length pc, .slice pA' ps.length pc'] W fun e w' => e = .returned (.bool true) /\ Below W.heap.size W w') := fun W g => Qbv pA pA' pc pc' ps hpl W (hP.below g) (hP'.below g)
 have E5 : Hid (∀ W : World, Below w.heap.size w W -> Calls Tryz.prog 102 #[.agg (Qae y.rA y.rs.length y.rc y.mA y.ms.length y.mc y.gA y.gs.length y.gc y.time y.dA y.ds.length y.dc y.lA y.ls.length y.lc), .agg (Qae y'.rA y'.rs.length y'.rc y'.mA y'.ms.length y'.mc y'.gA y'.gs.length y'.gc y'.time y'.dA y'.ds.length y'.dc y'.lA y'.ls.length y'.lc)] W fun e w' => e = .returned (.bool true) /\ Below W.heap.size W w') := fun W g => Qg7 y y' hfy hpy W (hy.below g) (hy'.below g)
 have E6 : Hid (∀ W : World, Below w.heap.size w W -> Calls Tryz.prog 103 #[.agg #[.slice dA db.length dc, .int .i64 su], .agg #[.slice dA' db.length dc', .int .i64 su]] W fun e w' => e = .returned (.bool true) /\ Below W.heap.size W w') := fun W g => Qid su dA dA' dc dc' db hdl W (hD.below g) (hD'.below g)
 have E7 : Hid (∀ W : World, Below w.heap.size w W -> Calls Tryz.prog 28 #[.slice hA0 hs.length hc, .slice hA0' hs.length hc'] W fun e w' => e = .returned (.bool true) /\ Below W.heap.size W w') := fun W g => Qel hA0 hA0' hc hc' hs hs' hhl hhr hhp W (hH.below g) (hE.below g) (hH'.below g) (hE'.below g)
 clear hA hA' hx hx' hV hV' hN hN' hP hP' hy hy' hD hD' hH hE hH' hE' hl hvl hnl hpl hdl hhl hhr hfx hpx hfy hpy hhp
 have P0 : Blk ((w.alloc (.cells (Qaa id te vo base bt A l.length cap x.rA x.rs.length x.rc x.mA x.ms.length x.mc x.gA x.gs.length x.gc x.time x.dA x.ds.length x.dc x.lA x.ls.length x.lc role vA vs.length vc nA ns.length nc pA ps.length pc com y.rA y.rs.length y.rc y.mA y.ms.length y.mc y.gA y.gs.length y.gc y.time y.dA y.ds.length y.dc y.lA y.ls.length y.lc dA db.length dc su hA0 hs.length hc) 67)).alloc (.cells (Qaa id te vo base bt A' l.length cap' x'.rA x'.rs.length x'.rc x'.mA x'.ms.length x'.mc x'.gA x'.gs.length x'.gc x'.time x'.dA x'.ds.length x'.dc x'.lA x'.ls.length x'.lc role vA' vs.length vc' nA' ns.length nc' pA' ps.length pc' com y'.rA y'.rs.length y'.rc y'.mA y'.ms.length y'.mc y'.gA y'.gs.length y'.gc y'.time y'.dA y'.ds.length y'.dc y'.lA y'.ls.length y'.lc dA' db.length dc' su hA0' hs.length hc') 67)) w.heap.size 67 (Qaa id te vo base bt A l.length cap x.rA x.rs.length x.rc x.mA x.ms.length x.mc x.gA x.gs.length x.gc x.time x.dA x.ds.length x.dc x.lA x.ls.length x.lc role vA vs.length vc nA ns.length nc pA ps.length pc com y.rA y.rs.length y.rc y.mA y.ms.length y.mc y.gA y.gs.length y.gc y.time y.dA y.ds.length y.dc y.lA y.ls.length y.lc dA db.length dc su hA0 hs.length hc) := (Blk.new w _ _).alloc _
 have Q0 : Blk ((w.alloc (.cells (Qaa id te vo base bt A l.length cap x.rA x.rs.length x.rc x.mA x.ms.length x.mc x.gA x.gs.length x.gc x.time x.dA x.ds.length x.dc x.lA x.ls.length x.lc role vA vs.length vc nA ns.length nc pA ps.length pc com y.rA y.rs.length y.rc y.mA y.ms.length y.mc y.gA y.gs.length y.gc y.time y.dA y.ds.length y.dc y.lA y.ls.length y.lc dA db.length dc su hA0 hs.length hc) 67)).alloc (.cells (Qaa id te vo base bt A' l.length cap' x'.rA x'.rs.length x'.rc x'.mA x'.ms.length x'.mc x'.gA x'.gs.length x'.gc x'.time x'.dA x'.ds.length x'.dc x'.lA x'.ls.length x'.lc role vA' vs.length vc' nA' ns.length nc' pA' ps.length pc' com y'.rA y'.rs.length y'.rc y'.mA y'.ms.length y'.mc y'.gA y'.gs.length y'.gc y'.time y'.dA y'.ds.length y'.dc y'.lA y'.ls.length y'.lc dA' db.length dc' su hA0' hs.length hc') 67)) (w.heap.size + 1) 67 (Qaa id te vo base bt A' l.length cap' x'.rA x'.rs.length x'.rc x'.mA x'.ms.length x'.mc x'.gA x'.gs.length x'.gc x'.time x'.dA x'.ds.length x'.dc x'.lA x'.ls.length x'.lc role vA' vs.length vc' nA' ns.length nc' pA' ps.length pc' com y'.rA y'.rs.length y'.rc y'.mA y'.ms.length y'.mc y'.gA y'.gs.length y'.gc y'.time y'.dA y'.ds.length y'.dc y'.lA y'.ls.length y'.lc dA' db.length dc' su hA0' hs.length hc') := by have := Blk.new (w.alloc (.cells (Qaa id te vo base bt A l.length cap x.rA x.rs.length x.rc x.mA x.ms.length x.mc x.gA x.gs.length x.gc x.time x.dA x.ds.length x.dc x.lA x.ls.length x.lc role vA vs.length vc nA ns.length nc pA ps.length pc com y.rA y.rs.length y.rc y.mA y.ms.length y.mc y.gA y.gs.length y.gc y.time y.dA y.ds.length y.dc y.lA y.ls.length y.lc dA db.length dc su hA0 hs.length hc) 67)) 67 (Qaa id te vo base bt A' l.length cap' x'.rA x'.rs.length x'.rc x'.mA x'.ms.length x'.mc x'.gA x'.gs.length x'.gc x'.time x'.dA x'.ds.length x'.dc x'.lA x'.ls.length x'.lc role vA' vs.length vc' nA' ns.length nc' pA' ps.length pc' com y'.rA y'.rs.length y'.rc y'.mA y'.ms.length y'.mc y'.gA y'.gs.length y'.gc y'.time y'.dA y'.ds.length y'.dc y'.lA y'.ls.length y'.lc dA' db.length dc' su hA0' hs.length hc'); rwa [World.size_alloc] at this
 have B0 : Below w.heap.size w ((w.alloc (.cells (Qaa id te vo base bt A l.length cap x.rA x.rs.length x.rc x.mA x.ms.length x.mc x.gA x.gs.length x.gc x.time x.dA x.ds.length x.dc x.lA x.ls.length x.lc role vA vs.length vc nA ns.length nc pA ps.length pc com y.rA y.rs.length y.rc y.mA y.ms.length y.mc y.gA y.gs.length y.gc y.time y.dA y.ds.length y.dc y.lA y.ls.length y.lc dA db.length dc su hA0 hs.length hc) 67)).alloc (.cells (Qaa id te vo base bt A' l.length cap' x'.rA x'.rs.length x'.rc x'.mA x'.ms.length x'.mc x'.gA x'.gs.length x'.gc x'.time x'.dA x'.ds.length x'.dc x'.lA x'.ls.length x'.lc role vA' vs.length vc' nA' ns.length nc' pA' ps.length pc' com y'.rA y'.rs.length y'.rc y'.mA y'.ms.length y'.mc y'.gA y'.gs.length y'.gc y'.time y'.dA y'.ds.length y'.dc y'.lA y'.ls.length y'.lc dA' db.length dc' su hA0' hs.length hc') 67)) := Qab (Qab (Below.refl _ w) _) _
 have H0 := hidP (And.intro B0 (And.intro P0 Q0))
 clear P0 Q0 B0
 go_enter Tryz.func62, Tryz.ntmps62
 go_wp2_with fail
 refine (E1.out _ H0.out.1).mono ?_
 rintro e w1 ⟨rfl, g1⟩
 have H1 := hidP (And.intro (via0 g1 H0.out.1) (And.intro (H0.out.2.1.below g1 H0.out.2.1.lt) (H0.out.2.2.below g1 H0.out.2.2.lt)))
 clear g1 H0 E1
 obtain ⟨-, -, -, -, -, -, -, -, -, -, -, -, c12, c13, -, -, -, -, -, -, -, -, -, -, -, -⟩ := H1.out.2.1.row26
 obtain ⟨-, -, -, -, -, -, -, -, -, -, -, -, d12, d13, -, -, -, -, -, -, -, -, -, -, -, -⟩ := H1.out.2.2.row26
 have q0 := H1.out.2.1.lt
 have q1 := H1.out.2.2.lt
 go_wp2_with fail
 refine (E2.out _ H1.out.1).mono ?_
 rintro e w2 ⟨rfl, g2⟩
 have H2 := hidP (And.intro (via0 g2 H1.out.1) (And.intro (H1.out.2.1.below g2 H1.out.2.1.lt) (H1.out.2.2.below g2 H1.out.2.2.lt)))
 clear q0 q1 c12 c13 d12 d13
 clear g2 H1 E2
 obtain ⟨-, -, -, -, -, -, -, -, -, -, -, -, -, -, c14, -, -, -, -, -, -, -, -, -, -, -⟩ := H2.out.2.1.row26
 obtain ⟨-, -, -, -, -, -, -, -, -, -, -, -, -, -, d14, -, -, -, -, -, -, -, -, -, -, -⟩ := H2.out.2.2.row26
 have q0 := H2.out.2.1.lt
 have q1 := H2.out.2.2.lt
 go_wp2_with fail
 refine (E3.out _ H2.out.1).mono ?_
 rintro e w3 ⟨rfl, g3⟩
 have H3 := hidP (And.intro (via0 g3 H2.out.1) (And.intro (H2.out.2.1.below g3 H2.out.2.1.lt) (H2.out.2.2.below g3 H2.out.2.2.lt)))
 clear q0 q1 c14 d14
 clear g3 H2 E3
 obtain ⟨-, -, -, -, -, -, -, -, -, -, -, -, -, -, -, c15, -, -, -, -, -, -, -, -, -, -⟩ := H3.out.2.1.row26
 obtain ⟨-, -, -, -, -, -, -, -, -, -, -, -, -, -, -, d15, -, -, -, -, -, -, -, -, -, -⟩ := H3.out.2.2.row26
 have q0 := H3.out.2.1.lt
 have q1 := H3.out.2.2.lt
 go_wp2_with fail
 refine (E4.out _ H3.out.1).mono ?_
 rintro e w4 ⟨rfl, g4⟩
 have H4 := hidP (And.intro (via0 g4 H3.out.1) (And.intro (H3.out.2.1.below g4 H3.out.2.1.lt) (H3.out.2.2.below g4 H3.out.2.2.lt)))
 clear q0 q1 c15 d15
 clear g4 H3 E4
 obtain ⟨-, -, -, -, -, -, -, -, -, -, -, -, -, -, -, -, c16, c17, c18, c19, c20, c21, c22, -, -, -⟩ := H4.out.2.1.row26
 obtain ⟨-, -, -, -, -, -, -, -, -, -, -, -, -, -, -, -, d16, d17, d18, d19, d20, d21, d22, -, -, -⟩ := H4.out.2.2.row26
 have q0 := H4.out.2.1.lt
 have q1 := H4.out.2.2.lt
 go_wp2_with fail
 refine (E5.out _ H4.out.1).mono ?_
 rintro e w5 ⟨rfl, g5⟩
 have H5 := hidP (And.intro (via0 g5 H4.out.1) (And.intro (H4.out.2.1.below g5 H4.out.2.1.lt) (H4.out.2.2.below g5 H4.out.2.2.lt)))
 clear q0 q1 c16 c17 c18 c19 c20 c21 c22 d16 d17 d18 d19 d20 d21 d22
 clear g5 H4 E5
 obtain ⟨-, -, -, -, -, -, -, -, -, -, -, -, -, -, -, -, -, -, -, -, -, -, -, c23, c24, -⟩ := H5.out.2.1.row26
 obtain ⟨-, -, -, -, -, -, -, -, -, -, -, -, -, -, -, -, -, -, -, -, -, -, -, d23, d24, -⟩ := H5.out.2.2.row26
 have q0 := H5.out.2.1.lt
 have q1 := H5.out.2.2.lt
 go_wp2_with fail
 refine (E6.out _ H5.out.1).mono ?_
 rintro e w6 ⟨rfl, g6⟩
 have H6 := hidP (And.intro (via0 g6 H5.out.1) (And.intro (H5.out.2.1.below g6 H5.out.2.1.lt) (H5.out.2.2.below g6 H5.out.2.2.lt)))
 clear q0 q1 c23 c24 d23 d24
 clear g6 H5 E6
 obtain ⟨-, -, -, -, -, -, -, -, -, -, -, -, -, -, -, -, -, -, -, -, -, -, -, -, -, c25⟩ := H6.out.2.1.row26
 obtain ⟨-, -, -, -, -, -, -, -, -, -, -, -, -, -, -, -, -, -, -, -, -, -, -, -, -, d25⟩ := H6.out.2.2.row26
 have q0 := H6.out.2.1.lt
 have q1 := H6.out.2.2.lt
 go_wp2_with fail
 refine (E7.out _ H6.out.1).mono ?_
 rintro e w7 ⟨rfl, g7⟩
 have H7 := hidP (And.intro (via0 g7 H6.out.1) (And.intro (H6.out.2.1.below g7 H6.out.2.1.lt) (H6.out.2.2.below g7 H6.out.2.2.lt)))
 clear q0 q1 c25 d25
 clear g7 H6 E7
 go_wp2
 go_ret
 exact ⟨rfl, H7.out.1⟩
end Go.Proofs.YtkmkldjipihceaaGreat.Gen
