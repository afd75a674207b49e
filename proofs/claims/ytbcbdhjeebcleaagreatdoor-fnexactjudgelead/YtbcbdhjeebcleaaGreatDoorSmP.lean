/-
  A node as one record of cells; two of the same content; one made anew. No condition.
-/
import Derived.Test.YtbcbdhjeebcleaaGreatDoorPeTo
import Derived.RangeFuncNested
import Derived.RangeFuncBound
import Derived.Shelf.RegionOpen
import Derived.OwnWalkIn
import Derived.LoopNIn
import Derived.LoopIn
set_option linter.unusedVariables false
set_option linter.unusedSimpArgs false
set_option maxRecDepth 100000
set_option maxHeartbeats 8000000
namespace Go.Proofs.YtbcbdhjeebcleaaGreatDoor.Gen
open ChangeShapes WideShapes ChangeAt RowKit Joins Deep Base
def Qhb (p : PC) (v : Value) : Array Value := #[.int .i64 p.id, .int .i64 p.te, .int .i64 p.vo, .int .i64 p.base, .int .i64 p.bt, .slice p.A p.l.length p.cap, .slice p.x.rA p.x.rs.length p.x.rc, .slice p.x.mA p.x.ms.length p.x.mc, .slice p.x.gA p.x.gs.length p.x.gc, .int .i64 p.x.time, .slice p.x.dA p.x.ds.length p.x.dc, .slice p.x.lA p.x.ls.length p.x.lc, .int .i64 p.role, .slice p.vA p.vs.length p.vc, .slice p.nA p.ns.length p.nc, .slice p.pA p.ps.length p.pc, .int .i64 p.com, .slice p.y.rA p.y.rs.length p.y.rc, .slice p.y.mA p.y.ms.length p.y.mc, .slice p.y.gA p.y.gs.length p.y.gc, .int .i64 p.y.time, .slice p.y.dA p.y.ds.length p.y.dc, .slice p.y.lA p.y.ls.length p.y.lc, .slice p.dA p.db.length p.dc, .int .i64 p.su, v]
def heldV (p : PC) : Value := .slice p.hA p.hs.length p.hc
def Qan (p : PC) : Array Value := Qhb p (heldV p)
theorem Qcg (p : PC) : (Qan p).all (·.oneCell') = true := by simp [Qan, Qhb, heldV, Value.oneCell']
structure SameP (q p : PC) : Prop where
  id : q.id = p.id
  te : q.te = p.te
  vo : q.vo = p.vo
  base : q.base = p.base
  bt : q.bt = p.bt
  l : q.l = p.l
  x : q.x.p = p.x.p
  role : q.role = p.role
  vs : q.vs = p.vs
  ns : q.ns = p.ns
  ps : q.ps = p.ps
  com : q.com = p.com
  y : q.y.p = p.y.p
  db : q.db = p.db
  su : q.su = p.su
  hs : q.hs.map RpC.p = p.hs.map RpC.p
theorem SameP.refl (p : PC) : SameP p p := ⟨rfl, rfl, rfl, rfl, rfl, rfl, rfl, rfl, rfl, rfl, rfl, rfl, rfl, rfl, rfl, rfl⟩
theorem SameP.trans {a b c : PC} (h : SameP a b) (k : SameP b c) : SameP a c := ⟨h.id.trans k.id, h.te.trans k.te, h.vo.trans k.vo, h.base.trans k.base, h.bt.trans k.bt, h.l.trans k.l, h.x.trans k.x, h.role.trans k.role, h.vs.trans k.vs, h.ns.trans k.ns, h.ps.trans k.ps, h.com.trans k.com, h.y.trans k.y, h.db.trans k.db, h.su.trans k.su, h.hs.trans k.hs⟩
theorem SameP.symm {a b : PC} (h : SameP a b) : SameP b a := ⟨h.id.symm, h.te.symm, h.vo.symm, h.base.symm, h.bt.symm, h.l.symm, h.x.symm, h.role.symm, h.vs.symm, h.ns.symm, h.ps.symm, h.com.symm, h.y.symm, h.db.symm, h.su.symm, h.hs.symm⟩
end Go.Proofs.YtbcbdhjeebcleaaGreatDoor.Gen
namespace Go.Proofs.YtbcbdhjeebcleaaGreatDoor.Gen
open ChangeShapes WideShapes ChangeAt RowKit Joins Deep Base
theorem Blk.row26 {W : World} {B : Nat} {t : TypeId} {v0 v1 v2 v3 v4 v5 v6 v7 v8 v9 v10 v11 v12 v13 v14 v15 v16 v17 v18 v19 v20 v21 v22 v23 v24 v25 : Value} (p : Blk W B t #[v0, v1, v2, v3, v4, v5, v6, v7, v8, v9, v10, v11, v12, v13, v14, v15, v16, v17, v18, v19, v20, v21, v22, v23, v24, v25]) :
 W.cell? ⟨B, 0, none⟩ = some v0 /\ W.cell? ⟨B, 1, none⟩ = some v1 /\ W.cell? ⟨B, 1 + 1, none⟩ = some v2 /\ W.cell? ⟨B, 1 + 2, none⟩ = some v3 /\ W.cell? ⟨B, 1 + 3, none⟩ = some v4 /\ W.cell? ⟨B, 1 + 4, none⟩ = some v5 /\ W.cell? ⟨B, 1 + 5, none⟩ = some v6 /\ W.cell? ⟨B, 1 + 6, none⟩ = some v7 /\ W.cell? ⟨B, 1 + 7, none⟩ = some v8 /\ W.cell? ⟨B, 1 + 8, none⟩ = some v9 /\ W.cell? ⟨B, 1 + 9, none⟩ = some v10 /\ W.cell? ⟨B, 1 + 10, none⟩ = some v11 /\ W.cell? ⟨B, 12, none⟩ = some v12 /\ W.cell? ⟨B, 13, none⟩ = some v13 /\ W.cell? ⟨B, 14, none⟩ = some v14 /\ W.cell? ⟨B, 15, none⟩ = some v15 /\ W.cell? ⟨B, 16, none⟩ = some v16 /\ W.cell? ⟨B, 17, none⟩ = some v17 /\ W.cell? ⟨B, 17 + 1, none⟩ = some v18 /\ W.cell? ⟨B, 17 + 2, none⟩ = some v19 /\ W.cell? ⟨B, 17 + 3, none⟩ = some v20 /\ W.cell? ⟨B, 17 + 4, none⟩ = some v21 /\ W.cell? ⟨B, 17 + 5, none⟩ = some v22 /\ W.cell? ⟨B, 23, none⟩ = some v23 /\ W.cell? ⟨B, 23 + 1, none⟩ = some v24 /\ W.cell? ⟨B, 25, none⟩ = some v25 :=
 ⟨p.cell (by rfl), p.cell (by rfl), p.cell (by rfl), p.cell (by rfl), p.cell (by rfl), p.cell (by rfl), p.cell (by rfl), p.cell (by rfl), p.cell (by rfl), p.cell (by rfl), p.cell (by rfl), p.cell (by rfl), p.cell (by rfl), p.cell (by rfl), p.cell (by rfl), p.cell (by rfl), p.cell (by rfl), p.cell (by rfl), p.cell (by rfl), p.cell (by rfl), p.cell (by rfl), p.cell (by rfl), p.cell (by rfl), p.cell (by rfl), p.cell (by rfl), p.cell (by rfl)⟩
theorem Qh8 (id te vo base bt role com su : Int) (A A' vA vA' nA nA' pA pA' dA dA' hA0 hA0' : Option Addr) (cap cap' vc vc' nc nc' pc pc' dc dc' hc hc' : Nat) (l : List En) (vs : List Bool) (ns ps : List Int) (db : List UInt8) (hs hs' : List RpC) (x x' y y' : KC)
 (hl : l.length <= 9223372036854775807) (hvl : vs.length <= 9223372036854775807) (hnl : ns.length <= 9223372036854775807) (hpl : ps.length <= 9223372036854775807) (hdl : db.length <= 9223372036854775807) (hhl : hs.length <= 9223372036854775807) (hhr : ∀ z ∈ hs, z.l.length <= 9223372036854775807)
 (hfx : KFit x) (hpx : x'.p = x.p) (hfy : KFit y) (hpy : y'.p = y.p) (hhp : hs'.map RpC.p = hs.map RpC.p) (w : World)
 (hA : At w A l) (hA' : At w A' l) (hx : KAt w x) (hx' : KAt w x') (hV : At w vA vs) (hV' : At w vA' vs) (hN : At w nA ns) (hN' : At w nA' ns) (hP : At w pA ps) (hP' : At w pA' ps) (hy : KAt w y) (hy' : KAt w y') (hD : At w dA db) (hD' : At w dA' db) (hH : At w hA0 hs) (hE : EachP w hs) (hH' : At w hA0' hs') (hE' : EachP w hs') :
 Calls Tryz.prog 48 #[.agg #[.int .i64 id, .int .i64 te, .int .i64 vo, .int .i64 base, .int .i64 bt, .slice A l.length cap, .slice x.rA x.rs.length x.rc, .slice x.mA x.ms.length x.mc, .slice x.gA x.gs.length x.gc, .int .i64 x.time, .slice x.dA x.ds.length x.dc, .slice x.lA x.ls.length x.lc, .int .i64 role, .slice vA vs.length vc, .slice nA ns.length nc, .slice pA ps.length pc, .int .i64 com, .slice y.rA y.rs.length y.rc, .slice y.mA y.ms.length y.mc, .slice y.gA y.gs.length y.gc, .int .i64 y.time, .slice y.dA y.ds.length y.dc, .slice y.lA y.ls.length y.lc, .slice dA db.length dc, .int .i64 su, .slice hA0 hs.length hc], .agg #[.int .i64 id, .int .i64 te, .int .i64 vo, .int .i64 base, .int .i64 bt, .slice A' l.length cap', .slice x'.rA x'.rs.length x'.rc, .slice x'.mA x'.ms.length x'.mc, .slice x'.gA x'.gs.length x'.gc, .int .i64 x'.time, .slice x'.dA x'.ds.length x'.dc, .slice x'.lA x'.ls.length x'.lc, .int .i64 role, .slice vA' vs.length vc', .slice nA' ns.length nc', .slice pA' ps.length pc', .int .i64 com, .slice y'.rA y'.rs.length y'.rc, .slice y'.mA y'.ms.length y'.mc, .slice y'.gA y'.gs.length y'.gc, .int .i64 y'.time, .slice y'.dA y'.ds.length y'.dc, .slice y'.lA y'.ls.length y'.lc, .slice dA' db.length dc', .int .i64 su, .slice hA0' hs.length hc']] w fun e w' => e = .returned (.bool true) /\ Below w.heap.size w w' := by
 have E1 : Hid (∀ W : World, Below w.heap.size w W -> Calls Tryz.prog 88 #[.agg #[.int .i64 te, .int .i64 vo, .int .i64 base, .int .i64 bt, .slice A l.length cap, .slice x.rA x.rs.length x.rc, .slice x.mA x.ms.length x.mc, .slice x.gA x.gs.length x.gc, .int .i64 x.time, .slice x.dA x.ds.length x.dc, .slice x.lA x.ls.length x.lc], .agg #[.int .i64 te, .int .i64 vo, .int .i64 base, .int .i64 bt, .slice A' l.length cap', .slice x'.rA x'.rs.length x'.rc, .slice x'.mA x'.ms.length x'.mc, .slice x'.gA x'.gs.length x'.gc, .int .i64 x'.time, .slice x'.dA x'.ds.length x'.dc, .slice x'.lA x'.ls.length x'.lc]] W fun e w' => e = .returned (.bool true) /\ Below W.heap.size W w') := fun W g => Qib te vo base bt A A' cap cap' l hl x x' hfx hpx W (hA.below g) (hA'.below g) (hx.below g) (hx'.below g)
 have E2 : Hid (∀ W : World, Below w.heap.size w W -> Calls Tryz.prog 89 #[.slice vA vs.length vc, .slice vA' vs.length vc'] W fun e w' => e = .returned (.bool true) /\ Below W.heap.size W w') := fun W g => Qid vA vA' vc vc' vs hvl W (hV.below g) (hV'.below g)
 have E3 : Hid (∀ W : World, Below w.heap.size w W -> Calls Tryz.prog 27 #[.slice nA ns.length nc, .slice nA' ns.length nc'] W fun e w' => e = .returned (.bool true) /\ Below W.heap.size W w') := fun W g => Qbf nA nA' nc nc' ns hnl W (hN.below g) (hN'.below g)
 have E4 : Hid (∀ W : World, Below w.heap.size w W -> Calls Tryz.prog 27 #[.slice pA ps.length pc, .slice pA' ps.length pc'] W fun e w' => e = .returned (.bool true) /\ Below W.heap.size W w') := fun W g => Qbf pA pA' pc pc' ps hpl W (hP.below g) (hP'.below g)
 have E5 : Hid (∀ W : World, Below w.heap.size w W -> Calls Tryz.prog 90 #[.agg #[.slice y.rA y.rs.length y.rc, .slice y.mA y.ms.length y.mc, .slice y.gA y.gs.length y.gc, .int .i64 y.time, .slice y.dA y.ds.length y.dc, .slice y.lA y.ls.length y.lc], .agg #[.slice y'.rA y'.rs.length y'.rc, .slice y'.mA y'.ms.length y'.mc, .slice y'.gA y'.gs.length y'.gc, .int .i64 y'.time, .slice y'.dA y'.ds.length y'.dc, .slice y'.lA y'.ls.length y'.lc]] W fun e w' => e = .returned (.bool true) /\ Below W.heap.size W w') := fun W g => Qg5 y y' hfy hpy W (hy.below g) (hy'.below g)
 have E6 : Hid (∀ W : World, Below w.heap.size w W -> Calls Tryz.prog 91 #[.agg #[.slice dA db.length dc, .int .i64 su], .agg #[.slice dA' db.length dc', .int .i64 su]] W fun e w' => e = .returned (.bool true) /\ Below W.heap.size W w') := fun W g => Qic su dA dA' dc dc' db hdl W (hD.below g) (hD'.below g)
 have E7 : Hid (∀ W : World, Below w.heap.size w W -> Calls Tryz.prog 25 #[.slice hA0 hs.length hc, .slice hA0' hs.length hc'] W fun e w' => e = .returned (.bool true) /\ Below W.heap.size W w') := fun W g => Qd5 hA0 hA0' hc hc' hs hs' hhl hhr hhp W (hH.below g) (hE.below g) (hH'.below g) (hE'.below g)
 clear hA hA' hx hx' hV hV' hN hN' hP hP' hy hy' hD hD' hH hE hH' hE' hl hvl hnl hpl hdl hhl hhr hfx hpx hfy hpy hhp
 have P0 : Blk ((w.alloc (.cells #[.int .i64 id, .int .i64 te, .int .i64 vo, .int .i64 base, .int .i64 bt, .slice A l.length cap, .slice x.rA x.rs.length x.rc, .slice x.mA x.ms.length x.mc, .slice x.gA x.gs.length x.gc, .int .i64 x.time, .slice x.dA x.ds.length x.dc, .slice x.lA x.ls.length x.lc, .int .i64 role, .slice vA vs.length vc, .slice nA ns.length nc, .slice pA ps.length pc, .int .i64 com, .slice y.rA y.rs.length y.rc, .slice y.mA y.ms.length y.mc, .slice y.gA y.gs.length y.gc, .int .i64 y.time, .slice y.dA y.ds.length y.dc, .slice y.lA y.ls.length y.lc, .slice dA db.length dc, .int .i64 su, .slice hA0 hs.length hc] 64)).alloc (.cells #[.int .i64 id, .int .i64 te, .int .i64 vo, .int .i64 base, .int .i64 bt, .slice A' l.length cap', .slice x'.rA x'.rs.length x'.rc, .slice x'.mA x'.ms.length x'.mc, .slice x'.gA x'.gs.length x'.gc, .int .i64 x'.time, .slice x'.dA x'.ds.length x'.dc, .slice x'.lA x'.ls.length x'.lc, .int .i64 role, .slice vA' vs.length vc', .slice nA' ns.length nc', .slice pA' ps.length pc', .int .i64 com, .slice y'.rA y'.rs.length y'.rc, .slice y'.mA y'.ms.length y'.mc, .slice y'.gA y'.gs.length y'.gc, .int .i64 y'.time, .slice y'.dA y'.ds.length y'.dc, .slice y'.lA y'.ls.length y'.lc, .slice dA' db.length dc', .int .i64 su, .slice hA0' hs.length hc'] 64)) w.heap.size 64 #[.int .i64 id, .int .i64 te, .int .i64 vo, .int .i64 base, .int .i64 bt, .slice A l.length cap, .slice x.rA x.rs.length x.rc, .slice x.mA x.ms.length x.mc, .slice x.gA x.gs.length x.gc, .int .i64 x.time, .slice x.dA x.ds.length x.dc, .slice x.lA x.ls.length x.lc, .int .i64 role, .slice vA vs.length vc, .slice nA ns.length nc, .slice pA ps.length pc, .int .i64 com, .slice y.rA y.rs.length y.rc, .slice y.mA y.ms.length y.mc, .slice y.gA y.gs.length y.gc, .int .i64 y.time, .slice y.dA y.ds.length y.dc, .slice y.lA y.ls.length y.lc, .slice dA db.length dc, .int .i64 su, .slice hA0 hs.length hc] := (Blk.new w _ _).alloc _
 have Q0 : Blk ((w.alloc (.cells #[.int .i64 id, .int .i64 te, .int .i64 vo, .int .i64 base, .int .i64 bt, .slice A l.length cap, .slice x.rA x.rs.length x.rc, .slice x.mA x.ms.length x.mc, .slice x.gA x.gs.length x.gc, .int .i64 x.time, .slice x.dA x.ds.length x.dc, .slice x.lA x.ls.length x.lc, .int .i64 role, .slice vA vs.length vc, .slice nA ns.length nc, .slice pA ps.length pc, .int .i64 com, .slice y.rA y.rs.length y.rc, .slice y.mA y.ms.length y.mc, .slice y.gA y.gs.length y.gc, .int .i64 y.time, .slice y.dA y.ds.length y.dc, .slice y.lA y.ls.length y.lc, .slice dA db.length dc, .int .i64 su, .slice hA0 hs.length hc] 64)).alloc (.cells #[.int .i64 id, .int .i64 te, .int .i64 vo, .int .i64 base, .int .i64 bt, .slice A' l.length cap', .slice x'.rA x'.rs.length x'.rc, .slice x'.mA x'.ms.length x'.mc, .slice x'.gA x'.gs.length x'.gc, .int .i64 x'.time, .slice x'.dA x'.ds.length x'.dc, .slice x'.lA x'.ls.length x'.lc, .int .i64 role, .slice vA' vs.length vc', .slice nA' ns.length nc', .slice pA' ps.length pc', .int .i64 com, .slice y'.rA y'.rs.length y'.rc, .slice y'.mA y'.ms.length y'.mc, .slice y'.gA y'.gs.length y'.gc, .int .i64 y'.time, .slice y'.dA y'.ds.length y'.dc, .slice y'.lA y'.ls.length y'.lc, .slice dA' db.length dc', .int .i64 su, .slice hA0' hs.length hc'] 64)) (w.heap.size + 1) 64 #[.int .i64 id, .int .i64 te, .int .i64 vo, .int .i64 base, .int .i64 bt, .slice A' l.length cap', .slice x'.rA x'.rs.length x'.rc, .slice x'.mA x'.ms.length x'.mc, .slice x'.gA x'.gs.length x'.gc, .int .i64 x'.time, .slice x'.dA x'.ds.length x'.dc, .slice x'.lA x'.ls.length x'.lc, .int .i64 role, .slice vA' vs.length vc', .slice nA' ns.length nc', .slice pA' ps.length pc', .int .i64 com, .slice y'.rA y'.rs.length y'.rc, .slice y'.mA y'.ms.length y'.mc, .slice y'.gA y'.gs.length y'.gc, .int .i64 y'.time, .slice y'.dA y'.ds.length y'.dc, .slice y'.lA y'.ls.length y'.lc, .slice dA' db.length dc', .int .i64 su, .slice hA0' hs.length hc'] := by have := Blk.new (w.alloc (.cells #[.int .i64 id, .int .i64 te, .int .i64 vo, .int .i64 base, .int .i64 bt, .slice A l.length cap, .slice x.rA x.rs.length x.rc, .slice x.mA x.ms.length x.mc, .slice x.gA x.gs.length x.gc, .int .i64 x.time, .slice x.dA x.ds.length x.dc, .slice x.lA x.ls.length x.lc, .int .i64 role, .slice vA vs.length vc, .slice nA ns.length nc, .slice pA ps.length pc, .int .i64 com, .slice y.rA y.rs.length y.rc, .slice y.mA y.ms.length y.mc, .slice y.gA y.gs.length y.gc, .int .i64 y.time, .slice y.dA y.ds.length y.dc, .slice y.lA y.ls.length y.lc, .slice dA db.length dc, .int .i64 su, .slice hA0 hs.length hc] 64)) 64 #[.int .i64 id, .int .i64 te, .int .i64 vo, .int .i64 base, .int .i64 bt, .slice A' l.length cap', .slice x'.rA x'.rs.length x'.rc, .slice x'.mA x'.ms.length x'.mc, .slice x'.gA x'.gs.length x'.gc, .int .i64 x'.time, .slice x'.dA x'.ds.length x'.dc, .slice x'.lA x'.ls.length x'.lc, .int .i64 role, .slice vA' vs.length vc', .slice nA' ns.length nc', .slice pA' ps.length pc', .int .i64 com, .slice y'.rA y'.rs.length y'.rc, .slice y'.mA y'.ms.length y'.mc, .slice y'.gA y'.gs.length y'.gc, .int .i64 y'.time, .slice y'.dA y'.ds.length y'.dc, .slice y'.lA y'.ls.length y'.lc, .slice dA' db.length dc', .int .i64 su, .slice hA0' hs.length hc']; rwa [World.size_alloc] at this
 have B0 : Below w.heap.size w ((w.alloc (.cells #[.int .i64 id, .int .i64 te, .int .i64 vo, .int .i64 base, .int .i64 bt, .slice A l.length cap, .slice x.rA x.rs.length x.rc, .slice x.mA x.ms.length x.mc, .slice x.gA x.gs.length x.gc, .int .i64 x.time, .slice x.dA x.ds.length x.dc, .slice x.lA x.ls.length x.lc, .int .i64 role, .slice vA vs.length vc, .slice nA ns.length nc, .slice pA ps.length pc, .int .i64 com, .slice y.rA y.rs.length y.rc, .slice y.mA y.ms.length y.mc, .slice y.gA y.gs.length y.gc, .int .i64 y.time, .slice y.dA y.ds.length y.dc, .slice y.lA y.ls.length y.lc, .slice dA db.length dc, .int .i64 su, .slice hA0 hs.length hc] 64)).alloc (.cells #[.int .i64 id, .int .i64 te, .int .i64 vo, .int .i64 base, .int .i64 bt, .slice A' l.length cap', .slice x'.rA x'.rs.length x'.rc, .slice x'.mA x'.ms.length x'.mc, .slice x'.gA x'.gs.length x'.gc, .int .i64 x'.time, .slice x'.dA x'.ds.length x'.dc, .slice x'.lA x'.ls.length x'.lc, .int .i64 role, .slice vA' vs.length vc', .slice nA' ns.length nc', .slice pA' ps.length pc', .int .i64 com, .slice y'.rA y'.rs.length y'.rc, .slice y'.mA y'.ms.length y'.mc, .slice y'.gA y'.gs.length y'.gc, .int .i64 y'.time, .slice y'.dA y'.ds.length y'.dc, .slice y'.lA y'.ls.length y'.lc, .slice dA' db.length dc', .int .i64 su, .slice hA0' hs.length hc'] 64)) := Qaa (Qaa (Below.refl _ w) _) _
 have H0 := hidP (And.intro B0 (And.intro P0 Q0))
 clear P0 Q0 B0
 go_enter Tryz.func48, Tryz.ntmps48
 go_wp2_with fail
 refine (E1.out _ H0.out.1).mono ?_
 rintro e w1 ⟨rfl, g1⟩
 have H1 := hidP (And.intro (via0 g1 H0.out.1) (And.intro (H0.out.2.1.below g1 H0.out.2.1.lt) (H0.out.2.2.below g1 H0.out.2.2.lt)))
 clear g1 H0 E1
 obtain ⟨-, -, -, -, -, -, -, -, -, -, -, -, c12, c13, -, -, -, -, -, -, -, -, -, -, -, -⟩ := H1.out.2.1.row26
 obtain ⟨-, -, -, -, -, -, -, -, -, -, -, -, d12, d13, -, -, -, -, -, -, -, -, -, -, -, -⟩ := H1.out.2.2.row26
 have q0 := H1.out.2.1.lt
 have q1 := H1.out.2.2.lt
 go_wp2_with fail
 refine (E2.out _ H1.out.1).mono ?_
 rintro e w2 ⟨rfl, g2⟩
 have H2 := hidP (And.intro (via0 g2 H1.out.1) (And.intro (H1.out.2.1.below g2 H1.out.2.1.lt) (H1.out.2.2.below g2 H1.out.2.2.lt)))
 clear q0 q1 c12 c13 d12 d13
 clear g2 H1 E2
 obtain ⟨-, -, -, -, -, -, -, -, -, -, -, -, -, -, c14, -, -, -, -, -, -, -, -, -, -, -⟩ := H2.out.2.1.row26
 obtain ⟨-, -, -, -, -, -, -, -, -, -, -, -, -, -, d14, -, -, -, -, -, -, -, -, -, -, -⟩ := H2.out.2.2.row26
 have q0 := H2.out.2.1.lt
 have q1 := H2.out.2.2.lt
 go_wp2_with fail
 refine (E3.out _ H2.out.1).mono ?_
 rintro e w3 ⟨rfl, g3⟩
 have H3 := hidP (And.intro (via0 g3 H2.out.1) (And.intro (H2.out.2.1.below g3 H2.out.2.1.lt) (H2.out.2.2.below g3 H2.out.2.2.lt)))
 clear q0 q1 c14 d14
 clear g3 H2 E3
 obtain ⟨-, -, -, -, -, -, -, -, -, -, -, -, -, -, -, c15, -, -, -, -, -, -, -, -, -, -⟩ := H3.out.2.1.row26
 obtain ⟨-, -, -, -, -, -, -, -, -, -, -, -, -, -, -, d15, -, -, -, -, -, -, -, -, -, -⟩ := H3.out.2.2.row26
 have q0 := H3.out.2.1.lt
 have q1 := H3.out.2.2.lt
 go_wp2_with fail
 refine (E4.out _ H3.out.1).mono ?_
 rintro e w4 ⟨rfl, g4⟩
 have H4 := hidP (And.intro (via0 g4 H3.out.1) (And.intro (H3.out.2.1.below g4 H3.out.2.1.lt) (H3.out.2.2.below g4 H3.out.2.2.lt)))
 clear q0 q1 c15 d15
 clear g4 H3 E4
 obtain ⟨-, -, -, -, -, -, -, -, -, -, -, -, -, -, -, -, c16, c17, c18, c19, c20, c21, c22, -, -, -⟩ := H4.out.2.1.row26
 obtain ⟨-, -, -, -, -, -, -, -, -, -, -, -, -, -, -, -, d16, d17, d18, d19, d20, d21, d22, -, -, -⟩ := H4.out.2.2.row26
 have q0 := H4.out.2.1.lt
 have q1 := H4.out.2.2.lt
 go_wp2_with fail
 refine (E5.out _ H4.out.1).mono ?_
 rintro e w5 ⟨rfl, g5⟩
 have H5 := hidP (And.intro (via0 g5 H4.out.1) (And.intro (H4.out.2.1.below g5 H4.out.2.1.lt) (H4.out.2.2.below g5 H4.out.2.2.lt)))
 clear q0 q1 c16 c17 c18 c19 c20 c21 c22 d16 d17 d18 d19 d20 d21 d22
 clear g5 H4 E5
 obtain ⟨-, -, -, -, -, -, -, -, -, -, -, -, -, -, -, -, -, -, -, -, -, -, -, c23, c24, -⟩ := H5.out.2.1.row26
 obtain ⟨-, -, -, -, -, -, -, -, -, -, -, -, -, -, -, -, -, -, -, -, -, -, -, d23, d24, -⟩ := H5.out.2.2.row26
 have q0 := H5.out.2.1.lt
 have q1 := H5.out.2.2.lt
 go_wp2_with fail
 refine (E6.out _ H5.out.1).mono ?_
 rintro e w6 ⟨rfl, g6⟩
 have H6 := hidP (And.intro (via0 g6 H5.out.1) (And.intro (H5.out.2.1.below g6 H5.out.2.1.lt) (H5.out.2.2.below g6 H5.out.2.2.lt)))
 clear q0 q1 c23 c24 d23 d24
 clear g6 H5 E6
 obtain ⟨-, -, -, -, -, -, -, -, -, -, -, -, -, -, -, -, -, -, -, -, -, -, -, -, -, c25⟩ := H6.out.2.1.row26
 obtain ⟨-, -, -, -, -, -, -, -, -, -, -, -, -, -, -, -, -, -, -, -, -, -, -, -, -, d25⟩ := H6.out.2.2.row26
 have q0 := H6.out.2.1.lt
 have q1 := H6.out.2.2.lt
 go_wp2_with fail
 refine (E7.out _ H6.out.1).mono ?_
 rintro e w7 ⟨rfl, g7⟩
 have H7 := hidP (And.intro (via0 g7 H6.out.1) (And.intro (H6.out.2.1.below g7 H6.out.2.1.lt) (H6.out.2.2.below g7 H6.out.2.2.lt)))
 clear q0 q1 c25 d25
 clear g7 H6 E7
 go_wp2
 go_ret
 exact ⟨rfl, H7.out.1⟩
end Go.Proofs.YtbcbdhjeebcleaaGreatDoor.Gen
namespace Go.Proofs.YtbcbdhjeebcleaaGreatDoor.Gen
open ChangeShapes WideShapes ChangeAt RowKit Joins Deep Base
def setB (ro wi le ke : Int) : Bool := inB ro 1 4 && inB wi 1 5 && inB le 1 8 && inB ke 0 60
theorem Qgz (p q r s : Bool) : p = false ∨ (p = true /\ q = false) ∨ (p = true /\ q = true /\ r = false) ∨ (p = true /\ q = true /\ r = true /\ s = false) ∨ (p = true /\ q = true /\ r = true /\ s = true) := by
 cases p<;>cases q<;>cases r<;>cases s<;>simp
theorem Qcr (ro wi le ke : Int) (w : World) :
 Calls Tryz.prog 33 #[.agg #[.int .i64 ro, .int .i64 wi, .int .i64 le, .int .i64 ke]] w fun e w' => e = .returned (.bool (setB ro wi le ke)) /\ Below w.heap.size w w' := by
 rcases Qgz (inB ro 1 4) (inB wi 1 5) (inB le 1 8) (inB ke 0 60) with h1 | ⟨h1, h2⟩ | ⟨h1, h2, h3⟩ | ⟨h1, h2, h3, h4⟩ | ⟨h1, h2, h3, h4⟩
 all_goals
  go_enter Tryz.func33, Tryz.ntmps33
  go_wp2_with (go_at_call 34; refine (in_any _ _ _ _).mono ?_; rintro e w' ⟨rfl, rfl⟩)
  go_ret
  exact ⟨by simp [setB, *], by repeat (first | exact Below.refl _ _ | refine Below.drew ?_ | refine Below.alloc ?_ (by simp<;>omega) _)⟩
theorem Qcx (ro wi le ke : Int) (w : World) :
 Calls Tryz.prog 74 #[.agg #[.int .i64 ro, .int .i64 wi, .int .i64 le, .int .i64 ke]] w fun e w' => e = .returned (.bool (setB ro wi le ke)) /\ Below w.heap.size w w' := by
 rcases Qgz (inB ro 1 4) (inB wi 1 5) (inB le 1 8) (inB ke 0 60) with h1 | ⟨h1, h2⟩ | ⟨h1, h2, h3⟩ | ⟨h1, h2, h3, h4⟩ | ⟨h1, h2, h3, h4⟩
 all_goals
  go_enter Tryz.func74, Tryz.ntmps74
  go_wp2_with (go_at_call 112; refine (within_any _ _ _ _).mono ?_; rintro e w' ⟨rfl, rfl⟩)
  go_ret
  exact ⟨by simp [setB, *], by repeat (first | exact Below.refl _ _ | refine Below.drew ?_ | refine Below.alloc ?_ (by simp<;>omega) _)⟩
theorem Qhi (ro wi le ke : Int) (w : World) :
 Calls Tryz.prog 15 #[.agg #[.int .i64 ro, .int .i64 wi, .int .i64 le, .int .i64 ke]] w fun e w' => e = .returned (.agg #[.int .i64 ro, .int .i64 wi, .int .i64 le, .int .i64 ke]) /\ Below w.heap.size w w' := by
 go_enter Tryz.func15, Tryz.ntmps15
 go_wp2
 exact bodyPost_ret (v := .agg #[.int .i64 ro, .int .i64 wi, .int .i64 le, .int .i64 ke]) (by simp [results, Tryz.results15, go_sem]) rfl
  ⟨rfl, by repeat (first | exact Below.refl _ _ | refine Below.drew ?_ | refine Below.alloc ?_ (by simp<;>omega) _)⟩
end Go.Proofs.YtbcbdhjeebcleaaGreatDoor.Gen
namespace Go.Proofs.YtbcbdhjeebcleaaGreatDoor.Items
open ChangeShapes WideShapes ChangeAt RowKit Base
def It.v (x : It) : Value := .agg #[.int .i64 x.off, .string x.key, .string x.text, .int .i64 x.who, .int .i64 x.time]
end Go.Proofs.YtbcbdhjeebcleaaGreatDoor.Items
namespace Go.Proofs.YtbcbdhjeebcleaaGreatDoor.Items
open ChangeShapes WideShapes ChangeAt RowKit Shelf Base
attribute [local go_sem] Oper.semAt_some
abbrev Of (its : List It) : Type := { x : It // x ∈ its }
def vals {its : List It} (l : List (Of its)) : List It := l.map Subtype.val
theorem Qf5 {its : List It} (l : List (Of its)) (x : Of its) : vals (l ++ [x]) = vals l ++ [x.1] := by simp [vals]
theorem take_next {α : Type} {l : List α} {k : Nat} (h : k < l.length) : l.take (k + 1) = l.take k ++ [l[k]] := by simp [List.take_append_getElem]
theorem Qdq (its : List It) : vals its.attach = its := by simp [vals]
theorem vals_pre {its : List It} {p q : List (Of its)} (h : p <+: q) : vals p <+: vals q := h.map _
theorem told1_in (F : Fence) (n : Nat) (hf : F.fn 255) (hro : F.round = none) (hn : 1 <= n) (l Bs n₀ b o cap : Nat) (its : List It) (hl : its.length <= 2000000) (hb : b < n₀) (J Jx : List (Of its) -> World -> Prop)
 (hJ : ∀ pre W o, J pre W -> J pre (W.alloc o))
 (hY : ∀ pre (x : Of its) W, J pre W -> pre.length < its.length -> YieldAt F (n - 1) Tryz.prog l #[x.1.v] W fun e W' =>
  (e = .returned (.bool true) /\ J (pre ++ [x]) W' /\ Below n₀ W W') ∨ (e = .returned (.bool false) /\ Jx (pre ++ [x]) W'))
 (W : World) (hn₀ : n₀ <= W.heap.size) (hBs : W.cell? ⟨Bs, 2, none⟩ = some (.slice (some ⟨b, o, none⟩) its.length cap)) (hin : In W b o its) (h0 : J [] W) :
 CallsIn F n Tryz.prog 255 #[.func (.yield l) #[] #[], .pointer (some ⟨Bs, 0, none⟩)] W fun e W' => (∃ v, e = .returned v) /\
  ((∃ ys, ys = its.attach /\ J ys W') ∨ (∃ pre, pre <+: its.attach /\ Jx pre W')) := by
 refine callsIn_of_wp Tryz.func255 rfl hf ?_ hro
 simp only [Tryz.ntmps255]
 simp only [List.size_toArray, List.length_cons, List.length_nil, Nat.reduceAdd, Nat.reduceSub, Array.replicate_succ, Array.replicate_zero, List.push_toArray, List.append_toArray, List.nil_append, List.cons_append]
 gi_wp2
 gi_loopw [8] (fun i wr => ∃ k : Nat, k <= its.length /\ i = .int .i64 k /\ J (its.attach.take k) wr /\ Below n₀ W wr)
  (fun i _ => its.length - (intOf i).toNat)
 case atStart => exact ⟨0, Nat.zero_le _, rfl, by simpa using h0, Below.refl _ _⟩
 case round =>
  obtain ⟨k, hk, rfl, hJs, hnx⟩ := hrel
  have hsz := hnx.size
  by_cases hlt : k < its.length
  . have hin' : In wr b o its := fun j v hv => (hnx.cell (p := ⟨b, o + j, none⟩) hb).trans (hin j v hv)
    obtain ⟨c0, c1, c2, c3, c4⟩ := hin'.get k hlt
    have hY' := hY (its.attach.take k) ⟨its[k], List.getElem_mem hlt⟩ (wr.alloc (.cells #[.int .i64 its[k].off, .string its[k].key, .string its[k].text, .int .i64 its[k].who, .int .i64 its[k].time] 252)) (hJ _ _ _ hJs) (by simp; omega)
    have hnext : its.attach.take (k + 1) = its.attach.take k ++ [⟨its[k], List.getElem_mem hlt⟩] := by rw [take_next (by simpa using hlt)]; simp
    clear hY
    obtain ⟨fn, tmps, assign, body, hy, hR⟩ := hY'
    dsimp only [It.v] at hy
    gi_wp2
    refine hR.mono ?_
    rintro e W3 (⟨rfl, hJ3, hk3⟩ | ⟨rfl, hJx3⟩)
    . gi_wp2
      go_roundw
      case rel => exact ⟨k + 1, by omega, by simp, by rw [hnext]; exact hJ3, (hnx.alloc (by omega) _).trans hk3⟩
      case measure => simp [intOf]; omega
    . gi_wp2
      refine bodyPost_ret (results_none rfl _ _ _) rfl ?_
      exact ⟨⟨_, rfl⟩, .inr ⟨_, by rw [← hnext]; exact List.take_prefix _ _, hJx3⟩⟩
  . obtain rfl : k = its.length := by omega
    gi_wp2
    go_end0
    exact ⟨⟨_, rfl⟩, .inl ⟨_, rfl, by rw [List.take_of_length_le (by simp)] at hJs; exact hJs⟩⟩
theorem Qf6 (F : Fence) (n : Nat) (hf : F.fn 255) (hro : F.round = none) (l Bs cap : Nat) (A : Option Addr) {α : Type} (J : List α -> World -> Prop) (W : World) (hBs : W.cell? ⟨Bs, 2, none⟩ = some (.slice A 0 cap)) (h0 : J [] W) :
 CallsIn F n Tryz.prog 255 #[.func (.yield l) #[] #[], .pointer (some ⟨Bs, 0, none⟩)] W fun e W' => (∃ v, e = .returned v) /\ J [] W' := by
 refine callsIn_of_wp Tryz.func255 rfl hf ?_ hro
 simp only [Tryz.ntmps255]
 simp only [List.size_toArray, List.length_cons, List.length_nil, Nat.reduceAdd, Nat.reduceSub, Array.replicate_succ, Array.replicate_zero, List.push_toArray, List.append_toArray, List.nil_append, List.cons_append]
 gi_wp2
 gi_loopw [8] (fun i wr => i = .int .i64 0 /\ J [] wr) (fun _ _ => 0)
 case atStart => exact ⟨rfl, h0⟩
 case round =>
  obtain ⟨rfl, hJs⟩ := hrel
  gi_wp2
  go_end0
  exact ⟨⟨_, rfl⟩, hJs⟩
theorem told_in (F : Fence) (n : Nat) (hf : F.fn 230) (hro : F.round = none) (start next : Int) (A : Option Addr) (len cap : Nat) (w : World) :
 CallsIn F n Tryz.prog 230 #[.agg #[.int .i64 start, .int .i64 next, .slice A len cap]] w fun e w' => e = .returned (.func (.func 255) #[] #[.pointer (some ⟨w.heap.size, 0, none⟩)]) /\ w' = w.alloc (.cells #[.int .i64 start, .int .i64 next, .slice A len cap] 300) := by
 refine callsIn_of_wp Tryz.func230 rfl hf ?_ hro
 simp only [Tryz.ntmps230]
 simp only [List.size_toArray, List.length_cons, List.length_nil, Nat.reduceAdd, Nat.reduceSub, Array.replicate_succ, Array.replicate_zero, List.push_toArray, List.append_toArray, List.nil_append, List.cons_append]
 gi_wp2
 go_ret
 exact ⟨rfl, rfl⟩
theorem Qhd {β : Type} {B : Nat} {J : β -> World -> Prop} (h : AbidesFrom B J) (pre : β) (W : World) (o : Obj) (hj : J pre W) : J pre (W.alloc o) :=
 h pre W _ none hj (World.grownBy_alloc W o none) (fun r e => by cases e)
theorem Qes (F : Fence) (n : Nat) (hf : F.fn 255) (hro : F.round = none) (hn : 1 <= n) (Bs n₀ cap : Nat) (A : Option Addr) (its : List It) (hl : its.length <= 2000000) (w : World) (hBs : Bs < w.heap.size) (hn₀ : n₀ <= w.heap.size)
 (hc : w.cell? ⟨Bs, 2, none⟩ = some (.slice A its.length cap)) (hA : its = [] ∨ ∃ b o, A = some ⟨b, o, none⟩ /\ b < n₀ /\ In w b o its) :
 SeqStopsK F n Tryz.prog 255 #[.pointer (some ⟨Bs, 0, none⟩)] (fun x : Of its => #[x.1.v]) (Below n₀) (fun ys => vals ys = its) (fun pre => vals pre <+: its) its.length w := fun l J Jx W hW hJ _ hY h0 => by
 have hc' := (hW.cell (p := ⟨Bs, 2, none⟩) hBs).trans hc
 rcases hA with rfl | ⟨b, o, rfl, hb, hin⟩
 . exact (Qf6 F n hf hro l Bs cap A J W hc' h0).mono fun e W' ⟨he, hj⟩ => ⟨he, .inl ⟨_, rfl, hj⟩⟩
 . refine (told1_in F n hf hro hn l Bs n₀ b o cap its hl hb J Jx (fun pre W o hj => Qhd hJ pre W o hj) hY W (Nat.le_trans hn₀ hW.size) hc' (fun j v hv => (hW.cell (p := ⟨b, o + j, none⟩) (Nat.lt_of_lt_of_le hb hn₀)).trans (hin j v hv)) h0).mono ?_
   rintro e W' ⟨he, ⟨ys, rfl, hj⟩ | ⟨pre, hp, hj⟩⟩
   . exact ⟨he, .inl ⟨_, Qdq its, hj⟩⟩
   . exact ⟨he, .inr ⟨_, by have := vals_pre hp; rwa [Qdq] at this, hj⟩⟩
def Blk (W : World) (B : Nat) (t : TypeId) (vs : Array Value) : Prop := W.heap[B]? = some (.cells vs t (0, 0))
theorem Blk.lt {W : World} {B : Nat} {t : TypeId} {vs : Array Value} (h : Blk W B t vs) : B < W.heap.size := (Array.getElem?_eq_some_iff.1 h).1
theorem Blk.cell {W : World} {B : Nat} {t : TypeId} {vs : Array Value} (h : Blk W B t vs) {i : Nat} {v : Value} (hv : vs[i]? = some v) : W.cell? ⟨B, i, none⟩ = some v := by simp [World.cell?, show W.heap[B]? = _ from h, hv]
theorem Blk.new (W : World) (t : TypeId) (vs : Array Value) : Blk (W.alloc (.cells vs t)) W.heap.size t vs := World.alloc_heap_new W _
theorem Blk.kept {W W' : World} {row : Option Nat} {B : Nat} {t : TypeId} {vs : Array Value} (h : Blk W B t vs) (hg : W.grownBy W' row) (hne : some B ≠ row) : Blk W' B t vs := (hg.block B h.lt hne).trans h
theorem Blk.alloc {W : World} {B : Nat} {t : TypeId} {vs : Array Value} (h : Blk W B t vs) (o : Obj) : Blk (W.alloc o) B t vs := h.kept (World.grownBy_alloc W o none) (by simp)
theorem Blk.other {W : World} {B B' : Nat} {t : TypeId} {vs : Array Value} (h : Blk W B t vs) (hne : B ≠ B') (i : Nat) (u : Value) : Blk (W.setCell ⟨B', i, none⟩ u) B t vs := by
 show (W.heap.modify B' _)[B]? = _
 rw [Array.getElem?_modify, if_neg (Ne.symm hne)]; exact h
theorem Blk.below {W W' : World} {n : Nat} {B : Nat} {t : TypeId} {vs : Array Value} (h : Blk W B t vs) (hb : Below n W W') (hn : B < n) : Blk W' B t vs := (hb.block B hn).trans h
theorem blk_own {β : Type} (B : Nat) (t : TypeId) (f : β -> Array Value) : Own (fun s W => Blk W B t (f s)) := fun s X Y row hs hg hrow =>
 hs.kept hg (fun e' => by obtain ⟨o, ho, hc⟩ := hrow B e'.symm; rw [show X.heap[B]? = _ from hs] at ho; cases ho; cases hc)
end Go.Proofs.YtbcbdhjeebcleaaGreatDoor.Items
namespace Go.Proofs.YtbcbdhjeebcleaaGreatDoor.Items
open ChangeShapes WideShapes ChangeAt RowKit Base
def Qef (k t : ByteArray) (who time : Int) : Bool := textB k && textB t && inB who 0 3 && inB time 0 100000
def Qcb (x : It) : Bool := Qef x.key x.text x.who x.time
theorem four (p q r s : Bool) : p = false ∨ (p = true /\ q = false) ∨ (p = true /\ q = true /\ r = false) ∨ (p = true /\ q = true /\ r = true /\ s = false) ∨ (p = true /\ q = true /\ r = true /\ s = true) := by
 cases p<;>cases q<;>cases r<;>cases s<;>simp
theorem Qgg (off who time : Int) (k t : ByteArray) (hk : k.size <= 9223372036854775807) (ht : t.size <= 9223372036854775807) (w : World) :
 Calls Tryz.prog 135 #[.agg #[.int .i64 off, .string k, .string t, .int .i64 who, .int .i64 time]] w fun e w' => e = .returned (.bool (Qef k t who time)) /\ Below w.heap.size w w' := by
 rcases four (textB k) (textB t) (inB who 0 3) (inB time 0 100000) with h1 | ⟨h1, h2⟩ | ⟨h1, h2, h3⟩ | ⟨h1, h2, h3, h4⟩ | ⟨h1, h2, h3, h4⟩
 all_goals
  go_enter Tryz.func135, Tryz.ntmps135
  have q1 : w.heap.size < w.heap.size + 1 := Nat.lt_succ_self _
  go_wp2_with (first
   | (go_at_call 34; refine (in_any _ _ _ _).mono ?_; rintro e w' ⟨rfl, rfl⟩)
   | (go_at_call_of 64 (Value.string k); refine (specText_any k hk _).mono ?_; rintro e w1 ⟨rfl, g1⟩; obtain ⟨c1, f1⟩ := Qaf g1; have s1 := g1.size; try simp at s1; have q1 : w.heap.size < w1.heap.size := by omega)
   | (go_at_call_of 64 (Value.string t); refine (specText_any t ht _).mono ?_; rintro e w1 ⟨rfl, g1⟩; obtain ⟨c1, f1⟩ := Qaf g1; have s1 := g1.size; try simp at s1; have q1 : w.heap.size < w1.heap.size := by omega))
  go_ret
  refine ⟨by simp [Qef, *], ?_⟩
  repeat (first | exact Below.refl _ _ | refine via0 (by assumption) ?_ | refine Below.drew ?_ | refine Qaa ?_ _)
def chain (start nb : Int) : Option Int -> List It -> Bool
  | _, [] => true
  | p, x :: l => Qcb x && inB x.off start nb && (match p with | none => true | some o => decide (o < x.off)) && chain start nb (some x.off) l
def prevO (l : List It) (n : Nat) : Option Int := match n with
  | 0 => none
  | p + 1 => (l[p]?).map (·.off)
def Qag (start nb : Int) (l : List It) (n : Nat) : Bool := chain start nb (prevO l n) (l.drop n)
theorem Qf2 {start nb : Int} {l : List It} {n : Nat} (h : l.length <= n) : Qag start nb l n = true := by
 unfold Qag; rw [List.drop_eq_nil_of_le h]; rfl
def ordB (l : List It) (n : Nat) (x : Int) : Bool := match prevO l n with
  | none => true
  | some o => decide (o < x)
theorem Qeq {start nb : Int} {l : List It} {n : Nat} (h : n < l.length) :
 Qag start nb l n = (Qcb l[n] && inB l[n].off start nb && ordB l n l[n].off && Qag start nb l (n + 1)) := by
 have e2 : prevO l (n + 1) = some l[n].off := by simp [prevO, List.getElem?_eq_getElem h]
 unfold Qag ordB
 rw [e2, List.drop_eq_getElem_cons h]
 cases prevO l n<;>rfl
theorem ordB_zero (l : List It) (x : Int) : ordB l 0 x = true := rfl
theorem ordB_succ {l : List It} {p : Nat} (h : p < l.length) (x : Int) : ordB l (p + 1) x = decide (l[p].off < x) := by
 simp [ordB, prevO, List.getElem?_eq_getElem h]
def rowB (start next : Int) (l : List It) : Bool := Qag start (next - 1) l 0 && inB start 0 next && decide (next <= 100000) && decide (l.length <= 80)
theorem Qbp (v : Bool) (off who time : Int) (k t : ByteArray) (hk : k.size <= 9223372036854775807) (ht : t.size <= 9223372036854775807) (h : Hid (Qef k t who time = v)) (w : World) :
 Calls Tryz.prog 135 #[.agg #[.int .i64 off, .string k, .string t, .int .i64 who, .int .i64 time]] w fun e w' => e = .returned (.bool v) /\ Below w.heap.size w w' := by
 have := Qgg off who time k t hk ht w
 rw [h.out] at this
 exact this
theorem in_is (v : Bool) (x lo hi : Int) (h : Hid (inB x lo hi = v)) (w : World) :
 Calls Tryz.prog 34 #[.int .i64 x, .int .i64 lo, .int .i64 hi] w fun e w' => e = .returned (.bool v) /\ w' = w := by
 have := in_any x lo hi w
 rw [h.out] at this
 exact this
end Go.Proofs.YtbcbdhjeebcleaaGreatDoor.Items
