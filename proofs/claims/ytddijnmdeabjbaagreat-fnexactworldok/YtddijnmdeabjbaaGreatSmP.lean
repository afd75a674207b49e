/-
  A node as one record of cells; two of the same content; one made anew. No condition.
-/
import Derived.Test.YtddijnmdeabjbaaGreatPeTo
set_option linter.unusedVariables false
set_option linter.unusedSimpArgs false
set_option maxRecDepth 100000
set_option maxHeartbeats 8000000
namespace Go.Proofs.YtddijnmdeabjbaaGreat.Gen
open ChangeShapes WideShapes ChangeAt RowKit Joins Deep Base
def Qgq (p : PC) (v : Value) : Array Value := #[.int .i64 p.id, .int .i64 p.te, .int .i64 p.vo, .int .i64 p.base, .int .i64 p.bt, .slice p.A p.l.length p.cap, .slice p.x.rA p.x.rs.length p.x.rc, .slice p.x.mA p.x.ms.length p.x.mc, .slice p.x.gA p.x.gs.length p.x.gc, .int .i64 p.x.time, .slice p.x.dA p.x.ds.length p.x.dc, .slice p.x.lA p.x.ls.length p.x.lc, .int .i64 p.role, .slice p.vA p.vs.length p.vc, .slice p.nA p.ns.length p.nc, .slice p.pA p.ps.length p.pc, .int .i64 p.com, .slice p.y.rA p.y.rs.length p.y.rc, .slice p.y.mA p.y.ms.length p.y.mc, .slice p.y.gA p.y.gs.length p.y.gc, .int .i64 p.y.time, .slice p.y.dA p.y.ds.length p.y.dc, .slice p.y.lA p.y.ls.length p.y.lc, .slice p.dA p.db.length p.dc, .int .i64 p.su, v]
def heldV (p : PC) : Value := .slice p.hA p.hs.length p.hc
def Qay (p : PC) : Array Value := Qgq p (heldV p)
theorem Qc2 (p : PC) : (Qay p).all (·.oneCell') = true := by simp [Qay, Qgq, heldV, Value.oneCell']
structure SameP (q p : PC) : Prop where
  id : q.id = p.id
  te : q.te = p.te
  vo : q.vo = p.vo
  base : q.base = p.base
  bt : q.bt = p.bt
  l : q.l = p.l
  x : q.x.p = p.x.p
  role : q.role = p.role
  vs : q.vs = p.vs
  ns : q.ns = p.ns
  ps : q.ps = p.ps
  com : q.com = p.com
  y : q.y.p = p.y.p
  db : q.db = p.db
  su : q.su = p.su
  hs : q.hs.map RpC.p = p.hs.map RpC.p
theorem SameP.refl (p : PC) : SameP p p := ⟨rfl, rfl, rfl, rfl, rfl, rfl, rfl, rfl, rfl, rfl, rfl, rfl, rfl, rfl, rfl, rfl⟩
theorem SameP.trans {a b c : PC} (h : SameP a b) (k : SameP b c) : SameP a c := ⟨h.id.trans k.id, h.te.trans k.te, h.vo.trans k.vo, h.base.trans k.base, h.bt.trans k.bt, h.l.trans k.l, h.x.trans k.x, h.role.trans k.role, h.vs.trans k.vs, h.ns.trans k.ns, h.ps.trans k.ps, h.com.trans k.com, h.y.trans k.y, h.db.trans k.db, h.su.trans k.su, h.hs.trans k.hs⟩
theorem SameP.symm {a b : PC} (h : SameP a b) : SameP b a := ⟨h.id.symm, h.te.symm, h.vo.symm, h.base.symm, h.bt.symm, h.l.symm, h.x.symm, h.role.symm, h.vs.symm, h.ns.symm, h.ps.symm, h.com.symm, h.y.symm, h.db.symm, h.su.symm, h.hs.symm⟩
end Go.Proofs.YtddijnmdeabjbaaGreat.Gen
