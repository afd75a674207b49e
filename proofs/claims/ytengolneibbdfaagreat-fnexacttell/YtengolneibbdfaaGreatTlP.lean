/-
  What Tell's two sides share. No condition.
-/
import Derived.Test.YtengolneibbdfaaGreatHld
import Derived.Test.YtengolneibbdfaaGreatPeCp
namespace Go.Proofs.YtengolneibbdfaaGreat.Gen
open Go.ChangeShapes Go.WideShapes Go.ChangeAt Go.RowKit Go.Joins Go.Deep Base
set_option linter.unusedVariables false
set_option linter.unusedSimpArgs false
def cellsV (p : PC) (v : Value) : Array Value := #[.int .i64 p.id, .int .i64 p.te, .int .i64 p.vo, .int .i64 p.base, .int .i64 p.bt, .slice p.A p.l.length p.cap, .slice p.x.rA p.x.rs.length p.x.rc, .slice p.x.mA p.x.ms.length p.x.mc, .slice p.x.gA p.x.gs.length p.x.gc, .int .i64 p.x.time, .slice p.x.dA p.x.ds.length p.x.dc, .slice p.x.lA p.x.ls.length p.x.lc, .int .i64 p.role, .slice p.vA p.vs.length p.vc, .slice p.nA p.ns.length p.nc, .slice p.pA p.ps.length p.pc, .int .i64 p.com, .slice p.y.rA p.y.rs.length p.y.rc, .slice p.y.mA p.y.ms.length p.y.mc, .slice p.y.gA p.y.gs.length p.y.gc, .int .i64 p.y.time, .slice p.y.dA p.y.ds.length p.y.dc, .slice p.y.lA p.y.ls.length p.y.lc, .slice p.dA p.db.length p.dc, .int .i64 p.su, v]
def heldV (p : PC) : Value := .slice p.hA p.hs.length p.hc
def cellsP (p : PC) : Array Value := cellsV p (heldV p)
def nodeC (p : PC) (size : Int) (v : Value) : Array Value := #[.int .i64 p.te, .int .i64 p.vo, .int .i64 p.base, .int .i64 p.bt, .slice p.A p.l.length p.cap, .slice p.x.rA p.x.rs.length p.x.rc, .slice p.x.mA p.x.ms.length p.x.mc, .slice p.x.gA p.x.gs.length p.x.gc, .int .i64 p.x.time, .slice p.x.dA p.x.ds.length p.x.dc, .slice p.x.lA p.x.ls.length p.x.lc, .int .i64 0, .int .i64 0, .int .i64 0, .int .i64 0, .int .i64 size, .int .i64 p.id, .int .i64 p.role, .slice p.vA p.vs.length p.vc, .slice p.nA p.ns.length p.nc, .slice p.pA p.ps.length p.pc, .int .i64 p.com, .slice p.y.rA p.y.rs.length p.y.rc, .slice p.y.mA p.y.ms.length p.y.mc, .slice p.y.gA p.y.gs.length p.y.gc, .int .i64 p.y.time, .slice p.y.dA p.y.ds.length p.y.dc, .slice p.y.lA p.y.ls.length p.y.lc, .slice p.dA p.db.length p.dc, .int .i64 p.su, v]
theorem nodeC_one (p : PC) (size : Int) (v : Value) (hv : v.oneCell' = true) : (nodeC p size v).all (·.oneCell') = true := by simp [nodeC, Value.oneCell', hv]; exact hv
theorem nodeC_held (p : PC) (size : Int) (v : Value) : (nodeC p size v)[30]? = some v := rfl
theorem nodeC_set (p : PC) (size : Int) (v u : Value) : (nodeC p size v).setIfInBounds 30 u = nodeC p size u := rfl
theorem cellsP_one (p : PC) : (cellsP p).all (·.oneCell') = true := by simp [cellsP, cellsV, heldV, Value.oneCell']
structure SameP (q p : PC) : Prop where
  id : q.id = p.id
  te : q.te = p.te
  vo : q.vo = p.vo
  base : q.base = p.base
  bt : q.bt = p.bt
  l : q.l = p.l
  x : q.x.p = p.x.p
  role : q.role = p.role
  vs : q.vs = p.vs
  ns : q.ns = p.ns
  ps : q.ps = p.ps
  com : q.com = p.com
  y : q.y.p = p.y.p
  db : q.db = p.db
  su : q.su = p.su
  hs : q.hs.map RpC.p = p.hs.map RpC.p
theorem SameP.trans {a b c : PC} (h : SameP a b) (k : SameP b c) : SameP a c := ⟨h.id.trans k.id, h.te.trans k.te, h.vo.trans k.vo, h.base.trans k.base, h.bt.trans k.bt, h.l.trans k.l, h.x.trans k.x, h.role.trans k.role, h.vs.trans k.vs, h.ns.trans k.ns, h.ps.trans k.ps, h.com.trans k.com, h.y.trans k.y, h.db.trans k.db, h.su.trans k.su, h.hs.trans k.hs⟩
theorem SameP.symm {a b : PC} (h : SameP a b) : SameP b a := ⟨h.id.symm, h.te.symm, h.vo.symm, h.base.symm, h.bt.symm, h.l.symm, h.x.symm, h.role.symm, h.vs.symm, h.ns.symm, h.ps.symm, h.com.symm, h.y.symm, h.db.symm, h.su.symm, h.hs.symm⟩
def NewQ (w w' : World) (v : Value) (p : PC) : Prop := ∃ q : PC, v = .agg (cellsP q) /\ SameP q p /\ POwn w' q (fun z => w.heap.size <= z /\ z < w'.heap.size)
theorem toldP_new {w w' : World} {e : Ending} {p : PC} (h : ToldP w w' e p) : ∃ v, e = .returned v /\ NewQ w w' v p /\ Below w.heap.size w w' := by
  obtain ⟨a1, c1, x', a2, c2, a3, c3, a4, c4, y', a6, c6, a7, c7, hs', he, hx, hy, hh, hl, ho, g⟩ := h
  refine ⟨_, he, ⟨_, ?_, ?_, ho⟩, g⟩
  . simp only [cellsP, cellsV, heldV, hl]
  . exact ⟨rfl, rfl, rfl, rfl, rfl, rfl, hx, rfl, rfl, rfl, rfl, rfl, hy, rfl, rfl, hh⟩
theorem peerCp_any (p : PC) (hf : PFit p) (w : World) (h : PAt w p) : Calls Tryz.prog 49 #[.agg (cellsP p)] w fun e w' => ∃ v, e = .returned v /\ NewQ w w' v p /\ Below w.heap.size w w' := by
  refine (show Calls Tryz.prog 49 #[.agg (cellsP p)] w fun e w' => ToldP w w' e p from
    peerCopied_any p w (fun W g => hardCopied_any p.te p.vo p.base p.bt p.A p.cap p.l (by have := hf.ll; omega) p.x hf.xf.rl hf.xf.ml hf.xf.gl hf.xf.dl hf.xf.ll hf.xf.ri hf.xf.mi hf.xf.gi W (h.la.below g) (h.xa.below g))
      (fun W g => cpBools p.vA p.vc p.vs hf.vl W (h.va.below g)) (fun W g => cpInts p.nA p.nc p.ns hf.nl W (h.na.below g)) (fun W g => cpInts p.pA p.pc p.ps hf.pl W (h.pa.below g))
      (fun W g => (keepCopied_any p.y.rA p.y.rc p.y.rs p.y.mA p.y.mc p.y.ms p.y.gA p.y.gc p.y.gs p.y.time p.y.dA p.y.dc p.y.ds p.y.lA p.y.lc p.y.ls hf.yf.rl hf.yf.ml hf.yf.gl hf.yf.dl hf.yf.ll hf.yf.ri hf.yf.mi hf.yf.gi W (h.ya.below g)).mono fun e w' ⟨y', he, hp, ho, g'⟩ => ⟨y', he, g', hp, ho⟩)
      (fun W g => diskCopied_any p.su p.dA p.dc p.db (by have := hf.dl; omega) W (h.da.below g)) (fun W g => cpHeld p.hA p.hc p.hs hf.hl hf.hi W (h.ha.below g) (h.he.below g))).mono fun e w' h => toldP_new h
theorem nodeOfP (p : PC) (size : Int) (w : World) : Calls Tryz.prog 37 #[.agg #[.int .i64 0, .int .i64 0, .int .i64 0, .int .i64 0], .agg (cellsP p), .int .i64 size] w fun e w' => e = .returned (.agg (nodeC p size (heldV p))) /\ Below w.heap.size w w' :=
  nodeOf_any 0 0 0 0 p.id p.te p.vo p.base p.bt p.role p.com p.su size p.A p.vA p.nA p.pA p.dA p.hA p.cap p.vs.length p.vc p.ns.length p.nc p.ps.length p.pc p.dc p.hc p.l p.db p.hs p.x p.y w
theorem toldOfP (p : PC) (size : Int) (w : World) : Calls Tryz.prog 51 #[.agg (nodeC p size (heldV p))] w fun e w' => e = .returned (.agg (cellsP p)) /\ Below w.heap.size w w' :=
  told_node 0 0 0 0 p.id p.te p.vo p.base p.bt p.role p.com p.su size p.A p.vA p.nA p.pA p.dA p.hA p.cap p.vs.length p.vc p.ns.length p.nc p.ps.length p.pc p.dc p.hc p.l p.db p.hs p.x p.y w
def tellP (p : PC) (r : RpC) : PC := if 40 <= p.hs.length then p else { p with hs := p.hs ++ [r] }
def ToldT (w w' : World) (e : Ending) (p : PC) (r : RpC) : Prop := ∃ v, e = .returned (.tuple #[v, .bool (decide (p.hs.length < 40))]) /\ NewQ w w' v (tellP p r) /\ Below w.heap.size w w'
end Go.Proofs.YtengolneibbdfaaGreat.Gen
