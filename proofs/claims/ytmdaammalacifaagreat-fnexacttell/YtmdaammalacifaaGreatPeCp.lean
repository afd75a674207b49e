/-
  The program's copy of a node, by what the copies of its parts tell. No condition but those.
-/
import Derived.Test.YtmdaammalacifaaGreatPeTo
set_option linter.unusedVariables false
set_option linter.unusedSimpArgs false
set_option maxRecDepth 100000
set_option maxHeartbeats 8000000
namespace Go.Proofs.YtmdaammalacifaaGreat.Gen
open ChangeShapes WideShapes ChangeAt RowKit Joins Deep Base
structure Mk2 (w W : World) (t : TypeId) (zs vs : Array Value) : Prop where
  bl : Below w.heap.size w W
  p1 : Blk W w.heap.size t vs
  p2 : Blk W (w.heap.size + 1) t zs
theorem Mk2.below {w W W' : World} {t : TypeId} {zs vs : Array Value} (m : Mk2 w W t zs vs) (g : Below W.heap.size W W') : Mk2 w W' t zs vs := ⟨via0 g m.bl, m.p1.below g m.p1.lt, m.p2.below g m.p2.lt⟩
theorem Mk2.set {w W : World} {t : TypeId} {zs vs : Array Value} (m : Mk2 w W t zs vs) (i : Nat) (v : Value) : Mk2 w (W.setCell ⟨w.heap.size, i, none⟩ v) t zs (vs.setIfInBounds i v) := ⟨Qal m.bl (Nat.le_refl _) v, m.p1.setAt i v, m.p2.other (by omega) i v⟩
def ToldP (w w' : World) (e : Ending) (p : PC) : Prop := ∃ (a1 : Option Addr) (c1 : Nat) (x' : KC) (a2 : Option Addr) (c2 : Nat) (a3 : Option Addr) (c3 : Nat) (a4 : Option Addr) (c4 : Nat) (y' : KC) (a6 : Option Addr) (c6 : Nat) (a7 : Option Addr) (c7 : Nat) (hs' : List RpC), e = .returned (.agg #[.int .i64 p.id, .int .i64 p.te, .int .i64 p.vo, .int .i64 p.base, .int .i64 p.bt, .slice a1 p.l.length c1, .slice x'.rA x'.rs.length x'.rc, .slice x'.mA x'.ms.length x'.mc, .slice x'.gA x'.gs.length x'.gc, .int .i64 x'.time, .slice x'.dA x'.ds.length x'.dc, .slice x'.lA x'.ls.length x'.lc, .int .i64 p.role, .slice a2 p.vs.length c2, .slice a3 p.ns.length c3, .slice a4 p.ps.length c4, .int .i64 p.com, .slice y'.rA y'.rs.length y'.rc, .slice y'.mA y'.ms.length y'.mc, .slice y'.gA y'.gs.length y'.gc, .int .i64 y'.time, .slice y'.dA y'.ds.length y'.dc, .slice y'.lA y'.ls.length y'.lc, .slice a6 p.db.length c6, .int .i64 p.su, .slice a7 p.hs.length c7]) /\ x'.p = p.x.p /\ y'.p = p.y.p /\ hs'.map RpC.p = p.hs.map RpC.p /\ hs'.length = p.hs.length /\ POwn w' ({ p with A := a1, cap := c1, x := x', vA := a2, vc := c2, nA := a3, nc := c3, pA := a4, pc := c4, y := y', dA := a6, dc := c6, hA := a7, hc := c7, hs := hs' } : PC) (fun z => w.heap.size <= z /\ z < w'.heap.size) /\ Below w.heap.size w w'
theorem Qd7 (p : PC) (w : World)
 (H1 : ∀ W : World, Below w.heap.size w W -> Calls Tryz.prog 73 #[.agg #[.int .i64 p.te, .int .i64 p.vo, .int .i64 p.base, .int .i64 p.bt, .slice p.A p.l.length p.cap, .slice p.x.rA p.x.rs.length p.x.rc, .slice p.x.mA p.x.ms.length p.x.mc, .slice p.x.gA p.x.gs.length p.x.gc, .int .i64 p.x.time, .slice p.x.dA p.x.ds.length p.x.dc, .slice p.x.lA p.x.ls.length p.x.lc]] W fun e w' => ∃ (a1 : Option Addr) (c1 : Nat) (x' : KC) (cc : Nat -> Bool), e = .returned (.agg #[.int .i64 p.te, .int .i64 p.vo, .int .i64 p.base, .int .i64 p.bt, .slice a1 p.l.length c1, .slice x'.rA x'.rs.length x'.rc, .slice x'.mA x'.ms.length x'.mc, .slice x'.gA x'.gs.length x'.gc, .int .i64 x'.time, .slice x'.dA x'.ds.length x'.dc, .slice x'.lA x'.ls.length x'.lc]) /\ Below W.heap.size W w' /\ x'.p = p.x.p /\ Sub w' a1 p.l (fun z => (W.heap.size <= z /\ z < w'.heap.size) /\ cc z = true) /\ KOwn w' x' (fun z => (W.heap.size <= z /\ z < w'.heap.size) /\ cc z = false))
 (H2 : ∀ W : World, Below w.heap.size w W -> Calls Tryz.prog 74 #[.slice p.vA p.vs.length p.vc] W fun e w' => ∃ (a : Option Addr) (c : Nat), e = .returned (.slice a p.vs.length c) /\ Below W.heap.size W w' /\ Sub w' a p.vs (fun z => W.heap.size <= z /\ z < w'.heap.size))
 (H3 : ∀ W : World, Below w.heap.size w W -> Calls Tryz.prog 75 #[.slice p.nA p.ns.length p.nc] W fun e w' => ∃ (a : Option Addr) (c : Nat), e = .returned (.slice a p.ns.length c) /\ Below W.heap.size W w' /\ Sub w' a p.ns (fun z => W.heap.size <= z /\ z < w'.heap.size))
 (H4 : ∀ W : World, Below w.heap.size w W -> Calls Tryz.prog 75 #[.slice p.pA p.ps.length p.pc] W fun e w' => ∃ (a : Option Addr) (c : Nat), e = .returned (.slice a p.ps.length c) /\ Below W.heap.size W w' /\ Sub w' a p.ps (fun z => W.heap.size <= z /\ z < w'.heap.size))
 (H5 : ∀ W : World, Below w.heap.size w W -> Calls Tryz.prog 76 #[.agg #[.slice p.y.rA p.y.rs.length p.y.rc, .slice p.y.mA p.y.ms.length p.y.mc, .slice p.y.gA p.y.gs.length p.y.gc, .int .i64 p.y.time, .slice p.y.dA p.y.ds.length p.y.dc, .slice p.y.lA p.y.ls.length p.y.lc]] W fun e w' => ∃ y' : KC, e = .returned (.agg #[.slice y'.rA y'.rs.length y'.rc, .slice y'.mA y'.ms.length y'.mc, .slice y'.gA y'.gs.length y'.gc, .int .i64 y'.time, .slice y'.dA y'.ds.length y'.dc, .slice y'.lA y'.ls.length y'.lc]) /\ Below W.heap.size W w' /\ y'.p = p.y.p /\ KOwn w' y' (fun z => W.heap.size <= z /\ z < w'.heap.size))
 (H6 : ∀ W : World, Below w.heap.size w W -> Calls Tryz.prog 77 #[.agg #[.slice p.dA p.db.length p.dc, .int .i64 p.su]] W fun e w' => ∃ (a : Option Addr) (c : Nat), e = .returned (.agg #[.slice a p.db.length c, .int .i64 p.su]) /\ Below W.heap.size W w' /\ Sub w' a p.db (fun z => W.heap.size <= z /\ z < w'.heap.size))
 (H7 : ∀ W : World, Below w.heap.size w W -> Calls Tryz.prog 78 #[.slice p.hA p.hs.length p.hc] W fun e w' => ∃ (a : Option Addr) (c : Nat) (hs' : List RpC), e = .returned (.slice a p.hs.length c) /\ Below W.heap.size W w' /\ hs'.map RpC.p = p.hs.map RpC.p /\ Own rpcP w' a hs' (fun z => W.heap.size <= z /\ z < w'.heap.size)) :
 Calls Tryz.prog 32 #[.agg #[.int .i64 p.id, .int .i64 p.te, .int .i64 p.vo, .int .i64 p.base, .int .i64 p.bt, .slice p.A p.l.length p.cap, .slice p.x.rA p.x.rs.length p.x.rc, .slice p.x.mA p.x.ms.length p.x.mc, .slice p.x.gA p.x.gs.length p.x.gc, .int .i64 p.x.time, .slice p.x.dA p.x.ds.length p.x.dc, .slice p.x.lA p.x.ls.length p.x.lc, .int .i64 p.role, .slice p.vA p.vs.length p.vc, .slice p.nA p.ns.length p.nc, .slice p.pA p.ps.length p.pc, .int .i64 p.com, .slice p.y.rA p.y.rs.length p.y.rc, .slice p.y.mA p.y.ms.length p.y.mc, .slice p.y.gA p.y.gs.length p.y.gc, .int .i64 p.y.time, .slice p.y.dA p.y.ds.length p.y.dc, .slice p.y.lA p.y.ls.length p.y.lc, .slice p.dA p.db.length p.dc, .int .i64 p.su, .slice p.hA p.hs.length p.hc]] w fun e w' => ToldP w w' e p := by
 have C1 := hidP H1
 have C2 := hidP H2
 have C3 := hidP H3
 have C4 := hidP H4
 have C5 := hidP H5
 have C6 := hidP H6
 have C7 := hidP H7
 clear H1 H2 H3 H4 H5 H6 H7
 have HM : Hid (Mk2 w ((w.alloc (.cells #[.int .i64 p.id, .int .i64 p.te, .int .i64 p.vo, .int .i64 p.base, .int .i64 p.bt, .slice p.A p.l.length p.cap, .slice p.x.rA p.x.rs.length p.x.rc, .slice p.x.mA p.x.ms.length p.x.mc, .slice p.x.gA p.x.gs.length p.x.gc, .int .i64 p.x.time, .slice p.x.dA p.x.ds.length p.x.dc, .slice p.x.lA p.x.ls.length p.x.lc, .int .i64 p.role, .slice p.vA p.vs.length p.vc, .slice p.nA p.ns.length p.nc, .slice p.pA p.ps.length p.pc, .int .i64 p.com, .slice p.y.rA p.y.rs.length p.y.rc, .slice p.y.mA p.y.ms.length p.y.mc, .slice p.y.gA p.y.gs.length p.y.gc, .int .i64 p.y.time, .slice p.y.dA p.y.ds.length p.y.dc, .slice p.y.lA p.y.ls.length p.y.lc, .slice p.dA p.db.length p.dc, .int .i64 p.su, .slice p.hA p.hs.length p.hc] 59)).alloc (.cells #[.int .i64 0, .int .i64 0, .int .i64 0, .int .i64 0, .int .i64 0, .slice none 0 0, .slice none 0 0, .slice none 0 0, .slice none 0 0, .int .i64 0, .slice none 0 0, .slice none 0 0, .int .i64 0, .slice none 0 0, .slice none 0 0, .slice none 0 0, .int .i64 0, .slice none 0 0, .slice none 0 0, .slice none 0 0, .int .i64 0, .slice none 0 0, .slice none 0 0, .slice none 0 0, .int .i64 0, .slice none 0 0] 59)) 59 #[.int .i64 0, .int .i64 0, .int .i64 0, .int .i64 0, .int .i64 0, .slice none 0 0, .slice none 0 0, .slice none 0 0, .slice none 0 0, .int .i64 0, .slice none 0 0, .slice none 0 0, .int .i64 0, .slice none 0 0, .slice none 0 0, .slice none 0 0, .int .i64 0, .slice none 0 0, .slice none 0 0, .slice none 0 0, .int .i64 0, .slice none 0 0, .slice none 0 0, .slice none 0 0, .int .i64 0, .slice none 0 0] #[.int .i64 p.id, .int .i64 p.te, .int .i64 p.vo, .int .i64 p.base, .int .i64 p.bt, .slice p.A p.l.length p.cap, .slice p.x.rA p.x.rs.length p.x.rc, .slice p.x.mA p.x.ms.length p.x.mc, .slice p.x.gA p.x.gs.length p.x.gc, .int .i64 p.x.time, .slice p.x.dA p.x.ds.length p.x.dc, .slice p.x.lA p.x.ls.length p.x.lc, .int .i64 p.role, .slice p.vA p.vs.length p.vc, .slice p.nA p.ns.length p.nc, .slice p.pA p.ps.length p.pc, .int .i64 p.com, .slice p.y.rA p.y.rs.length p.y.rc, .slice p.y.mA p.y.ms.length p.y.mc, .slice p.y.gA p.y.gs.length p.y.gc, .int .i64 p.y.time, .slice p.y.dA p.y.ds.length p.y.dc, .slice p.y.lA p.y.ls.length p.y.lc, .slice p.dA p.db.length p.dc, .int .i64 p.su, .slice p.hA p.hs.length p.hc]) := ⟨Qab (Qab (Below.refl _ _) _) _, (Blk.new w _ _).alloc _, by have := Blk.new (w.alloc (.cells #[.int .i64 p.id, .int .i64 p.te, .int .i64 p.vo, .int .i64 p.base, .int .i64 p.bt, .slice p.A p.l.length p.cap, .slice p.x.rA p.x.rs.length p.x.rc, .slice p.x.mA p.x.ms.length p.x.mc, .slice p.x.gA p.x.gs.length p.x.gc, .int .i64 p.x.time, .slice p.x.dA p.x.ds.length p.x.dc, .slice p.x.lA p.x.ls.length p.x.lc, .int .i64 p.role, .slice p.vA p.vs.length p.vc, .slice p.nA p.ns.length p.nc, .slice p.pA p.ps.length p.pc, .int .i64 p.com, .slice p.y.rA p.y.rs.length p.y.rc, .slice p.y.mA p.y.ms.length p.y.mc, .slice p.y.gA p.y.gs.length p.y.gc, .int .i64 p.y.time, .slice p.y.dA p.y.ds.length p.y.dc, .slice p.y.lA p.y.ls.length p.y.lc, .slice p.dA p.db.length p.dc, .int .i64 p.su, .slice p.hA p.hs.length p.hc] 59)) 59 #[.int .i64 0, .int .i64 0, .int .i64 0, .int .i64 0, .int .i64 0, .slice none 0 0, .slice none 0 0, .slice none 0 0, .slice none 0 0, .int .i64 0, .slice none 0 0, .slice none 0 0, .int .i64 0, .slice none 0 0, .slice none 0 0, .slice none 0 0, .int .i64 0, .slice none 0 0, .slice none 0 0, .slice none 0 0, .int .i64 0, .slice none 0 0, .slice none 0 0, .slice none 0 0, .int .i64 0, .slice none 0 0]; rwa [World.size_alloc] at this⟩
 go_enter Tryz.func32, Tryz.ntmps32
 have u1 := HM.out.p1.cell (i := 1) (v := .int .i64 p.te) rfl
 have u2 := HM.out.p1.cell (i := 2) (v := .int .i64 p.vo) rfl
 have u2s := HM.out.p1.cell (i := 1 + 1) (v := .int .i64 p.vo) rfl
 have u3 := HM.out.p1.cell (i := 3) (v := .int .i64 p.base) rfl
 have u3s := HM.out.p1.cell (i := 1 + 2) (v := .int .i64 p.base) rfl
 have u4 := HM.out.p1.cell (i := 4) (v := .int .i64 p.bt) rfl
 have u4s := HM.out.p1.cell (i := 1 + 3) (v := .int .i64 p.bt) rfl
 have u5 := HM.out.p1.cell (i := 5) (v := .slice p.A p.l.length p.cap) rfl
 have u5s := HM.out.p1.cell (i := 1 + 4) (v := .slice p.A p.l.length p.cap) rfl
 have u6 := HM.out.p1.cell (i := 6) (v := .slice p.x.rA p.x.rs.length p.x.rc) rfl
 have u6s := HM.out.p1.cell (i := 1 + 5) (v := .slice p.x.rA p.x.rs.length p.x.rc) rfl
 have u7 := HM.out.p1.cell (i := 7) (v := .slice p.x.mA p.x.ms.length p.x.mc) rfl
 have u7s := HM.out.p1.cell (i := 1 + 6) (v := .slice p.x.mA p.x.ms.length p.x.mc) rfl
 have u8 := HM.out.p1.cell (i := 8) (v := .slice p.x.gA p.x.gs.length p.x.gc) rfl
 have u8s := HM.out.p1.cell (i := 1 + 7) (v := .slice p.x.gA p.x.gs.length p.x.gc) rfl
 have u9 := HM.out.p1.cell (i := 9) (v := .int .i64 p.x.time) rfl
 have u9s := HM.out.p1.cell (i := 1 + 8) (v := .int .i64 p.x.time) rfl
 have u10 := HM.out.p1.cell (i := 10) (v := .slice p.x.dA p.x.ds.length p.x.dc) rfl
 have u10s := HM.out.p1.cell (i := 1 + 9) (v := .slice p.x.dA p.x.ds.length p.x.dc) rfl
 have u11 := HM.out.p1.cell (i := 11) (v := .slice p.x.lA p.x.ls.length p.x.lc) rfl
 have u11s := HM.out.p1.cell (i := 1 + 10) (v := .slice p.x.lA p.x.ls.length p.x.lc) rfl
 have q1 := HM.out.p1.lt
 have q2 := HM.out.p2.lt
 go_wp2_with fail
 refine (C1.out _ HM.out.bl).mono ?_
 rintro e w1 ⟨a1, c1, x', cc, rfl, g, hx1, F1, F1'⟩
 have z0 := HM.out.p2.lt
 have z1 := g.size
 replace HM := hidP (HM.out.below g)
 have G1 := hidP F1
 have G1' := hidP F1'
 have X1 := hidP hx1
 clear g F1 F1' hx1 q1 q2 u1 u2 u2s u3 u3s u4 u4s u5 u5s u6 u6s u7 u7s u8 u8s u9 u9s u10 u10s u11 u11s
 have v1 := HM.out.p1.cell (i := 1) (v := .int .i64 p.te) rfl
 have fv1 := HM.out.p1.thaw (1)
 have v2 := HM.out.p1.cell (i := 2) (v := .int .i64 p.vo) rfl
 have fv2 := HM.out.p1.thaw (2)
 have v2s := HM.out.p1.cell (i := 1 + 1) (v := .int .i64 p.vo) rfl
 have fv2s := HM.out.p1.thaw (1 + 1)
 have v3 := HM.out.p1.cell (i := 3) (v := .int .i64 p.base) rfl
 have fv3 := HM.out.p1.thaw (3)
 have v3s := HM.out.p1.cell (i := 1 + 2) (v := .int .i64 p.base) rfl
 have fv3s := HM.out.p1.thaw (1 + 2)
 have v4 := HM.out.p1.cell (i := 4) (v := .int .i64 p.bt) rfl
 have fv4 := HM.out.p1.thaw (4)
 have v4s := HM.out.p1.cell (i := 1 + 3) (v := .int .i64 p.bt) rfl
 have fv4s := HM.out.p1.thaw (1 + 3)
 have v5 := HM.out.p1.cell (i := 5) (v := .slice p.A p.l.length p.cap) rfl
 have fv5 := HM.out.p1.thaw (5)
 have v5s := HM.out.p1.cell (i := 1 + 4) (v := .slice p.A p.l.length p.cap) rfl
 have fv5s := HM.out.p1.thaw (1 + 4)
 have v6 := HM.out.p1.cell (i := 6) (v := .slice p.x.rA p.x.rs.length p.x.rc) rfl
 have fv6 := HM.out.p1.thaw (6)
 have v6s := HM.out.p1.cell (i := 1 + 5) (v := .slice p.x.rA p.x.rs.length p.x.rc) rfl
 have fv6s := HM.out.p1.thaw (1 + 5)
 have v7 := HM.out.p1.cell (i := 7) (v := .slice p.x.mA p.x.ms.length p.x.mc) rfl
 have fv7 := HM.out.p1.thaw (7)
 have v7s := HM.out.p1.cell (i := 1 + 6) (v := .slice p.x.mA p.x.ms.length p.x.mc) rfl
 have fv7s := HM.out.p1.thaw (1 + 6)
 have v8 := HM.out.p1.cell (i := 8) (v := .slice p.x.gA p.x.gs.length p.x.gc) rfl
 have fv8 := HM.out.p1.thaw (8)
 have v8s := HM.out.p1.cell (i := 1 + 7) (v := .slice p.x.gA p.x.gs.length p.x.gc) rfl
 have fv8s := HM.out.p1.thaw (1 + 7)
 have v9 := HM.out.p1.cell (i := 9) (v := .int .i64 p.x.time) rfl
 have fv9 := HM.out.p1.thaw (9)
 have v9s := HM.out.p1.cell (i := 1 + 8) (v := .int .i64 p.x.time) rfl
 have fv9s := HM.out.p1.thaw (1 + 8)
 have v10 := HM.out.p1.cell (i := 10) (v := .slice p.x.dA p.x.ds.length p.x.dc) rfl
 have fv10 := HM.out.p1.thaw (10)
 have v10s := HM.out.p1.cell (i := 1 + 9) (v := .slice p.x.dA p.x.ds.length p.x.dc) rfl
 have fv10s := HM.out.p1.thaw (1 + 9)
 have v11 := HM.out.p1.cell (i := 11) (v := .slice p.x.lA p.x.ls.length p.x.lc) rfl
 have fv11 := HM.out.p1.thaw (11)
 have v11s := HM.out.p1.cell (i := 1 + 10) (v := .slice p.x.lA p.x.ls.length p.x.lc) rfl
 have fv11s := HM.out.p1.thaw (1 + 10)
 have u13 := HM.out.p1.cell (i := 13) (v := .slice p.vA p.vs.length p.vc) rfl
 have q1 := HM.out.p1.lt
 have q2 := HM.out.p2.lt
 have M1 := (((((((((((HM.out.set 1 (.int .i64 p.te)).set 2 (.int .i64 p.vo)).set 3 (.int .i64 p.base)).set 4 (.int .i64 p.bt)).set 5 (.slice a1 p.l.length c1)).set 6 (.slice x'.rA x'.rs.length x'.rc)).set 7 (.slice x'.mA x'.ms.length x'.mc)).set 8 (.slice x'.gA x'.gs.length x'.gc)).set 9 (.int .i64 x'.time)).set 10 (.slice x'.dA x'.ds.length x'.dc)).set 11 (.slice x'.lA x'.ls.length x'.lc))
 simp only [List.setIfInBounds_toArray, List.set_cons_zero, List.set_cons_succ] at M1
 have HN := hidP M1
 have P1 := hidP (Offp.set (Offp.set (Offp.set (Offp.set (Offp.set (Offp.set (Offp.set (Offp.set (Offp.set (Offp.set (Offp.set (Offp.refl (fun z => z = w.heap.size ∨ z = w.heap.size + 1) w1) (Or.inl rfl) 1 (.int .i64 p.te)) (Or.inl rfl) 2 (.int .i64 p.vo)) (Or.inl rfl) 3 (.int .i64 p.base)) (Or.inl rfl) 4 (.int .i64 p.bt)) (Or.inl rfl) 5 (.slice a1 p.l.length c1)) (Or.inl rfl) 6 (.slice x'.rA x'.rs.length x'.rc)) (Or.inl rfl) 7 (.slice x'.mA x'.ms.length x'.mc)) (Or.inl rfl) 8 (.slice x'.gA x'.gs.length x'.gc)) (Or.inl rfl) 9 (.int .i64 x'.time)) (Or.inl rfl) 10 (.slice x'.dA x'.ds.length x'.dc)) (Or.inl rfl) 11 (.slice x'.lA x'.ls.length x'.lc))
 clear M1 HM
 go_wp2_with fail
 refine (C2.out _ HN.out.bl).mono ?_
 rintro e w2 ⟨a2, c2, rfl, g, F2⟩
 have z2 : w1.heap.size <= w2.heap.size := by have h9 := g.size; simpa using h9
 try simp only [World.size_setCell] at F2
 have HM := hidP (HN.out.below g)
 replace P1 := hidP (P1.out.trans (Offp.of_below g))
 have G2 := hidP F2
 clear g F2 HN q1 q2 v1 fv1 v2 fv2 v2s fv2s v3 fv3 v3s fv3s v4 fv4 v4s fv4s v5 fv5 v5s fv5s v6 fv6 v6s fv6s v7 fv7 v7s fv7s v8 fv8 v8s fv8s v9 fv9 v9s fv9s v10 fv10 v10s fv10s v11 fv11 v11s fv11s u13
 have v13 := HM.out.p1.cell (i := 13) (v := .slice p.vA p.vs.length p.vc) rfl
 have fv13 := HM.out.p1.thaw (13)
 have u14 := HM.out.p1.cell (i := 14) (v := .slice p.nA p.ns.length p.nc) rfl
 have q1 := HM.out.p1.lt
 have q2 := HM.out.p2.lt
 have M2 := (HM.out.set 13 (.slice a2 p.vs.length c2))
 simp only [List.setIfInBounds_toArray, List.set_cons_zero, List.set_cons_succ] at M2
 have HN := hidP M2
 have P2 := hidP (Offp.set (Offp.refl (fun z => z = w.heap.size ∨ z = w.heap.size + 1) w2) (Or.inl rfl) 13 (.slice a2 p.vs.length c2))
 clear M2 HM
 go_wp2_with fail
 refine (C3.out _ HN.out.bl).mono ?_
 rintro e w3 ⟨a3, c3, rfl, g, F3⟩
 have z3 : w2.heap.size <= w3.heap.size := by have h9 := g.size; simpa using h9
 try simp only [World.size_setCell] at F3
 have HM := hidP (HN.out.below g)
 replace P2 := hidP (P2.out.trans (Offp.of_below g))
 have G3 := hidP F3
 clear g F3 HN q1 q2 v13 fv13 u14
 have v14 := HM.out.p1.cell (i := 14) (v := .slice p.nA p.ns.length p.nc) rfl
 have fv14 := HM.out.p1.thaw (14)
 have u15 := HM.out.p1.cell (i := 15) (v := .slice p.pA p.ps.length p.pc) rfl
 have q1 := HM.out.p1.lt
 have q2 := HM.out.p2.lt
 have M3 := (HM.out.set 14 (.slice a3 p.ns.length c3))
 simp only [List.setIfInBounds_toArray, List.set_cons_zero, List.set_cons_succ] at M3
 have HN := hidP M3
 have P3 := hidP (Offp.set (Offp.refl (fun z => z = w.heap.size ∨ z = w.heap.size + 1) w3) (Or.inl rfl) 14 (.slice a3 p.ns.length c3))
 clear M3 HM
 go_wp2_with fail
 refine (C4.out _ HN.out.bl).mono ?_
 rintro e w4 ⟨a4, c4, rfl, g, F4⟩
 have z4 : w3.heap.size <= w4.heap.size := by have h9 := g.size; simpa using h9
 try simp only [World.size_setCell] at F4
 have HM := hidP (HN.out.below g)
 replace P3 := hidP (P3.out.trans (Offp.of_below g))
 have G4 := hidP F4
 clear g F4 HN q1 q2 v14 fv14 u15
 have v15 := HM.out.p1.cell (i := 15) (v := .slice p.pA p.ps.length p.pc) rfl
 have fv15 := HM.out.p1.thaw (15)
 have u17 := HM.out.p1.cell (i := 17) (v := .slice p.y.rA p.y.rs.length p.y.rc) rfl
 have u18 := HM.out.p1.cell (i := 18) (v := .slice p.y.mA p.y.ms.length p.y.mc) rfl
 have u18s := HM.out.p1.cell (i := 17 + 1) (v := .slice p.y.mA p.y.ms.length p.y.mc) rfl
 have u19 := HM.out.p1.cell (i := 19) (v := .slice p.y.gA p.y.gs.length p.y.gc) rfl
 have u19s := HM.out.p1.cell (i := 17 + 2) (v := .slice p.y.gA p.y.gs.length p.y.gc) rfl
 have u20 := HM.out.p1.cell (i := 20) (v := .int .i64 p.y.time) rfl
 have u20s := HM.out.p1.cell (i := 17 + 3) (v := .int .i64 p.y.time) rfl
 have u21 := HM.out.p1.cell (i := 21) (v := .slice p.y.dA p.y.ds.length p.y.dc) rfl
 have u21s := HM.out.p1.cell (i := 17 + 4) (v := .slice p.y.dA p.y.ds.length p.y.dc) rfl
 have u22 := HM.out.p1.cell (i := 22) (v := .slice p.y.lA p.y.ls.length p.y.lc) rfl
 have u22s := HM.out.p1.cell (i := 17 + 5) (v := .slice p.y.lA p.y.ls.length p.y.lc) rfl
 have q1 := HM.out.p1.lt
 have q2 := HM.out.p2.lt
 have M4 := (HM.out.set 15 (.slice a4 p.ps.length c4))
 simp only [List.setIfInBounds_toArray, List.set_cons_zero, List.set_cons_succ] at M4
 have HN := hidP M4
 have P4 := hidP (Offp.set (Offp.refl (fun z => z = w.heap.size ∨ z = w.heap.size + 1) w4) (Or.inl rfl) 15 (.slice a4 p.ps.length c4))
 clear M4 HM
 go_wp2_with fail
 refine (C5.out _ HN.out.bl).mono ?_
 rintro e w5 ⟨y', rfl, g, hx5, F5⟩
 have z5 : w4.heap.size <= w5.heap.size := by have h9 := g.size; simpa using h9
 try simp only [World.size_setCell] at F5
 have HM := hidP (HN.out.below g)
 replace P4 := hidP (P4.out.trans (Offp.of_below g))
 have G5 := hidP F5
 have X5 := hidP hx5
 clear hx5
 clear g F5 HN q1 q2 v15 fv15 u17 u18 u18s u19 u19s u20 u20s u21 u21s u22 u22s
 have v17 := HM.out.p1.cell (i := 17) (v := .slice p.y.rA p.y.rs.length p.y.rc) rfl
 have fv17 := HM.out.p1.thaw (17)
 have v18 := HM.out.p1.cell (i := 18) (v := .slice p.y.mA p.y.ms.length p.y.mc) rfl
 have fv18 := HM.out.p1.thaw (18)
 have v18s := HM.out.p1.cell (i := 17 + 1) (v := .slice p.y.mA p.y.ms.length p.y.mc) rfl
 have fv18s := HM.out.p1.thaw (17 + 1)
 have v19 := HM.out.p1.cell (i := 19) (v := .slice p.y.gA p.y.gs.length p.y.gc) rfl
 have fv19 := HM.out.p1.thaw (19)
 have v19s := HM.out.p1.cell (i := 17 + 2) (v := .slice p.y.gA p.y.gs.length p.y.gc) rfl
 have fv19s := HM.out.p1.thaw (17 + 2)
 have v20 := HM.out.p1.cell (i := 20) (v := .int .i64 p.y.time) rfl
 have fv20 := HM.out.p1.thaw (20)
 have v20s := HM.out.p1.cell (i := 17 + 3) (v := .int .i64 p.y.time) rfl
 have fv20s := HM.out.p1.thaw (17 + 3)
 have v21 := HM.out.p1.cell (i := 21) (v := .slice p.y.dA p.y.ds.length p.y.dc) rfl
 have fv21 := HM.out.p1.thaw (21)
 have v21s := HM.out.p1.cell (i := 17 + 4) (v := .slice p.y.dA p.y.ds.length p.y.dc) rfl
 have fv21s := HM.out.p1.thaw (17 + 4)
 have v22 := HM.out.p1.cell (i := 22) (v := .slice p.y.lA p.y.ls.length p.y.lc) rfl
 have fv22 := HM.out.p1.thaw (22)
 have v22s := HM.out.p1.cell (i := 17 + 5) (v := .slice p.y.lA p.y.ls.length p.y.lc) rfl
 have fv22s := HM.out.p1.thaw (17 + 5)
 have u23 := HM.out.p1.cell (i := 23) (v := .slice p.dA p.db.length p.dc) rfl
 have u24 := HM.out.p1.cell (i := 24) (v := .int .i64 p.su) rfl
 have u24s := HM.out.p1.cell (i := 23 + 1) (v := .int .i64 p.su) rfl
 have q1 := HM.out.p1.lt
 have q2 := HM.out.p2.lt
 have M5 := ((((((HM.out.set 17 (.slice y'.rA y'.rs.length y'.rc)).set 18 (.slice y'.mA y'.ms.length y'.mc)).set 19 (.slice y'.gA y'.gs.length y'.gc)).set 20 (.int .i64 y'.time)).set 21 (.slice y'.dA y'.ds.length y'.dc)).set 22 (.slice y'.lA y'.ls.length y'.lc))
 simp only [List.setIfInBounds_toArray, List.set_cons_zero, List.set_cons_succ] at M5
 have HN := hidP M5
 have P5 := hidP (Offp.set (Offp.set (Offp.set (Offp.set (Offp.set (Offp.set (Offp.refl (fun z => z = w.heap.size ∨ z = w.heap.size + 1) w5) (Or.inl rfl) 17 (.slice y'.rA y'.rs.length y'.rc)) (Or.inl rfl) 18 (.slice y'.mA y'.ms.length y'.mc)) (Or.inl rfl) 19 (.slice y'.gA y'.gs.length y'.gc)) (Or.inl rfl) 20 (.int .i64 y'.time)) (Or.inl rfl) 21 (.slice y'.dA y'.ds.length y'.dc)) (Or.inl rfl) 22 (.slice y'.lA y'.ls.length y'.lc))
 clear M5 HM
 go_wp2_with fail
 refine (C6.out _ HN.out.bl).mono ?_
 rintro e w6 ⟨a6, c6, rfl, g, F6⟩
 have z6 : w5.heap.size <= w6.heap.size := by have h9 := g.size; simpa using h9
 try simp only [World.size_setCell] at F6
 have HM := hidP (HN.out.below g)
 replace P5 := hidP (P5.out.trans (Offp.of_below g))
 have G6 := hidP F6
 clear g F6 HN q1 q2 v17 fv17 v18 fv18 v18s fv18s v19 fv19 v19s fv19s v20 fv20 v20s fv20s v21 fv21 v21s fv21s v22 fv22 v22s fv22s u23 u24 u24s
 have v23 := HM.out.p1.cell (i := 23) (v := .slice p.dA p.db.length p.dc) rfl
 have fv23 := HM.out.p1.thaw (23)
 have v24 := HM.out.p1.cell (i := 24) (v := .int .i64 p.su) rfl
 have fv24 := HM.out.p1.thaw (24)
 have v24s := HM.out.p1.cell (i := 23 + 1) (v := .int .i64 p.su) rfl
 have fv24s := HM.out.p1.thaw (23 + 1)
 have u25 := HM.out.p1.cell (i := 25) (v := .slice p.hA p.hs.length p.hc) rfl
 have q1 := HM.out.p1.lt
 have q2 := HM.out.p2.lt
 have M6 := ((HM.out.set 23 (.slice a6 p.db.length c6)).set 24 (.int .i64 p.su))
 simp only [List.setIfInBounds_toArray, List.set_cons_zero, List.set_cons_succ] at M6
 have HN := hidP M6
 have P6 := hidP (Offp.set (Offp.set (Offp.refl (fun z => z = w.heap.size ∨ z = w.heap.size + 1) w6) (Or.inl rfl) 23 (.slice a6 p.db.length c6)) (Or.inl rfl) 24 (.int .i64 p.su))
 clear M6 HM
 go_wp2_with fail
 refine (C7.out _ HN.out.bl).mono ?_
 rintro e w7 ⟨a7, c7, hs', rfl, g, hx7, F7⟩
 have z7 : w6.heap.size <= w7.heap.size := by have h9 := g.size; simpa using h9
 try simp only [World.size_setCell] at F7
 have HM := hidP (HN.out.below g)
 replace P6 := hidP (P6.out.trans (Offp.of_below g))
 have G7 := hidP F7
 have X7 := hidP hx7
 clear hx7
 clear g F7 HN q1 q2 v23 fv23 v24 fv24 v24s fv24s u25
 have v25 := HM.out.p1.cell (i := 25) (v := .slice p.hA p.hs.length p.hc) rfl
 have fv25 := HM.out.p1.thaw (25)
 have q1 := HM.out.p1.lt
 have q2 := HM.out.p2.lt
 have M7 := HM.out.set 25 (.slice a7 p.hs.length c7)
 simp only [List.setIfInBounds_toArray, List.set_cons_zero, List.set_cons_succ] at M7
 have HN := hidP M7
 clear M7
 have OO : Hid (∀ V : World, Offp (fun z => z = w.heap.size ∨ z = w.heap.size + 1) w7 V -> ToldP w V (.returned (.agg #[.int .i64 p.id, .int .i64 p.te, .int .i64 p.vo, .int .i64 p.base, .int .i64 p.bt, .slice a1 p.l.length c1, .slice x'.rA x'.rs.length x'.rc, .slice x'.mA x'.ms.length x'.mc, .slice x'.gA x'.gs.length x'.gc, .int .i64 x'.time, .slice x'.dA x'.ds.length x'.dc, .slice x'.lA x'.ls.length x'.lc, .int .i64 p.role, .slice a2 p.vs.length c2, .slice a3 p.ns.length c3, .slice a4 p.ps.length c4, .int .i64 p.com, .slice y'.rA y'.rs.length y'.rc, .slice y'.mA y'.ms.length y'.mc, .slice y'.gA y'.gs.length y'.gc, .int .i64 y'.time, .slice y'.dA y'.ds.length y'.dc, .slice y'.lA y'.ls.length y'.lc, .slice a6 p.db.length c6, .int .i64 p.su, .slice a7 p.hs.length c7])) p) := by
  intro V o
  have o6 := P6.out.trans o
  have o5 := P5.out.trans o6
  have o4 := P4.out.trans o5
  have o3 := P3.out.trans o4
  have o2 := P2.out.trans o3
  have o1 := P1.out.trans o2
  have hV := o.size
  have dj : ∀ {lo hi : Nat} (z : Nat), w.heap.size + 1 < lo -> (lo <= z /\ z < hi) -> ¬ (z = w.heap.size ∨ z = w.heap.size + 1) := fun z h1 h2 h3 => by omega
  have hw : w.heap.size + 1 < w1.heap.size := by omega
  refine ⟨a1, c1, x', a2, c2, a3, c3, a4, c4, y', a6, c6, a7, c7, hs', rfl, X1.out, X5.out, X7.out, by have := congrArg List.length X7.out; simpa using this, ⟨fun b => if b < w1.heap.size then (if cc b = true then 1 else 2) else if b < w2.heap.size then 3 else if b < w3.heap.size then 4 else if b < w4.heap.size then 5 else if b < w5.heap.size then 6 else if b < w6.heap.size then 7 else 8, ?_, ?_, ?_, ?_, ?_, ?_, ?_, ?_⟩, HM.out.bl.trans (o.toBelow (fun z hz => by omega) HM.out.bl.size)⟩
  . exact (G1.out.offp o1 (fun z hz => dj z z0 hz.1)).mono (fun z hz => by have h1 := hz.1.1; have h2 := hz.1.2; have h3 := hz.2; exact ⟨⟨by omega, by omega⟩, by simp [h2, h3]⟩)
  . exact (G1'.out.offp o1 (fun z hz => dj z z0 hz.1)).mono (fun z hz => by have h1 := hz.1.1; have h2 := hz.1.2; have h3 := hz.2; exact ⟨⟨by omega, by omega⟩, by simp [h2, h3]⟩)
  . exact (G2.out.offp o2 (fun z hz => dj z (by omega) hz)).mono (fun z hz => by have h1 := hz.1; have h2 := hz.2; exact ⟨⟨by omega, by omega⟩, by (repeat' split)<;>first | rfl | omega⟩)
  . exact (G3.out.offp o3 (fun z hz => dj z (by omega) hz)).mono (fun z hz => by have h1 := hz.1; have h2 := hz.2; exact ⟨⟨by omega, by omega⟩, by (repeat' split)<;>first | rfl | omega⟩)
  . exact (G4.out.offp o4 (fun z hz => dj z (by omega) hz)).mono (fun z hz => by have h1 := hz.1; have h2 := hz.2; exact ⟨⟨by omega, by omega⟩, by (repeat' split)<;>first | rfl | omega⟩)
  . exact (G5.out.offp o5 (fun z hz => dj z (by omega) hz)).mono (fun z hz => by have h1 := hz.1; have h2 := hz.2; exact ⟨⟨by omega, by omega⟩, by (repeat' split)<;>first | rfl | omega⟩)
  . exact (G6.out.offp o6 (fun z hz => dj z (by omega) hz)).mono (fun z hz => by have h1 := hz.1; have h2 := hz.2; exact ⟨⟨by omega, by omega⟩, by (repeat' split)<;>first | rfl | omega⟩)
  . exact (G7.out.offp Qan o (fun z hz => dj z (by omega) hz)).mono (fun z hz => by have h1 := hz.1; have h2 := hz.2; exact ⟨⟨by omega, by omega⟩, by (repeat' split)<;>first | rfl | omega⟩)
 have PP := hidP (show Offp (fun z => z = w.heap.size ∨ z = w.heap.size + 1) w7 ((w7.setCell ⟨w.heap.size, 25, none⟩ (.slice a7 p.hs.length c7)).setRow (w.heap.size + 1) #[.int .i64 p.id, .int .i64 p.te, .int .i64 p.vo, .int .i64 p.base, .int .i64 p.bt, .slice a1 p.l.length c1, .slice x'.rA x'.rs.length x'.rc, .slice x'.mA x'.ms.length x'.mc, .slice x'.gA x'.gs.length x'.gc, .int .i64 x'.time, .slice x'.dA x'.ds.length x'.dc, .slice x'.lA x'.ls.length x'.lc, .int .i64 p.role, .slice a2 p.vs.length c2, .slice a3 p.ns.length c3, .slice a4 p.ps.length c4, .int .i64 p.com, .slice y'.rA y'.rs.length y'.rc, .slice y'.mA y'.ms.length y'.mc, .slice y'.gA y'.gs.length y'.gc, .int .i64 y'.time, .slice y'.dA y'.ds.length y'.dc, .slice y'.lA y'.ls.length y'.lc, .slice a6 p.db.length c6, .int .i64 p.su, .slice a7 p.hs.length c7]) from ((Offp.refl _ w7).set (Or.inl rfl) 25 _).row (Or.inr rfl) _)
 clear HM P1 P2 P3 P4 P5 P6 G1 G1' G2 G3 G4 G5 G6 G7 X1 X5 X7 C1 C2 C3 C4 C5 C6 C7
 go_upto_region 8 with fail
 refine wp_region_lit ?_
 refine Qag rfl 59 _ rfl (b := w.heap.size) rfl HN.out.p1 Tryz.underlying59 (by kernel_rfl) ?_
 refine Qam rfl 59 _ _ rfl (g := w.heap.size + 1) (cells := #[.int .i64 p.id, .int .i64 p.te, .int .i64 p.vo, .int .i64 p.base, .int .i64 p.bt, .slice a1 p.l.length c1, .slice x'.rA x'.rs.length x'.rc, .slice x'.mA x'.ms.length x'.mc, .slice x'.gA x'.gs.length x'.gc, .int .i64 x'.time, .slice x'.dA x'.ds.length x'.dc, .slice x'.lA x'.ls.length x'.lc, .int .i64 p.role, .slice a2 p.vs.length c2, .slice a3 p.ns.length c3, .slice a4 p.ps.length c4, .int .i64 p.com, .slice y'.rA y'.rs.length y'.rc, .slice y'.mA y'.ms.length y'.mc, .slice y'.gA y'.gs.length y'.gc, .int .i64 y'.time, .slice y'.dA y'.ds.length y'.dc, .slice y'.lA y'.ls.length y'.lc, .slice a6 p.db.length c6, .int .i64 p.su, .slice a7 p.hs.length c7]) rfl rfl HN.out.p2 (by kernel_rfl) rfl (by simp [Value.oneCell']) ?_
 refine wpList_nil ?_
 have HB := hidP (HN.out.p2.row #[.int .i64 p.id, .int .i64 p.te, .int .i64 p.vo, .int .i64 p.base, .int .i64 p.bt, .slice a1 p.l.length c1, .slice x'.rA x'.rs.length x'.rc, .slice x'.mA x'.ms.length x'.mc, .slice x'.gA x'.gs.length x'.gc, .int .i64 x'.time, .slice x'.dA x'.ds.length x'.dc, .slice x'.lA x'.ls.length x'.lc, .int .i64 p.role, .slice a2 p.vs.length c2, .slice a3 p.ns.length c3, .slice a4 p.ps.length c4, .int .i64 p.com, .slice y'.rA y'.rs.length y'.rc, .slice y'.mA y'.ms.length y'.mc, .slice y'.gA y'.gs.length y'.gc, .int .i64 y'.time, .slice y'.dA y'.ds.length y'.dc, .slice y'.lA y'.ls.length y'.lc, .slice a6 p.db.length c6, .int .i64 p.su, .slice a7 p.hs.length c7])
 clear HN
 go_wp2
 exact bodyPost_ret (v := .agg #[.int .i64 p.id, .int .i64 p.te, .int .i64 p.vo, .int .i64 p.base, .int .i64 p.bt, .slice a1 p.l.length c1, .slice x'.rA x'.rs.length x'.rc, .slice x'.mA x'.ms.length x'.mc, .slice x'.gA x'.gs.length x'.gc, .int .i64 x'.time, .slice x'.dA x'.ds.length x'.dc, .slice x'.lA x'.ls.length x'.lc, .int .i64 p.role, .slice a2 p.vs.length c2, .slice a3 p.ns.length c3, .slice a4 p.ps.length c4, .int .i64 p.com, .slice y'.rA y'.rs.length y'.rc, .slice y'.mA y'.ms.length y'.mc, .slice y'.gA y'.gs.length y'.gc, .int .i64 y'.time, .slice y'.dA y'.ds.length y'.dc, .slice y'.lA y'.ls.length y'.lc, .slice a6 p.db.length c6, .int .i64 p.su, .slice a7 p.hs.length c7]) (Qbm (by rfl) rfl HB.out Tryz.underlying59 (by kernel_rfl)) rfl (OO.out _ PP.out)
end Go.Proofs.YtmdaammalacifaaGreat.Gen
