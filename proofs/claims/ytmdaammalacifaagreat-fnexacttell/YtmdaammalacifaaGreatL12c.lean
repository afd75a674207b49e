/-
  The specification's copy of a node. No condition but that it fits.
-/
import Derived.Test.YtmdaammalacifaaGreatLat
import Derived.Test.YtmdaammalacifaaGreatTellI
set_option linter.unusedVariables false
set_option linter.unusedSimpArgs false
set_option maxRecDepth 100000
set_option maxHeartbeats 8000000
namespace Go.Proofs.YtmdaammalacifaaGreat.Gen
open ChangeShapes WideShapes ChangeAt RowKit Joins Deep Base
theorem Qg3 (p : PC) (hf : PFit p) (w : World) (hp : PAt w p) :
 Calls Tryz.prog 22 #[.agg (Qaf p)] w fun e w' => ∃ v, e = .returned v /\ NewG w w' v p /\ Below w.heap.size w w' := by
 have HP := hidP hp
 have CH : Hid (∀ W : World, Below w.heap.size w W -> Calls Tryz.prog 62 #[.agg #[.int .i64 p.te, .int .i64 p.vo, .int .i64 p.base, .int .i64 p.bt, .slice p.A p.l.length p.cap, .slice p.x.rA p.x.rs.length p.x.rc, .slice p.x.mA p.x.ms.length p.x.mc, .slice p.x.gA p.x.gs.length p.x.gc, .int .i64 p.x.time, .slice p.x.dA p.x.ds.length p.x.dc, .slice p.x.lA p.x.ls.length p.x.lc]] W fun e w' => ∃ (a1 : Option Addr) (c1 : Nat) (x' : KC) (cc : Nat -> Bool), e = .returned (.agg #[.int .i64 p.te, .int .i64 p.vo, .int .i64 p.base, .int .i64 p.bt, .slice a1 p.l.length c1, .slice x'.rA x'.rs.length x'.rc, .slice x'.mA x'.ms.length x'.mc, .slice x'.gA x'.gs.length x'.gc, .int .i64 x'.time, .slice x'.dA x'.ds.length x'.dc, .slice x'.lA x'.ls.length x'.lc]) /\ Below W.heap.size W w' /\ x'.p = p.x.p /\ Sub w' a1 p.l (fun z => (W.heap.size <= z /\ z < w'.heap.size) /\ cc z = true) /\ KOwn w' x' (fun z => (W.heap.size <= z /\ z < w'.heap.size) /\ cc z = false)) := fun W g => Qg4 p.te p.vo p.base p.bt p.A p.cap p.l (by have := hf.ll; omega) p.x hf.xf.rl hf.xf.ml hf.xf.gl hf.xf.dl hf.xf.ll hf.xf.ri hf.xf.mi hf.xf.gi W (hp.la.below g) (hp.xa.below g)
 clear hp
 have I : Bx2 w ((w.alloc (.cells (Qaf p) 59)).alloc (.cells #[.int .i64 0, .int .i64 0, .int .i64 0, .int .i64 0, .int .i64 0, .slice none 0 0, .slice none 0 0, .slice none 0 0, .slice none 0 0, .int .i64 0, .slice none 0 0, .slice none 0 0, .int .i64 0, .slice none 0 0, .slice none 0 0, .slice none 0 0, .int .i64 0, .slice none 0 0, .slice none 0 0, .slice none 0 0, .int .i64 0, .slice none 0 0, .slice none 0 0, .slice none 0 0, .int .i64 0, .slice none 0 0] 59)) 59 #[.int .i64 0, .int .i64 0, .int .i64 0, .int .i64 0, .int .i64 0, .slice none 0 0, .slice none 0 0, .slice none 0 0, .slice none 0 0, .int .i64 0, .slice none 0 0, .slice none 0 0, .int .i64 0, .slice none 0 0, .slice none 0 0, .slice none 0 0, .int .i64 0, .slice none 0 0, .slice none 0 0, .slice none 0 0, .int .i64 0, .slice none 0 0, .slice none 0 0, .slice none 0 0, .int .i64 0, .slice none 0 0] (Qaf p) := ⟨Qab (Qab (Below.refl _ _) _) _, (Blk.new w _ _).alloc _, by have := Blk.new (w.alloc (.cells (Qaf p) 59)) 59 #[.int .i64 0, .int .i64 0, .int .i64 0, .int .i64 0, .int .i64 0, .slice none 0 0, .slice none 0 0, .slice none 0 0, .slice none 0 0, .int .i64 0, .slice none 0 0, .slice none 0 0, .int .i64 0, .slice none 0 0, .slice none 0 0, .slice none 0 0, .int .i64 0, .slice none 0 0, .slice none 0 0, .slice none 0 0, .int .i64 0, .slice none 0 0, .slice none 0 0, .slice none 0 0, .int .i64 0, .slice none 0 0]; rwa [World.size_alloc] at this⟩
 have MkS : Hid (∀ W : World, Blk W w.heap.size 59 (Qaf p) -> (fun (W : World) => W.cell? ⟨w.heap.size, 0, none⟩ = some (.int .i64 p.id) /\ W.cell? ⟨w.heap.size, 1, none⟩ = some (.int .i64 p.te) /\ W.cell? ⟨w.heap.size, 2, none⟩ = some (.int .i64 p.vo) /\ W.cell? ⟨w.heap.size, 3, none⟩ = some (.int .i64 p.base) /\ W.cell? ⟨w.heap.size, 4, none⟩ = some (.int .i64 p.bt) /\ W.cell? ⟨w.heap.size, 5, none⟩ = some (.slice p.A p.l.length p.cap) /\ W.cell? ⟨w.heap.size, 6, none⟩ = some (.slice p.x.rA p.x.rs.length p.x.rc) /\ W.cell? ⟨w.heap.size, 7, none⟩ = some (.slice p.x.mA p.x.ms.length p.x.mc) /\ W.cell? ⟨w.heap.size, 8, none⟩ = some (.slice p.x.gA p.x.gs.length p.x.gc) /\ W.cell? ⟨w.heap.size, 9, none⟩ = some (.int .i64 p.x.time) /\ W.cell? ⟨w.heap.size, 10, none⟩ = some (.slice p.x.dA p.x.ds.length p.x.dc) /\ W.cell? ⟨w.heap.size, 11, none⟩ = some (.slice p.x.lA p.x.ls.length p.x.lc) /\ W.cell? ⟨w.heap.size, 12, none⟩ = some (.int .i64 p.role) /\ W.cell? ⟨w.heap.size, 13, none⟩ = some (.slice p.vA p.vs.length p.vc) /\ W.cell? ⟨w.heap.size, 14, none⟩ = some (.slice p.nA p.ns.length p.nc) /\ W.cell? ⟨w.heap.size, 15, none⟩ = some (.slice p.pA p.ps.length p.pc) /\ W.cell? ⟨w.heap.size, 16, none⟩ = some (.int .i64 p.com) /\ W.cell? ⟨w.heap.size, 17, none⟩ = some (.slice p.y.rA p.y.rs.length p.y.rc) /\ W.cell? ⟨w.heap.size, 18, none⟩ = some (.slice p.y.mA p.y.ms.length p.y.mc) /\ W.cell? ⟨w.heap.size, 19, none⟩ = some (.slice p.y.gA p.y.gs.length p.y.gc) /\ W.cell? ⟨w.heap.size, 20, none⟩ = some (.int .i64 p.y.time) /\ W.cell? ⟨w.heap.size, 21, none⟩ = some (.slice p.y.dA p.y.ds.length p.y.dc) /\ W.cell? ⟨w.heap.size, 22, none⟩ = some (.slice p.y.lA p.y.ls.length p.y.lc) /\ W.cell? ⟨w.heap.size, 23, none⟩ = some (.slice p.dA p.db.length p.dc) /\ W.cell? ⟨w.heap.size, 24, none⟩ = some (.int .i64 p.su) /\ W.cell? ⟨w.heap.size, 25, none⟩ = some (.slice p.hA p.hs.length p.hc) /\ W.cell? ⟨w.heap.size, 1 + 1, none⟩ = some (.int .i64 p.vo) /\ W.cell? ⟨w.heap.size, 1 + 2, none⟩ = some (.int .i64 p.base) /\ W.cell? ⟨w.heap.size, 1 + 3, none⟩ = some (.int .i64 p.bt) /\ W.cell? ⟨w.heap.size, 1 + 4, none⟩ = some (.slice p.A p.l.length p.cap) /\ W.cell? ⟨w.heap.size, 1 + 5, none⟩ = some (.slice p.x.rA p.x.rs.length p.x.rc) /\ W.cell? ⟨w.heap.size, 1 + 6, none⟩ = some (.slice p.x.mA p.x.ms.length p.x.mc) /\ W.cell? ⟨w.heap.size, 1 + 7, none⟩ = some (.slice p.x.gA p.x.gs.length p.x.gc) /\ W.cell? ⟨w.heap.size, 1 + 8, none⟩ = some (.int .i64 p.x.time) /\ W.cell? ⟨w.heap.size, 1 + 9, none⟩ = some (.slice p.x.dA p.x.ds.length p.x.dc) /\ W.cell? ⟨w.heap.size, 1 + 10, none⟩ = some (.slice p.x.lA p.x.ls.length p.x.lc) /\ W.cell? ⟨w.heap.size, 17 + 1, none⟩ = some (.slice p.y.mA p.y.ms.length p.y.mc) /\ W.cell? ⟨w.heap.size, 17 + 2, none⟩ = some (.slice p.y.gA p.y.gs.length p.y.gc) /\ W.cell? ⟨w.heap.size, 17 + 3, none⟩ = some (.int .i64 p.y.time) /\ W.cell? ⟨w.heap.size, 17 + 4, none⟩ = some (.slice p.y.dA p.y.ds.length p.y.dc) /\ W.cell? ⟨w.heap.size, 17 + 5, none⟩ = some (.slice p.y.lA p.y.ls.length p.y.lc) /\ W.cell? ⟨w.heap.size, 23 + 1, none⟩ = some (.int .i64 p.su)) W) := hidP (fun W h => ⟨h.cell (i := 0) rfl, h.cell (i := 1) rfl, h.cell (i := 2) rfl, h.cell (i := 3) rfl, h.cell (i := 4) rfl, h.cell (i := 5) rfl, h.cell (i := 6) rfl, h.cell (i := 7) rfl, h.cell (i := 8) rfl, h.cell (i := 9) rfl, h.cell (i := 10) rfl, h.cell (i := 11) rfl, h.cell (i := 12) rfl, h.cell (i := 13) rfl, h.cell (i := 14) rfl, h.cell (i := 15) rfl, h.cell (i := 16) rfl, h.cell (i := 17) rfl, h.cell (i := 18) rfl, h.cell (i := 19) rfl, h.cell (i := 20) rfl, h.cell (i := 21) rfl, h.cell (i := 22) rfl, h.cell (i := 23) rfl, h.cell (i := 24) rfl, h.cell (i := 25) rfl, h.cell (i := 1 + 1) rfl, h.cell (i := 1 + 2) rfl, h.cell (i := 1 + 3) rfl, h.cell (i := 1 + 4) rfl, h.cell (i := 1 + 5) rfl, h.cell (i := 1 + 6) rfl, h.cell (i := 1 + 7) rfl, h.cell (i := 1 + 8) rfl, h.cell (i := 1 + 9) rfl, h.cell (i := 1 + 10) rfl, h.cell (i := 17 + 1) rfl, h.cell (i := 17 + 2) rfl, h.cell (i := 17 + 3) rfl, h.cell (i := 17 + 4) rfl, h.cell (i := 17 + 5) rfl, h.cell (i := 23 + 1) rfl⟩)
 go_enter Tryz.func22, Tryz.ntmps22
 go_upto_region 1 with fail
 have ZS : Hid ((#[.int .i64 0, .int .i64 0, .int .i64 0, .int .i64 0, .int .i64 0, .slice none 0 0, .slice none 0 0, .slice none 0 0, .slice none 0 0, .int .i64 0, .slice none 0 0, .slice none 0 0, .int .i64 0, .slice none 0 0, .slice none 0 0, .slice none 0 0, .int .i64 0, .slice none 0 0, .slice none 0 0, .slice none 0 0, .int .i64 0, .slice none 0 0, .slice none 0 0, .slice none 0 0, .int .i64 0, .slice none 0 0] : Array Value).size = 26) := hidP rfl
 generalize (w.alloc (.cells (Qaf p) 59)).alloc (.cells #[.int .i64 0, .int .i64 0, .int .i64 0, .int .i64 0, .int .i64 0, .slice none 0 0, .slice none 0 0, .slice none 0 0, .slice none 0 0, .int .i64 0, .slice none 0 0, .slice none 0 0, .int .i64 0, .slice none 0 0, .slice none 0 0, .slice none 0 0, .int .i64 0, .slice none 0 0, .slice none 0 0, .slice none 0 0, .int .i64 0, .slice none 0 0, .slice none 0 0, .slice none 0 0, .int .i64 0, .slice none 0 0] 59) = v0 at I ⊢
 generalize (#[.int .i64 0, .int .i64 0, .int .i64 0, .int .i64 0, .int .i64 0, .slice none 0 0, .slice none 0 0, .slice none 0 0, .slice none 0 0, .int .i64 0, .slice none 0 0, .slice none 0 0, .int .i64 0, .slice none 0 0, .slice none 0 0, .slice none 0 0, .int .i64 0, .slice none 0 0, .slice none 0 0, .slice none 0 0, .int .i64 0, .slice none 0 0, .slice none 0 0, .slice none 0 0, .int .i64 0, .slice none 0 0] : Array Value) = zs at I ZS ⊢
 have I0 := I.below (Below.refl _ _).drew
 clear I
 have I := I0
 clear I0
 refine wp_region_noPanic ?_
 refine wp_region_held_drew (S := fun (W : World) => W.cell? ⟨w.heap.size, 0, none⟩ = some (.int .i64 p.id) /\ W.cell? ⟨w.heap.size, 1, none⟩ = some (.int .i64 p.te) /\ W.cell? ⟨w.heap.size, 2, none⟩ = some (.int .i64 p.vo) /\ W.cell? ⟨w.heap.size, 3, none⟩ = some (.int .i64 p.base) /\ W.cell? ⟨w.heap.size, 4, none⟩ = some (.int .i64 p.bt) /\ W.cell? ⟨w.heap.size, 5, none⟩ = some (.slice p.A p.l.length p.cap) /\ W.cell? ⟨w.heap.size, 6, none⟩ = some (.slice p.x.rA p.x.rs.length p.x.rc) /\ W.cell? ⟨w.heap.size, 7, none⟩ = some (.slice p.x.mA p.x.ms.length p.x.mc) /\ W.cell? ⟨w.heap.size, 8, none⟩ = some (.slice p.x.gA p.x.gs.length p.x.gc) /\ W.cell? ⟨w.heap.size, 9, none⟩ = some (.int .i64 p.x.time) /\ W.cell? ⟨w.heap.size, 10, none⟩ = some (.slice p.x.dA p.x.ds.length p.x.dc) /\ W.cell? ⟨w.heap.size, 11, none⟩ = some (.slice p.x.lA p.x.ls.length p.x.lc) /\ W.cell? ⟨w.heap.size, 12, none⟩ = some (.int .i64 p.role) /\ W.cell? ⟨w.heap.size, 13, none⟩ = some (.slice p.vA p.vs.length p.vc) /\ W.cell? ⟨w.heap.size, 14, none⟩ = some (.slice p.nA p.ns.length p.nc) /\ W.cell? ⟨w.heap.size, 15, none⟩ = some (.slice p.pA p.ps.length p.pc) /\ W.cell? ⟨w.heap.size, 16, none⟩ = some (.int .i64 p.com) /\ W.cell? ⟨w.heap.size, 17, none⟩ = some (.slice p.y.rA p.y.rs.length p.y.rc) /\ W.cell? ⟨w.heap.size, 18, none⟩ = some (.slice p.y.mA p.y.ms.length p.y.mc) /\ W.cell? ⟨w.heap.size, 19, none⟩ = some (.slice p.y.gA p.y.gs.length p.y.gc) /\ W.cell? ⟨w.heap.size, 20, none⟩ = some (.int .i64 p.y.time) /\ W.cell? ⟨w.heap.size, 21, none⟩ = some (.slice p.y.dA p.y.ds.length p.y.dc) /\ W.cell? ⟨w.heap.size, 22, none⟩ = some (.slice p.y.lA p.y.ls.length p.y.lc) /\ W.cell? ⟨w.heap.size, 23, none⟩ = some (.slice p.dA p.db.length p.dc) /\ W.cell? ⟨w.heap.size, 24, none⟩ = some (.int .i64 p.su) /\ W.cell? ⟨w.heap.size, 25, none⟩ = some (.slice p.hA p.hs.length p.hc) /\ W.cell? ⟨w.heap.size, 1 + 1, none⟩ = some (.int .i64 p.vo) /\ W.cell? ⟨w.heap.size, 1 + 2, none⟩ = some (.int .i64 p.base) /\ W.cell? ⟨w.heap.size, 1 + 3, none⟩ = some (.int .i64 p.bt) /\ W.cell? ⟨w.heap.size, 1 + 4, none⟩ = some (.slice p.A p.l.length p.cap) /\ W.cell? ⟨w.heap.size, 1 + 5, none⟩ = some (.slice p.x.rA p.x.rs.length p.x.rc) /\ W.cell? ⟨w.heap.size, 1 + 6, none⟩ = some (.slice p.x.mA p.x.ms.length p.x.mc) /\ W.cell? ⟨w.heap.size, 1 + 7, none⟩ = some (.slice p.x.gA p.x.gs.length p.x.gc) /\ W.cell? ⟨w.heap.size, 1 + 8, none⟩ = some (.int .i64 p.x.time) /\ W.cell? ⟨w.heap.size, 1 + 9, none⟩ = some (.slice p.x.dA p.x.ds.length p.x.dc) /\ W.cell? ⟨w.heap.size, 1 + 10, none⟩ = some (.slice p.x.lA p.x.ls.length p.x.lc) /\ W.cell? ⟨w.heap.size, 17 + 1, none⟩ = some (.slice p.y.mA p.y.ms.length p.y.mc) /\ W.cell? ⟨w.heap.size, 17 + 2, none⟩ = some (.slice p.y.gA p.y.gs.length p.y.gc) /\ W.cell? ⟨w.heap.size, 17 + 3, none⟩ = some (.int .i64 p.y.time) /\ W.cell? ⟨w.heap.size, 17 + 4, none⟩ = some (.slice p.y.dA p.y.ds.length p.y.dc) /\ W.cell? ⟨w.heap.size, 17 + 5, none⟩ = some (.slice p.y.lA p.y.ls.length p.y.lc) /\ W.cell? ⟨w.heap.size, 23 + 1, none⟩ = some (.int .i64 p.su)) (by kernel_rfl) ?_ (fun hH => ?_)
 . exact MkS.out _ I.p1
 generalize v0.drew = u0 at *
 refine ztk [0, 1, 2, 3, 5, 6, 8, 9, 12, 13, 16, 17, 19, 20, 21, 22, 24, 25, 27, 28] ?_; repeat (refine ztn (h := ?_); try simp only [zX,zY])
 refine zte ?_
 have C := Cx.start (w := w) (W := u0) (by have := I.p2.lt; omega)
 refine any_meet 5 #[true, true, true, true, true, true, true, true, true, true, true, true, true, true, true, true, true, true, true, true, true, true, true, false, true, true, false, true, true, false, false, false] (fun a W => ∃ (a1 a2 a3 a4 : Option Addr) (c1 c2 c3 c4 : Nat) (x' : KC) (b1 b2 b3 : Nat) (col : Nat -> Nat), a = { tmps := #[.agg (Qaf p), .pointer (some ⟨w.heap.size, 0, none⟩), .pointer (some ⟨w.heap.size + 1, 0, none⟩), .pointer (some ⟨w.heap.size, 0, none⟩), .int .i64 p.id, .pointer (some ⟨w.heap.size, 1, none⟩), .agg #[.int .i64 p.te, .int .i64 p.vo, .int .i64 p.base, .int .i64 p.bt, .slice p.A p.l.length p.cap, .slice p.x.rA p.x.rs.length p.x.rc, .slice p.x.mA p.x.ms.length p.x.mc, .slice p.x.gA p.x.gs.length p.x.gc, .int .i64 p.x.time, .slice p.x.dA p.x.ds.length p.x.dc, .slice p.x.lA p.x.ls.length p.x.lc], .agg #[.int .i64 p.te, .int .i64 p.vo, .int .i64 p.base, .int .i64 p.bt, .slice a1 p.l.length c1, .slice x'.rA x'.rs.length x'.rc, .slice x'.mA x'.ms.length x'.mc, .slice x'.gA x'.gs.length x'.gc, .int .i64 x'.time, .slice x'.dA x'.ds.length x'.dc, .slice x'.lA x'.ls.length x'.lc], .pointer (some ⟨w.heap.size, 12, none⟩), .int .i64 p.role, .slice (some ⟨b1, 0, none⟩) 0 0, .pointer (some ⟨w.heap.size, 13, none⟩), .slice p.vA p.vs.length p.vc, .slice a2 p.vs.length c2, .slice (some ⟨b2, 0, none⟩) 0 0, .pointer (some ⟨w.heap.size, 14, none⟩), .slice p.nA p.ns.length p.nc, .slice a3 p.ns.length c3, .slice (some ⟨b3, 0, none⟩) 0 0, .pointer (some ⟨w.heap.size, 15, none⟩), .slice p.pA p.ps.length p.pc, .slice a4 p.ps.length c4, .pointer (some ⟨w.heap.size, 16, none⟩), .int .i64 p.com, .pointer (some ⟨w.heap.size, 17, none⟩), .agg #[.slice p.y.rA p.y.rs.length p.y.rc, .slice p.y.mA p.y.ms.length p.y.mc, .slice p.y.gA p.y.gs.length p.y.gc, .int .i64 p.y.time, .slice p.y.dA p.y.ds.length p.y.dc, .slice p.y.lA p.y.ls.length p.y.lc], undef, .pointer (some ⟨w.heap.size, 23, none⟩), .agg #[.slice p.dA p.db.length p.dc, .int .i64 p.su], undef, .pointer (some ⟨w.heap.size, 25, none⟩), .slice p.hA p.hs.length p.hc, undef, undef], defers := [] } /\ x'.p = p.x.p /\ Bx2 w W 59 zs (Qaf p) /\ w.heap.size + 2 <= W.heap.size /\ Sub W a1 p.l (Tg w W col 1) /\ KOwn W x' (Tg w W col 2) /\ Sub W a2 p.vs (Tg w W col 3) /\ Sub W a3 p.ns (Tg w W col 4) /\ Sub W a4 p.ps (Tg w W col 5)) ?_ (fun meet => ?_)
 . clear C I CH hH
   rintro a W ⟨a1, a2, a3, a4, c1, c2, c3, c4, x', b1, b2, b3, col, rfl, hx1, I, hw, s1, s2, s3, s4, s5⟩ hH
   have C := Cx.five (Qca a1 p.l) (fmK x') (Qca a2 p.vs) (Qca a3 p.ns) (Qca a4 p.ps) hw col s1 s2 s3 s4 s5
   clear s1 s2 s3 s4 s5 hw
   refine zR1 23 (fun K hK => ?_)
   simp only [zG]
   go_simp
   refine (Qd1 p.y.rA p.y.rc p.y.rs p.y.mA p.y.mc p.y.ms p.y.gA p.y.gc p.y.gs p.y.time p.y.dA p.y.dc p.y.ds p.y.lA p.y.lc p.y.ls hf.yf.rl hf.yf.ml hf.yf.gl hf.yf.dl hf.yf.ll hf.yf.ri hf.yf.mi hf.yf.gi _ (HP.out.ya.below I.bl)).mono ?_; rintro e w6 ⟨y', he, hy1, ho, g6⟩; simp only [KC.cells] at he; subst he; have C := C.fresh g6 6 (fmK y') ho; have I := I.below g6; clear ho g6
   refine hK.out _ _ (MkS.out _ I.p1) fun hH => ?_; clear hK K; try simp only [zX,zY]
   refine zR1 26 (fun K hK => ?_)
   simp only [zG]
   go_simp
   refine (Qg5 p.su p.dA p.dc p.db (by have := hf.dl; omega) _ (HP.out.da.below I.bl)).mono ?_; rintro e w7 ⟨a6, c6, rfl, o7, g7⟩; have C := C.fresh g7 7 (Qca a6 p.db) (Qbk o7); have I := I.below g7; clear o7 g7
   refine hK.out _ _ (MkS.out _ I.p1) fun hH => ?_; clear hK K; try simp only [zX,zY]
   refine zR1 29 (fun K hK => ?_)
   simp only [zG]
   go_simp
   refine (Qg2 p.hA p.hc p.hs hf.hl hf.hi _ (HP.out.ha.below I.bl) (HP.out.he.below I.bl)).mono ?_; rintro e w8 ⟨a7, c7, hs', rfl, g8, hh, o8⟩; have I := I.below g8; have U8 := hidP o8; have G8 := hidP g8; clear o8 g8
   refine hK.out _ _ (MkS.out _ I.p1) fun hH => ?_; clear hK K; try simp only [zX,zY]
   refine zt1 30 ?_; refine ztn (h := ?_); try simp only [zX,zY]
   refine zte ?_
   refine zR1 31 (fun K hK => ?_)
   simp only [zG]
   rw [if_pos (by rfl)]
   refine wp_store_row 59 _ _ rfl (w.heap.size + 1) (Qcr ({ p with A := a1, cap := c1, x := x', vA := a2, vc := c2, nA := a3, nc := c3, pA := a4, pc := c4, y := y', dA := a6, dc := c6, hA := a7, hc := c7, hs := hs' } : PC) (.slice a7 p.hs.length c7)) rfl rfl 59 zs I.p2 (by kernel_rfl) ZS.out (by simp [Qcr, Value.oneCell']) ?_
   refine hK.out _ _ (MkS.out _ (I.p1.otherRow (by omega) _)) (fun hH => ?_)
   clear hK K
   try simp only [zX,zY]
   refine zdn ?_
   have HB := hidP (I.p2.row (Qcr ({ p with A := a1, cap := c1, x := x', vA := a2, vc := c2, nA := a3, nc := c3, pA := a4, pc := c4, y := y', dA := a6, dc := c6, hA := a7, hc := c7, hs := hs' } : PC) (.slice a7 p.hs.length c7)))
   obtain ⟨fm, hw, col', co⟩ := C
   have hlen := Qb3 hh
   have PO := hidP ((show POwn w7 ({ ({ p with A := a1, cap := c1, x := x', vA := a2, vc := c2, nA := a3, nc := c3, pA := a4, pc := c4, y := y', dA := a6, dc := c6, hA := a7, hc := c7, hs := hs' } : PC) with hs := [] } : PC) (fun z => w.heap.size + 2 <= z /\ z < w7.heap.size) from ⟨col', co 1, co 2, co 3, co 4, co 5, co 6, co 7, .inl rfl⟩).below G8.out)
   have HW := hidP hw
   have HI := hidP I
   have HX1 := hidP hx1
   have HY1 := hidP hy1
   have HH := hidP hh
   have HLN := hidP hlen
   clear fm hw co I hx1 hy1 hh hlen hH
   go_wp2
   refine bodyPost_ret (v := .agg (Qcr ({ p with A := a1, cap := c1, x := x', vA := a2, vc := c2, nA := a3, nc := c3, pA := a4, pc := c4, y := y', dA := a6, dc := c6, hA := a7, hc := c7, hs := hs' } : PC) (.slice a7 p.hs.length c7))) (Qbm (fn := Tryz.f22) (p := 2) (by rfl) rfl HB.out Tryz.underlying59 (by kernel_rfl)) rfl ?_
   have k := (Offp.refl (fun z => z = w.heap.size + 1) w8).row (b := w.heap.size + 1) rfl (Qcr ({ p with A := a1, cap := c1, x := x', vA := a2, vc := c2, nA := a3, nc := c3, pA := a4, pc := c4, y := y', dA := a6, dc := c6, hA := a7, hc := c7, hs := hs' } : PC) (.slice a7 p.hs.length c7))
   have hk := k.size
   exact ⟨_, rfl, ⟨({ p with A := a1, cap := c1, x := x', vA := a2, vc := c2, nA := a3, nc := c3, pA := a4, pc := c4, y := y', dA := a6, dc := c6, hA := a7, hc := c7, hs := hs' } : PC), w7.heap.size, by rw [Qaf, Qbp, HLN.out], ⟨rfl, rfl, rfl, rfl, rfl, rfl, HX1.out, rfl, rfl, rfl, rfl, rfl, HY1.out, rfl, rfl, HH.out⟩, (PO.out.offp k (fun z hz e => by omega)).mono (fun z hz => ⟨by omega, hz.2⟩), by have := HW.out; omega, U8.out.offp Qan k (fun z e => by have := HW.out; omega)⟩, Qbx HI.out.bl (by omega) _⟩
 . have Meet := hidP meet
   clear meet ZS
   refine wpAnyH_ready (rs := [4, 7, 11, 15]) (by kernel_rfl) (by simp) (AllReadyH.cons rfl (fun K hK => ?_) (AllReadyH.cons rfl (fun K hK => ?_) (AllReadyH.cons rfl (fun K hK => ?_) (AllReadyH.cons rfl (fun K hK => ?_) AllReadyH.nil))))
   focus
    simp only [zG]
    go_simp
    refine (CH.out _ I.bl).mono ?_; rintro e w1 ⟨a1, c1, x', cc, rfl, g1, hx1, s1, s2⟩; have C := C.fresh2 g1 cc 1 2 (by decide) (Qca a1 p.l) (fmK x') s1 s2; have I := I.below g1; clear g1 s1 s2
    refine hK.out _ _ (MkS.out _ I.p1) fun hH => ?_; clear hK K; try simp only [zX,zY]
    refine zR3 7 11 15 (fun K hK => ?_) (fun K hK => ?_) (fun K hK => ?_)
    focus
     simp only [zG]
     go_simp
     have C := C.made 3 4 (g := w1.heap.size) rfl; have I := I.below (Qab (Below.refl _ _) (.cells #[] 4))
     refine hK.out _ _ (MkS.out _ I.p1) fun hH => ?_; clear hK K; try simp only [zX,zY]
     generalize World.alloc w1 (.cells #[] 4) = v7 at *
     refine zR3 10 11 15 (fun K hK => ?_) (fun K hK => ?_) (fun K hK => ?_)
     focus
      simp only [zG]
      obtain ⟨a2, c2, w2, hr, C', Kp⟩ := C.app (pg := Tryz.prog) (t := 4) Tryz.underlying34 Qak rfl (by decide) (by decide) 3 w1.heap.size rfl p.vA p.vc p.vs (HP.out.va.below I.bl) hf.vl; have C := C'; clear C'; rw [if_pos (by rfl)]; refine Qaa _ _ _ (by rfl) _ _ _ (by rfl) (by rfl) hr ?_; have I := Kp _ _ _ I; clear hr Kp
      refine hK.out _ _ (MkS.out _ I.p1) fun hH => ?_; clear hK K; try simp only [zX,zY]
      refine zR2 11 15 (fun K hK => ?_) (fun K hK => ?_)
      focus
       simp only [zG]
       go_simp
       have C := C.made 4 3 (g := w2.heap.size) rfl; have I := I.below (Qab (Below.refl _ _) (.cells #[] 3))
       refine hK.out _ _ (MkS.out _ I.p1) fun hH => ?_; clear hK K; try simp only [zX,zY]
       generalize World.alloc w2 (.cells #[] 3) = v11 at *
       refine zR2 14 15 (fun K hK => ?_) (fun K hK => ?_)
       focus
        simp only [zG]
        obtain ⟨a3, c3, w3, hr, C', Kp⟩ := C.app (pg := Tryz.prog) (t := 3) Tryz.underlying28 Qac rfl (by decide) (by decide) 4 w2.heap.size rfl p.nA p.nc p.ns (HP.out.na.below I.bl) hf.nl; have C := C'; clear C'; rw [if_pos (by rfl)]; refine Qaa _ _ _ (by rfl) _ _ _ (by rfl) (by rfl) hr ?_; have I := Kp _ _ _ I; clear hr Kp
        refine hK.out _ _ (MkS.out _ I.p1) fun hH => ?_; clear hK K; try simp only [zX,zY]
        refine zR1 15 (fun K hK => ?_)
        simp only [zG]
        go_simp
        have C := C.made 5 3 (g := w3.heap.size) rfl; have I := I.below (Qab (Below.refl _ _) (.cells #[] 3))
        refine hK.out _ _ (MkS.out _ I.p1) fun hH => ?_; clear hK K; try simp only [zX,zY]
        generalize World.alloc w3 (.cells #[] 3) = v15 at *
        refine zR1 18 (fun K hK => ?_)
        simp only [zG]
        obtain ⟨a4, c4, w4, hr, C', Kp⟩ := C.app (pg := Tryz.prog) (t := 3) Tryz.underlying28 Qac rfl (by decide) (by decide) 5 w3.heap.size rfl p.pA p.pc p.ps (HP.out.pa.below I.bl) hf.pl; have C := C'; clear C'; rw [if_pos (by rfl)]; refine Qaa _ _ _ (by rfl) _ _ _ (by rfl) (by rfl) hr ?_; have I := Kp _ _ _ I; clear hr Kp
       rotate_left
       focus
        simp only [zG]
        go_simp
        have C := C.made 5 3 (g := v11.heap.size) rfl; have I := I.below (Qab (Below.refl _ _) (.cells #[] 3))
        refine hK.out _ _ (MkS.out _ I.p1) fun hH => ?_; clear hK K; try simp only [zX,zY]
        generalize World.alloc v11 (.cells #[] 3) = v15 at *
        refine zR1 14 (fun K hK => ?_)
        simp only [zG]
        obtain ⟨a3, c3, w3, hr, C', Kp⟩ := C.app (pg := Tryz.prog) (t := 3) Tryz.underlying28 Qac rfl (by decide) (by decide) 4 w2.heap.size rfl p.nA p.nc p.ns (HP.out.na.below I.bl) hf.nl; have C := C'; clear C'; rw [if_pos (by rfl)]; refine Qaa _ _ _ (by rfl) _ _ _ (by rfl) (by rfl) hr ?_; have I := Kp _ _ _ I; clear hr Kp
        refine hK.out _ _ (MkS.out _ I.p1) fun hH => ?_; clear hK K; try simp only [zX,zY]
        refine zR1 18 (fun K hK => ?_)
        simp only [zG]
        obtain ⟨a4, c4, w4, hr, C', Kp⟩ := C.app (pg := Tryz.prog) (t := 3) Tryz.underlying28 Qac rfl (by decide) (by decide) 5 v11.heap.size rfl p.pA p.pc p.ps (HP.out.pa.below I.bl) hf.pl; have C := C'; clear C'; rw [if_pos (by rfl)]; refine Qaa _ _ _ (by rfl) _ _ _ (by rfl) (by rfl) hr ?_; have I := Kp _ _ _ I; clear hr Kp
      rotate_left 2
      focus
       simp only [zG]
       go_simp
       have C := C.made 5 3 (g := w2.heap.size) rfl; have I := I.below (Qab (Below.refl _ _) (.cells #[] 3))
       refine hK.out _ _ (MkS.out _ I.p1) fun hH => ?_; clear hK K; try simp only [zX,zY]
       generalize World.alloc w2 (.cells #[] 3) = v15 at *
       refine zR1 11 (fun K hK => ?_)
       simp only [zG]
       go_simp
       have C := C.made 4 3 (g := v15.heap.size) rfl; have I := I.below (Qab (Below.refl _ _) (.cells #[] 3))
       refine hK.out _ _ (MkS.out _ I.p1) fun hH => ?_; clear hK K; try simp only [zX,zY]
       generalize World.alloc v15 (.cells #[] 3) = v11 at *
       refine zR1 14 (fun K hK => ?_)
       simp only [zG]
       obtain ⟨a3, c3, w3, hr, C', Kp⟩ := C.app (pg := Tryz.prog) (t := 3) Tryz.underlying28 Qac rfl (by decide) (by decide) 4 v15.heap.size rfl p.nA p.nc p.ns (HP.out.na.below I.bl) hf.nl; have C := C'; clear C'; rw [if_pos (by rfl)]; refine Qaa _ _ _ (by rfl) _ _ _ (by rfl) (by rfl) hr ?_; have I := Kp _ _ _ I; clear hr Kp
       refine hK.out _ _ (MkS.out _ I.p1) fun hH => ?_; clear hK K; try simp only [zX,zY]
       refine zR1 18 (fun K hK => ?_)
       simp only [zG]
       obtain ⟨a4, c4, w4, hr, C', Kp⟩ := C.app (pg := Tryz.prog) (t := 3) Tryz.underlying28 Qac rfl (by decide) (by decide) 5 w2.heap.size rfl p.pA p.pc p.ps (HP.out.pa.below I.bl) hf.pl; have C := C'; clear C'; rw [if_pos (by rfl)]; refine Qaa _ _ _ (by rfl) _ _ _ (by rfl) (by rfl) hr ?_; have I := Kp _ _ _ I; clear hr Kp
     rotate_left 3
     focus
      simp only [zG]
      go_simp
      have C := C.made 4 3 (g := v7.heap.size) rfl; have I := I.below (Qab (Below.refl _ _) (.cells #[] 3))
      refine hK.out _ _ (MkS.out _ I.p1) fun hH => ?_; clear hK K; try simp only [zX,zY]
      generalize World.alloc v7 (.cells #[] 3) = v11 at *
      refine zR2 10 15 (fun K hK => ?_) (fun K hK => ?_)
      focus
       simp only [zG]
       obtain ⟨a2, c2, w2, hr, C', Kp⟩ := C.app (pg := Tryz.prog) (t := 4) Tryz.underlying34 Qak rfl (by decide) (by decide) 3 w1.heap.size rfl p.vA p.vc p.vs (HP.out.va.below I.bl) hf.vl; have C := C'; clear C'; rw [if_pos (by rfl)]; refine Qaa _ _ _ (by rfl) _ _ _ (by rfl) (by rfl) hr ?_; have I := Kp _ _ _ I; clear hr Kp
       refine hK.out _ _ (MkS.out _ I.p1) fun hH => ?_; clear hK K; try simp only [zX,zY]
       refine zR2 14 15 (fun K hK => ?_) (fun K hK => ?_)
       focus
        simp only [zG]
        obtain ⟨a3, c3, w3, hr, C', Kp⟩ := C.app (pg := Tryz.prog) (t := 3) Tryz.underlying28 Qac rfl (by decide) (by decide) 4 v7.heap.size rfl p.nA p.nc p.ns (HP.out.na.below I.bl) hf.nl; have C := C'; clear C'; rw [if_pos (by rfl)]; refine Qaa _ _ _ (by rfl) _ _ _ (by rfl) (by rfl) hr ?_; have I := Kp _ _ _ I; clear hr Kp
        refine hK.out _ _ (MkS.out _ I.p1) fun hH => ?_; clear hK K; try simp only [zX,zY]
        refine zR1 15 (fun K hK => ?_)
        simp only [zG]
        go_simp
        have C := C.made 5 3 (g := w3.heap.size) rfl; have I := I.below (Qab (Below.refl _ _) (.cells #[] 3))
        refine hK.out _ _ (MkS.out _ I.p1) fun hH => ?_; clear hK K; try simp only [zX,zY]
        generalize World.alloc w3 (.cells #[] 3) = v15 at *
        refine zR1 18 (fun K hK => ?_)
        simp only [zG]
        obtain ⟨a4, c4, w4, hr, C', Kp⟩ := C.app (pg := Tryz.prog) (t := 3) Tryz.underlying28 Qac rfl (by decide) (by decide) 5 w3.heap.size rfl p.pA p.pc p.ps (HP.out.pa.below I.bl) hf.pl; have C := C'; clear C'; rw [if_pos (by rfl)]; refine Qaa _ _ _ (by rfl) _ _ _ (by rfl) (by rfl) hr ?_; have I := Kp _ _ _ I; clear hr Kp
       rotate_left
       focus
        simp only [zG]
        go_simp
        have C := C.made 5 3 (g := w2.heap.size) rfl; have I := I.below (Qab (Below.refl _ _) (.cells #[] 3))
        refine hK.out _ _ (MkS.out _ I.p1) fun hH => ?_; clear hK K; try simp only [zX,zY]
        generalize World.alloc w2 (.cells #[] 3) = v15 at *
        refine zR1 14 (fun K hK => ?_)
        simp only [zG]
        obtain ⟨a3, c3, w3, hr, C', Kp⟩ := C.app (pg := Tryz.prog) (t := 3) Tryz.underlying28 Qac rfl (by decide) (by decide) 4 v7.heap.size rfl p.nA p.nc p.ns (HP.out.na.below I.bl) hf.nl; have C := C'; clear C'; rw [if_pos (by rfl)]; refine Qaa _ _ _ (by rfl) _ _ _ (by rfl) (by rfl) hr ?_; have I := Kp _ _ _ I; clear hr Kp
        refine hK.out _ _ (MkS.out _ I.p1) fun hH => ?_; clear hK K; try simp only [zX,zY]
        refine zR1 18 (fun K hK => ?_)
        simp only [zG]
        obtain ⟨a4, c4, w4, hr, C', Kp⟩ := C.app (pg := Tryz.prog) (t := 3) Tryz.underlying28 Qac rfl (by decide) (by decide) 5 w2.heap.size rfl p.pA p.pc p.ps (HP.out.pa.below I.bl) hf.pl; have C := C'; clear C'; rw [if_pos (by rfl)]; refine Qaa _ _ _ (by rfl) _ _ _ (by rfl) (by rfl) hr ?_; have I := Kp _ _ _ I; clear hr Kp
      rotate_left 2
      focus
       simp only [zG]
       go_simp
       have C := C.made 5 3 (g := v11.heap.size) rfl; have I := I.below (Qab (Below.refl _ _) (.cells #[] 3))
       refine hK.out _ _ (MkS.out _ I.p1) fun hH => ?_; clear hK K; try simp only [zX,zY]
       generalize World.alloc v11 (.cells #[] 3) = v15 at *
       refine zR1 10 (fun K hK => ?_)
       simp only [zG]
       obtain ⟨a2, c2, w2, hr, C', Kp⟩ := C.app (pg := Tryz.prog) (t := 4) Tryz.underlying34 Qak rfl (by decide) (by decide) 3 w1.heap.size rfl p.vA p.vc p.vs (HP.out.va.below I.bl) hf.vl; have C := C'; clear C'; rw [if_pos (by rfl)]; refine Qaa _ _ _ (by rfl) _ _ _ (by rfl) (by rfl) hr ?_; have I := Kp _ _ _ I; clear hr Kp
       refine hK.out _ _ (MkS.out _ I.p1) fun hH => ?_; clear hK K; try simp only [zX,zY]
       refine zR1 14 (fun K hK => ?_)
       simp only [zG]
       obtain ⟨a3, c3, w3, hr, C', Kp⟩ := C.app (pg := Tryz.prog) (t := 3) Tryz.underlying28 Qac rfl (by decide) (by decide) 4 v7.heap.size rfl p.nA p.nc p.ns (HP.out.na.below I.bl) hf.nl; have C := C'; clear C'; rw [if_pos (by rfl)]; refine Qaa _ _ _ (by rfl) _ _ _ (by rfl) (by rfl) hr ?_; have I := Kp _ _ _ I; clear hr Kp
       refine hK.out _ _ (MkS.out _ I.p1) fun hH => ?_; clear hK K; try simp only [zX,zY]
       refine zR1 18 (fun K hK => ?_)
       simp only [zG]
       obtain ⟨a4, c4, w4, hr, C', Kp⟩ := C.app (pg := Tryz.prog) (t := 3) Tryz.underlying28 Qac rfl (by decide) (by decide) 5 v11.heap.size rfl p.pA p.pc p.ps (HP.out.pa.below I.bl) hf.pl; have C := C'; clear C'; rw [if_pos (by rfl)]; refine Qaa _ _ _ (by rfl) _ _ _ (by rfl) (by rfl) hr ?_; have I := Kp _ _ _ I; clear hr Kp
     rotate_left 3
     focus
      simp only [zG]
      go_simp
      have C := C.made 5 3 (g := v7.heap.size) rfl; have I := I.below (Qab (Below.refl _ _) (.cells #[] 3))
      refine hK.out _ _ (MkS.out _ I.p1) fun hH => ?_; clear hK K; try simp only [zX,zY]
      generalize World.alloc v7 (.cells #[] 3) = v15 at *
      refine zR2 10 11 (fun K hK => ?_) (fun K hK => ?_)
      focus
       simp only [zG]
       obtain ⟨a2, c2, w2, hr, C', Kp⟩ := C.app (pg := Tryz.prog) (t := 4) Tryz.underlying34 Qak rfl (by decide) (by decide) 3 w1.heap.size rfl p.vA p.vc p.vs (HP.out.va.below I.bl) hf.vl; have C := C'; clear C'; rw [if_pos (by rfl)]; refine Qaa _ _ _ (by rfl) _ _ _ (by rfl) (by rfl) hr ?_; have I := Kp _ _ _ I; clear hr Kp
       refine hK.out _ _ (MkS.out _ I.p1) fun hH => ?_; clear hK K; try simp only [zX,zY]
       refine zR1 11 (fun K hK => ?_)
       simp only [zG]
       go_simp
       have C := C.made 4 3 (g := w2.heap.size) rfl; have I := I.below (Qab (Below.refl _ _) (.cells #[] 3))
       refine hK.out _ _ (MkS.out _ I.p1) fun hH => ?_; clear hK K; try simp only [zX,zY]
       generalize World.alloc w2 (.cells #[] 3) = v11 at *
       refine zR1 14 (fun K hK => ?_)
       simp only [zG]
       obtain ⟨a3, c3, w3, hr, C', Kp⟩ := C.app (pg := Tryz.prog) (t := 3) Tryz.underlying28 Qac rfl (by decide) (by decide) 4 w2.heap.size rfl p.nA p.nc p.ns (HP.out.na.below I.bl) hf.nl; have C := C'; clear C'; rw [if_pos (by rfl)]; refine Qaa _ _ _ (by rfl) _ _ _ (by rfl) (by rfl) hr ?_; have I := Kp _ _ _ I; clear hr Kp
       refine hK.out _ _ (MkS.out _ I.p1) fun hH => ?_; clear hK K; try simp only [zX,zY]
       refine zR1 18 (fun K hK => ?_)
       simp only [zG]
       obtain ⟨a4, c4, w4, hr, C', Kp⟩ := C.app (pg := Tryz.prog) (t := 3) Tryz.underlying28 Qac rfl (by decide) (by decide) 5 v7.heap.size rfl p.pA p.pc p.ps (HP.out.pa.below I.bl) hf.pl; have C := C'; clear C'; rw [if_pos (by rfl)]; refine Qaa _ _ _ (by rfl) _ _ _ (by rfl) (by rfl) hr ?_; have I := Kp _ _ _ I; clear hr Kp
      rotate_left
      focus
       simp only [zG]
       go_simp
       have C := C.made 4 3 (g := v15.heap.size) rfl; have I := I.below (Qab (Below.refl _ _) (.cells #[] 3))
       refine hK.out _ _ (MkS.out _ I.p1) fun hH => ?_; clear hK K; try simp only [zX,zY]
       generalize World.alloc v15 (.cells #[] 3) = v11 at *
       refine zR1 10 (fun K hK => ?_)
       simp only [zG]
       obtain ⟨a2, c2, w2, hr, C', Kp⟩ := C.app (pg := Tryz.prog) (t := 4) Tryz.underlying34 Qak rfl (by decide) (by decide) 3 w1.heap.size rfl p.vA p.vc p.vs (HP.out.va.below I.bl) hf.vl; have C := C'; clear C'; rw [if_pos (by rfl)]; refine Qaa _ _ _ (by rfl) _ _ _ (by rfl) (by rfl) hr ?_; have I := Kp _ _ _ I; clear hr Kp
       refine hK.out _ _ (MkS.out _ I.p1) fun hH => ?_; clear hK K; try simp only [zX,zY]
       refine zR1 14 (fun K hK => ?_)
       simp only [zG]
       obtain ⟨a3, c3, w3, hr, C', Kp⟩ := C.app (pg := Tryz.prog) (t := 3) Tryz.underlying28 Qac rfl (by decide) (by decide) 4 v15.heap.size rfl p.nA p.nc p.ns (HP.out.na.below I.bl) hf.nl; have C := C'; clear C'; rw [if_pos (by rfl)]; refine Qaa _ _ _ (by rfl) _ _ _ (by rfl) (by rfl) hr ?_; have I := Kp _ _ _ I; clear hr Kp
       refine hK.out _ _ (MkS.out _ I.p1) fun hH => ?_; clear hK K; try simp only [zX,zY]
       refine zR1 18 (fun K hK => ?_)
       simp only [zG]
       obtain ⟨a4, c4, w4, hr, C', Kp⟩ := C.app (pg := Tryz.prog) (t := 3) Tryz.underlying28 Qac rfl (by decide) (by decide) 5 v7.heap.size rfl p.pA p.pc p.ps (HP.out.pa.below I.bl) hf.pl; have C := C'; clear C'; rw [if_pos (by rfl)]; refine Qaa _ _ _ (by rfl) _ _ _ (by rfl) (by rfl) hr ?_; have I := Kp _ _ _ I; clear hr Kp
    rotate_left 8
    focus
     simp only [zG]
     go_simp
     have C := C.made 4 3 (g := w1.heap.size) rfl; have I := I.below (Qab (Below.refl _ _) (.cells #[] 3))
     refine hK.out _ _ (MkS.out _ I.p1) fun hH => ?_; clear hK K; try simp only [zX,zY]
     generalize World.alloc w1 (.cells #[] 3) = v11 at *
     refine zR2 7 15 (fun K hK => ?_) (fun K hK => ?_)
     focus
      simp only [zG]
      go_simp
      have C := C.made 3 4 (g := v11.heap.size) rfl; have I := I.below (Qab (Below.refl _ _) (.cells #[] 4))
      refine hK.out _ _ (MkS.out _ I.p1) fun hH => ?_; clear hK K; try simp only [zX,zY]
      generalize World.alloc v11 (.cells #[] 4) = v7 at *
      refine zR2 10 15 (fun K hK => ?_) (fun K hK => ?_)
      focus
       simp only [zG]
       obtain ⟨a2, c2, w2, hr, C', Kp⟩ := C.app (pg := Tryz.prog) (t := 4) Tryz.underlying34 Qak rfl (by decide) (by decide) 3 v11.heap.size rfl p.vA p.vc p.vs (HP.out.va.below I.bl) hf.vl; have C := C'; clear C'; rw [if_pos (by rfl)]; refine Qaa _ _ _ (by rfl) _ _ _ (by rfl) (by rfl) hr ?_; have I := Kp _ _ _ I; clear hr Kp
       refine hK.out _ _ (MkS.out _ I.p1) fun hH => ?_; clear hK K; try simp only [zX,zY]
       refine zR2 14 15 (fun K hK => ?_) (fun K hK => ?_)
       focus
        simp only [zG]
        obtain ⟨a3, c3, w3, hr, C', Kp⟩ := C.app (pg := Tryz.prog) (t := 3) Tryz.underlying28 Qac rfl (by decide) (by decide) 4 w1.heap.size rfl p.nA p.nc p.ns (HP.out.na.below I.bl) hf.nl; have C := C'; clear C'; rw [if_pos (by rfl)]; refine Qaa _ _ _ (by rfl) _ _ _ (by rfl) (by rfl) hr ?_; have I := Kp _ _ _ I; clear hr Kp
        refine hK.out _ _ (MkS.out _ I.p1) fun hH => ?_; clear hK K; try simp only [zX,zY]
        refine zR1 15 (fun K hK => ?_)
        simp only [zG]
        go_simp
        have C := C.made 5 3 (g := w3.heap.size) rfl; have I := I.below (Qab (Below.refl _ _) (.cells #[] 3))
        refine hK.out _ _ (MkS.out _ I.p1) fun hH => ?_; clear hK K; try simp only [zX,zY]
        generalize World.alloc w3 (.cells #[] 3) = v15 at *
        refine zR1 18 (fun K hK => ?_)
        simp only [zG]
        obtain ⟨a4, c4, w4, hr, C', Kp⟩ := C.app (pg := Tryz.prog) (t := 3) Tryz.underlying28 Qac rfl (by decide) (by decide) 5 w3.heap.size rfl p.pA p.pc p.ps (HP.out.pa.below I.bl) hf.pl; have C := C'; clear C'; rw [if_pos (by rfl)]; refine Qaa _ _ _ (by rfl) _ _ _ (by rfl) (by rfl) hr ?_; have I := Kp _ _ _ I; clear hr Kp
       rotate_left
       focus
        simp only [zG]
        go_simp
        have C := C.made 5 3 (g := w2.heap.size) rfl; have I := I.below (Qab (Below.refl _ _) (.cells #[] 3))
        refine hK.out _ _ (MkS.out _ I.p1) fun hH => ?_; clear hK K; try simp only [zX,zY]
        generalize World.alloc w2 (.cells #[] 3) = v15 at *
        refine zR1 14 (fun K hK => ?_)
        simp only [zG]
        obtain ⟨a3, c3, w3, hr, C', Kp⟩ := C.app (pg := Tryz.prog) (t := 3) Tryz.underlying28 Qac rfl (by decide) (by decide) 4 w1.heap.size rfl p.nA p.nc p.ns (HP.out.na.below I.bl) hf.nl; have C := C'; clear C'; rw [if_pos (by rfl)]; refine Qaa _ _ _ (by rfl) _ _ _ (by rfl) (by rfl) hr ?_; have I := Kp _ _ _ I; clear hr Kp
        refine hK.out _ _ (MkS.out _ I.p1) fun hH => ?_; clear hK K; try simp only [zX,zY]
        refine zR1 18 (fun K hK => ?_)
        simp only [zG]
        obtain ⟨a4, c4, w4, hr, C', Kp⟩ := C.app (pg := Tryz.prog) (t := 3) Tryz.underlying28 Qac rfl (by decide) (by decide) 5 w2.heap.size rfl p.pA p.pc p.ps (HP.out.pa.below I.bl) hf.pl; have C := C'; clear C'; rw [if_pos (by rfl)]; refine Qaa _ _ _ (by rfl) _ _ _ (by rfl) (by rfl) hr ?_; have I := Kp _ _ _ I; clear hr Kp
      rotate_left 2
      focus
       simp only [zG]
       go_simp
       have C := C.made 5 3 (g := v7.heap.size) rfl; have I := I.below (Qab (Below.refl _ _) (.cells #[] 3))
       refine hK.out _ _ (MkS.out _ I.p1) fun hH => ?_; clear hK K; try simp only [zX,zY]
       generalize World.alloc v7 (.cells #[] 3) = v15 at *
       refine zR1 10 (fun K hK => ?_)
       simp only [zG]
       obtain ⟨a2, c2, w2, hr, C', Kp⟩ := C.app (pg := Tryz.prog) (t := 4) Tryz.underlying34 Qak rfl (by decide) (by decide) 3 v11.heap.size rfl p.vA p.vc p.vs (HP.out.va.below I.bl) hf.vl; have C := C'; clear C'; rw [if_pos (by rfl)]; refine Qaa _ _ _ (by rfl) _ _ _ (by rfl) (by rfl) hr ?_; have I := Kp _ _ _ I; clear hr Kp
       refine hK.out _ _ (MkS.out _ I.p1) fun hH => ?_; clear hK K; try simp only [zX,zY]
       refine zR1 14 (fun K hK => ?_)
       simp only [zG]
       obtain ⟨a3, c3, w3, hr, C', Kp⟩ := C.app (pg := Tryz.prog) (t := 3) Tryz.underlying28 Qac rfl (by decide) (by decide) 4 w1.heap.size rfl p.nA p.nc p.ns (HP.out.na.below I.bl) hf.nl; have C := C'; clear C'; rw [if_pos (by rfl)]; refine Qaa _ _ _ (by rfl) _ _ _ (by rfl) (by rfl) hr ?_; have I := Kp _ _ _ I; clear hr Kp
       refine hK.out _ _ (MkS.out _ I.p1) fun hH => ?_; clear hK K; try simp only [zX,zY]
       refine zR1 18 (fun K hK => ?_)
       simp only [zG]
       obtain ⟨a4, c4, w4, hr, C', Kp⟩ := C.app (pg := Tryz.prog) (t := 3) Tryz.underlying28 Qac rfl (by decide) (by decide) 5 v7.heap.size rfl p.pA p.pc p.ps (HP.out.pa.below I.bl) hf.pl; have C := C'; clear C'; rw [if_pos (by rfl)]; refine Qaa _ _ _ (by rfl) _ _ _ (by rfl) (by rfl) hr ?_; have I := Kp _ _ _ I; clear hr Kp
     rotate_left 3
     focus
      simp only [zG]
      go_simp
      have C := C.made 5 3 (g := v11.heap.size) rfl; have I := I.below (Qab (Below.refl _ _) (.cells #[] 3))
      refine hK.out _ _ (MkS.out _ I.p1) fun hH => ?_; clear hK K; try simp only [zX,zY]
      generalize World.alloc v11 (.cells #[] 3) = v15 at *
      refine zR1 7 (fun K hK => ?_)
      simp only [zG]
      go_simp
      have C := C.made 3 4 (g := v15.heap.size) rfl; have I := I.below (Qab (Below.refl _ _) (.cells #[] 4))
      refine hK.out _ _ (MkS.out _ I.p1) fun hH => ?_; clear hK K; try simp only [zX,zY]
      generalize World.alloc v15 (.cells #[] 4) = v7 at *
      refine zR1 10 (fun K hK => ?_)
      simp only [zG]
      obtain ⟨a2, c2, w2, hr, C', Kp⟩ := C.app (pg := Tryz.prog) (t := 4) Tryz.underlying34 Qak rfl (by decide) (by decide) 3 v15.heap.size rfl p.vA p.vc p.vs (HP.out.va.below I.bl) hf.vl; have C := C'; clear C'; rw [if_pos (by rfl)]; refine Qaa _ _ _ (by rfl) _ _ _ (by rfl) (by rfl) hr ?_; have I := Kp _ _ _ I; clear hr Kp
      refine hK.out _ _ (MkS.out _ I.p1) fun hH => ?_; clear hK K; try simp only [zX,zY]
      refine zR1 14 (fun K hK => ?_)
      simp only [zG]
      obtain ⟨a3, c3, w3, hr, C', Kp⟩ := C.app (pg := Tryz.prog) (t := 3) Tryz.underlying28 Qac rfl (by decide) (by decide) 4 w1.heap.size rfl p.nA p.nc p.ns (HP.out.na.below I.bl) hf.nl; have C := C'; clear C'; rw [if_pos (by rfl)]; refine Qaa _ _ _ (by rfl) _ _ _ (by rfl) (by rfl) hr ?_; have I := Kp _ _ _ I; clear hr Kp
      refine hK.out _ _ (MkS.out _ I.p1) fun hH => ?_; clear hK K; try simp only [zX,zY]
      refine zR1 18 (fun K hK => ?_)
      simp only [zG]
      obtain ⟨a4, c4, w4, hr, C', Kp⟩ := C.app (pg := Tryz.prog) (t := 3) Tryz.underlying28 Qac rfl (by decide) (by decide) 5 v11.heap.size rfl p.pA p.pc p.ps (HP.out.pa.below I.bl) hf.pl; have C := C'; clear C'; rw [if_pos (by rfl)]; refine Qaa _ _ _ (by rfl) _ _ _ (by rfl) (by rfl) hr ?_; have I := Kp _ _ _ I; clear hr Kp
    rotate_left 4
    focus
     simp only [zG]
     go_simp
     have C := C.made 5 3 (g := w1.heap.size) rfl; have I := I.below (Qab (Below.refl _ _) (.cells #[] 3))
     refine hK.out _ _ (MkS.out _ I.p1) fun hH => ?_; clear hK K; try simp only [zX,zY]
     generalize World.alloc w1 (.cells #[] 3) = v15 at *
     refine zR2 7 11 (fun K hK => ?_) (fun K hK => ?_)
     focus
      simp only [zG]
      go_simp
      have C := C.made 3 4 (g := v15.heap.size) rfl; have I := I.below (Qab (Below.refl _ _) (.cells #[] 4))
      refine hK.out _ _ (MkS.out _ I.p1) fun hH => ?_; clear hK K; try simp only [zX,zY]
      generalize World.alloc v15 (.cells #[] 4) = v7 at *
      refine zR2 10 11 (fun K hK => ?_) (fun K hK => ?_)
      focus
       simp only [zG]
       obtain ⟨a2, c2, w2, hr, C', Kp⟩ := C.app (pg := Tryz.prog) (t := 4) Tryz.underlying34 Qak rfl (by decide) (by decide) 3 v15.heap.size rfl p.vA p.vc p.vs (HP.out.va.below I.bl) hf.vl; have C := C'; clear C'; rw [if_pos (by rfl)]; refine Qaa _ _ _ (by rfl) _ _ _ (by rfl) (by rfl) hr ?_; have I := Kp _ _ _ I; clear hr Kp
       refine hK.out _ _ (MkS.out _ I.p1) fun hH => ?_; clear hK K; try simp only [zX,zY]
       refine zR1 11 (fun K hK => ?_)
       simp only [zG]
       go_simp
       have C := C.made 4 3 (g := w2.heap.size) rfl; have I := I.below (Qab (Below.refl _ _) (.cells #[] 3))
       refine hK.out _ _ (MkS.out _ I.p1) fun hH => ?_; clear hK K; try simp only [zX,zY]
       generalize World.alloc w2 (.cells #[] 3) = v11 at *
       refine zR1 14 (fun K hK => ?_)
       simp only [zG]
       obtain ⟨a3, c3, w3, hr, C', Kp⟩ := C.app (pg := Tryz.prog) (t := 3) Tryz.underlying28 Qac rfl (by decide) (by decide) 4 w2.heap.size rfl p.nA p.nc p.ns (HP.out.na.below I.bl) hf.nl; have C := C'; clear C'; rw [if_pos (by rfl)]; refine Qaa _ _ _ (by rfl) _ _ _ (by rfl) (by rfl) hr ?_; have I := Kp _ _ _ I; clear hr Kp
       refine hK.out _ _ (MkS.out _ I.p1) fun hH => ?_; clear hK K; try simp only [zX,zY]
       refine zR1 18 (fun K hK => ?_)
       simp only [zG]
       obtain ⟨a4, c4, w4, hr, C', Kp⟩ := C.app (pg := Tryz.prog) (t := 3) Tryz.underlying28 Qac rfl (by decide) (by decide) 5 w1.heap.size rfl p.pA p.pc p.ps (HP.out.pa.below I.bl) hf.pl; have C := C'; clear C'; rw [if_pos (by rfl)]; refine Qaa _ _ _ (by rfl) _ _ _ (by rfl) (by rfl) hr ?_; have I := Kp _ _ _ I; clear hr Kp
      rotate_left
      focus
       simp only [zG]
       go_simp
       have C := C.made 4 3 (g := v7.heap.size) rfl; have I := I.below (Qab (Below.refl _ _) (.cells #[] 3))
       refine hK.out _ _ (MkS.out _ I.p1) fun hH => ?_; clear hK K; try simp only [zX,zY]
       generalize World.alloc v7 (.cells #[] 3) = v11 at *
       refine zR1 10 (fun K hK => ?_)
       simp only [zG]
       obtain ⟨a2, c2, w2, hr, C', Kp⟩ := C.app (pg := Tryz.prog) (t := 4) Tryz.underlying34 Qak rfl (by decide) (by decide) 3 v15.heap.size rfl p.vA p.vc p.vs (HP.out.va.below I.bl) hf.vl; have C := C'; clear C'; rw [if_pos (by rfl)]; refine Qaa _ _ _ (by rfl) _ _ _ (by rfl) (by rfl) hr ?_; have I := Kp _ _ _ I; clear hr Kp
       refine hK.out _ _ (MkS.out _ I.p1) fun hH => ?_; clear hK K; try simp only [zX,zY]
       refine zR1 14 (fun K hK => ?_)
       simp only [zG]
       obtain ⟨a3, c3, w3, hr, C', Kp⟩ := C.app (pg := Tryz.prog) (t := 3) Tryz.underlying28 Qac rfl (by decide) (by decide) 4 v7.heap.size rfl p.nA p.nc p.ns (HP.out.na.below I.bl) hf.nl; have C := C'; clear C'; rw [if_pos (by rfl)]; refine Qaa _ _ _ (by rfl) _ _ _ (by rfl) (by rfl) hr ?_; have I := Kp _ _ _ I; clear hr Kp
       refine hK.out _ _ (MkS.out _ I.p1) fun hH => ?_; clear hK K; try simp only [zX,zY]
       refine zR1 18 (fun K hK => ?_)
       simp only [zG]
       obtain ⟨a4, c4, w4, hr, C', Kp⟩ := C.app (pg := Tryz.prog) (t := 3) Tryz.underlying28 Qac rfl (by decide) (by decide) 5 w1.heap.size rfl p.pA p.pc p.ps (HP.out.pa.below I.bl) hf.pl; have C := C'; clear C'; rw [if_pos (by rfl)]; refine Qaa _ _ _ (by rfl) _ _ _ (by rfl) (by rfl) hr ?_; have I := Kp _ _ _ I; clear hr Kp
     rotate_left 2
     focus
      simp only [zG]
      go_simp
      have C := C.made 4 3 (g := v15.heap.size) rfl; have I := I.below (Qab (Below.refl _ _) (.cells #[] 3))
      refine hK.out _ _ (MkS.out _ I.p1) fun hH => ?_; clear hK K; try simp only [zX,zY]
      generalize World.alloc v15 (.cells #[] 3) = v11 at *
      refine zR1 7 (fun K hK => ?_)
      simp only [zG]
      go_simp
      have C := C.made 3 4 (g := v11.heap.size) rfl; have I := I.below (Qab (Below.refl _ _) (.cells #[] 4))
      refine hK.out _ _ (MkS.out _ I.p1) fun hH => ?_; clear hK K; try simp only [zX,zY]
      generalize World.alloc v11 (.cells #[] 4) = v7 at *
      refine zR1 10 (fun K hK => ?_)
      simp only [zG]
      obtain ⟨a2, c2, w2, hr, C', Kp⟩ := C.app (pg := Tryz.prog) (t := 4) Tryz.underlying34 Qak rfl (by decide) (by decide) 3 v11.heap.size rfl p.vA p.vc p.vs (HP.out.va.below I.bl) hf.vl; have C := C'; clear C'; rw [if_pos (by rfl)]; refine Qaa _ _ _ (by rfl) _ _ _ (by rfl) (by rfl) hr ?_; have I := Kp _ _ _ I; clear hr Kp
      refine hK.out _ _ (MkS.out _ I.p1) fun hH => ?_; clear hK K; try simp only [zX,zY]
      refine zR1 14 (fun K hK => ?_)
      simp only [zG]
      obtain ⟨a3, c3, w3, hr, C', Kp⟩ := C.app (pg := Tryz.prog) (t := 3) Tryz.underlying28 Qac rfl (by decide) (by decide) 4 v15.heap.size rfl p.nA p.nc p.ns (HP.out.na.below I.bl) hf.nl; have C := C'; clear C'; rw [if_pos (by rfl)]; refine Qaa _ _ _ (by rfl) _ _ _ (by rfl) (by rfl) hr ?_; have I := Kp _ _ _ I; clear hr Kp
      refine hK.out _ _ (MkS.out _ I.p1) fun hH => ?_; clear hK K; try simp only [zX,zY]
      refine zR1 18 (fun K hK => ?_)
      simp only [zG]
      obtain ⟨a4, c4, w4, hr, C', Kp⟩ := C.app (pg := Tryz.prog) (t := 3) Tryz.underlying28 Qac rfl (by decide) (by decide) 5 w1.heap.size rfl p.pA p.pc p.ps (HP.out.pa.below I.bl) hf.pl; have C := C'; clear C'; rw [if_pos (by rfl)]; refine Qaa _ _ _ (by rfl) _ _ _ (by rfl) (by rfl) hr ?_; have I := Kp _ _ _ I; clear hr Kp
   rotate_left 15
   focus
    simp only [zG]
    go_simp
    have C := C.made 3 4 (g := u0.heap.size) rfl; have I := I.below (Qab (Below.refl _ _) (.cells #[] 4))
    refine hK.out _ _ (MkS.out _ I.p1) fun hH => ?_; clear hK K; try simp only [zX,zY]
    generalize World.alloc u0 (.cells #[] 4) = v7 at *
    refine zR3 4 11 15 (fun K hK => ?_) (fun K hK => ?_) (fun K hK => ?_)
    focus
     simp only [zG]
     go_simp
     refine (CH.out _ I.bl).mono ?_; rintro e w1 ⟨a1, c1, x', cc, rfl, g1, hx1, s1, s2⟩; have C := C.fresh2 g1 cc 1 2 (by decide) (Qca a1 p.l) (fmK x') s1 s2; have I := I.below g1; clear g1 s1 s2
     refine hK.out _ _ (MkS.out _ I.p1) fun hH => ?_; clear hK K; try simp only [zX,zY]
     refine zR3 10 11 15 (fun K hK => ?_) (fun K hK => ?_) (fun K hK => ?_)
     focus
      simp only [zG]
      obtain ⟨a2, c2, w2, hr, C', Kp⟩ := C.app (pg := Tryz.prog) (t := 4) Tryz.underlying34 Qak rfl (by decide) (by decide) 3 u0.heap.size rfl p.vA p.vc p.vs (HP.out.va.below I.bl) hf.vl; have C := C'; clear C'; rw [if_pos (by rfl)]; refine Qaa _ _ _ (by rfl) _ _ _ (by rfl) (by rfl) hr ?_; have I := Kp _ _ _ I; clear hr Kp
      refine hK.out _ _ (MkS.out _ I.p1) fun hH => ?_; clear hK K; try simp only [zX,zY]
      refine zR2 11 15 (fun K hK => ?_) (fun K hK => ?_)
      focus
       simp only [zG]
       go_simp
       have C := C.made 4 3 (g := w2.heap.size) rfl; have I := I.below (Qab (Below.refl _ _) (.cells #[] 3))
       refine hK.out _ _ (MkS.out _ I.p1) fun hH => ?_; clear hK K; try simp only [zX,zY]
       generalize World.alloc w2 (.cells #[] 3) = v11 at *
       refine zR2 14 15 (fun K hK => ?_) (fun K hK => ?_)
       focus
        simp only [zG]
        obtain ⟨a3, c3, w3, hr, C', Kp⟩ := C.app (pg := Tryz.prog) (t := 3) Tryz.underlying28 Qac rfl (by decide) (by decide) 4 w2.heap.size rfl p.nA p.nc p.ns (HP.out.na.below I.bl) hf.nl; have C := C'; clear C'; rw [if_pos (by rfl)]; refine Qaa _ _ _ (by rfl) _ _ _ (by rfl) (by rfl) hr ?_; have I := Kp _ _ _ I; clear hr Kp
        refine hK.out _ _ (MkS.out _ I.p1) fun hH => ?_; clear hK K; try simp only [zX,zY]
        refine zR1 15 (fun K hK => ?_)
        simp only [zG]
        go_simp
        have C := C.made 5 3 (g := w3.heap.size) rfl; have I := I.below (Qab (Below.refl _ _) (.cells #[] 3))
        refine hK.out _ _ (MkS.out _ I.p1) fun hH => ?_; clear hK K; try simp only [zX,zY]
        generalize World.alloc w3 (.cells #[] 3) = v15 at *
        refine zR1 18 (fun K hK => ?_)
        simp only [zG]
        obtain ⟨a4, c4, w4, hr, C', Kp⟩ := C.app (pg := Tryz.prog) (t := 3) Tryz.underlying28 Qac rfl (by decide) (by decide) 5 w3.heap.size rfl p.pA p.pc p.ps (HP.out.pa.below I.bl) hf.pl; have C := C'; clear C'; rw [if_pos (by rfl)]; refine Qaa _ _ _ (by rfl) _ _ _ (by rfl) (by rfl) hr ?_; have I := Kp _ _ _ I; clear hr Kp
       rotate_left
       focus
        simp only [zG]
        go_simp
        have C := C.made 5 3 (g := v11.heap.size) rfl; have I := I.below (Qab (Below.refl _ _) (.cells #[] 3))
        refine hK.out _ _ (MkS.out _ I.p1) fun hH => ?_; clear hK K; try simp only [zX,zY]
        generalize World.alloc v11 (.cells #[] 3) = v15 at *
        refine zR1 14 (fun K hK => ?_)
        simp only [zG]
        obtain ⟨a3, c3, w3, hr, C', Kp⟩ := C.app (pg := Tryz.prog) (t := 3) Tryz.underlying28 Qac rfl (by decide) (by decide) 4 w2.heap.size rfl p.nA p.nc p.ns (HP.out.na.below I.bl) hf.nl; have C := C'; clear C'; rw [if_pos (by rfl)]; refine Qaa _ _ _ (by rfl) _ _ _ (by rfl) (by rfl) hr ?_; have I := Kp _ _ _ I; clear hr Kp
        refine hK.out _ _ (MkS.out _ I.p1) fun hH => ?_; clear hK K; try simp only [zX,zY]
        refine zR1 18 (fun K hK => ?_)
        simp only [zG]
        obtain ⟨a4, c4, w4, hr, C', Kp⟩ := C.app (pg := Tryz.prog) (t := 3) Tryz.underlying28 Qac rfl (by decide) (by decide) 5 v11.heap.size rfl p.pA p.pc p.ps (HP.out.pa.below I.bl) hf.pl; have C := C'; clear C'; rw [if_pos (by rfl)]; refine Qaa _ _ _ (by rfl) _ _ _ (by rfl) (by rfl) hr ?_; have I := Kp _ _ _ I; clear hr Kp
      rotate_left 2
      focus
       simp only [zG]
       go_simp
       have C := C.made 5 3 (g := w2.heap.size) rfl; have I := I.below (Qab (Below.refl _ _) (.cells #[] 3))
       refine hK.out _ _ (MkS.out _ I.p1) fun hH => ?_; clear hK K; try simp only [zX,zY]
       generalize World.alloc w2 (.cells #[] 3) = v15 at *
       refine zR1 11 (fun K hK => ?_)
       simp only [zG]
       go_simp
       have C := C.made 4 3 (g := v15.heap.size) rfl; have I := I.below (Qab (Below.refl _ _) (.cells #[] 3))
       refine hK.out _ _ (MkS.out _ I.p1) fun hH => ?_; clear hK K; try simp only [zX,zY]
       generalize World.alloc v15 (.cells #[] 3) = v11 at *
       refine zR1 14 (fun K hK => ?_)
       simp only [zG]
       obtain ⟨a3, c3, w3, hr, C', Kp⟩ := C.app (pg := Tryz.prog) (t := 3) Tryz.underlying28 Qac rfl (by decide) (by decide) 4 v15.heap.size rfl p.nA p.nc p.ns (HP.out.na.below I.bl) hf.nl; have C := C'; clear C'; rw [if_pos (by rfl)]; refine Qaa _ _ _ (by rfl) _ _ _ (by rfl) (by rfl) hr ?_; have I := Kp _ _ _ I; clear hr Kp
       refine hK.out _ _ (MkS.out _ I.p1) fun hH => ?_; clear hK K; try simp only [zX,zY]
       refine zR1 18 (fun K hK => ?_)
       simp only [zG]
       obtain ⟨a4, c4, w4, hr, C', Kp⟩ := C.app (pg := Tryz.prog) (t := 3) Tryz.underlying28 Qac rfl (by decide) (by decide) 5 w2.heap.size rfl p.pA p.pc p.ps (HP.out.pa.below I.bl) hf.pl; have C := C'; clear C'; rw [if_pos (by rfl)]; refine Qaa _ _ _ (by rfl) _ _ _ (by rfl) (by rfl) hr ?_; have I := Kp _ _ _ I; clear hr Kp
     rotate_left 3
     focus
      simp only [zG]
      go_simp
      have C := C.made 4 3 (g := w1.heap.size) rfl; have I := I.below (Qab (Below.refl _ _) (.cells #[] 3))
      refine hK.out _ _ (MkS.out _ I.p1) fun hH => ?_; clear hK K; try simp only [zX,zY]
      generalize World.alloc w1 (.cells #[] 3) = v11 at *
      refine zR2 10 15 (fun K hK => ?_) (fun K hK => ?_)
      focus
       simp only [zG]
       obtain ⟨a2, c2, w2, hr, C', Kp⟩ := C.app (pg := Tryz.prog) (t := 4) Tryz.underlying34 Qak rfl (by decide) (by decide) 3 u0.heap.size rfl p.vA p.vc p.vs (HP.out.va.below I.bl) hf.vl; have C := C'; clear C'; rw [if_pos (by rfl)]; refine Qaa _ _ _ (by rfl) _ _ _ (by rfl) (by rfl) hr ?_; have I := Kp _ _ _ I; clear hr Kp
       refine hK.out _ _ (MkS.out _ I.p1) fun hH => ?_; clear hK K; try simp only [zX,zY]
       refine zR2 14 15 (fun K hK => ?_) (fun K hK => ?_)
       focus
        simp only [zG]
        obtain ⟨a3, c3, w3, hr, C', Kp⟩ := C.app (pg := Tryz.prog) (t := 3) Tryz.underlying28 Qac rfl (by decide) (by decide) 4 w1.heap.size rfl p.nA p.nc p.ns (HP.out.na.below I.bl) hf.nl; have C := C'; clear C'; rw [if_pos (by rfl)]; refine Qaa _ _ _ (by rfl) _ _ _ (by rfl) (by rfl) hr ?_; have I := Kp _ _ _ I; clear hr Kp
        refine hK.out _ _ (MkS.out _ I.p1) fun hH => ?_; clear hK K; try simp only [zX,zY]
        refine zR1 15 (fun K hK => ?_)
        simp only [zG]
        go_simp
        have C := C.made 5 3 (g := w3.heap.size) rfl; have I := I.below (Qab (Below.refl _ _) (.cells #[] 3))
        refine hK.out _ _ (MkS.out _ I.p1) fun hH => ?_; clear hK K; try simp only [zX,zY]
        generalize World.alloc w3 (.cells #[] 3) = v15 at *
        refine zR1 18 (fun K hK => ?_)
        simp only [zG]
        obtain ⟨a4, c4, w4, hr, C', Kp⟩ := C.app (pg := Tryz.prog) (t := 3) Tryz.underlying28 Qac rfl (by decide) (by decide) 5 w3.heap.size rfl p.pA p.pc p.ps (HP.out.pa.below I.bl) hf.pl; have C := C'; clear C'; rw [if_pos (by rfl)]; refine Qaa _ _ _ (by rfl) _ _ _ (by rfl) (by rfl) hr ?_; have I := Kp _ _ _ I; clear hr Kp
       rotate_left
       focus
        simp only [zG]
        go_simp
        have C := C.made 5 3 (g := w2.heap.size) rfl; have I := I.below (Qab (Below.refl _ _) (.cells #[] 3))
        refine hK.out _ _ (MkS.out _ I.p1) fun hH => ?_; clear hK K; try simp only [zX,zY]
        generalize World.alloc w2 (.cells #[] 3) = v15 at *
        refine zR1 14 (fun K hK => ?_)
        simp only [zG]
        obtain ⟨a3, c3, w3, hr, C', Kp⟩ := C.app (pg := Tryz.prog) (t := 3) Tryz.underlying28 Qac rfl (by decide) (by decide) 4 w1.heap.size rfl p.nA p.nc p.ns (HP.out.na.below I.bl) hf.nl; have C := C'; clear C'; rw [if_pos (by rfl)]; refine Qaa _ _ _ (by rfl) _ _ _ (by rfl) (by rfl) hr ?_; have I := Kp _ _ _ I; clear hr Kp
        refine hK.out _ _ (MkS.out _ I.p1) fun hH => ?_; clear hK K; try simp only [zX,zY]
        refine zR1 18 (fun K hK => ?_)
        simp only [zG]
        obtain ⟨a4, c4, w4, hr, C', Kp⟩ := C.app (pg := Tryz.prog) (t := 3) Tryz.underlying28 Qac rfl (by decide) (by decide) 5 w2.heap.size rfl p.pA p.pc p.ps (HP.out.pa.below I.bl) hf.pl; have C := C'; clear C'; rw [if_pos (by rfl)]; refine Qaa _ _ _ (by rfl) _ _ _ (by rfl) (by rfl) hr ?_; have I := Kp _ _ _ I; clear hr Kp
      rotate_left 2
      focus
       simp only [zG]
       go_simp
       have C := C.made 5 3 (g := v11.heap.size) rfl; have I := I.below (Qab (Below.refl _ _) (.cells #[] 3))
       refine hK.out _ _ (MkS.out _ I.p1) fun hH => ?_; clear hK K; try simp only [zX,zY]
       generalize World.alloc v11 (.cells #[] 3) = v15 at *
       refine zR1 10 (fun K hK => ?_)
       simp only [zG]
       obtain ⟨a2, c2, w2, hr, C', Kp⟩ := C.app (pg := Tryz.prog) (t := 4) Tryz.underlying34 Qak rfl (by decide) (by decide) 3 u0.heap.size rfl p.vA p.vc p.vs (HP.out.va.below I.bl) hf.vl; have C := C'; clear C'; rw [if_pos (by rfl)]; refine Qaa _ _ _ (by rfl) _ _ _ (by rfl) (by rfl) hr ?_; have I := Kp _ _ _ I; clear hr Kp
       refine hK.out _ _ (MkS.out _ I.p1) fun hH => ?_; clear hK K; try simp only [zX,zY]
       refine zR1 14 (fun K hK => ?_)
       simp only [zG]
       obtain ⟨a3, c3, w3, hr, C', Kp⟩ := C.app (pg := Tryz.prog) (t := 3) Tryz.underlying28 Qac rfl (by decide) (by decide) 4 w1.heap.size rfl p.nA p.nc p.ns (HP.out.na.below I.bl) hf.nl; have C := C'; clear C'; rw [if_pos (by rfl)]; refine Qaa _ _ _ (by rfl) _ _ _ (by rfl) (by rfl) hr ?_; have I := Kp _ _ _ I; clear hr Kp
       refine hK.out _ _ (MkS.out _ I.p1) fun hH => ?_; clear hK K; try simp only [zX,zY]
       refine zR1 18 (fun K hK => ?_)
       simp only [zG]
       obtain ⟨a4, c4, w4, hr, C', Kp⟩ := C.app (pg := Tryz.prog) (t := 3) Tryz.underlying28 Qac rfl (by decide) (by decide) 5 v11.heap.size rfl p.pA p.pc p.ps (HP.out.pa.below I.bl) hf.pl; have C := C'; clear C'; rw [if_pos (by rfl)]; refine Qaa _ _ _ (by rfl) _ _ _ (by rfl) (by rfl) hr ?_; have I := Kp _ _ _ I; clear hr Kp
     rotate_left 3
     focus
      simp only [zG]
      go_simp
      have C := C.made 5 3 (g := w1.heap.size) rfl; have I := I.below (Qab (Below.refl _ _) (.cells #[] 3))
      refine hK.out _ _ (MkS.out _ I.p1) fun hH => ?_; clear hK K; try simp only [zX,zY]
      generalize World.alloc w1 (.cells #[] 3) = v15 at *
      refine zR2 10 11 (fun K hK => ?_) (fun K hK => ?_)
      focus
       simp only [zG]
       obtain ⟨a2, c2, w2, hr, C', Kp⟩ := C.app (pg := Tryz.prog) (t := 4) Tryz.underlying34 Qak rfl (by decide) (by decide) 3 u0.heap.size rfl p.vA p.vc p.vs (HP.out.va.below I.bl) hf.vl; have C := C'; clear C'; rw [if_pos (by rfl)]; refine Qaa _ _ _ (by rfl) _ _ _ (by rfl) (by rfl) hr ?_; have I := Kp _ _ _ I; clear hr Kp
       refine hK.out _ _ (MkS.out _ I.p1) fun hH => ?_; clear hK K; try simp only [zX,zY]
       refine zR1 11 (fun K hK => ?_)
       simp only [zG]
       go_simp
       have C := C.made 4 3 (g := w2.heap.size) rfl; have I := I.below (Qab (Below.refl _ _) (.cells #[] 3))
       refine hK.out _ _ (MkS.out _ I.p1) fun hH => ?_; clear hK K; try simp only [zX,zY]
       generalize World.alloc w2 (.cells #[] 3) = v11 at *
       refine zR1 14 (fun K hK => ?_)
       simp only [zG]
       obtain ⟨a3, c3, w3, hr, C', Kp⟩ := C.app (pg := Tryz.prog) (t := 3) Tryz.underlying28 Qac rfl (by decide) (by decide) 4 w2.heap.size rfl p.nA p.nc p.ns (HP.out.na.below I.bl) hf.nl; have C := C'; clear C'; rw [if_pos (by rfl)]; refine Qaa _ _ _ (by rfl) _ _ _ (by rfl) (by rfl) hr ?_; have I := Kp _ _ _ I; clear hr Kp
       refine hK.out _ _ (MkS.out _ I.p1) fun hH => ?_; clear hK K; try simp only [zX,zY]
       refine zR1 18 (fun K hK => ?_)
       simp only [zG]
       obtain ⟨a4, c4, w4, hr, C', Kp⟩ := C.app (pg := Tryz.prog) (t := 3) Tryz.underlying28 Qac rfl (by decide) (by decide) 5 w1.heap.size rfl p.pA p.pc p.ps (HP.out.pa.below I.bl) hf.pl; have C := C'; clear C'; rw [if_pos (by rfl)]; refine Qaa _ _ _ (by rfl) _ _ _ (by rfl) (by rfl) hr ?_; have I := Kp _ _ _ I; clear hr Kp
      rotate_left
      focus
       simp only [zG]
       go_simp
       have C := C.made 4 3 (g := v15.heap.size) rfl; have I := I.below (Qab (Below.refl _ _) (.cells #[] 3))
       refine hK.out _ _ (MkS.out _ I.p1) fun hH => ?_; clear hK K; try simp only [zX,zY]
       generalize World.alloc v15 (.cells #[] 3) = v11 at *
       refine zR1 10 (fun K hK => ?_)
       simp only [zG]
       obtain ⟨a2, c2, w2, hr, C', Kp⟩ := C.app (pg := Tryz.prog) (t := 4) Tryz.underlying34 Qak rfl (by decide) (by decide) 3 u0.heap.size rfl p.vA p.vc p.vs (HP.out.va.below I.bl) hf.vl; have C := C'; clear C'; rw [if_pos (by rfl)]; refine Qaa _ _ _ (by rfl) _ _ _ (by rfl) (by rfl) hr ?_; have I := Kp _ _ _ I; clear hr Kp
       refine hK.out _ _ (MkS.out _ I.p1) fun hH => ?_; clear hK K; try simp only [zX,zY]
       refine zR1 14 (fun K hK => ?_)
       simp only [zG]
       obtain ⟨a3, c3, w3, hr, C', Kp⟩ := C.app (pg := Tryz.prog) (t := 3) Tryz.underlying28 Qac rfl (by decide) (by decide) 4 v15.heap.size rfl p.nA p.nc p.ns (HP.out.na.below I.bl) hf.nl; have C := C'; clear C'; rw [if_pos (by rfl)]; refine Qaa _ _ _ (by rfl) _ _ _ (by rfl) (by rfl) hr ?_; have I := Kp _ _ _ I; clear hr Kp
       refine hK.out _ _ (MkS.out _ I.p1) fun hH => ?_; clear hK K; try simp only [zX,zY]
       refine zR1 18 (fun K hK => ?_)
       simp only [zG]
       obtain ⟨a4, c4, w4, hr, C', Kp⟩ := C.app (pg := Tryz.prog) (t := 3) Tryz.underlying28 Qac rfl (by decide) (by decide) 5 w1.heap.size rfl p.pA p.pc p.ps (HP.out.pa.below I.bl) hf.pl; have C := C'; clear C'; rw [if_pos (by rfl)]; refine Qaa _ _ _ (by rfl) _ _ _ (by rfl) (by rfl) hr ?_; have I := Kp _ _ _ I; clear hr Kp
    rotate_left 8
    focus
     simp only [zG]
     go_simp
     have C := C.made 4 3 (g := v7.heap.size) rfl; have I := I.below (Qab (Below.refl _ _) (.cells #[] 3))
     refine hK.out _ _ (MkS.out _ I.p1) fun hH => ?_; clear hK K; try simp only [zX,zY]
     generalize World.alloc v7 (.cells #[] 3) = v11 at *
     refine zR2 4 15 (fun K hK => ?_) (fun K hK => ?_)
     focus
      simp only [zG]
      go_simp
      refine (CH.out _ I.bl).mono ?_; rintro e w1 ⟨a1, c1, x', cc, rfl, g1, hx1, s1, s2⟩; have C := C.fresh2 g1 cc 1 2 (by decide) (Qca a1 p.l) (fmK x') s1 s2; have I := I.below g1; clear g1 s1 s2
      refine hK.out _ _ (MkS.out _ I.p1) fun hH => ?_; clear hK K; try simp only [zX,zY]
      refine zR2 10 15 (fun K hK => ?_) (fun K hK => ?_)
      focus
       simp only [zG]
       obtain ⟨a2, c2, w2, hr, C', Kp⟩ := C.app (pg := Tryz.prog) (t := 4) Tryz.underlying34 Qak rfl (by decide) (by decide) 3 u0.heap.size rfl p.vA p.vc p.vs (HP.out.va.below I.bl) hf.vl; have C := C'; clear C'; rw [if_pos (by rfl)]; refine Qaa _ _ _ (by rfl) _ _ _ (by rfl) (by rfl) hr ?_; have I := Kp _ _ _ I; clear hr Kp
       refine hK.out _ _ (MkS.out _ I.p1) fun hH => ?_; clear hK K; try simp only [zX,zY]
       refine zR2 14 15 (fun K hK => ?_) (fun K hK => ?_)
       focus
        simp only [zG]
        obtain ⟨a3, c3, w3, hr, C', Kp⟩ := C.app (pg := Tryz.prog) (t := 3) Tryz.underlying28 Qac rfl (by decide) (by decide) 4 v7.heap.size rfl p.nA p.nc p.ns (HP.out.na.below I.bl) hf.nl; have C := C'; clear C'; rw [if_pos (by rfl)]; refine Qaa _ _ _ (by rfl) _ _ _ (by rfl) (by rfl) hr ?_; have I := Kp _ _ _ I; clear hr Kp
        refine hK.out _ _ (MkS.out _ I.p1) fun hH => ?_; clear hK K; try simp only [zX,zY]
        refine zR1 15 (fun K hK => ?_)
        simp only [zG]
        go_simp
        have C := C.made 5 3 (g := w3.heap.size) rfl; have I := I.below (Qab (Below.refl _ _) (.cells #[] 3))
        refine hK.out _ _ (MkS.out _ I.p1) fun hH => ?_; clear hK K; try simp only [zX,zY]
        generalize World.alloc w3 (.cells #[] 3) = v15 at *
        refine zR1 18 (fun K hK => ?_)
        simp only [zG]
        obtain ⟨a4, c4, w4, hr, C', Kp⟩ := C.app (pg := Tryz.prog) (t := 3) Tryz.underlying28 Qac rfl (by decide) (by decide) 5 w3.heap.size rfl p.pA p.pc p.ps (HP.out.pa.below I.bl) hf.pl; have C := C'; clear C'; rw [if_pos (by rfl)]; refine Qaa _ _ _ (by rfl) _ _ _ (by rfl) (by rfl) hr ?_; have I := Kp _ _ _ I; clear hr Kp
       rotate_left
       focus
        simp only [zG]
        go_simp
        have C := C.made 5 3 (g := w2.heap.size) rfl; have I := I.below (Qab (Below.refl _ _) (.cells #[] 3))
        refine hK.out _ _ (MkS.out _ I.p1) fun hH => ?_; clear hK K; try simp only [zX,zY]
        generalize World.alloc w2 (.cells #[] 3) = v15 at *
        refine zR1 14 (fun K hK => ?_)
        simp only [zG]
        obtain ⟨a3, c3, w3, hr, C', Kp⟩ := C.app (pg := Tryz.prog) (t := 3) Tryz.underlying28 Qac rfl (by decide) (by decide) 4 v7.heap.size rfl p.nA p.nc p.ns (HP.out.na.below I.bl) hf.nl; have C := C'; clear C'; rw [if_pos (by rfl)]; refine Qaa _ _ _ (by rfl) _ _ _ (by rfl) (by rfl) hr ?_; have I := Kp _ _ _ I; clear hr Kp
        refine hK.out _ _ (MkS.out _ I.p1) fun hH => ?_; clear hK K; try simp only [zX,zY]
        refine zR1 18 (fun K hK => ?_)
        simp only [zG]
        obtain ⟨a4, c4, w4, hr, C', Kp⟩ := C.app (pg := Tryz.prog) (t := 3) Tryz.underlying28 Qac rfl (by decide) (by decide) 5 w2.heap.size rfl p.pA p.pc p.ps (HP.out.pa.below I.bl) hf.pl; have C := C'; clear C'; rw [if_pos (by rfl)]; refine Qaa _ _ _ (by rfl) _ _ _ (by rfl) (by rfl) hr ?_; have I := Kp _ _ _ I; clear hr Kp
      rotate_left 2
      focus
       simp only [zG]
       go_simp
       have C := C.made 5 3 (g := w1.heap.size) rfl; have I := I.below (Qab (Below.refl _ _) (.cells #[] 3))
       refine hK.out _ _ (MkS.out _ I.p1) fun hH => ?_; clear hK K; try simp only [zX,zY]
       generalize World.alloc w1 (.cells #[] 3) = v15 at *
       refine zR1 10 (fun K hK => ?_)
       simp only [zG]
       obtain ⟨a2, c2, w2, hr, C', Kp⟩ := C.app (pg := Tryz.prog) (t := 4) Tryz.underlying34 Qak rfl (by decide) (by decide) 3 u0.heap.size rfl p.vA p.vc p.vs (HP.out.va.below I.bl) hf.vl; have C := C'; clear C'; rw [if_pos (by rfl)]; refine Qaa _ _ _ (by rfl) _ _ _ (by rfl) (by rfl) hr ?_; have I := Kp _ _ _ I; clear hr Kp
       refine hK.out _ _ (MkS.out _ I.p1) fun hH => ?_; clear hK K; try simp only [zX,zY]
       refine zR1 14 (fun K hK => ?_)
       simp only [zG]
       obtain ⟨a3, c3, w3, hr, C', Kp⟩ := C.app (pg := Tryz.prog) (t := 3) Tryz.underlying28 Qac rfl (by decide) (by decide) 4 v7.heap.size rfl p.nA p.nc p.ns (HP.out.na.below I.bl) hf.nl; have C := C'; clear C'; rw [if_pos (by rfl)]; refine Qaa _ _ _ (by rfl) _ _ _ (by rfl) (by rfl) hr ?_; have I := Kp _ _ _ I; clear hr Kp
       refine hK.out _ _ (MkS.out _ I.p1) fun hH => ?_; clear hK K; try simp only [zX,zY]
       refine zR1 18 (fun K hK => ?_)
       simp only [zG]
       obtain ⟨a4, c4, w4, hr, C', Kp⟩ := C.app (pg := Tryz.prog) (t := 3) Tryz.underlying28 Qac rfl (by decide) (by decide) 5 w1.heap.size rfl p.pA p.pc p.ps (HP.out.pa.below I.bl) hf.pl; have C := C'; clear C'; rw [if_pos (by rfl)]; refine Qaa _ _ _ (by rfl) _ _ _ (by rfl) (by rfl) hr ?_; have I := Kp _ _ _ I; clear hr Kp
     rotate_left 3
     focus
      simp only [zG]
      go_simp
      have C := C.made 5 3 (g := v11.heap.size) rfl; have I := I.below (Qab (Below.refl _ _) (.cells #[] 3))
      refine hK.out _ _ (MkS.out _ I.p1) fun hH => ?_; clear hK K; try simp only [zX,zY]
      generalize World.alloc v11 (.cells #[] 3) = v15 at *
      refine zR1 4 (fun K hK => ?_)
      simp only [zG]
      go_simp
      refine (CH.out _ I.bl).mono ?_; rintro e w1 ⟨a1, c1, x', cc, rfl, g1, hx1, s1, s2⟩; have C := C.fresh2 g1 cc 1 2 (by decide) (Qca a1 p.l) (fmK x') s1 s2; have I := I.below g1; clear g1 s1 s2
      refine hK.out _ _ (MkS.out _ I.p1) fun hH => ?_; clear hK K; try simp only [zX,zY]
      refine zR1 10 (fun K hK => ?_)
      simp only [zG]
      obtain ⟨a2, c2, w2, hr, C', Kp⟩ := C.app (pg := Tryz.prog) (t := 4) Tryz.underlying34 Qak rfl (by decide) (by decide) 3 u0.heap.size rfl p.vA p.vc p.vs (HP.out.va.below I.bl) hf.vl; have C := C'; clear C'; rw [if_pos (by rfl)]; refine Qaa _ _ _ (by rfl) _ _ _ (by rfl) (by rfl) hr ?_; have I := Kp _ _ _ I; clear hr Kp
      refine hK.out _ _ (MkS.out _ I.p1) fun hH => ?_; clear hK K; try simp only [zX,zY]
      refine zR1 14 (fun K hK => ?_)
      simp only [zG]
      obtain ⟨a3, c3, w3, hr, C', Kp⟩ := C.app (pg := Tryz.prog) (t := 3) Tryz.underlying28 Qac rfl (by decide) (by decide) 4 v7.heap.size rfl p.nA p.nc p.ns (HP.out.na.below I.bl) hf.nl; have C := C'; clear C'; rw [if_pos (by rfl)]; refine Qaa _ _ _ (by rfl) _ _ _ (by rfl) (by rfl) hr ?_; have I := Kp _ _ _ I; clear hr Kp
      refine hK.out _ _ (MkS.out _ I.p1) fun hH => ?_; clear hK K; try simp only [zX,zY]
      refine zR1 18 (fun K hK => ?_)
      simp only [zG]
      obtain ⟨a4, c4, w4, hr, C', Kp⟩ := C.app (pg := Tryz.prog) (t := 3) Tryz.underlying28 Qac rfl (by decide) (by decide) 5 v11.heap.size rfl p.pA p.pc p.ps (HP.out.pa.below I.bl) hf.pl; have C := C'; clear C'; rw [if_pos (by rfl)]; refine Qaa _ _ _ (by rfl) _ _ _ (by rfl) (by rfl) hr ?_; have I := Kp _ _ _ I; clear hr Kp
    rotate_left 4
    focus
     simp only [zG]
     go_simp
     have C := C.made 5 3 (g := v7.heap.size) rfl; have I := I.below (Qab (Below.refl _ _) (.cells #[] 3))
     refine hK.out _ _ (MkS.out _ I.p1) fun hH => ?_; clear hK K; try simp only [zX,zY]
     generalize World.alloc v7 (.cells #[] 3) = v15 at *
     refine zR2 4 11 (fun K hK => ?_) (fun K hK => ?_)
     focus
      simp only [zG]
      go_simp
      refine (CH.out _ I.bl).mono ?_; rintro e w1 ⟨a1, c1, x', cc, rfl, g1, hx1, s1, s2⟩; have C := C.fresh2 g1 cc 1 2 (by decide) (Qca a1 p.l) (fmK x') s1 s2; have I := I.below g1; clear g1 s1 s2
      refine hK.out _ _ (MkS.out _ I.p1) fun hH => ?_; clear hK K; try simp only [zX,zY]
      refine zR2 10 11 (fun K hK => ?_) (fun K hK => ?_)
      focus
       simp only [zG]
       obtain ⟨a2, c2, w2, hr, C', Kp⟩ := C.app (pg := Tryz.prog) (t := 4) Tryz.underlying34 Qak rfl (by decide) (by decide) 3 u0.heap.size rfl p.vA p.vc p.vs (HP.out.va.below I.bl) hf.vl; have C := C'; clear C'; rw [if_pos (by rfl)]; refine Qaa _ _ _ (by rfl) _ _ _ (by rfl) (by rfl) hr ?_; have I := Kp _ _ _ I; clear hr Kp
       refine hK.out _ _ (MkS.out _ I.p1) fun hH => ?_; clear hK K; try simp only [zX,zY]
       refine zR1 11 (fun K hK => ?_)
       simp only [zG]
       go_simp
       have C := C.made 4 3 (g := w2.heap.size) rfl; have I := I.below (Qab (Below.refl _ _) (.cells #[] 3))
       refine hK.out _ _ (MkS.out _ I.p1) fun hH => ?_; clear hK K; try simp only [zX,zY]
       generalize World.alloc w2 (.cells #[] 3) = v11 at *
       refine zR1 14 (fun K hK => ?_)
       simp only [zG]
       obtain ⟨a3, c3, w3, hr, C', Kp⟩ := C.app (pg := Tryz.prog) (t := 3) Tryz.underlying28 Qac rfl (by decide) (by decide) 4 w2.heap.size rfl p.nA p.nc p.ns (HP.out.na.below I.bl) hf.nl; have C := C'; clear C'; rw [if_pos (by rfl)]; refine Qaa _ _ _ (by rfl) _ _ _ (by rfl) (by rfl) hr ?_; have I := Kp _ _ _ I; clear hr Kp
       refine hK.out _ _ (MkS.out _ I.p1) fun hH => ?_; clear hK K; try simp only [zX,zY]
       refine zR1 18 (fun K hK => ?_)
       simp only [zG]
       obtain ⟨a4, c4, w4, hr, C', Kp⟩ := C.app (pg := Tryz.prog) (t := 3) Tryz.underlying28 Qac rfl (by decide) (by decide) 5 v7.heap.size rfl p.pA p.pc p.ps (HP.out.pa.below I.bl) hf.pl; have C := C'; clear C'; rw [if_pos (by rfl)]; refine Qaa _ _ _ (by rfl) _ _ _ (by rfl) (by rfl) hr ?_; have I := Kp _ _ _ I; clear hr Kp
      rotate_left
      focus
       simp only [zG]
       go_simp
       have C := C.made 4 3 (g := w1.heap.size) rfl; have I := I.below (Qab (Below.refl _ _) (.cells #[] 3))
       refine hK.out _ _ (MkS.out _ I.p1) fun hH => ?_; clear hK K; try simp only [zX,zY]
       generalize World.alloc w1 (.cells #[] 3) = v11 at *
       refine zR1 10 (fun K hK => ?_)
       simp only [zG]
       obtain ⟨a2, c2, w2, hr, C', Kp⟩ := C.app (pg := Tryz.prog) (t := 4) Tryz.underlying34 Qak rfl (by decide) (by decide) 3 u0.heap.size rfl p.vA p.vc p.vs (HP.out.va.below I.bl) hf.vl; have C := C'; clear C'; rw [if_pos (by rfl)]; refine Qaa _ _ _ (by rfl) _ _ _ (by rfl) (by rfl) hr ?_; have I := Kp _ _ _ I; clear hr Kp
       refine hK.out _ _ (MkS.out _ I.p1) fun hH => ?_; clear hK K; try simp only [zX,zY]
       refine zR1 14 (fun K hK => ?_)
       simp only [zG]
       obtain ⟨a3, c3, w3, hr, C', Kp⟩ := C.app (pg := Tryz.prog) (t := 3) Tryz.underlying28 Qac rfl (by decide) (by decide) 4 w1.heap.size rfl p.nA p.nc p.ns (HP.out.na.below I.bl) hf.nl; have C := C'; clear C'; rw [if_pos (by rfl)]; refine Qaa _ _ _ (by rfl) _ _ _ (by rfl) (by rfl) hr ?_; have I := Kp _ _ _ I; clear hr Kp
       refine hK.out _ _ (MkS.out _ I.p1) fun hH => ?_; clear hK K; try simp only [zX,zY]
       refine zR1 18 (fun K hK => ?_)
       simp only [zG]
       obtain ⟨a4, c4, w4, hr, C', Kp⟩ := C.app (pg := Tryz.prog) (t := 3) Tryz.underlying28 Qac rfl (by decide) (by decide) 5 v7.heap.size rfl p.pA p.pc p.ps (HP.out.pa.below I.bl) hf.pl; have C := C'; clear C'; rw [if_pos (by rfl)]; refine Qaa _ _ _ (by rfl) _ _ _ (by rfl) (by rfl) hr ?_; have I := Kp _ _ _ I; clear hr Kp
     rotate_left 2
     focus
      simp only [zG]
      go_simp
      have C := C.made 4 3 (g := v15.heap.size) rfl; have I := I.below (Qab (Below.refl _ _) (.cells #[] 3))
      refine hK.out _ _ (MkS.out _ I.p1) fun hH => ?_; clear hK K; try simp only [zX,zY]
      generalize World.alloc v15 (.cells #[] 3) = v11 at *
      refine zR1 4 (fun K hK => ?_)
      simp only [zG]
      go_simp
      refine (CH.out _ I.bl).mono ?_; rintro e w1 ⟨a1, c1, x', cc, rfl, g1, hx1, s1, s2⟩; have C := C.fresh2 g1 cc 1 2 (by decide) (Qca a1 p.l) (fmK x') s1 s2; have I := I.below g1; clear g1 s1 s2
      refine hK.out _ _ (MkS.out _ I.p1) fun hH => ?_; clear hK K; try simp only [zX,zY]
      refine zR1 10 (fun K hK => ?_)
      simp only [zG]
      obtain ⟨a2, c2, w2, hr, C', Kp⟩ := C.app (pg := Tryz.prog) (t := 4) Tryz.underlying34 Qak rfl (by decide) (by decide) 3 u0.heap.size rfl p.vA p.vc p.vs (HP.out.va.below I.bl) hf.vl; have C := C'; clear C'; rw [if_pos (by rfl)]; refine Qaa _ _ _ (by rfl) _ _ _ (by rfl) (by rfl) hr ?_; have I := Kp _ _ _ I; clear hr Kp
      refine hK.out _ _ (MkS.out _ I.p1) fun hH => ?_; clear hK K; try simp only [zX,zY]
      refine zR1 14 (fun K hK => ?_)
      simp only [zG]
      obtain ⟨a3, c3, w3, hr, C', Kp⟩ := C.app (pg := Tryz.prog) (t := 3) Tryz.underlying28 Qac rfl (by decide) (by decide) 4 v15.heap.size rfl p.nA p.nc p.ns (HP.out.na.below I.bl) hf.nl; have C := C'; clear C'; rw [if_pos (by rfl)]; refine Qaa _ _ _ (by rfl) _ _ _ (by rfl) (by rfl) hr ?_; have I := Kp _ _ _ I; clear hr Kp
      refine hK.out _ _ (MkS.out _ I.p1) fun hH => ?_; clear hK K; try simp only [zX,zY]
      refine zR1 18 (fun K hK => ?_)
      simp only [zG]
      obtain ⟨a4, c4, w4, hr, C', Kp⟩ := C.app (pg := Tryz.prog) (t := 3) Tryz.underlying28 Qac rfl (by decide) (by decide) 5 v7.heap.size rfl p.pA p.pc p.ps (HP.out.pa.below I.bl) hf.pl; have C := C'; clear C'; rw [if_pos (by rfl)]; refine Qaa _ _ _ (by rfl) _ _ _ (by rfl) (by rfl) hr ?_; have I := Kp _ _ _ I; clear hr Kp
   rotate_left 15
   focus
    simp only [zG]
    go_simp
    have C := C.made 4 3 (g := u0.heap.size) rfl; have I := I.below (Qab (Below.refl _ _) (.cells #[] 3))
    refine hK.out _ _ (MkS.out _ I.p1) fun hH => ?_; clear hK K; try simp only [zX,zY]
    generalize World.alloc u0 (.cells #[] 3) = v11 at *
    refine zR3 4 7 15 (fun K hK => ?_) (fun K hK => ?_) (fun K hK => ?_)
    focus
     simp only [zG]
     go_simp
     refine (CH.out _ I.bl).mono ?_; rintro e w1 ⟨a1, c1, x', cc, rfl, g1, hx1, s1, s2⟩; have C := C.fresh2 g1 cc 1 2 (by decide) (Qca a1 p.l) (fmK x') s1 s2; have I := I.below g1; clear g1 s1 s2
     refine hK.out _ _ (MkS.out _ I.p1) fun hH => ?_; clear hK K; try simp only [zX,zY]
     refine zR2 7 15 (fun K hK => ?_) (fun K hK => ?_)
     focus
      simp only [zG]
      go_simp
      have C := C.made 3 4 (g := w1.heap.size) rfl; have I := I.below (Qab (Below.refl _ _) (.cells #[] 4))
      refine hK.out _ _ (MkS.out _ I.p1) fun hH => ?_; clear hK K; try simp only [zX,zY]
      generalize World.alloc w1 (.cells #[] 4) = v7 at *
      refine zR2 10 15 (fun K hK => ?_) (fun K hK => ?_)
      focus
       simp only [zG]
       obtain ⟨a2, c2, w2, hr, C', Kp⟩ := C.app (pg := Tryz.prog) (t := 4) Tryz.underlying34 Qak rfl (by decide) (by decide) 3 w1.heap.size rfl p.vA p.vc p.vs (HP.out.va.below I.bl) hf.vl; have C := C'; clear C'; rw [if_pos (by rfl)]; refine Qaa _ _ _ (by rfl) _ _ _ (by rfl) (by rfl) hr ?_; have I := Kp _ _ _ I; clear hr Kp
       refine hK.out _ _ (MkS.out _ I.p1) fun hH => ?_; clear hK K; try simp only [zX,zY]
       refine zR2 14 15 (fun K hK => ?_) (fun K hK => ?_)
       focus
        simp only [zG]
        obtain ⟨a3, c3, w3, hr, C', Kp⟩ := C.app (pg := Tryz.prog) (t := 3) Tryz.underlying28 Qac rfl (by decide) (by decide) 4 u0.heap.size rfl p.nA p.nc p.ns (HP.out.na.below I.bl) hf.nl; have C := C'; clear C'; rw [if_pos (by rfl)]; refine Qaa _ _ _ (by rfl) _ _ _ (by rfl) (by rfl) hr ?_; have I := Kp _ _ _ I; clear hr Kp
        refine hK.out _ _ (MkS.out _ I.p1) fun hH => ?_; clear hK K; try simp only [zX,zY]
        refine zR1 15 (fun K hK => ?_)
        simp only [zG]
        go_simp
        have C := C.made 5 3 (g := w3.heap.size) rfl; have I := I.below (Qab (Below.refl _ _) (.cells #[] 3))
        refine hK.out _ _ (MkS.out _ I.p1) fun hH => ?_; clear hK K; try simp only [zX,zY]
        generalize World.alloc w3 (.cells #[] 3) = v15 at *
        refine zR1 18 (fun K hK => ?_)
        simp only [zG]
        obtain ⟨a4, c4, w4, hr, C', Kp⟩ := C.app (pg := Tryz.prog) (t := 3) Tryz.underlying28 Qac rfl (by decide) (by decide) 5 w3.heap.size rfl p.pA p.pc p.ps (HP.out.pa.below I.bl) hf.pl; have C := C'; clear C'; rw [if_pos (by rfl)]; refine Qaa _ _ _ (by rfl) _ _ _ (by rfl) (by rfl) hr ?_; have I := Kp _ _ _ I; clear hr Kp
       rotate_left
       focus
        simp only [zG]
        go_simp
        have C := C.made 5 3 (g := w2.heap.size) rfl; have I := I.below (Qab (Below.refl _ _) (.cells #[] 3))
        refine hK.out _ _ (MkS.out _ I.p1) fun hH => ?_; clear hK K; try simp only [zX,zY]
        generalize World.alloc w2 (.cells #[] 3) = v15 at *
        refine zR1 14 (fun K hK => ?_)
        simp only [zG]
        obtain ⟨a3, c3, w3, hr, C', Kp⟩ := C.app (pg := Tryz.prog) (t := 3) Tryz.underlying28 Qac rfl (by decide) (by decide) 4 u0.heap.size rfl p.nA p.nc p.ns (HP.out.na.below I.bl) hf.nl; have C := C'; clear C'; rw [if_pos (by rfl)]; refine Qaa _ _ _ (by rfl) _ _ _ (by rfl) (by rfl) hr ?_; have I := Kp _ _ _ I; clear hr Kp
        refine hK.out _ _ (MkS.out _ I.p1) fun hH => ?_; clear hK K; try simp only [zX,zY]
        refine zR1 18 (fun K hK => ?_)
        simp only [zG]
        obtain ⟨a4, c4, w4, hr, C', Kp⟩ := C.app (pg := Tryz.prog) (t := 3) Tryz.underlying28 Qac rfl (by decide) (by decide) 5 w2.heap.size rfl p.pA p.pc p.ps (HP.out.pa.below I.bl) hf.pl; have C := C'; clear C'; rw [if_pos (by rfl)]; refine Qaa _ _ _ (by rfl) _ _ _ (by rfl) (by rfl) hr ?_; have I := Kp _ _ _ I; clear hr Kp
      rotate_left 2
      focus
       simp only [zG]
       go_simp
       have C := C.made 5 3 (g := v7.heap.size) rfl; have I := I.below (Qab (Below.refl _ _) (.cells #[] 3))
       refine hK.out _ _ (MkS.out _ I.p1) fun hH => ?_; clear hK K; try simp only [zX,zY]
       generalize World.alloc v7 (.cells #[] 3) = v15 at *
       refine zR1 10 (fun K hK => ?_)
       simp only [zG]
       obtain ⟨a2, c2, w2, hr, C', Kp⟩ := C.app (pg := Tryz.prog) (t := 4) Tryz.underlying34 Qak rfl (by decide) (by decide) 3 w1.heap.size rfl p.vA p.vc p.vs (HP.out.va.below I.bl) hf.vl; have C := C'; clear C'; rw [if_pos (by rfl)]; refine Qaa _ _ _ (by rfl) _ _ _ (by rfl) (by rfl) hr ?_; have I := Kp _ _ _ I; clear hr Kp
       refine hK.out _ _ (MkS.out _ I.p1) fun hH => ?_; clear hK K; try simp only [zX,zY]
       refine zR1 14 (fun K hK => ?_)
       simp only [zG]
       obtain ⟨a3, c3, w3, hr, C', Kp⟩ := C.app (pg := Tryz.prog) (t := 3) Tryz.underlying28 Qac rfl (by decide) (by decide) 4 u0.heap.size rfl p.nA p.nc p.ns (HP.out.na.below I.bl) hf.nl; have C := C'; clear C'; rw [if_pos (by rfl)]; refine Qaa _ _ _ (by rfl) _ _ _ (by rfl) (by rfl) hr ?_; have I := Kp _ _ _ I; clear hr Kp
       refine hK.out _ _ (MkS.out _ I.p1) fun hH => ?_; clear hK K; try simp only [zX,zY]
       refine zR1 18 (fun K hK => ?_)
       simp only [zG]
       obtain ⟨a4, c4, w4, hr, C', Kp⟩ := C.app (pg := Tryz.prog) (t := 3) Tryz.underlying28 Qac rfl (by decide) (by decide) 5 v7.heap.size rfl p.pA p.pc p.ps (HP.out.pa.below I.bl) hf.pl; have C := C'; clear C'; rw [if_pos (by rfl)]; refine Qaa _ _ _ (by rfl) _ _ _ (by rfl) (by rfl) hr ?_; have I := Kp _ _ _ I; clear hr Kp
     rotate_left 3
     focus
      simp only [zG]
      go_simp
      have C := C.made 5 3 (g := w1.heap.size) rfl; have I := I.below (Qab (Below.refl _ _) (.cells #[] 3))
      refine hK.out _ _ (MkS.out _ I.p1) fun hH => ?_; clear hK K; try simp only [zX,zY]
      generalize World.alloc w1 (.cells #[] 3) = v15 at *
      refine zR1 7 (fun K hK => ?_)
      simp only [zG]
      go_simp
      have C := C.made 3 4 (g := v15.heap.size) rfl; have I := I.below (Qab (Below.refl _ _) (.cells #[] 4))
      refine hK.out _ _ (MkS.out _ I.p1) fun hH => ?_; clear hK K; try simp only [zX,zY]
      generalize World.alloc v15 (.cells #[] 4) = v7 at *
      refine zR1 10 (fun K hK => ?_)
      simp only [zG]
      obtain ⟨a2, c2, w2, hr, C', Kp⟩ := C.app (pg := Tryz.prog) (t := 4) Tryz.underlying34 Qak rfl (by decide) (by decide) 3 v15.heap.size rfl p.vA p.vc p.vs (HP.out.va.below I.bl) hf.vl; have C := C'; clear C'; rw [if_pos (by rfl)]; refine Qaa _ _ _ (by rfl) _ _ _ (by rfl) (by rfl) hr ?_; have I := Kp _ _ _ I; clear hr Kp
      refine hK.out _ _ (MkS.out _ I.p1) fun hH => ?_; clear hK K; try simp only [zX,zY]
      refine zR1 14 (fun K hK => ?_)
      simp only [zG]
      obtain ⟨a3, c3, w3, hr, C', Kp⟩ := C.app (pg := Tryz.prog) (t := 3) Tryz.underlying28 Qac rfl (by decide) (by decide) 4 u0.heap.size rfl p.nA p.nc p.ns (HP.out.na.below I.bl) hf.nl; have C := C'; clear C'; rw [if_pos (by rfl)]; refine Qaa _ _ _ (by rfl) _ _ _ (by rfl) (by rfl) hr ?_; have I := Kp _ _ _ I; clear hr Kp
      refine hK.out _ _ (MkS.out _ I.p1) fun hH => ?_; clear hK K; try simp only [zX,zY]
      refine zR1 18 (fun K hK => ?_)
      simp only [zG]
      obtain ⟨a4, c4, w4, hr, C', Kp⟩ := C.app (pg := Tryz.prog) (t := 3) Tryz.underlying28 Qac rfl (by decide) (by decide) 5 w1.heap.size rfl p.pA p.pc p.ps (HP.out.pa.below I.bl) hf.pl; have C := C'; clear C'; rw [if_pos (by rfl)]; refine Qaa _ _ _ (by rfl) _ _ _ (by rfl) (by rfl) hr ?_; have I := Kp _ _ _ I; clear hr Kp
    rotate_left 4
    focus
     simp only [zG]
     go_simp
     have C := C.made 3 4 (g := v11.heap.size) rfl; have I := I.below (Qab (Below.refl _ _) (.cells #[] 4))
     refine hK.out _ _ (MkS.out _ I.p1) fun hH => ?_; clear hK K; try simp only [zX,zY]
     generalize World.alloc v11 (.cells #[] 4) = v7 at *
     refine zR2 4 15 (fun K hK => ?_) (fun K hK => ?_)
     focus
      simp only [zG]
      go_simp
      refine (CH.out _ I.bl).mono ?_; rintro e w1 ⟨a1, c1, x', cc, rfl, g1, hx1, s1, s2⟩; have C := C.fresh2 g1 cc 1 2 (by decide) (Qca a1 p.l) (fmK x') s1 s2; have I := I.below g1; clear g1 s1 s2
      refine hK.out _ _ (MkS.out _ I.p1) fun hH => ?_; clear hK K; try simp only [zX,zY]
      refine zR2 10 15 (fun K hK => ?_) (fun K hK => ?_)
      focus
       simp only [zG]
       obtain ⟨a2, c2, w2, hr, C', Kp⟩ := C.app (pg := Tryz.prog) (t := 4) Tryz.underlying34 Qak rfl (by decide) (by decide) 3 v11.heap.size rfl p.vA p.vc p.vs (HP.out.va.below I.bl) hf.vl; have C := C'; clear C'; rw [if_pos (by rfl)]; refine Qaa _ _ _ (by rfl) _ _ _ (by rfl) (by rfl) hr ?_; have I := Kp _ _ _ I; clear hr Kp
       refine hK.out _ _ (MkS.out _ I.p1) fun hH => ?_; clear hK K; try simp only [zX,zY]
       refine zR2 14 15 (fun K hK => ?_) (fun K hK => ?_)
       focus
        simp only [zG]
        obtain ⟨a3, c3, w3, hr, C', Kp⟩ := C.app (pg := Tryz.prog) (t := 3) Tryz.underlying28 Qac rfl (by decide) (by decide) 4 u0.heap.size rfl p.nA p.nc p.ns (HP.out.na.below I.bl) hf.nl; have C := C'; clear C'; rw [if_pos (by rfl)]; refine Qaa _ _ _ (by rfl) _ _ _ (by rfl) (by rfl) hr ?_; have I := Kp _ _ _ I; clear hr Kp
        refine hK.out _ _ (MkS.out _ I.p1) fun hH => ?_; clear hK K; try simp only [zX,zY]
        refine zR1 15 (fun K hK => ?_)
        simp only [zG]
        go_simp
        have C := C.made 5 3 (g := w3.heap.size) rfl; have I := I.below (Qab (Below.refl _ _) (.cells #[] 3))
        refine hK.out _ _ (MkS.out _ I.p1) fun hH => ?_; clear hK K; try simp only [zX,zY]
        generalize World.alloc w3 (.cells #[] 3) = v15 at *
        refine zR1 18 (fun K hK => ?_)
        simp only [zG]
        obtain ⟨a4, c4, w4, hr, C', Kp⟩ := C.app (pg := Tryz.prog) (t := 3) Tryz.underlying28 Qac rfl (by decide) (by decide) 5 w3.heap.size rfl p.pA p.pc p.ps (HP.out.pa.below I.bl) hf.pl; have C := C'; clear C'; rw [if_pos (by rfl)]; refine Qaa _ _ _ (by rfl) _ _ _ (by rfl) (by rfl) hr ?_; have I := Kp _ _ _ I; clear hr Kp
       rotate_left
       focus
        simp only [zG]
        go_simp
        have C := C.made 5 3 (g := w2.heap.size) rfl; have I := I.below (Qab (Below.refl _ _) (.cells #[] 3))
        refine hK.out _ _ (MkS.out _ I.p1) fun hH => ?_; clear hK K; try simp only [zX,zY]
        generalize World.alloc w2 (.cells #[] 3) = v15 at *
        refine zR1 14 (fun K hK => ?_)
        simp only [zG]
        obtain ⟨a3, c3, w3, hr, C', Kp⟩ := C.app (pg := Tryz.prog) (t := 3) Tryz.underlying28 Qac rfl (by decide) (by decide) 4 u0.heap.size rfl p.nA p.nc p.ns (HP.out.na.below I.bl) hf.nl; have C := C'; clear C'; rw [if_pos (by rfl)]; refine Qaa _ _ _ (by rfl) _ _ _ (by rfl) (by rfl) hr ?_; have I := Kp _ _ _ I; clear hr Kp
        refine hK.out _ _ (MkS.out _ I.p1) fun hH => ?_; clear hK K; try simp only [zX,zY]
        refine zR1 18 (fun K hK => ?_)
        simp only [zG]
        obtain ⟨a4, c4, w4, hr, C', Kp⟩ := C.app (pg := Tryz.prog) (t := 3) Tryz.underlying28 Qac rfl (by decide) (by decide) 5 w2.heap.size rfl p.pA p.pc p.ps (HP.out.pa.below I.bl) hf.pl; have C := C'; clear C'; rw [if_pos (by rfl)]; refine Qaa _ _ _ (by rfl) _ _ _ (by rfl) (by rfl) hr ?_; have I := Kp _ _ _ I; clear hr Kp
      rotate_left 2
      focus
       simp only [zG]
       go_simp
       have C := C.made 5 3 (g := w1.heap.size) rfl; have I := I.below (Qab (Below.refl _ _) (.cells #[] 3))
       refine hK.out _ _ (MkS.out _ I.p1) fun hH => ?_; clear hK K; try simp only [zX,zY]
       generalize World.alloc w1 (.cells #[] 3) = v15 at *
       refine zR1 10 (fun K hK => ?_)
       simp only [zG]
       obtain ⟨a2, c2, w2, hr, C', Kp⟩ := C.app (pg := Tryz.prog) (t := 4) Tryz.underlying34 Qak rfl (by decide) (by decide) 3 v11.heap.size rfl p.vA p.vc p.vs (HP.out.va.below I.bl) hf.vl; have C := C'; clear C'; rw [if_pos (by rfl)]; refine Qaa _ _ _ (by rfl) _ _ _ (by rfl) (by rfl) hr ?_; have I := Kp _ _ _ I; clear hr Kp
       refine hK.out _ _ (MkS.out _ I.p1) fun hH => ?_; clear hK K; try simp only [zX,zY]
       refine zR1 14 (fun K hK => ?_)
       simp only [zG]
       obtain ⟨a3, c3, w3, hr, C', Kp⟩ := C.app (pg := Tryz.prog) (t := 3) Tryz.underlying28 Qac rfl (by decide) (by decide) 4 u0.heap.size rfl p.nA p.nc p.ns (HP.out.na.below I.bl) hf.nl; have C := C'; clear C'; rw [if_pos (by rfl)]; refine Qaa _ _ _ (by rfl) _ _ _ (by rfl) (by rfl) hr ?_; have I := Kp _ _ _ I; clear hr Kp
       refine hK.out _ _ (MkS.out _ I.p1) fun hH => ?_; clear hK K; try simp only [zX,zY]
       refine zR1 18 (fun K hK => ?_)
       simp only [zG]
       obtain ⟨a4, c4, w4, hr, C', Kp⟩ := C.app (pg := Tryz.prog) (t := 3) Tryz.underlying28 Qac rfl (by decide) (by decide) 5 w1.heap.size rfl p.pA p.pc p.ps (HP.out.pa.below I.bl) hf.pl; have C := C'; clear C'; rw [if_pos (by rfl)]; refine Qaa _ _ _ (by rfl) _ _ _ (by rfl) (by rfl) hr ?_; have I := Kp _ _ _ I; clear hr Kp
     rotate_left 3
     focus
      simp only [zG]
      go_simp
      have C := C.made 5 3 (g := v7.heap.size) rfl; have I := I.below (Qab (Below.refl _ _) (.cells #[] 3))
      refine hK.out _ _ (MkS.out _ I.p1) fun hH => ?_; clear hK K; try simp only [zX,zY]
      generalize World.alloc v7 (.cells #[] 3) = v15 at *
      refine zR1 4 (fun K hK => ?_)
      simp only [zG]
      go_simp
      refine (CH.out _ I.bl).mono ?_; rintro e w1 ⟨a1, c1, x', cc, rfl, g1, hx1, s1, s2⟩; have C := C.fresh2 g1 cc 1 2 (by decide) (Qca a1 p.l) (fmK x') s1 s2; have I := I.below g1; clear g1 s1 s2
      refine hK.out _ _ (MkS.out _ I.p1) fun hH => ?_; clear hK K; try simp only [zX,zY]
      refine zR1 10 (fun K hK => ?_)
      simp only [zG]
      obtain ⟨a2, c2, w2, hr, C', Kp⟩ := C.app (pg := Tryz.prog) (t := 4) Tryz.underlying34 Qak rfl (by decide) (by decide) 3 v11.heap.size rfl p.vA p.vc p.vs (HP.out.va.below I.bl) hf.vl; have C := C'; clear C'; rw [if_pos (by rfl)]; refine Qaa _ _ _ (by rfl) _ _ _ (by rfl) (by rfl) hr ?_; have I := Kp _ _ _ I; clear hr Kp
      refine hK.out _ _ (MkS.out _ I.p1) fun hH => ?_; clear hK K; try simp only [zX,zY]
      refine zR1 14 (fun K hK => ?_)
      simp only [zG]
      obtain ⟨a3, c3, w3, hr, C', Kp⟩ := C.app (pg := Tryz.prog) (t := 3) Tryz.underlying28 Qac rfl (by decide) (by decide) 4 u0.heap.size rfl p.nA p.nc p.ns (HP.out.na.below I.bl) hf.nl; have C := C'; clear C'; rw [if_pos (by rfl)]; refine Qaa _ _ _ (by rfl) _ _ _ (by rfl) (by rfl) hr ?_; have I := Kp _ _ _ I; clear hr Kp
      refine hK.out _ _ (MkS.out _ I.p1) fun hH => ?_; clear hK K; try simp only [zX,zY]
      refine zR1 18 (fun K hK => ?_)
      simp only [zG]
      obtain ⟨a4, c4, w4, hr, C', Kp⟩ := C.app (pg := Tryz.prog) (t := 3) Tryz.underlying28 Qac rfl (by decide) (by decide) 5 v7.heap.size rfl p.pA p.pc p.ps (HP.out.pa.below I.bl) hf.pl; have C := C'; clear C'; rw [if_pos (by rfl)]; refine Qaa _ _ _ (by rfl) _ _ _ (by rfl) (by rfl) hr ?_; have I := Kp _ _ _ I; clear hr Kp
    rotate_left 4
    focus
     simp only [zG]
     go_simp
     have C := C.made 5 3 (g := v11.heap.size) rfl; have I := I.below (Qab (Below.refl _ _) (.cells #[] 3))
     refine hK.out _ _ (MkS.out _ I.p1) fun hH => ?_; clear hK K; try simp only [zX,zY]
     generalize World.alloc v11 (.cells #[] 3) = v15 at *
     refine zR2 4 7 (fun K hK => ?_) (fun K hK => ?_)
     focus
      simp only [zG]
      go_simp
      refine (CH.out _ I.bl).mono ?_; rintro e w1 ⟨a1, c1, x', cc, rfl, g1, hx1, s1, s2⟩; have C := C.fresh2 g1 cc 1 2 (by decide) (Qca a1 p.l) (fmK x') s1 s2; have I := I.below g1; clear g1 s1 s2
      refine hK.out _ _ (MkS.out _ I.p1) fun hH => ?_; clear hK K; try simp only [zX,zY]
      refine zR1 7 (fun K hK => ?_)
      simp only [zG]
      go_simp
      have C := C.made 3 4 (g := w1.heap.size) rfl; have I := I.below (Qab (Below.refl _ _) (.cells #[] 4))
      refine hK.out _ _ (MkS.out _ I.p1) fun hH => ?_; clear hK K; try simp only [zX,zY]
      generalize World.alloc w1 (.cells #[] 4) = v7 at *
      refine zR1 10 (fun K hK => ?_)
      simp only [zG]
      obtain ⟨a2, c2, w2, hr, C', Kp⟩ := C.app (pg := Tryz.prog) (t := 4) Tryz.underlying34 Qak rfl (by decide) (by decide) 3 w1.heap.size rfl p.vA p.vc p.vs (HP.out.va.below I.bl) hf.vl; have C := C'; clear C'; rw [if_pos (by rfl)]; refine Qaa _ _ _ (by rfl) _ _ _ (by rfl) (by rfl) hr ?_; have I := Kp _ _ _ I; clear hr Kp
      refine hK.out _ _ (MkS.out _ I.p1) fun hH => ?_; clear hK K; try simp only [zX,zY]
      refine zR1 14 (fun K hK => ?_)
      simp only [zG]
      obtain ⟨a3, c3, w3, hr, C', Kp⟩ := C.app (pg := Tryz.prog) (t := 3) Tryz.underlying28 Qac rfl (by decide) (by decide) 4 u0.heap.size rfl p.nA p.nc p.ns (HP.out.na.below I.bl) hf.nl; have C := C'; clear C'; rw [if_pos (by rfl)]; refine Qaa _ _ _ (by rfl) _ _ _ (by rfl) (by rfl) hr ?_; have I := Kp _ _ _ I; clear hr Kp
      refine hK.out _ _ (MkS.out _ I.p1) fun hH => ?_; clear hK K; try simp only [zX,zY]
      refine zR1 18 (fun K hK => ?_)
      simp only [zG]
      obtain ⟨a4, c4, w4, hr, C', Kp⟩ := C.app (pg := Tryz.prog) (t := 3) Tryz.underlying28 Qac rfl (by decide) (by decide) 5 v11.heap.size rfl p.pA p.pc p.ps (HP.out.pa.below I.bl) hf.pl; have C := C'; clear C'; rw [if_pos (by rfl)]; refine Qaa _ _ _ (by rfl) _ _ _ (by rfl) (by rfl) hr ?_; have I := Kp _ _ _ I; clear hr Kp
     rotate_left
     focus
      simp only [zG]
      go_simp
      have C := C.made 3 4 (g := v15.heap.size) rfl; have I := I.below (Qab (Below.refl _ _) (.cells #[] 4))
      refine hK.out _ _ (MkS.out _ I.p1) fun hH => ?_; clear hK K; try simp only [zX,zY]
      generalize World.alloc v15 (.cells #[] 4) = v7 at *
      refine zR1 4 (fun K hK => ?_)
      simp only [zG]
      go_simp
      refine (CH.out _ I.bl).mono ?_; rintro e w1 ⟨a1, c1, x', cc, rfl, g1, hx1, s1, s2⟩; have C := C.fresh2 g1 cc 1 2 (by decide) (Qca a1 p.l) (fmK x') s1 s2; have I := I.below g1; clear g1 s1 s2
      refine hK.out _ _ (MkS.out _ I.p1) fun hH => ?_; clear hK K; try simp only [zX,zY]
      refine zR1 10 (fun K hK => ?_)
      simp only [zG]
      obtain ⟨a2, c2, w2, hr, C', Kp⟩ := C.app (pg := Tryz.prog) (t := 4) Tryz.underlying34 Qak rfl (by decide) (by decide) 3 v15.heap.size rfl p.vA p.vc p.vs (HP.out.va.below I.bl) hf.vl; have C := C'; clear C'; rw [if_pos (by rfl)]; refine Qaa _ _ _ (by rfl) _ _ _ (by rfl) (by rfl) hr ?_; have I := Kp _ _ _ I; clear hr Kp
      refine hK.out _ _ (MkS.out _ I.p1) fun hH => ?_; clear hK K; try simp only [zX,zY]
      refine zR1 14 (fun K hK => ?_)
      simp only [zG]
      obtain ⟨a3, c3, w3, hr, C', Kp⟩ := C.app (pg := Tryz.prog) (t := 3) Tryz.underlying28 Qac rfl (by decide) (by decide) 4 u0.heap.size rfl p.nA p.nc p.ns (HP.out.na.below I.bl) hf.nl; have C := C'; clear C'; rw [if_pos (by rfl)]; refine Qaa _ _ _ (by rfl) _ _ _ (by rfl) (by rfl) hr ?_; have I := Kp _ _ _ I; clear hr Kp
      refine hK.out _ _ (MkS.out _ I.p1) fun hH => ?_; clear hK K; try simp only [zX,zY]
      refine zR1 18 (fun K hK => ?_)
      simp only [zG]
      obtain ⟨a4, c4, w4, hr, C', Kp⟩ := C.app (pg := Tryz.prog) (t := 3) Tryz.underlying28 Qac rfl (by decide) (by decide) 5 v11.heap.size rfl p.pA p.pc p.ps (HP.out.pa.below I.bl) hf.pl; have C := C'; clear C'; rw [if_pos (by rfl)]; refine Qaa _ _ _ (by rfl) _ _ _ (by rfl) (by rfl) hr ?_; have I := Kp _ _ _ I; clear hr Kp
   rotate_left 10
   focus
    simp only [zG]
    go_simp
    have C := C.made 5 3 (g := u0.heap.size) rfl; have I := I.below (Qab (Below.refl _ _) (.cells #[] 3))
    refine hK.out _ _ (MkS.out _ I.p1) fun hH => ?_; clear hK K; try simp only [zX,zY]
    generalize World.alloc u0 (.cells #[] 3) = v15 at *
    refine zR3 4 7 11 (fun K hK => ?_) (fun K hK => ?_) (fun K hK => ?_)
    focus
     simp only [zG]
     go_simp
     refine (CH.out _ I.bl).mono ?_; rintro e w1 ⟨a1, c1, x', cc, rfl, g1, hx1, s1, s2⟩; have C := C.fresh2 g1 cc 1 2 (by decide) (Qca a1 p.l) (fmK x') s1 s2; have I := I.below g1; clear g1 s1 s2
     refine hK.out _ _ (MkS.out _ I.p1) fun hH => ?_; clear hK K; try simp only [zX,zY]
     refine zR2 7 11 (fun K hK => ?_) (fun K hK => ?_)
     focus
      simp only [zG]
      go_simp
      have C := C.made 3 4 (g := w1.heap.size) rfl; have I := I.below (Qab (Below.refl _ _) (.cells #[] 4))
      refine hK.out _ _ (MkS.out _ I.p1) fun hH => ?_; clear hK K; try simp only [zX,zY]
      generalize World.alloc w1 (.cells #[] 4) = v7 at *
      refine zR2 10 11 (fun K hK => ?_) (fun K hK => ?_)
      focus
       simp only [zG]
       obtain ⟨a2, c2, w2, hr, C', Kp⟩ := C.app (pg := Tryz.prog) (t := 4) Tryz.underlying34 Qak rfl (by decide) (by decide) 3 w1.heap.size rfl p.vA p.vc p.vs (HP.out.va.below I.bl) hf.vl; have C := C'; clear C'; rw [if_pos (by rfl)]; refine Qaa _ _ _ (by rfl) _ _ _ (by rfl) (by rfl) hr ?_; have I := Kp _ _ _ I; clear hr Kp
       refine hK.out _ _ (MkS.out _ I.p1) fun hH => ?_; clear hK K; try simp only [zX,zY]
       refine zR1 11 (fun K hK => ?_)
       simp only [zG]
       go_simp
       have C := C.made 4 3 (g := w2.heap.size) rfl; have I := I.below (Qab (Below.refl _ _) (.cells #[] 3))
       refine hK.out _ _ (MkS.out _ I.p1) fun hH => ?_; clear hK K; try simp only [zX,zY]
       generalize World.alloc w2 (.cells #[] 3) = v11 at *
       refine zR1 14 (fun K hK => ?_)
       simp only [zG]
       obtain ⟨a3, c3, w3, hr, C', Kp⟩ := C.app (pg := Tryz.prog) (t := 3) Tryz.underlying28 Qac rfl (by decide) (by decide) 4 w2.heap.size rfl p.nA p.nc p.ns (HP.out.na.below I.bl) hf.nl; have C := C'; clear C'; rw [if_pos (by rfl)]; refine Qaa _ _ _ (by rfl) _ _ _ (by rfl) (by rfl) hr ?_; have I := Kp _ _ _ I; clear hr Kp
       refine hK.out _ _ (MkS.out _ I.p1) fun hH => ?_; clear hK K; try simp only [zX,zY]
       refine zR1 18 (fun K hK => ?_)
       simp only [zG]
       obtain ⟨a4, c4, w4, hr, C', Kp⟩ := C.app (pg := Tryz.prog) (t := 3) Tryz.underlying28 Qac rfl (by decide) (by decide) 5 u0.heap.size rfl p.pA p.pc p.ps (HP.out.pa.below I.bl) hf.pl; have C := C'; clear C'; rw [if_pos (by rfl)]; refine Qaa _ _ _ (by rfl) _ _ _ (by rfl) (by rfl) hr ?_; have I := Kp _ _ _ I; clear hr Kp
      rotate_left
      focus
       simp only [zG]
       go_simp
       have C := C.made 4 3 (g := v7.heap.size) rfl; have I := I.below (Qab (Below.refl _ _) (.cells #[] 3))
       refine hK.out _ _ (MkS.out _ I.p1) fun hH => ?_; clear hK K; try simp only [zX,zY]
       generalize World.alloc v7 (.cells #[] 3) = v11 at *
       refine zR1 10 (fun K hK => ?_)
       simp only [zG]
       obtain ⟨a2, c2, w2, hr, C', Kp⟩ := C.app (pg := Tryz.prog) (t := 4) Tryz.underlying34 Qak rfl (by decide) (by decide) 3 w1.heap.size rfl p.vA p.vc p.vs (HP.out.va.below I.bl) hf.vl; have C := C'; clear C'; rw [if_pos (by rfl)]; refine Qaa _ _ _ (by rfl) _ _ _ (by rfl) (by rfl) hr ?_; have I := Kp _ _ _ I; clear hr Kp
       refine hK.out _ _ (MkS.out _ I.p1) fun hH => ?_; clear hK K; try simp only [zX,zY]
       refine zR1 14 (fun K hK => ?_)
       simp only [zG]
       obtain ⟨a3, c3, w3, hr, C', Kp⟩ := C.app (pg := Tryz.prog) (t := 3) Tryz.underlying28 Qac rfl (by decide) (by decide) 4 v7.heap.size rfl p.nA p.nc p.ns (HP.out.na.below I.bl) hf.nl; have C := C'; clear C'; rw [if_pos (by rfl)]; refine Qaa _ _ _ (by rfl) _ _ _ (by rfl) (by rfl) hr ?_; have I := Kp _ _ _ I; clear hr Kp
       refine hK.out _ _ (MkS.out _ I.p1) fun hH => ?_; clear hK K; try simp only [zX,zY]
       refine zR1 18 (fun K hK => ?_)
       simp only [zG]
       obtain ⟨a4, c4, w4, hr, C', Kp⟩ := C.app (pg := Tryz.prog) (t := 3) Tryz.underlying28 Qac rfl (by decide) (by decide) 5 u0.heap.size rfl p.pA p.pc p.ps (HP.out.pa.below I.bl) hf.pl; have C := C'; clear C'; rw [if_pos (by rfl)]; refine Qaa _ _ _ (by rfl) _ _ _ (by rfl) (by rfl) hr ?_; have I := Kp _ _ _ I; clear hr Kp
     rotate_left 2
     focus
      simp only [zG]
      go_simp
      have C := C.made 4 3 (g := w1.heap.size) rfl; have I := I.below (Qab (Below.refl _ _) (.cells #[] 3))
      refine hK.out _ _ (MkS.out _ I.p1) fun hH => ?_; clear hK K; try simp only [zX,zY]
      generalize World.alloc w1 (.cells #[] 3) = v11 at *
      refine zR1 7 (fun K hK => ?_)
      simp only [zG]
      go_simp
      have C := C.made 3 4 (g := v11.heap.size) rfl; have I := I.below (Qab (Below.refl _ _) (.cells #[] 4))
      refine hK.out _ _ (MkS.out _ I.p1) fun hH => ?_; clear hK K; try simp only [zX,zY]
      generalize World.alloc v11 (.cells #[] 4) = v7 at *
      refine zR1 10 (fun K hK => ?_)
      simp only [zG]
      obtain ⟨a2, c2, w2, hr, C', Kp⟩ := C.app (pg := Tryz.prog) (t := 4) Tryz.underlying34 Qak rfl (by decide) (by decide) 3 v11.heap.size rfl p.vA p.vc p.vs (HP.out.va.below I.bl) hf.vl; have C := C'; clear C'; rw [if_pos (by rfl)]; refine Qaa _ _ _ (by rfl) _ _ _ (by rfl) (by rfl) hr ?_; have I := Kp _ _ _ I; clear hr Kp
      refine hK.out _ _ (MkS.out _ I.p1) fun hH => ?_; clear hK K; try simp only [zX,zY]
      refine zR1 14 (fun K hK => ?_)
      simp only [zG]
      obtain ⟨a3, c3, w3, hr, C', Kp⟩ := C.app (pg := Tryz.prog) (t := 3) Tryz.underlying28 Qac rfl (by decide) (by decide) 4 w1.heap.size rfl p.nA p.nc p.ns (HP.out.na.below I.bl) hf.nl; have C := C'; clear C'; rw [if_pos (by rfl)]; refine Qaa _ _ _ (by rfl) _ _ _ (by rfl) (by rfl) hr ?_; have I := Kp _ _ _ I; clear hr Kp
      refine hK.out _ _ (MkS.out _ I.p1) fun hH => ?_; clear hK K; try simp only [zX,zY]
      refine zR1 18 (fun K hK => ?_)
      simp only [zG]
      obtain ⟨a4, c4, w4, hr, C', Kp⟩ := C.app (pg := Tryz.prog) (t := 3) Tryz.underlying28 Qac rfl (by decide) (by decide) 5 u0.heap.size rfl p.pA p.pc p.ps (HP.out.pa.below I.bl) hf.pl; have C := C'; clear C'; rw [if_pos (by rfl)]; refine Qaa _ _ _ (by rfl) _ _ _ (by rfl) (by rfl) hr ?_; have I := Kp _ _ _ I; clear hr Kp
    rotate_left 3
    focus
     simp only [zG]
     go_simp
     have C := C.made 3 4 (g := v15.heap.size) rfl; have I := I.below (Qab (Below.refl _ _) (.cells #[] 4))
     refine hK.out _ _ (MkS.out _ I.p1) fun hH => ?_; clear hK K; try simp only [zX,zY]
     generalize World.alloc v15 (.cells #[] 4) = v7 at *
     refine zR2 4 11 (fun K hK => ?_) (fun K hK => ?_)
     focus
      simp only [zG]
      go_simp
      refine (CH.out _ I.bl).mono ?_; rintro e w1 ⟨a1, c1, x', cc, rfl, g1, hx1, s1, s2⟩; have C := C.fresh2 g1 cc 1 2 (by decide) (Qca a1 p.l) (fmK x') s1 s2; have I := I.below g1; clear g1 s1 s2
      refine hK.out _ _ (MkS.out _ I.p1) fun hH => ?_; clear hK K; try simp only [zX,zY]
      refine zR2 10 11 (fun K hK => ?_) (fun K hK => ?_)
      focus
       simp only [zG]
       obtain ⟨a2, c2, w2, hr, C', Kp⟩ := C.app (pg := Tryz.prog) (t := 4) Tryz.underlying34 Qak rfl (by decide) (by decide) 3 v15.heap.size rfl p.vA p.vc p.vs (HP.out.va.below I.bl) hf.vl; have C := C'; clear C'; rw [if_pos (by rfl)]; refine Qaa _ _ _ (by rfl) _ _ _ (by rfl) (by rfl) hr ?_; have I := Kp _ _ _ I; clear hr Kp
       refine hK.out _ _ (MkS.out _ I.p1) fun hH => ?_; clear hK K; try simp only [zX,zY]
       refine zR1 11 (fun K hK => ?_)
       simp only [zG]
       go_simp
       have C := C.made 4 3 (g := w2.heap.size) rfl; have I := I.below (Qab (Below.refl _ _) (.cells #[] 3))
       refine hK.out _ _ (MkS.out _ I.p1) fun hH => ?_; clear hK K; try simp only [zX,zY]
       generalize World.alloc w2 (.cells #[] 3) = v11 at *
       refine zR1 14 (fun K hK => ?_)
       simp only [zG]
       obtain ⟨a3, c3, w3, hr, C', Kp⟩ := C.app (pg := Tryz.prog) (t := 3) Tryz.underlying28 Qac rfl (by decide) (by decide) 4 w2.heap.size rfl p.nA p.nc p.ns (HP.out.na.below I.bl) hf.nl; have C := C'; clear C'; rw [if_pos (by rfl)]; refine Qaa _ _ _ (by rfl) _ _ _ (by rfl) (by rfl) hr ?_; have I := Kp _ _ _ I; clear hr Kp
       refine hK.out _ _ (MkS.out _ I.p1) fun hH => ?_; clear hK K; try simp only [zX,zY]
       refine zR1 18 (fun K hK => ?_)
       simp only [zG]
       obtain ⟨a4, c4, w4, hr, C', Kp⟩ := C.app (pg := Tryz.prog) (t := 3) Tryz.underlying28 Qac rfl (by decide) (by decide) 5 u0.heap.size rfl p.pA p.pc p.ps (HP.out.pa.below I.bl) hf.pl; have C := C'; clear C'; rw [if_pos (by rfl)]; refine Qaa _ _ _ (by rfl) _ _ _ (by rfl) (by rfl) hr ?_; have I := Kp _ _ _ I; clear hr Kp
      rotate_left
      focus
       simp only [zG]
       go_simp
       have C := C.made 4 3 (g := w1.heap.size) rfl; have I := I.below (Qab (Below.refl _ _) (.cells #[] 3))
       refine hK.out _ _ (MkS.out _ I.p1) fun hH => ?_; clear hK K; try simp only [zX,zY]
       generalize World.alloc w1 (.cells #[] 3) = v11 at *
       refine zR1 10 (fun K hK => ?_)
       simp only [zG]
       obtain ⟨a2, c2, w2, hr, C', Kp⟩ := C.app (pg := Tryz.prog) (t := 4) Tryz.underlying34 Qak rfl (by decide) (by decide) 3 v15.heap.size rfl p.vA p.vc p.vs (HP.out.va.below I.bl) hf.vl; have C := C'; clear C'; rw [if_pos (by rfl)]; refine Qaa _ _ _ (by rfl) _ _ _ (by rfl) (by rfl) hr ?_; have I := Kp _ _ _ I; clear hr Kp
       refine hK.out _ _ (MkS.out _ I.p1) fun hH => ?_; clear hK K; try simp only [zX,zY]
       refine zR1 14 (fun K hK => ?_)
       simp only [zG]
       obtain ⟨a3, c3, w3, hr, C', Kp⟩ := C.app (pg := Tryz.prog) (t := 3) Tryz.underlying28 Qac rfl (by decide) (by decide) 4 w1.heap.size rfl p.nA p.nc p.ns (HP.out.na.below I.bl) hf.nl; have C := C'; clear C'; rw [if_pos (by rfl)]; refine Qaa _ _ _ (by rfl) _ _ _ (by rfl) (by rfl) hr ?_; have I := Kp _ _ _ I; clear hr Kp
       refine hK.out _ _ (MkS.out _ I.p1) fun hH => ?_; clear hK K; try simp only [zX,zY]
       refine zR1 18 (fun K hK => ?_)
       simp only [zG]
       obtain ⟨a4, c4, w4, hr, C', Kp⟩ := C.app (pg := Tryz.prog) (t := 3) Tryz.underlying28 Qac rfl (by decide) (by decide) 5 u0.heap.size rfl p.pA p.pc p.ps (HP.out.pa.below I.bl) hf.pl; have C := C'; clear C'; rw [if_pos (by rfl)]; refine Qaa _ _ _ (by rfl) _ _ _ (by rfl) (by rfl) hr ?_; have I := Kp _ _ _ I; clear hr Kp
     rotate_left 2
     focus
      simp only [zG]
      go_simp
      have C := C.made 4 3 (g := v7.heap.size) rfl; have I := I.below (Qab (Below.refl _ _) (.cells #[] 3))
      refine hK.out _ _ (MkS.out _ I.p1) fun hH => ?_; clear hK K; try simp only [zX,zY]
      generalize World.alloc v7 (.cells #[] 3) = v11 at *
      refine zR1 4 (fun K hK => ?_)
      simp only [zG]
      go_simp
      refine (CH.out _ I.bl).mono ?_; rintro e w1 ⟨a1, c1, x', cc, rfl, g1, hx1, s1, s2⟩; have C := C.fresh2 g1 cc 1 2 (by decide) (Qca a1 p.l) (fmK x') s1 s2; have I := I.below g1; clear g1 s1 s2
      refine hK.out _ _ (MkS.out _ I.p1) fun hH => ?_; clear hK K; try simp only [zX,zY]
      refine zR1 10 (fun K hK => ?_)
      simp only [zG]
      obtain ⟨a2, c2, w2, hr, C', Kp⟩ := C.app (pg := Tryz.prog) (t := 4) Tryz.underlying34 Qak rfl (by decide) (by decide) 3 v15.heap.size rfl p.vA p.vc p.vs (HP.out.va.below I.bl) hf.vl; have C := C'; clear C'; rw [if_pos (by rfl)]; refine Qaa _ _ _ (by rfl) _ _ _ (by rfl) (by rfl) hr ?_; have I := Kp _ _ _ I; clear hr Kp
      refine hK.out _ _ (MkS.out _ I.p1) fun hH => ?_; clear hK K; try simp only [zX,zY]
      refine zR1 14 (fun K hK => ?_)
      simp only [zG]
      obtain ⟨a3, c3, w3, hr, C', Kp⟩ := C.app (pg := Tryz.prog) (t := 3) Tryz.underlying28 Qac rfl (by decide) (by decide) 4 v7.heap.size rfl p.nA p.nc p.ns (HP.out.na.below I.bl) hf.nl; have C := C'; clear C'; rw [if_pos (by rfl)]; refine Qaa _ _ _ (by rfl) _ _ _ (by rfl) (by rfl) hr ?_; have I := Kp _ _ _ I; clear hr Kp
      refine hK.out _ _ (MkS.out _ I.p1) fun hH => ?_; clear hK K; try simp only [zX,zY]
      refine zR1 18 (fun K hK => ?_)
      simp only [zG]
      obtain ⟨a4, c4, w4, hr, C', Kp⟩ := C.app (pg := Tryz.prog) (t := 3) Tryz.underlying28 Qac rfl (by decide) (by decide) 5 u0.heap.size rfl p.pA p.pc p.ps (HP.out.pa.below I.bl) hf.pl; have C := C'; clear C'; rw [if_pos (by rfl)]; refine Qaa _ _ _ (by rfl) _ _ _ (by rfl) (by rfl) hr ?_; have I := Kp _ _ _ I; clear hr Kp
    rotate_left 3
    focus
     simp only [zG]
     go_simp
     have C := C.made 4 3 (g := v15.heap.size) rfl; have I := I.below (Qab (Below.refl _ _) (.cells #[] 3))
     refine hK.out _ _ (MkS.out _ I.p1) fun hH => ?_; clear hK K; try simp only [zX,zY]
     generalize World.alloc v15 (.cells #[] 3) = v11 at *
     refine zR2 4 7 (fun K hK => ?_) (fun K hK => ?_)
     focus
      simp only [zG]
      go_simp
      refine (CH.out _ I.bl).mono ?_; rintro e w1 ⟨a1, c1, x', cc, rfl, g1, hx1, s1, s2⟩; have C := C.fresh2 g1 cc 1 2 (by decide) (Qca a1 p.l) (fmK x') s1 s2; have I := I.below g1; clear g1 s1 s2
      refine hK.out _ _ (MkS.out _ I.p1) fun hH => ?_; clear hK K; try simp only [zX,zY]
      refine zR1 7 (fun K hK => ?_)
      simp only [zG]
      go_simp
      have C := C.made 3 4 (g := w1.heap.size) rfl; have I := I.below (Qab (Below.refl _ _) (.cells #[] 4))
      refine hK.out _ _ (MkS.out _ I.p1) fun hH => ?_; clear hK K; try simp only [zX,zY]
      generalize World.alloc w1 (.cells #[] 4) = v7 at *
      refine zR1 10 (fun K hK => ?_)
      simp only [zG]
      obtain ⟨a2, c2, w2, hr, C', Kp⟩ := C.app (pg := Tryz.prog) (t := 4) Tryz.underlying34 Qak rfl (by decide) (by decide) 3 w1.heap.size rfl p.vA p.vc p.vs (HP.out.va.below I.bl) hf.vl; have C := C'; clear C'; rw [if_pos (by rfl)]; refine Qaa _ _ _ (by rfl) _ _ _ (by rfl) (by rfl) hr ?_; have I := Kp _ _ _ I; clear hr Kp
      refine hK.out _ _ (MkS.out _ I.p1) fun hH => ?_; clear hK K; try simp only [zX,zY]
      refine zR1 14 (fun K hK => ?_)
      simp only [zG]
      obtain ⟨a3, c3, w3, hr, C', Kp⟩ := C.app (pg := Tryz.prog) (t := 3) Tryz.underlying28 Qac rfl (by decide) (by decide) 4 v15.heap.size rfl p.nA p.nc p.ns (HP.out.na.below I.bl) hf.nl; have C := C'; clear C'; rw [if_pos (by rfl)]; refine Qaa _ _ _ (by rfl) _ _ _ (by rfl) (by rfl) hr ?_; have I := Kp _ _ _ I; clear hr Kp
      refine hK.out _ _ (MkS.out _ I.p1) fun hH => ?_; clear hK K; try simp only [zX,zY]
      refine zR1 18 (fun K hK => ?_)
      simp only [zG]
      obtain ⟨a4, c4, w4, hr, C', Kp⟩ := C.app (pg := Tryz.prog) (t := 3) Tryz.underlying28 Qac rfl (by decide) (by decide) 5 u0.heap.size rfl p.pA p.pc p.ps (HP.out.pa.below I.bl) hf.pl; have C := C'; clear C'; rw [if_pos (by rfl)]; refine Qaa _ _ _ (by rfl) _ _ _ (by rfl) (by rfl) hr ?_; have I := Kp _ _ _ I; clear hr Kp
     rotate_left
     focus
      simp only [zG]
      go_simp
      have C := C.made 3 4 (g := v11.heap.size) rfl; have I := I.below (Qab (Below.refl _ _) (.cells #[] 4))
      refine hK.out _ _ (MkS.out _ I.p1) fun hH => ?_; clear hK K; try simp only [zX,zY]
      generalize World.alloc v11 (.cells #[] 4) = v7 at *
      refine zR1 4 (fun K hK => ?_)
      simp only [zG]
      go_simp
      refine (CH.out _ I.bl).mono ?_; rintro e w1 ⟨a1, c1, x', cc, rfl, g1, hx1, s1, s2⟩; have C := C.fresh2 g1 cc 1 2 (by decide) (Qca a1 p.l) (fmK x') s1 s2; have I := I.below g1; clear g1 s1 s2
      refine hK.out _ _ (MkS.out _ I.p1) fun hH => ?_; clear hK K; try simp only [zX,zY]
      refine zR1 10 (fun K hK => ?_)
      simp only [zG]
      obtain ⟨a2, c2, w2, hr, C', Kp⟩ := C.app (pg := Tryz.prog) (t := 4) Tryz.underlying34 Qak rfl (by decide) (by decide) 3 v11.heap.size rfl p.vA p.vc p.vs (HP.out.va.below I.bl) hf.vl; have C := C'; clear C'; rw [if_pos (by rfl)]; refine Qaa _ _ _ (by rfl) _ _ _ (by rfl) (by rfl) hr ?_; have I := Kp _ _ _ I; clear hr Kp
      refine hK.out _ _ (MkS.out _ I.p1) fun hH => ?_; clear hK K; try simp only [zX,zY]
      refine zR1 14 (fun K hK => ?_)
      simp only [zG]
      obtain ⟨a3, c3, w3, hr, C', Kp⟩ := C.app (pg := Tryz.prog) (t := 3) Tryz.underlying28 Qac rfl (by decide) (by decide) 4 v15.heap.size rfl p.nA p.nc p.ns (HP.out.na.below I.bl) hf.nl; have C := C'; clear C'; rw [if_pos (by rfl)]; refine Qaa _ _ _ (by rfl) _ _ _ (by rfl) (by rfl) hr ?_; have I := Kp _ _ _ I; clear hr Kp
      refine hK.out _ _ (MkS.out _ I.p1) fun hH => ?_; clear hK K; try simp only [zX,zY]
      refine zR1 18 (fun K hK => ?_)
      simp only [zG]
      obtain ⟨a4, c4, w4, hr, C', Kp⟩ := C.app (pg := Tryz.prog) (t := 3) Tryz.underlying28 Qac rfl (by decide) (by decide) 5 u0.heap.size rfl p.pA p.pc p.ps (HP.out.pa.below I.bl) hf.pl; have C := C'; clear C'; rw [if_pos (by rfl)]; refine Qaa _ _ _ (by rfl) _ _ _ (by rfl) (by rfl) hr ?_; have I := Kp _ _ _ I; clear hr Kp
   all_goals
    refine hK.out _ _ (MkS.out _ I.p1) fun hH => ?_; clear hK K; try simp only [zX,zY]
    obtain ⟨fm, hw, col, co⟩ := C
    exact any_at Meet.out (by kernel_rfl) ⟨a1, a2, a3, a4, c1, c2, c3, c4, x', _, _, _, col, rfl, hx1, I, hw, co 1, co 2, co 3, co 4, co 5⟩ hH
end Go.Proofs.YtmdaammalacifaaGreat.Gen
