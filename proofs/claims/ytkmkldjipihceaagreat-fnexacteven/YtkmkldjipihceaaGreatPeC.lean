/-
  A node as it lies, in one record; what the laws' sz function of it does; a node opened. No condition.
-/
import Derived.Test.YtkmkldjipihceaaGreatHTo
import Derived.Test.YtkmkldjipihceaaGreatRpTo
set_option linter.unusedVariables false
set_option linter.unusedSimpArgs false
set_option maxRecDepth 100000
set_option maxHeartbeats 8000000
set_option maxRecDepth 100000
set_option maxHeartbeats 8000000
namespace Go.Proofs.YtkmkldjipihceaaGreat.Gen
open ChangeShapes WideShapes ChangeAt RowKit Joins Deep Base
structure PC where
  id : Int
  te : Int
  vo : Int
  base : Int
  bt : Int
  A : Option Addr
  cap : Nat
  l : List En
  x : KC
  role : Int
  vA : Option Addr
  vc : Nat
  vs : List Bool
  nA : Option Addr
  nc : Nat
  ns : List Int
  pA : Option Addr
  pc : Nat
  ps : List Int
  com : Int
  y : KC
  dA : Option Addr
  dc : Nat
  db : List UInt8
  su : Int
  hA : Option Addr
  hc : Nat
  hs : List RpC
structure PAt (w : World) (p : PC) : Prop where
  la : At w p.A p.l
  xa : KAt w p.x
  va : At w p.vA p.vs
  na : At w p.nA p.ns
  pa : At w p.pA p.ps
  ya : KAt w p.y
  da : At w p.dA p.db
  ha : At w p.hA p.hs
  he : EachP w p.hs
theorem PAt.below {w w' : World} {p : PC} (h : PAt w p) (g : Below w.heap.size w w') : PAt w' p := ⟨h.la.below g, h.xa.below g, h.va.below g, h.na.below g, h.pa.below g, h.ya.below g, h.da.below g, h.ha.below g, h.he.below g⟩
structure PRight (p : PC) : Prop where
  ll : p.l.length <= 9223372036854775807
  lr : ∀ z ∈ p.l, z.right
  xr : KRight p.x
  vl : p.vs.length <= 9223372036854775807
  nl : p.ns.length <= 9223372036854775807
  pl : p.ps.length <= 9223372036854775807
  yr : KRight p.y
  dl : p.db.length <= 9223372036854775807
  hl : p.hs.length <= 9223372036854775807
  hr : ∀ z ∈ p.hs, z.right
structure PFit (p : PC) : Prop where
  ll : p.l.length <= 1048576
  xf : KFit p.x
  vl : p.vs.length <= 1048576
  nl : p.ns.length <= 1048576
  pl : p.ps.length <= 1048576
  yf : KFit p.y
  dl : p.db.length <= 1048576
  hl : p.hs.length <= 1048576
  hi : ∀ z ∈ p.hs, z.l.length <= 1048576
  tot : (p.l.length : Int) * 9 + (kct p.x : Int) + (p.vs.length : Int) + (p.ns.length : Int) + (p.ps.length : Int) + (kct p.y : Int) + (p.db.length : Int) + 9 * ((p.hs.length : Int) + (Qat (fun z : RpC => z.l.length) p.hs : Int)) <= 9437999
theorem szPeer_at (p : PC) (hr : PRight p) (left : Int) (k0 : 0 <= left) (k1 : left <= 1048576) (w : World) (hp : PAt w p) :
 Calls Tryz.prog 35 #[.agg (Qaa p.id p.te p.vo p.base p.bt p.A p.l.length p.cap p.x.rA p.x.rs.length p.x.rc p.x.mA p.x.ms.length p.x.mc p.x.gA p.x.gs.length p.x.gc p.x.time p.x.dA p.x.ds.length p.x.dc p.x.lA p.x.ls.length p.x.lc p.role p.vA p.vs.length p.vc p.nA p.ns.length p.nc p.pA p.ps.length p.pc p.com p.y.rA p.y.rs.length p.y.rc p.y.mA p.y.ms.length p.y.mc p.y.gA p.y.gs.length p.y.gc p.y.time p.y.dA p.y.ds.length p.y.dc p.y.lA p.y.ls.length p.y.lc p.dA p.db.length p.dc p.su p.hA p.hs.length p.hc), .int .i64 left] w fun e w' => (∃ r : Int, e = .returned (.int .i64 r) /\ (r < 0 ∨ (0 <= r /\ PFit p /\ r <= left /\ (p.l.length : Int) * 9 + (kct p.x : Int) + (p.vs.length : Int) + (p.ns.length : Int) + (p.ps.length : Int) + (kct p.y : Int) + (p.db.length : Int) + 9 * ((p.hs.length : Int) + (Qat (fun z : RpC => z.l.length) p.hs : Int)) <= 9 * (left - r)))) /\ Below w.heap.size w w' := by
 have C1 : Hid (∀ W : World, Below w.heap.size w W -> Calls Tryz.prog 71 #[.agg (Qad p.te p.vo p.base p.bt p.A p.l.length p.cap p.x.rA p.x.rs.length p.x.rc p.x.mA p.x.ms.length p.x.mc p.x.gA p.x.gs.length p.x.gc p.x.time p.x.dA p.x.ds.length p.x.dc p.x.lA p.x.ls.length p.x.lc), .int .i64 left] W fun e w' => (∃ r : Int, e = .returned (.int .i64 r) /\ (r < 0 ∨ (0 <= r /\ r <= left /\ (p.l.length <= 1048576 /\ KFit p.x /\ (p.l.length : Int) * 9 + (kct p.x : Int) <= 9 * (left - r))))) /\ Below W.heap.size W w') := fun W g => szHard_tot p.te p.vo p.base p.bt p.A p.cap p.l hr.ll (fun z hz => (hr.lr z hz).fit) p.x hr.xr left k0 k1 W (hp.la.below g) (hp.xa.below g)
 have C2 : Hid (∀ (z : Int) (W : World), 0 <= z -> z <= 1048576 -> Calls Tryz.prog 72 #[.slice p.vA p.vs.length p.vc, .int .i64 z] W fun e w' => ∃ r : Int, e = .returned (.int .i64 r) /\ (r < 0 ∨ (0 <= r /\ r <= z /\ (p.vs.length <= 1048576 /\ (p.vs.length : Int) <= z - r))) /\ w' = W) := fun z W a b => (szBool_any p.vA p.vs.length p.vc hr.vl z a b W).mono fun e w' h => ⟨_, h.1, by split<;>omega, h.2⟩
 have C3 : Hid (∀ (z : Int) (W : World), 0 <= z -> z <= 1048576 -> Calls Tryz.prog 15 #[.slice p.nA p.ns.length p.nc, .int .i64 z] W fun e w' => ∃ r : Int, e = .returned (.int .i64 r) /\ (r < 0 ∨ (0 <= r /\ r <= z /\ (p.ns.length <= 1048576 /\ (p.ns.length : Int) <= z - r))) /\ w' = W) := fun z W a b => (Qb5 p.nA p.ns.length p.nc hr.nl z a b W).mono fun e w' h => ⟨_, h.1, by split<;>omega, h.2⟩
 have C4 : Hid (∀ (z : Int) (W : World), 0 <= z -> z <= 1048576 -> Calls Tryz.prog 15 #[.slice p.pA p.ps.length p.pc, .int .i64 z] W fun e w' => ∃ r : Int, e = .returned (.int .i64 r) /\ (r < 0 ∨ (0 <= r /\ r <= z /\ (p.ps.length <= 1048576 /\ (p.ps.length : Int) <= z - r))) /\ w' = W) := fun z W a b => (Qb5 p.pA p.ps.length p.pc hr.pl z a b W).mono fun e w' h => ⟨_, h.1, by split<;>omega, h.2⟩
 have C5 : Hid (∀ (z : Int) (W : World), Below w.heap.size w W -> 0 <= z -> z <= 1048576 -> Calls Tryz.prog 73 #[.agg (Qae p.y.rA p.y.rs.length p.y.rc p.y.mA p.y.ms.length p.y.mc p.y.gA p.y.gs.length p.y.gc p.y.time p.y.dA p.y.ds.length p.y.dc p.y.lA p.y.ls.length p.y.lc), .int .i64 z] W fun e w' => (∃ r : Int, e = .returned (.int .i64 r) /\ (r < 0 ∨ (0 <= r /\ r <= z /\ (KFit p.y /\ (kct p.y : Int) <= 5 * (z - r))))) /\ Below W.heap.size W w') := fun z W g a b => Qff p.y hr.yr z a b W (hp.ya.below g)
 have C6 : Hid (∀ (z : Int) (W : World), 0 <= z -> z <= 1048576 -> Calls Tryz.prog 74 #[.agg #[.slice p.dA p.db.length p.dc, .int .i64 p.su], .int .i64 z] W fun e w' => (∃ r : Int, e = .returned (.int .i64 r) /\ (r < 0 ∨ (0 <= r /\ r <= z /\ (p.db.length <= 1048576 /\ (p.db.length : Int) <= z - r)))) /\ Below W.heap.size W w') := fun z W a b => (szDisk_any p.su p.dA p.dc p.db hr.dl z a b W).mono fun e w' h => by
  obtain ⟨⟨r, e1, e2⟩, g⟩ := h
  exact ⟨⟨r, e1, by omega⟩, g⟩
 have C7 : Hid (∀ (z : Int) (W : World), Below w.heap.size w W -> 0 <= z -> z <= 1048576 -> Calls Tryz.prog 13 #[.slice p.hA p.hs.length p.hc, .int .i64 z] W fun e w' => (∃ r : Int, e = .returned (.int .i64 r) /\ (r < 0 ∨ (0 <= r /\ r <= z /\ (p.hs.length <= 1048576 /\ (∀ y ∈ p.hs, y.l.length <= 1048576) /\ (p.hs.length : Int) + (Qat (fun y : RpC => y.l.length) p.hs : Int) <= z - r)))) /\ Below W.heap.size W w') := fun z W g a b => (Qfe p.hA p.hc p.hs hr.hl hr.hr z a b W (hp.ha.below g) (hp.he.below g)).mono fun e w' h => by
  obtain ⟨⟨r, e1, e2⟩, g⟩ := h
  refine ⟨⟨r, e1, ?_⟩, g⟩
  rcases e2 with e2 | ⟨e2, e3⟩
  . exact .inl e2
  . have h0 : Qat (fun y : RpC => y.l.length) p.hs <= 0 * p.hs.length + 1 * Qat szRP p.hs := Qby (fun y : RpC => y.l.length) szRP 0 1 p.hs (fun y _ => by simp only [szRP]; omega)
    refine .inr ⟨e2, by omega, by omega, fun y hy => ?_, by omega⟩
    have h1 := Qc2 szRP p.hs y hy
    simp only [szRP] at h1
    omega
 clear hr hp
 have P0 := hidP (Blk.new w 97 (Qaa p.id p.te p.vo p.base p.bt p.A p.l.length p.cap p.x.rA p.x.rs.length p.x.rc p.x.mA p.x.ms.length p.x.mc p.x.gA p.x.gs.length p.x.gc p.x.time p.x.dA p.x.ds.length p.x.dc p.x.lA p.x.ls.length p.x.lc p.role p.vA p.vs.length p.vc p.nA p.ns.length p.nc p.pA p.ps.length p.pc p.com p.y.rA p.y.rs.length p.y.rc p.y.mA p.y.ms.length p.y.mc p.y.gA p.y.gs.length p.y.gc p.y.time p.y.dA p.y.ds.length p.y.dc p.y.lA p.y.ls.length p.y.lc p.dA p.db.length p.dc p.su p.hA p.hs.length p.hc))
 have B0 := hidP (show Below w.heap.size w (w.alloc (.cells (Qaa p.id p.te p.vo p.base p.bt p.A p.l.length p.cap p.x.rA p.x.rs.length p.x.rc p.x.mA p.x.ms.length p.x.mc p.x.gA p.x.gs.length p.x.gc p.x.time p.x.dA p.x.ds.length p.x.dc p.x.lA p.x.ls.length p.x.lc p.role p.vA p.vs.length p.vc p.nA p.ns.length p.nc p.pA p.ps.length p.pc p.com p.y.rA p.y.rs.length p.y.rc p.y.mA p.y.ms.length p.y.mc p.y.gA p.y.gs.length p.y.gc p.y.time p.y.dA p.y.ds.length p.y.dc p.y.lA p.y.ls.length p.y.lc p.dA p.db.length p.dc p.su p.hA p.hs.length p.hc) 97)) from Qab (Below.refl _ _) _)
 go_enter Tryz.func35, Tryz.ntmps35
 go_wp2_with fail
 refine (C1.out _ B0.out).mono ?_
 rintro e w1 ⟨⟨r1, rfl, h1⟩, g1⟩
 replace B0 := hidP (via0 g1 B0.out)
 replace P0 := hidP (P0.out.below g1 P0.out.lt)
 clear g1
 have u0 := P0.out.cell (i := 0) rfl
 have u1 := P0.out.cell (i := 1) rfl
 have u2 := P0.out.cell (i := 2) rfl
 have u2s := P0.out.cell (i := 1 + 1) rfl
 have u3 := P0.out.cell (i := 3) rfl
 have u3s := P0.out.cell (i := 1 + 2) rfl
 have u4 := P0.out.cell (i := 4) rfl
 have u4s := P0.out.cell (i := 1 + 3) rfl
 have u5 := P0.out.cell (i := 5) rfl
 have u5s := P0.out.cell (i := 1 + 4) rfl
 have u6 := P0.out.cell (i := 6) rfl
 have u6s := P0.out.cell (i := 1 + 5) rfl
 have u7 := P0.out.cell (i := 7) rfl
 have u7s := P0.out.cell (i := 1 + 6) rfl
 have u8 := P0.out.cell (i := 8) rfl
 have u8s := P0.out.cell (i := 1 + 7) rfl
 have u9 := P0.out.cell (i := 9) rfl
 have u9s := P0.out.cell (i := 1 + 8) rfl
 have u10 := P0.out.cell (i := 10) rfl
 have u10s := P0.out.cell (i := 1 + 9) rfl
 have u11 := P0.out.cell (i := 11) rfl
 have u11s := P0.out.cell (i := 1 + 10) rfl
 have u12 := P0.out.cell (i := 12) rfl
 have u13 := P0.out.cell (i := 13) rfl
 have u14 := P0.out.cell (i := 14) rfl
 have u15 := P0.out.cell (i := 15) rfl
 have u16 := P0.out.cell (i := 16) rfl
 have u17 := P0.out.cell (i := 17) rfl
 have u18 := P0.out.cell (i := 18) rfl
 have u18s := P0.out.cell (i := 17 + 1) rfl
 have u19 := P0.out.cell (i := 19) rfl
 have u19s := P0.out.cell (i := 17 + 2) rfl
 have u20 := P0.out.cell (i := 20) rfl
 have u20s := P0.out.cell (i := 17 + 3) rfl
 have u21 := P0.out.cell (i := 21) rfl
 have u21s := P0.out.cell (i := 17 + 4) rfl
 have u22 := P0.out.cell (i := 22) rfl
 have u22s := P0.out.cell (i := 17 + 5) rfl
 have u23 := P0.out.cell (i := 23) rfl
 have u24 := P0.out.cell (i := 24) rfl
 have u24s := P0.out.cell (i := 23 + 1) rfl
 have u25 := P0.out.cell (i := 25) rfl
 have q0 := P0.out.lt
 rcases h1 with h1 | ⟨i1, j1, c1⟩
 . go_wp2
   go_ret
   exact ⟨⟨-1, rfl, .inl (by omega)⟩, B0.out⟩
 have n1 : ¬ r1 < 0 := by omega
 have m1 : r1 <= 1048576 := by omega
 have Q1 := hidP c1
 clear c1
 go_wp2_with fail
 refine (C2.out r1 _ i1 m1).mono ?_
 rintro e w2 ⟨r2, rfl, h2, hw2⟩
 subst w2
 rcases h2 with h2 | ⟨i2, j2, c2⟩
 . go_wp2
   go_ret
   exact ⟨⟨-1, rfl, .inl (by omega)⟩, B0.out⟩
 have n2 : ¬ r2 < 0 := by omega
 have m2 : r2 <= 1048576 := by omega
 have Q2 := hidP c2
 clear c2
 go_wp2_with fail
 refine (C3.out r2 _ i2 m2).mono ?_
 rintro e w3 ⟨r3, rfl, h3, hw3⟩
 subst w3
 rcases h3 with h3 | ⟨i3, j3, c3⟩
 . go_wp2
   go_ret
   exact ⟨⟨-1, rfl, .inl (by omega)⟩, B0.out⟩
 have n3 : ¬ r3 < 0 := by omega
 have m3 : r3 <= 1048576 := by omega
 have Q3 := hidP c3
 clear c3
 go_wp2_with fail
 refine (C4.out r3 _ i3 m3).mono ?_
 rintro e w4 ⟨r4, rfl, h4, hw4⟩
 subst w4
 rcases h4 with h4 | ⟨i4, j4, c4⟩
 . go_wp2
   go_ret
   exact ⟨⟨-1, rfl, .inl (by omega)⟩, B0.out⟩
 have n4 : ¬ r4 < 0 := by omega
 have m4 : r4 <= 1048576 := by omega
 have Q4 := hidP c4
 clear c4
 go_wp2_with fail
 refine (C5.out r4 _ B0.out i4 m4).mono ?_
 rintro e w5 ⟨⟨r5, rfl, h5⟩, g5⟩
 replace B0 := hidP (via0 g5 B0.out)
 replace P0 := hidP (P0.out.below g5 P0.out.lt)
 clear g5
 clear u0 u1 u2 u2s u3 u3s u4 u4s u5 u5s u6 u6s u7 u7s u8 u8s u9 u9s u10 u10s u11 u11s u12 u13 u14 u15 u16 u17 u18 u18s u19 u19s u20 u20s u21 u21s u22 u22s u23 u24 u24s u25 q0
 have u0 := P0.out.cell (i := 0) rfl
 have u1 := P0.out.cell (i := 1) rfl
 have u2 := P0.out.cell (i := 2) rfl
 have u2s := P0.out.cell (i := 1 + 1) rfl
 have u3 := P0.out.cell (i := 3) rfl
 have u3s := P0.out.cell (i := 1 + 2) rfl
 have u4 := P0.out.cell (i := 4) rfl
 have u4s := P0.out.cell (i := 1 + 3) rfl
 have u5 := P0.out.cell (i := 5) rfl
 have u5s := P0.out.cell (i := 1 + 4) rfl
 have u6 := P0.out.cell (i := 6) rfl
 have u6s := P0.out.cell (i := 1 + 5) rfl
 have u7 := P0.out.cell (i := 7) rfl
 have u7s := P0.out.cell (i := 1 + 6) rfl
 have u8 := P0.out.cell (i := 8) rfl
 have u8s := P0.out.cell (i := 1 + 7) rfl
 have u9 := P0.out.cell (i := 9) rfl
 have u9s := P0.out.cell (i := 1 + 8) rfl
 have u10 := P0.out.cell (i := 10) rfl
 have u10s := P0.out.cell (i := 1 + 9) rfl
 have u11 := P0.out.cell (i := 11) rfl
 have u11s := P0.out.cell (i := 1 + 10) rfl
 have u12 := P0.out.cell (i := 12) rfl
 have u13 := P0.out.cell (i := 13) rfl
 have u14 := P0.out.cell (i := 14) rfl
 have u15 := P0.out.cell (i := 15) rfl
 have u16 := P0.out.cell (i := 16) rfl
 have u17 := P0.out.cell (i := 17) rfl
 have u18 := P0.out.cell (i := 18) rfl
 have u18s := P0.out.cell (i := 17 + 1) rfl
 have u19 := P0.out.cell (i := 19) rfl
 have u19s := P0.out.cell (i := 17 + 2) rfl
 have u20 := P0.out.cell (i := 20) rfl
 have u20s := P0.out.cell (i := 17 + 3) rfl
 have u21 := P0.out.cell (i := 21) rfl
 have u21s := P0.out.cell (i := 17 + 4) rfl
 have u22 := P0.out.cell (i := 22) rfl
 have u22s := P0.out.cell (i := 17 + 5) rfl
 have u23 := P0.out.cell (i := 23) rfl
 have u24 := P0.out.cell (i := 24) rfl
 have u24s := P0.out.cell (i := 23 + 1) rfl
 have u25 := P0.out.cell (i := 25) rfl
 have q0 := P0.out.lt
 rcases h5 with h5 | ⟨i5, j5, c5⟩
 . go_wp2
   go_ret
   exact ⟨⟨-1, rfl, .inl (by omega)⟩, B0.out⟩
 have n5 : ¬ r5 < 0 := by omega
 have m5 : r5 <= 1048576 := by omega
 have Q5 := hidP c5
 clear c5
 go_wp2_with fail
 refine (C6.out r5 _ i5 m5).mono ?_
 rintro e w6 ⟨⟨r6, rfl, h6⟩, g6⟩
 replace B0 := hidP (via0 g6 B0.out)
 replace P0 := hidP (P0.out.below g6 P0.out.lt)
 clear g6
 clear u0 u1 u2 u2s u3 u3s u4 u4s u5 u5s u6 u6s u7 u7s u8 u8s u9 u9s u10 u10s u11 u11s u12 u13 u14 u15 u16 u17 u18 u18s u19 u19s u20 u20s u21 u21s u22 u22s u23 u24 u24s u25 q0
 have u0 := P0.out.cell (i := 0) rfl
 have u1 := P0.out.cell (i := 1) rfl
 have u2 := P0.out.cell (i := 2) rfl
 have u2s := P0.out.cell (i := 1 + 1) rfl
 have u3 := P0.out.cell (i := 3) rfl
 have u3s := P0.out.cell (i := 1 + 2) rfl
 have u4 := P0.out.cell (i := 4) rfl
 have u4s := P0.out.cell (i := 1 + 3) rfl
 have u5 := P0.out.cell (i := 5) rfl
 have u5s := P0.out.cell (i := 1 + 4) rfl
 have u6 := P0.out.cell (i := 6) rfl
 have u6s := P0.out.cell (i := 1 + 5) rfl
 have u7 := P0.out.cell (i := 7) rfl
 have u7s := P0.out.cell (i := 1 + 6) rfl
 have u8 := P0.out.cell (i := 8) rfl
 have u8s := P0.out.cell (i := 1 + 7) rfl
 have u9 := P0.out.cell (i := 9) rfl
 have u9s := P0.out.cell (i := 1 + 8) rfl
 have u10 := P0.out.cell (i := 10) rfl
 have u10s := P0.out.cell (i := 1 + 9) rfl
 have u11 := P0.out.cell (i := 11) rfl
 have u11s := P0.out.cell (i := 1 + 10) rfl
 have u12 := P0.out.cell (i := 12) rfl
 have u13 := P0.out.cell (i := 13) rfl
 have u14 := P0.out.cell (i := 14) rfl
 have u15 := P0.out.cell (i := 15) rfl
 have u16 := P0.out.cell (i := 16) rfl
 have u17 := P0.out.cell (i := 17) rfl
 have u18 := P0.out.cell (i := 18) rfl
 have u18s := P0.out.cell (i := 17 + 1) rfl
 have u19 := P0.out.cell (i := 19) rfl
 have u19s := P0.out.cell (i := 17 + 2) rfl
 have u20 := P0.out.cell (i := 20) rfl
 have u20s := P0.out.cell (i := 17 + 3) rfl
 have u21 := P0.out.cell (i := 21) rfl
 have u21s := P0.out.cell (i := 17 + 4) rfl
 have u22 := P0.out.cell (i := 22) rfl
 have u22s := P0.out.cell (i := 17 + 5) rfl
 have u23 := P0.out.cell (i := 23) rfl
 have u24 := P0.out.cell (i := 24) rfl
 have u24s := P0.out.cell (i := 23 + 1) rfl
 have u25 := P0.out.cell (i := 25) rfl
 have q0 := P0.out.lt
 rcases h6 with h6 | ⟨i6, j6, c6⟩
 . go_wp2
   go_ret
   exact ⟨⟨-1, rfl, .inl (by omega)⟩, B0.out⟩
 have n6 : ¬ r6 < 0 := by omega
 have m6 : r6 <= 1048576 := by omega
 have Q6 := hidP c6
 clear c6
 go_wp2_with fail
 refine (C7.out r6 _ B0.out i6 m6).mono ?_
 rintro e w7 ⟨⟨r7, rfl, h7⟩, g7⟩
 replace B0 := hidP (via0 g7 B0.out)
 replace P0 := hidP (P0.out.below g7 P0.out.lt)
 clear g7
 clear u0 u1 u2 u2s u3 u3s u4 u4s u5 u5s u6 u6s u7 u7s u8 u8s u9 u9s u10 u10s u11 u11s u12 u13 u14 u15 u16 u17 u18 u18s u19 u19s u20 u20s u21 u21s u22 u22s u23 u24 u24s u25 q0
 have u0 := P0.out.cell (i := 0) rfl
 have u1 := P0.out.cell (i := 1) rfl
 have u2 := P0.out.cell (i := 2) rfl
 have u2s := P0.out.cell (i := 1 + 1) rfl
 have u3 := P0.out.cell (i := 3) rfl
 have u3s := P0.out.cell (i := 1 + 2) rfl
 have u4 := P0.out.cell (i := 4) rfl
 have u4s := P0.out.cell (i := 1 + 3) rfl
 have u5 := P0.out.cell (i := 5) rfl
 have u5s := P0.out.cell (i := 1 + 4) rfl
 have u6 := P0.out.cell (i := 6) rfl
 have u6s := P0.out.cell (i := 1 + 5) rfl
 have u7 := P0.out.cell (i := 7) rfl
 have u7s := P0.out.cell (i := 1 + 6) rfl
 have u8 := P0.out.cell (i := 8) rfl
 have u8s := P0.out.cell (i := 1 + 7) rfl
 have u9 := P0.out.cell (i := 9) rfl
 have u9s := P0.out.cell (i := 1 + 8) rfl
 have u10 := P0.out.cell (i := 10) rfl
 have u10s := P0.out.cell (i := 1 + 9) rfl
 have u11 := P0.out.cell (i := 11) rfl
 have u11s := P0.out.cell (i := 1 + 10) rfl
 have u12 := P0.out.cell (i := 12) rfl
 have u13 := P0.out.cell (i := 13) rfl
 have u14 := P0.out.cell (i := 14) rfl
 have u15 := P0.out.cell (i := 15) rfl
 have u16 := P0.out.cell (i := 16) rfl
 have u17 := P0.out.cell (i := 17) rfl
 have u18 := P0.out.cell (i := 18) rfl
 have u18s := P0.out.cell (i := 17 + 1) rfl
 have u19 := P0.out.cell (i := 19) rfl
 have u19s := P0.out.cell (i := 17 + 2) rfl
 have u20 := P0.out.cell (i := 20) rfl
 have u20s := P0.out.cell (i := 17 + 3) rfl
 have u21 := P0.out.cell (i := 21) rfl
 have u21s := P0.out.cell (i := 17 + 4) rfl
 have u22 := P0.out.cell (i := 22) rfl
 have u22s := P0.out.cell (i := 17 + 5) rfl
 have u23 := P0.out.cell (i := 23) rfl
 have u24 := P0.out.cell (i := 24) rfl
 have u24s := P0.out.cell (i := 23 + 1) rfl
 have u25 := P0.out.cell (i := 25) rfl
 have q0 := P0.out.lt
 rcases h7 with h7 | ⟨i7, j7, c7⟩
 . go_wp2
   go_ret
   exact ⟨⟨-1, rfl, .inl (by omega)⟩, B0.out⟩
 have n7 : ¬ r7 < 0 := by omega
 have m7 : r7 <= 1048576 := by omega
 have Q7 := hidP c7
 clear c7
 go_wp2
 go_ret
 exact ⟨⟨r7, rfl, .inr ⟨i7, ⟨Q1.out.1, Q1.out.2.1, Q2.out.1, Q3.out.1, Q4.out.1, Q5.out.1, Q6.out.1, Q7.out.1, Q7.out.2.1, by have := Q1.out.2.2; have := Q2.out.2; have := Q3.out.2; have := Q4.out.2; have := Q5.out.2; have := Q6.out.2; have := Q7.out.2.2; omega⟩, (by omega), by have := Q1.out.2.2; have := Q2.out.2; have := Q3.out.2; have := Q4.out.2; have := Q5.out.2; have := Q6.out.2; have := Q7.out.2.2; omega⟩⟩, B0.out⟩
theorem openPeer0 {H : Type} {enc : TypeId × Value -> H} {W : World} {base0 fuel : Nat} {spare : Nat -> Bool} {held : Bool} {y : DataW H × List MemPlace} {cs : List Value} (hlen : cs.length = 26)
 (hf0 : DataW.trod enc Tryz.prog W base0 spare held fuel 97 cs = some y) :
 ∃ p : PC, cs = [.int .i64 p.id, .int .i64 p.te, .int .i64 p.vo, .int .i64 p.base, .int .i64 p.bt, .slice p.A p.l.length p.cap, .slice p.x.rA p.x.rs.length p.x.rc, .slice p.x.mA p.x.ms.length p.x.mc, .slice p.x.gA p.x.gs.length p.x.gc, .int .i64 p.x.time, .slice p.x.dA p.x.ds.length p.x.dc, .slice p.x.lA p.x.ls.length p.x.lc, .int .i64 p.role, .slice p.vA p.vs.length p.vc, .slice p.nA p.ns.length p.nc, .slice p.pA p.ps.length p.pc, .int .i64 p.com, .slice p.y.rA p.y.rs.length p.y.rc, .slice p.y.mA p.y.ms.length p.y.mc, .slice p.y.gA p.y.gs.length p.y.gc, .int .i64 p.y.time, .slice p.y.dA p.y.ds.length p.y.dc, .slice p.y.lA p.y.ls.length p.y.lc, .slice p.dA p.db.length p.dc, .int .i64 p.su, .slice p.hA p.hs.length p.hc] /\ PRight p /\ PAt W p := by
 match cs, hlen with
 | [c0, c1, c2, c3, c4, c5, c6, c7, c8, c9, c10, c11, c12, c13, c14, c15, c16, c17, c18, c19, c20, c21, c22, c23, c24, c25], _ =>
 obtain ⟨n, hp⟩ := Qbx Tryz.underlying97 hf0
 obtain ⟨yg0, g0⟩ := hp 0 _ rfl
 simp only [zG] at g0
 rw [show Tryz.prog.cellsOf 3 = 1 by kernel_rfl] at g0
 simp only [List.drop_succ_cons, List.drop_zero, List.take_succ_cons, List.take_zero, List.take_nil] at g0
 obtain ⟨yg1, g1⟩ := hp 1 _ rfl
 simp only [zG] at g1
 rw [show Tryz.prog.cellsOf 94 = 11 by kernel_rfl] at g1
 simp only [List.drop_succ_cons, List.drop_zero, List.take_succ_cons, List.take_zero, List.take_nil] at g1
 obtain ⟨yg2, g2⟩ := hp 2 _ rfl
 simp only [zG] at g2
 rw [show Tryz.prog.cellsOf 3 = 1 by kernel_rfl] at g2
 simp only [List.drop_succ_cons, List.drop_zero, List.take_succ_cons, List.take_zero, List.take_nil] at g2
 obtain ⟨yg3, g3⟩ := hp 3 _ rfl
 simp only [zG] at g3
 rw [show Tryz.prog.cellsOf 62 = 1 by kernel_rfl] at g3
 simp only [List.drop_succ_cons, List.drop_zero, List.take_succ_cons, List.take_zero, List.take_nil] at g3
 obtain ⟨yg4, g4⟩ := hp 4 _ rfl
 simp only [zG] at g4
 rw [show Tryz.prog.cellsOf 27 = 1 by kernel_rfl] at g4
 simp only [List.drop_succ_cons, List.drop_zero, List.take_succ_cons, List.take_zero, List.take_nil] at g4
 obtain ⟨yg5, g5⟩ := hp 5 _ rfl
 simp only [zG] at g5
 rw [show Tryz.prog.cellsOf 27 = 1 by kernel_rfl] at g5
 simp only [List.drop_succ_cons, List.drop_zero, List.take_succ_cons, List.take_zero, List.take_nil] at g5
 obtain ⟨yg6, g6⟩ := hp 6 _ rfl
 simp only [zG] at g6
 rw [show Tryz.prog.cellsOf 3 = 1 by kernel_rfl] at g6
 simp only [List.drop_succ_cons, List.drop_zero, List.take_succ_cons, List.take_zero, List.take_nil] at g6
 obtain ⟨yg7, g7⟩ := hp 7 _ rfl
 simp only [zG] at g7
 rw [show Tryz.prog.cellsOf 92 = 6 by kernel_rfl] at g7
 simp only [List.drop_succ_cons, List.drop_zero, List.take_succ_cons, List.take_zero, List.take_nil] at g7
 obtain ⟨yg8, g8⟩ := hp 8 _ rfl
 simp only [zG] at g8
 rw [show Tryz.prog.cellsOf 95 = 2 by kernel_rfl] at g8
 simp only [List.drop_succ_cons, List.drop_zero, List.take_succ_cons, List.take_zero, List.take_nil] at g8
 obtain ⟨yg9, g9⟩ := hp 9 _ rfl
 simp only [zG] at g9
 rw [show Tryz.prog.cellsOf 25 = 1 by kernel_rfl] at g9
 simp only [List.drop_succ_cons, List.drop_zero, List.take_succ_cons, List.take_zero, List.take_nil] at g9
 obtain ⟨nh, hph⟩ := Qbx Tryz.underlying94 g1
 obtain ⟨ygh0, gh0⟩ := hph 0 _ rfl
 simp only [zG] at gh0
 rw [show Tryz.prog.cellsOf 3 = 1 by kernel_rfl] at gh0
 simp only [List.drop_succ_cons, List.drop_zero, List.take_succ_cons, List.take_zero, List.take_nil] at gh0
 obtain ⟨ygh1, gh1⟩ := hph 1 _ rfl
 simp only [zG] at gh1
 rw [show Tryz.prog.cellsOf 3 = 1 by kernel_rfl] at gh1
 simp only [List.drop_succ_cons, List.drop_zero, List.take_succ_cons, List.take_zero, List.take_nil] at gh1
 obtain ⟨ygh2, gh2⟩ := hph 2 _ rfl
 simp only [zG] at gh2
 rw [show Tryz.prog.cellsOf 86 = 3 by kernel_rfl] at gh2
 simp only [List.drop_succ_cons, List.drop_zero, List.take_succ_cons, List.take_zero, List.take_nil] at gh2
 obtain ⟨ygh3, gh3⟩ := hph 3 _ rfl
 simp only [zG] at gh3
 rw [show Tryz.prog.cellsOf 92 = 6 by kernel_rfl] at gh3
 simp only [List.drop_succ_cons, List.drop_zero, List.take_succ_cons, List.take_zero, List.take_nil] at gh3
 obtain ⟨ng, hpg⟩ := Qbx Tryz.underlying86 gh2
 obtain ⟨ygg0, gg0⟩ := hpg 0 _ rfl
 simp only [zG] at gg0
 rw [show Tryz.prog.cellsOf 3 = 1 by kernel_rfl] at gg0
 simp only [List.drop_succ_cons, List.drop_zero, List.take_succ_cons, List.take_zero, List.take_nil] at gg0
 obtain ⟨ygg1, gg1⟩ := hpg 1 _ rfl
 simp only [zG] at gg1
 rw [show Tryz.prog.cellsOf 3 = 1 by kernel_rfl] at gg1
 simp only [List.drop_succ_cons, List.drop_zero, List.take_succ_cons, List.take_zero, List.take_nil] at gg1
 obtain ⟨ygg2, gg2⟩ := hpg 2 _ rfl
 simp only [zG] at gg2
 rw [show Tryz.prog.cellsOf 84 = 1 by kernel_rfl] at gg2
 simp only [List.drop_succ_cons, List.drop_zero, List.take_succ_cons, List.take_zero, List.take_nil] at gg2
 obtain ⟨nd, hpd⟩ := Qbx Tryz.underlying95 g8
 obtain ⟨ygd0, gd0⟩ := hpd 0 _ rfl
 simp only [zG] at gd0
 rw [show Tryz.prog.cellsOf 63 = 1 by kernel_rfl] at gd0
 simp only [List.drop_succ_cons, List.drop_zero, List.take_succ_cons, List.take_zero, List.take_nil] at gd0
 obtain ⟨ygd1, gd1⟩ := hpd 1 _ rfl
 simp only [zG] at gd1
 rw [show Tryz.prog.cellsOf 3 = 1 by kernel_rfl] at gd1
 simp only [List.drop_succ_cons, List.drop_zero, List.take_succ_cons, List.take_zero, List.take_nil] at gd1
 obtain ⟨id, e_id, _, w_id⟩ := DataW.trod_int Tryz.underlying3 g0
 simp at e_id
 subst e_id
 obtain ⟨te, e_te, _, w_te⟩ := DataW.trod_int Tryz.underlying3 gh0
 simp at e_te
 subst e_te
 obtain ⟨vo, e_vo, _, w_vo⟩ := DataW.trod_int Tryz.underlying3 gh1
 simp at e_vo
 subst e_vo
 obtain ⟨base, e_base, _, w_base⟩ := DataW.trod_int Tryz.underlying3 gg0
 simp at e_base
 subst e_base
 obtain ⟨bt, e_bt, _, w_bt⟩ := DataW.trod_int Tryz.underlying3 gg1
 simp at e_bt
 subst e_bt
 obtain ⟨role, e_role, _, w_role⟩ := DataW.trod_int Tryz.underlying3 g2
 simp at e_role
 subst e_role
 obtain ⟨com, e_com, _, w_com⟩ := DataW.trod_int Tryz.underlying3 g6
 simp at e_com
 subst e_com
 obtain ⟨su, e_su, _, w_su⟩ := DataW.trod_int Tryz.underlying3 gd1
 simp at e_su
 subst e_su
 obtain ⟨nx, hpx⟩ := Qbx Tryz.underlying92 gh3
 obtain ⟨ygx0, gx0⟩ := hpx 0 _ rfl
 simp only [zG] at gx0
 rw [show Tryz.prog.cellsOf 87 = 1 by kernel_rfl] at gx0
 simp only [List.drop_succ_cons, List.drop_zero, List.take_succ_cons, List.take_zero, List.take_nil] at gx0
 obtain ⟨ygx1, gx1⟩ := hpx 1 _ rfl
 simp only [zG] at gx1
 rw [show Tryz.prog.cellsOf 88 = 1 by kernel_rfl] at gx1
 simp only [List.drop_succ_cons, List.drop_zero, List.take_succ_cons, List.take_zero, List.take_nil] at gx1
 obtain ⟨ygx2, gx2⟩ := hpx 2 _ rfl
 simp only [zG] at gx2
 rw [show Tryz.prog.cellsOf 89 = 1 by kernel_rfl] at gx2
 simp only [List.drop_succ_cons, List.drop_zero, List.take_succ_cons, List.take_zero, List.take_nil] at gx2
 obtain ⟨ygx3, gx3⟩ := hpx 3 _ rfl
 simp only [zG] at gx3
 rw [show Tryz.prog.cellsOf 3 = 1 by kernel_rfl] at gx3
 simp only [List.drop_succ_cons, List.drop_zero, List.take_succ_cons, List.take_zero, List.take_nil] at gx3
 obtain ⟨ygx4, gx4⟩ := hpx 4 _ rfl
 simp only [zG] at gx4
 rw [show Tryz.prog.cellsOf 27 = 1 by kernel_rfl] at gx4
 simp only [List.drop_succ_cons, List.drop_zero, List.take_succ_cons, List.take_zero, List.take_nil] at gx4
 obtain ⟨ygx5, gx5⟩ := hpx 5 _ rfl
 simp only [zG] at gx5
 rw [show Tryz.prog.cellsOf 90 = 1 by kernel_rfl] at gx5
 simp only [List.drop_succ_cons, List.drop_zero, List.take_succ_cons, List.take_zero, List.take_nil] at gx5
 obtain ⟨xtime, e_xtime, _, w_xtime⟩ := DataW.trod_int Tryz.underlying3 gx3
 simp at e_xtime
 subst e_xtime
 obtain ⟨xrA, xrc, xrs, rfl, xr1, xr2, xr3, xr4⟩ := openRowS gx0
 obtain ⟨xmA, xmc, xms, rfl, xm1, xm2, xm3, xm4⟩ := Qfh gx1
 obtain ⟨xgA, xgc, xgs, rfl, xa1, xa2, xa3, xa4⟩ := Qfi gx2
 obtain ⟨xdA, xdc, xds, rfl, xd1, xd2, xd3⟩ := Qcc gx4
 obtain ⟨xlA, xlc, xls, rfl, xl1, xl2, xl3⟩ := Qef gx5
 obtain ⟨ny, hpy⟩ := Qbx Tryz.underlying92 g7
 obtain ⟨ygy0, gy0⟩ := hpy 0 _ rfl
 simp only [zG] at gy0
 rw [show Tryz.prog.cellsOf 87 = 1 by kernel_rfl] at gy0
 simp only [List.drop_succ_cons, List.drop_zero, List.take_succ_cons, List.take_zero, List.take_nil] at gy0
 obtain ⟨ygy1, gy1⟩ := hpy 1 _ rfl
 simp only [zG] at gy1
 rw [show Tryz.prog.cellsOf 88 = 1 by kernel_rfl] at gy1
 simp only [List.drop_succ_cons, List.drop_zero, List.take_succ_cons, List.take_zero, List.take_nil] at gy1
 obtain ⟨ygy2, gy2⟩ := hpy 2 _ rfl
 simp only [zG] at gy2
 rw [show Tryz.prog.cellsOf 89 = 1 by kernel_rfl] at gy2
 simp only [List.drop_succ_cons, List.drop_zero, List.take_succ_cons, List.take_zero, List.take_nil] at gy2
 obtain ⟨ygy3, gy3⟩ := hpy 3 _ rfl
 simp only [zG] at gy3
 rw [show Tryz.prog.cellsOf 3 = 1 by kernel_rfl] at gy3
 simp only [List.drop_succ_cons, List.drop_zero, List.take_succ_cons, List.take_zero, List.take_nil] at gy3
 obtain ⟨ygy4, gy4⟩ := hpy 4 _ rfl
 simp only [zG] at gy4
 rw [show Tryz.prog.cellsOf 27 = 1 by kernel_rfl] at gy4
 simp only [List.drop_succ_cons, List.drop_zero, List.take_succ_cons, List.take_zero, List.take_nil] at gy4
 obtain ⟨ygy5, gy5⟩ := hpy 5 _ rfl
 simp only [zG] at gy5
 rw [show Tryz.prog.cellsOf 90 = 1 by kernel_rfl] at gy5
 simp only [List.drop_succ_cons, List.drop_zero, List.take_succ_cons, List.take_zero, List.take_nil] at gy5
 obtain ⟨ytime, e_ytime, _, w_ytime⟩ := DataW.trod_int Tryz.underlying3 gy3
 simp at e_ytime
 subst e_ytime
 obtain ⟨yrA, yrc, yrs, rfl, yr1, yr2, yr3, yr4⟩ := openRowS gy0
 obtain ⟨ymA, ymc, yms, rfl, ym1, ym2, ym3, ym4⟩ := Qfh gy1
 obtain ⟨ygA, ygc, ygs, rfl, ya1, ya2, ya3, ya4⟩ := Qfi gy2
 obtain ⟨ydA, ydc, yds, rfl, yd1, yd2, yd3⟩ := Qcc gy4
 obtain ⟨ylA, ylc, yls, rfl, yl1, yl2, yl3⟩ := Qef gy5
 obtain ⟨A, cap, l, rfl, hl, hR, hat⟩ := Qfj gg2
 obtain ⟨vA, vc, vs, rfl, vl, vat⟩ := openBools g3
 obtain ⟨nA, nc, ns, rfl, nl, _, nat⟩ := Qcc g4
 obtain ⟨pA, pc, ps, rfl, pl, _, pat⟩ := Qcc g5
 obtain ⟨dA, dc, db, rfl, dl, dat⟩ := openBs gd0
 obtain ⟨hA, hc, hs, rfl, hhl, hhr, hhat, hhe⟩ := openRpcS g9
 exact ⟨⟨id, te, vo, base, bt, A, cap, l, ⟨xrA, xrc, xrs, xmA, xmc, xms, xgA, xgc, xgs, xtime, xdA, xdc, xds, xlA, xlc, xls⟩, role, vA, vc, vs, nA, nc, ns, pA, pc, ps, com, ⟨yrA, yrc, yrs, ymA, ymc, yms, ygA, ygc, ygs, ytime, ydA, ydc, yds, ylA, ylc, yls⟩, dA, dc, db, su, hA, hc, hs⟩, rfl,
  ⟨hl, hR, ⟨xr1, xm1, xa1, xd1, xl1, xr2, xm2, xa2, xd2, xl2, Qa8 w_xtime⟩, vl, nl, pl, ⟨yr1, ym1, ya1, yd1, yl1, yr2, ym2, ya2, yd2, yl2, Qa8 w_ytime⟩, dl, hhl, hhr⟩,
  ⟨hat, ⟨xr3, xr4, xm3, xm4, xa3, xa4, xd3, xl3⟩, vat, nat, pat, ⟨yr3, yr4, ym3, ym4, ya3, ya4, yd3, yl3⟩, dat, hhat, hhe⟩⟩
end Go.Proofs.YtkmkldjipihceaaGreat.Gen
