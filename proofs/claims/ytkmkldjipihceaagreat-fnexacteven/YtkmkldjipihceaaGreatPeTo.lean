/-
  A node made anew: what the laws' toPeer answers, in memory of its own. No condition but the sizes of its lists.
-/
import Derived.Test.YtkmkldjipihceaaGreatPeC
import Derived.Test.YtkmkldjipihceaaGreatWhl
import Derived.Deep.Cut
set_option linter.unusedVariables false
set_option linter.unusedSimpArgs false
set_option maxRecDepth 100000
set_option maxHeartbeats 8000000
set_option maxRecDepth 100000
set_option maxHeartbeats 8000000
namespace Go.Proofs.YtkmkldjipihceaaGreat.Gen
open ChangeShapes WideShapes ChangeAt RowKit Joins Deep Base
structure Mk3 (w W : World) (tl t : TypeId) (cs zs vs : Array Value) : Prop where
  bl : Below w.heap.size w W
  p1 : Blk W w.heap.size tl cs
  p2 : Blk W (w.heap.size + 1) t zs
  p3 : Blk W (w.heap.size + 1 + 1) t vs
theorem Mk3.below {w W W' : World} {tl t : TypeId} {cs zs vs : Array Value} (m : Mk3 w W tl t cs zs vs) (g : Below W.heap.size W W') : Mk3 w W' tl t cs zs vs := ⟨via0 g m.bl, m.p1.below g m.p1.lt, m.p2.below g m.p2.lt, m.p3.below g m.p3.lt⟩
theorem Mk3.set {w W : World} {tl t : TypeId} {cs zs vs : Array Value} (m : Mk3 w W tl t cs zs vs) (i : Nat) (v : Value) : Mk3 w (W.setCell ⟨w.heap.size + 1 + 1, i, none⟩ v) tl t cs zs (vs.setIfInBounds i v) := ⟨Qa5 m.bl (by omega) v, m.p1.other (by omega) i v, m.p2.other (by omega) i v, m.p3.setAt i v⟩
theorem Qb1 {α : Type} [Cel α] {w W : World} {b n : Nat} {l : List α} (hi : In w b 0 l) (ht : w.there b 0 (l.length * Cel.k α)) (hb : b < w.heap.size) (hn : n + 1 + 1 < b) (o : Offp (fun z => z = n + 1 ∨ z = n + 1 + 1) w W) : Sub W (some ⟨b, 0, none⟩) l (fun z => z = b) :=
 .inr ⟨b, 0, rfl, rfl, Nat.lt_of_lt_of_le hb o.size, hi.offp o hb (by omega), Qc4 ht o hb (by omega)⟩
structure PCol (W : World) (p : PC) (S : Nat -> Prop) (col : Nat -> Nat) : Prop where
  l : Sub W p.A p.l (fun b => S b /\ col b = 1)
  x : KOwn W p.x (fun b => S b /\ col b = 2)
  v : Sub W p.vA p.vs (fun b => S b /\ col b = 3)
  n : Sub W p.nA p.ns (fun b => S b /\ col b = 4)
  q : Sub W p.pA p.ps (fun b => S b /\ col b = 5)
  y : KOwn W p.y (fun b => S b /\ col b = 6)
  d : Sub W p.dA p.db (fun b => S b /\ col b = 7)
  h : Own rpcP W p.hA p.hs (fun b => S b /\ col b = 8)
def POwn (W : World) (p : PC) (S : Nat -> Prop) : Prop := ∃ col, PCol W p S col
theorem POwn.at {W : World} {p : PC} {S : Nat -> Prop} (h : POwn W p S) : PAt W p := by
 obtain ⟨_, h⟩ := h
 exact ⟨h.l.at, h.x.at, h.v.at, h.n.at, h.q.at, h.y.at, h.d.at, h.h.at, Qgt h.h⟩
theorem POwn.offp {W W' : World} {p : PC} {S T : Nat -> Prop} (h : POwn W p S) (k : Offp T W W') (hd : ∀ b, S b -> ¬ T b) : POwn W' p S := by
 obtain ⟨c, h⟩ := h
 exact ⟨c, h.l.offp k (fun b hb => hd b hb.1), h.x.offp k (fun b hb => hd b hb.1), h.v.offp k (fun b hb => hd b hb.1), h.n.offp k (fun b hb => hd b hb.1), h.q.offp k (fun b hb => hd b hb.1), h.y.offp k (fun b hb => hd b hb.1), h.d.offp k (fun b hb => hd b hb.1), h.h.offp Qdg k (fun b hb => hd b hb.1)⟩
def NewP (w w' : World) (e : Ending) (p : PC) : Prop := ∃ (b1 b2 b3 b4 b6 b7 : Nat) (x' y' : KC) (hs' : List RpC), e = .returned (.agg (Qaa p.id p.te p.vo p.base p.bt (some ⟨b1, 0, none⟩) p.l.length p.l.length x'.rA x'.rs.length x'.rc x'.mA x'.ms.length x'.mc x'.gA x'.gs.length x'.gc x'.time x'.dA x'.ds.length x'.dc x'.lA x'.ls.length x'.lc p.role (some ⟨b2, 0, none⟩) p.vs.length p.vs.length (some ⟨b3, 0, none⟩) p.ns.length p.ns.length (some ⟨b4, 0, none⟩) p.ps.length p.ps.length p.com y'.rA y'.rs.length y'.rc y'.mA y'.ms.length y'.mc y'.gA y'.gs.length y'.gc y'.time y'.dA y'.ds.length y'.dc y'.lA y'.ls.length y'.lc (some ⟨b6, 0, none⟩) p.db.length p.db.length p.su (some ⟨b7, 0, none⟩) p.hs.length p.hs.length)) /\ x'.p = p.x.p /\ y'.p = p.y.p /\ hs'.map RpC.p = p.hs.map RpC.p /\ hs'.length = p.hs.length /\ POwn w' ({ p with A := some ⟨b1, 0, none⟩, cap := p.l.length, x := x', vA := some ⟨b2, 0, none⟩, vc := p.vs.length, nA := some ⟨b3, 0, none⟩, nc := p.ns.length, pA := some ⟨b4, 0, none⟩, pc := p.ps.length, y := y', dA := some ⟨b6, 0, none⟩, dc := p.db.length, hA := some ⟨b7, 0, none⟩, hc := p.hs.length, hs := hs' } : PC) (fun z => w.heap.size <= z /\ z < w'.heap.size) /\ Below w.heap.size w w'
theorem toPeer_any (p : PC) (hf : PFit p) (w : World) (hp : PAt w p) :
 Calls Tryz.prog 44 #[.agg (Qaa p.id p.te p.vo p.base p.bt p.A p.l.length p.cap p.x.rA p.x.rs.length p.x.rc p.x.mA p.x.ms.length p.x.mc p.x.gA p.x.gs.length p.x.gc p.x.time p.x.dA p.x.ds.length p.x.dc p.x.lA p.x.ls.length p.x.lc p.role p.vA p.vs.length p.vc p.nA p.ns.length p.nc p.pA p.ps.length p.pc p.com p.y.rA p.y.rs.length p.y.rc p.y.mA p.y.ms.length p.y.mc p.y.gA p.y.gs.length p.y.gc p.y.time p.y.dA p.y.ds.length p.y.dc p.y.lA p.y.ls.length p.y.lc p.dA p.db.length p.dc p.su p.hA p.hs.length p.hc)] w fun e w' => NewP w w' e p := by
 have C1 : Hid (∀ W : World, Below w.heap.size w W -> w.heap.size + 1 + 1 < W.heap.size -> Calls Tryz.prog 83 #[.agg (Qad p.te p.vo p.base p.bt p.A p.l.length p.cap p.x.rA p.x.rs.length p.x.rc p.x.mA p.x.ms.length p.x.mc p.x.gA p.x.gs.length p.x.gc p.x.time p.x.dA p.x.ds.length p.x.dc p.x.lA p.x.ls.length p.x.lc)] W fun e w' => ∃ (b : Nat) (x' : KC), e = .returned (.agg (Qad p.te p.vo p.base p.bt (some ⟨b, 0, none⟩) p.l.length p.l.length x'.rA x'.rs.length x'.rc x'.mA x'.ms.length x'.mc x'.gA x'.gs.length x'.gc x'.time x'.dA x'.ds.length x'.dc x'.lA x'.ls.length x'.lc)) /\ Below W.heap.size W w' /\ x'.p = p.x.p /\ (W.heap.size <= b /\ b < w'.heap.size) /\ ∀ V, Offp (fun z => z = w.heap.size + 1 ∨ z = w.heap.size + 1 + 1) w' V -> Sub V (some ⟨b, 0, none⟩) p.l (fun z => z = b) /\ KOwn V x' (fun z => W.heap.size <= z /\ z < w'.heap.size /\ z ≠ b)) := fun W g lt => (toHard_any p.te p.vo p.base p.bt p.A p.cap p.l hf.ll p.x hf.xf W (hp.la.below g) (hp.xa.below g)).mono fun e w' h => by
  obtain ⟨b, y, he, h1, h2, h3, h4, h5, h6, h7⟩ := h
  exact ⟨b, y, he, h7, h1, ⟨h2, h3⟩, fun V o => ⟨Qb1 h4 h5 h3 (by omega) o, h6.offp o (fun z hz hn => by omega)⟩⟩
 have C2 : Hid (∀ W : World, Below w.heap.size w W -> w.heap.size + 1 + 1 < W.heap.size -> Calls Tryz.prog 84 #[.slice p.vA p.vs.length p.vc] W fun e w' => ∃ b : Nat, e = .returned (.slice (some ⟨b, 0, none⟩) p.vs.length p.vs.length) /\ Below W.heap.size W w' /\ (W.heap.size <= b /\ b < w'.heap.size) /\ ∀ V, Offp (fun z => z = w.heap.size + 1 ∨ z = w.heap.size + 1 + 1) w' V -> Sub V (some ⟨b, 0, none⟩) p.vs (fun z => z = b)) := fun W g lt => (toBool_any p.vA p.vc p.vs hf.vl W (hp.va.below g)).mono fun e w' h => by
  obtain ⟨he, h1, h2, h3, h4⟩ := h
  exact ⟨_, he, h1, ⟨Nat.le_refl _, h2⟩, fun V o => Qb1 h3 h4 h2 (by omega) o⟩
 have C3 : Hid (∀ W : World, Below w.heap.size w W -> w.heap.size + 1 + 1 < W.heap.size -> Calls Tryz.prog 22 #[.slice p.nA p.ns.length p.nc] W fun e w' => ∃ b : Nat, e = .returned (.slice (some ⟨b, 0, none⟩) p.ns.length p.ns.length) /\ Below W.heap.size W w' /\ (W.heap.size <= b /\ b < w'.heap.size) /\ ∀ V, Offp (fun z => z = w.heap.size + 1 ∨ z = w.heap.size + 1 + 1) w' V -> Sub V (some ⟨b, 0, none⟩) p.ns (fun z => z = b)) := fun W g lt => (Qb4 p.nA p.nc p.ns hf.nl W (hp.na.below g)).mono fun e w' h => by
  obtain ⟨he, h1, h2, h3, h4⟩ := h
  exact ⟨_, he, h1, ⟨Nat.le_refl _, h2⟩, fun V o => Qb1 h3 h4 h2 (by omega) o⟩
 have C4 : Hid (∀ W : World, Below w.heap.size w W -> w.heap.size + 1 + 1 < W.heap.size -> Calls Tryz.prog 22 #[.slice p.pA p.ps.length p.pc] W fun e w' => ∃ b : Nat, e = .returned (.slice (some ⟨b, 0, none⟩) p.ps.length p.ps.length) /\ Below W.heap.size W w' /\ (W.heap.size <= b /\ b < w'.heap.size) /\ ∀ V, Offp (fun z => z = w.heap.size + 1 ∨ z = w.heap.size + 1 + 1) w' V -> Sub V (some ⟨b, 0, none⟩) p.ps (fun z => z = b)) := fun W g lt => (Qb4 p.pA p.pc p.ps hf.pl W (hp.pa.below g)).mono fun e w' h => by
  obtain ⟨he, h1, h2, h3, h4⟩ := h
  exact ⟨_, he, h1, ⟨Nat.le_refl _, h2⟩, fun V o => Qb1 h3 h4 h2 (by omega) o⟩
 have C5 : Hid (∀ W : World, Below w.heap.size w W -> w.heap.size + 1 + 1 < W.heap.size -> Calls Tryz.prog 85 #[.agg (Qae p.y.rA p.y.rs.length p.y.rc p.y.mA p.y.ms.length p.y.mc p.y.gA p.y.gs.length p.y.gc p.y.time p.y.dA p.y.ds.length p.y.dc p.y.lA p.y.ls.length p.y.lc)] W fun e w' => ∃ y' : KC, e = .returned (.agg (Qae y'.rA y'.rs.length y'.rc y'.mA y'.ms.length y'.mc y'.gA y'.gs.length y'.gc y'.time y'.dA y'.ds.length y'.dc y'.lA y'.ls.length y'.lc)) /\ Below W.heap.size W w' /\ y'.p = p.y.p /\ ∀ V, Offp (fun z => z = w.heap.size + 1 ∨ z = w.heap.size + 1 + 1) w' V -> KOwn V y' (fun z => W.heap.size <= z /\ z < w'.heap.size)) := fun W g lt => (Qfb p.y hf.yf W (hp.ya.below g)).mono fun e w' h => by
  obtain ⟨y, he, h1, h2, h3⟩ := h
  exact ⟨y, he, h3, h1, fun V o => h2.offp o (fun z hz hn => by omega)⟩
 have C6 : Hid (∀ W : World, Below w.heap.size w W -> w.heap.size + 1 + 1 < W.heap.size -> Calls Tryz.prog 86 #[.agg #[.slice p.dA p.db.length p.dc, .int .i64 p.su]] W fun e w' => ∃ b : Nat, e = .returned (.agg #[.slice (some ⟨b, 0, none⟩) p.db.length p.db.length, .int .i64 p.su]) /\ Below W.heap.size W w' /\ (W.heap.size <= b /\ b < w'.heap.size) /\ ∀ V, Offp (fun z => z = w.heap.size + 1 ∨ z = w.heap.size + 1 + 1) w' V -> Sub V (some ⟨b, 0, none⟩) p.db (fun z => z = b)) := fun W g lt => (toDisk_any p.su p.dA p.dc p.db hf.dl W (hp.da.below g)).mono fun e w' h => by
  obtain ⟨b, he, h1, h2, h3, h4, h5⟩ := h
  exact ⟨b, he, h1, ⟨h2, h3⟩, fun V o => Qb1 h4 h5 h3 (by omega) o⟩
 have C7 : Hid (∀ W : World, Below w.heap.size w W -> w.heap.size + 1 + 1 < W.heap.size -> Calls Tryz.prog 20 #[.slice p.hA p.hs.length p.hc] W fun e w' => ∃ (b : Nat) (hs' : List RpC), e = .returned (.slice (some ⟨b, 0, none⟩) p.hs.length p.hs.length) /\ Below W.heap.size W w' /\ hs'.map RpC.p = p.hs.map RpC.p /\ ∀ V, Offp (fun z => z = w.heap.size + 1 ∨ z = w.heap.size + 1 + 1) w' V -> Own rpcP V (some ⟨b, 0, none⟩) hs' (fun z => W.heap.size <= z /\ z < w'.heap.size)) := fun W g lt => (Qfa p.hA p.hc p.hs hf.hl hf.hi W (hp.ha.below g) (hp.he.below g)).mono fun e w' h => by
  obtain ⟨he, h1, hs', h2, h3⟩ := h
  have o2 := h2.own
  exact ⟨_, hs', he, h1, h3, fun V o => o2.offp Qdg o (fun z hz hn => by omega)⟩
 clear hp hf
 have M0 : Mk3 w (((w.alloc (.cells (Qaa p.id p.te p.vo p.base p.bt p.A p.l.length p.cap p.x.rA p.x.rs.length p.x.rc p.x.mA p.x.ms.length p.x.mc p.x.gA p.x.gs.length p.x.gc p.x.time p.x.dA p.x.ds.length p.x.dc p.x.lA p.x.ls.length p.x.lc p.role p.vA p.vs.length p.vc p.nA p.ns.length p.nc p.pA p.ps.length p.pc p.com p.y.rA p.y.rs.length p.y.rc p.y.mA p.y.ms.length p.y.mc p.y.gA p.y.gs.length p.y.gc p.y.time p.y.dA p.y.ds.length p.y.dc p.y.lA p.y.ls.length p.y.lc p.dA p.db.length p.dc p.su p.hA p.hs.length p.hc) 97)).alloc (.cells Qak 67)).alloc (.cells (Qaa p.id 0 0 0 0 none 0 0 none 0 0 none 0 0 none 0 0 0 none 0 0 none 0 0 0 none 0 0 none 0 0 none 0 0 0 none 0 0 none 0 0 none 0 0 0 none 0 0 none 0 0 none 0 0 0 none 0 0) 67)) 97 67 (Qaa p.id p.te p.vo p.base p.bt p.A p.l.length p.cap p.x.rA p.x.rs.length p.x.rc p.x.mA p.x.ms.length p.x.mc p.x.gA p.x.gs.length p.x.gc p.x.time p.x.dA p.x.ds.length p.x.dc p.x.lA p.x.ls.length p.x.lc p.role p.vA p.vs.length p.vc p.nA p.ns.length p.nc p.pA p.ps.length p.pc p.com p.y.rA p.y.rs.length p.y.rc p.y.mA p.y.ms.length p.y.mc p.y.gA p.y.gs.length p.y.gc p.y.time p.y.dA p.y.ds.length p.y.dc p.y.lA p.y.ls.length p.y.lc p.dA p.db.length p.dc p.su p.hA p.hs.length p.hc) Qak (Qaa p.id 0 0 0 0 none 0 0 none 0 0 none 0 0 none 0 0 0 none 0 0 none 0 0 0 none 0 0 none 0 0 none 0 0 0 none 0 0 none 0 0 none 0 0 0 none 0 0 none 0 0 none 0 0 0 none 0 0) := ⟨Qab (Qab (Qab (Below.refl _ _) _) _) _, ((Blk.new w _ _).alloc _).alloc _, by have := (Blk.new (w.alloc (.cells (Qaa p.id p.te p.vo p.base p.bt p.A p.l.length p.cap p.x.rA p.x.rs.length p.x.rc p.x.mA p.x.ms.length p.x.mc p.x.gA p.x.gs.length p.x.gc p.x.time p.x.dA p.x.ds.length p.x.dc p.x.lA p.x.ls.length p.x.lc p.role p.vA p.vs.length p.vc p.nA p.ns.length p.nc p.pA p.ps.length p.pc p.com p.y.rA p.y.rs.length p.y.rc p.y.mA p.y.ms.length p.y.mc p.y.gA p.y.gs.length p.y.gc p.y.time p.y.dA p.y.ds.length p.y.dc p.y.lA p.y.ls.length p.y.lc p.dA p.db.length p.dc p.su p.hA p.hs.length p.hc) 97)) 67 Qak).alloc (.cells (Qaa p.id 0 0 0 0 none 0 0 none 0 0 none 0 0 none 0 0 0 none 0 0 none 0 0 0 none 0 0 none 0 0 none 0 0 0 none 0 0 none 0 0 none 0 0 0 none 0 0 none 0 0 none 0 0 0 none 0 0) 67); rwa [World.size_alloc] at this, by have := Blk.new ((w.alloc (.cells (Qaa p.id p.te p.vo p.base p.bt p.A p.l.length p.cap p.x.rA p.x.rs.length p.x.rc p.x.mA p.x.ms.length p.x.mc p.x.gA p.x.gs.length p.x.gc p.x.time p.x.dA p.x.ds.length p.x.dc p.x.lA p.x.ls.length p.x.lc p.role p.vA p.vs.length p.vc p.nA p.ns.length p.nc p.pA p.ps.length p.pc p.com p.y.rA p.y.rs.length p.y.rc p.y.mA p.y.ms.length p.y.mc p.y.gA p.y.gs.length p.y.gc p.y.time p.y.dA p.y.ds.length p.y.dc p.y.lA p.y.ls.length p.y.lc p.dA p.db.length p.dc p.su p.hA p.hs.length p.hc) 97)).alloc (.cells Qak 67)) 67 (Qaa p.id 0 0 0 0 none 0 0 none 0 0 none 0 0 none 0 0 0 none 0 0 none 0 0 0 none 0 0 none 0 0 none 0 0 0 none 0 0 none 0 0 none 0 0 0 none 0 0 none 0 0 none 0 0 0 none 0 0); rwa [World.size_alloc, World.size_alloc] at this⟩
 have HM := hidP M0
 clear M0
 go_enter Tryz.func44, Tryz.ntmps44
 go_wp2_with fail
 refine (C1.out _ HM.out.bl HM.out.p3.lt).mono ?_
 rintro e w1 ⟨b1, x', rfl, g1, hx1, hb1, F1⟩
 have z1 := g1.size
 have z0 := HM.out.p3.lt
 replace HM := hidP (HM.out.below g1)
 have G1 := hidP F1
 have X1 := hidP hx1
 clear g1 F1 hx1
 have u12 := HM.out.p1.cell (i := 12) rfl
 have u13 := HM.out.p1.cell (i := 13) rfl
 have v1 := HM.out.p3.cell (i := 1) rfl
 have fv1 := HM.out.p3.thaw (1)
 have v2 := HM.out.p3.cell (i := 2) rfl
 have fv2 := HM.out.p3.thaw (2)
 have v2s := HM.out.p3.cell (i := 1 + 1) rfl
 have fv2s := HM.out.p3.thaw (1 + 1)
 have v3 := HM.out.p3.cell (i := 3) rfl
 have fv3 := HM.out.p3.thaw (3)
 have v3s := HM.out.p3.cell (i := 1 + 2) rfl
 have fv3s := HM.out.p3.thaw (1 + 2)
 have v4 := HM.out.p3.cell (i := 4) rfl
 have fv4 := HM.out.p3.thaw (4)
 have v4s := HM.out.p3.cell (i := 1 + 3) rfl
 have fv4s := HM.out.p3.thaw (1 + 3)
 have v5 := HM.out.p3.cell (i := 5) rfl
 have fv5 := HM.out.p3.thaw (5)
 have v5s := HM.out.p3.cell (i := 1 + 4) rfl
 have fv5s := HM.out.p3.thaw (1 + 4)
 have v6 := HM.out.p3.cell (i := 6) rfl
 have fv6 := HM.out.p3.thaw (6)
 have v6s := HM.out.p3.cell (i := 1 + 5) rfl
 have fv6s := HM.out.p3.thaw (1 + 5)
 have v7 := HM.out.p3.cell (i := 7) rfl
 have fv7 := HM.out.p3.thaw (7)
 have v7s := HM.out.p3.cell (i := 1 + 6) rfl
 have fv7s := HM.out.p3.thaw (1 + 6)
 have v8 := HM.out.p3.cell (i := 8) rfl
 have fv8 := HM.out.p3.thaw (8)
 have v8s := HM.out.p3.cell (i := 1 + 7) rfl
 have fv8s := HM.out.p3.thaw (1 + 7)
 have v9 := HM.out.p3.cell (i := 9) rfl
 have fv9 := HM.out.p3.thaw (9)
 have v9s := HM.out.p3.cell (i := 1 + 8) rfl
 have fv9s := HM.out.p3.thaw (1 + 8)
 have v10 := HM.out.p3.cell (i := 10) rfl
 have fv10 := HM.out.p3.thaw (10)
 have v10s := HM.out.p3.cell (i := 1 + 9) rfl
 have fv10s := HM.out.p3.thaw (1 + 9)
 have v11 := HM.out.p3.cell (i := 11) rfl
 have fv11 := HM.out.p3.thaw (11)
 have v11s := HM.out.p3.cell (i := 1 + 10) rfl
 have fv11s := HM.out.p3.thaw (1 + 10)
 have v12 := HM.out.p3.cell (i := 12) rfl
 have fv12 := HM.out.p3.thaw (12)
 have q1 := HM.out.p1.lt
 have q3 := HM.out.p3.lt
 have M1 := ((((((((((((HM.out.set 1 (.int .i64 p.te)).set 2 (.int .i64 p.vo)).set 3 (.int .i64 p.base)).set 4 (.int .i64 p.bt)).set 5 (.slice (some ⟨b1, 0, none⟩) p.l.length p.l.length)).set 6 (.slice x'.rA x'.rs.length x'.rc)).set 7 (.slice x'.mA x'.ms.length x'.mc)).set 8 (.slice x'.gA x'.gs.length x'.gc)).set 9 (.int .i64 x'.time)).set 10 (.slice x'.dA x'.ds.length x'.dc)).set 11 (.slice x'.lA x'.ls.length x'.lc)).set 12 (.int .i64 p.role))
 simp only [List.setIfInBounds_toArray, List.set_cons_zero, List.set_cons_succ] at M1
 have O1 := Offp.set (Offp.set (Offp.set (Offp.set (Offp.set (Offp.set (Offp.set (Offp.set (Offp.set (Offp.set (Offp.set (Offp.set (Offp.refl (fun z => z = w.heap.size + 1 ∨ z = w.heap.size + 1 + 1) w1) (Or.inr rfl) 1 (.int .i64 p.te)) (Or.inr rfl) 2 (.int .i64 p.vo)) (Or.inr rfl) 3 (.int .i64 p.base)) (Or.inr rfl) 4 (.int .i64 p.bt)) (Or.inr rfl) 5 (.slice (some ⟨b1, 0, none⟩) p.l.length p.l.length)) (Or.inr rfl) 6 (.slice x'.rA x'.rs.length x'.rc)) (Or.inr rfl) 7 (.slice x'.mA x'.ms.length x'.mc)) (Or.inr rfl) 8 (.slice x'.gA x'.gs.length x'.gc)) (Or.inr rfl) 9 (.int .i64 x'.time)) (Or.inr rfl) 10 (.slice x'.dA x'.ds.length x'.dc)) (Or.inr rfl) 11 (.slice x'.lA x'.ls.length x'.lc)) (Or.inr rfl) 12 (.int .i64 p.role)
 have HN := hidP M1
 have P1 := hidP O1
 clear M1 O1 HM
 go_wp2_with fail
 refine (C2.out _ HN.out.bl HN.out.p3.lt).mono ?_
 rintro e w2 ⟨b2, rfl, g, hb2, F2⟩
 have z2 : w1.heap.size <= w2.heap.size := by have h9 := g.size; simpa using h9
 have F2 := F2
 try simp only [World.size_setCell] at F2
 try simp only [World.size_setCell] at hb2
 have HM := hidP (HN.out.below g)
 replace P1 := hidP (P1.out.trans (Offp.of_below g))
 have G2 := hidP F2
 clear g F2 HN q1 q3 u12 u13 v1 fv1 v2 fv2 v2s fv2s v3 fv3 v3s fv3s v4 fv4 v4s fv4s v5 fv5 v5s fv5s v6 fv6 v6s fv6s v7 fv7 v7s fv7s v8 fv8 v8s fv8s v9 fv9 v9s fv9s v10 fv10 v10s fv10s v11 fv11 v11s fv11s v12 fv12
 have u14 := HM.out.p1.cell (i := 14) rfl
 have v13 := HM.out.p3.cell (i := 13) rfl
 have fv13 := HM.out.p3.thaw (13)
 have q1 := HM.out.p1.lt
 have q3 := HM.out.p3.lt
 have M2 := (HM.out.set 13 (.slice (some ⟨b2, 0, none⟩) p.vs.length p.vs.length))
 simp only [List.setIfInBounds_toArray, List.set_cons_zero, List.set_cons_succ] at M2
 have O2 := Offp.set (Offp.refl (fun z => z = w.heap.size + 1 ∨ z = w.heap.size + 1 + 1) w2) (Or.inr rfl) 13 (.slice (some ⟨b2, 0, none⟩) p.vs.length p.vs.length)
 have HN := hidP M2
 have P2 := hidP O2
 clear M2 O2 HM
 go_wp2_with fail
 refine (C3.out _ HN.out.bl HN.out.p3.lt).mono ?_
 rintro e w3 ⟨b3, rfl, g, hb3, F3⟩
 have z3 : w2.heap.size <= w3.heap.size := by have h9 := g.size; simpa using h9
 have F3 := F3
 try simp only [World.size_setCell] at F3
 try simp only [World.size_setCell] at hb3
 have HM := hidP (HN.out.below g)
 replace P2 := hidP (P2.out.trans (Offp.of_below g))
 have G3 := hidP F3
 clear g F3 HN q1 q3 u14 v13 fv13
 have u15 := HM.out.p1.cell (i := 15) rfl
 have u16 := HM.out.p1.cell (i := 16) rfl
 have v14 := HM.out.p3.cell (i := 14) rfl
 have fv14 := HM.out.p3.thaw (14)
 have q1 := HM.out.p1.lt
 have q3 := HM.out.p3.lt
 have M3 := (HM.out.set 14 (.slice (some ⟨b3, 0, none⟩) p.ns.length p.ns.length))
 simp only [List.setIfInBounds_toArray, List.set_cons_zero, List.set_cons_succ] at M3
 have O3 := Offp.set (Offp.refl (fun z => z = w.heap.size + 1 ∨ z = w.heap.size + 1 + 1) w3) (Or.inr rfl) 14 (.slice (some ⟨b3, 0, none⟩) p.ns.length p.ns.length)
 have HN := hidP M3
 have P3 := hidP O3
 clear M3 O3 HM
 go_wp2_with fail
 refine (C4.out _ HN.out.bl HN.out.p3.lt).mono ?_
 rintro e w4 ⟨b4, rfl, g, hb4, F4⟩
 have z4 : w3.heap.size <= w4.heap.size := by have h9 := g.size; simpa using h9
 have F4 := F4
 try simp only [World.size_setCell] at F4
 try simp only [World.size_setCell] at hb4
 have HM := hidP (HN.out.below g)
 replace P3 := hidP (P3.out.trans (Offp.of_below g))
 have G4 := hidP F4
 clear g F4 HN q1 q3 u15 u16 v14 fv14
 have u16 := HM.out.p1.cell (i := 16) rfl
 have u17 := HM.out.p1.cell (i := 17) rfl
 have u18 := HM.out.p1.cell (i := 18) rfl
 have u18s := HM.out.p1.cell (i := 17 + 1) rfl
 have u19 := HM.out.p1.cell (i := 19) rfl
 have u19s := HM.out.p1.cell (i := 17 + 2) rfl
 have u20 := HM.out.p1.cell (i := 20) rfl
 have u20s := HM.out.p1.cell (i := 17 + 3) rfl
 have u21 := HM.out.p1.cell (i := 21) rfl
 have u21s := HM.out.p1.cell (i := 17 + 4) rfl
 have u22 := HM.out.p1.cell (i := 22) rfl
 have u22s := HM.out.p1.cell (i := 17 + 5) rfl
 have v15 := HM.out.p3.cell (i := 15) rfl
 have fv15 := HM.out.p3.thaw (15)
 have v16 := HM.out.p3.cell (i := 16) rfl
 have fv16 := HM.out.p3.thaw (16)
 have q1 := HM.out.p1.lt
 have q3 := HM.out.p3.lt
 have M4 := ((HM.out.set 15 (.slice (some ⟨b4, 0, none⟩) p.ps.length p.ps.length)).set 16 (.int .i64 p.com))
 simp only [List.setIfInBounds_toArray, List.set_cons_zero, List.set_cons_succ] at M4
 have O4 := Offp.set (Offp.set (Offp.refl (fun z => z = w.heap.size + 1 ∨ z = w.heap.size + 1 + 1) w4) (Or.inr rfl) 15 (.slice (some ⟨b4, 0, none⟩) p.ps.length p.ps.length)) (Or.inr rfl) 16 (.int .i64 p.com)
 have HN := hidP M4
 have P4 := hidP O4
 clear M4 O4 HM
 go_wp2_with fail
 refine (C5.out _ HN.out.bl HN.out.p3.lt).mono ?_
 rintro e w5 ⟨y', rfl, g, hx5, F5⟩
 have z5 : w4.heap.size <= w5.heap.size := by have h9 := g.size; simpa using h9
 have F5 := F5
 try simp only [World.size_setCell] at F5
 have HM := hidP (HN.out.below g)
 replace P4 := hidP (P4.out.trans (Offp.of_below g))
 have G5 := hidP F5
 have X5 := hidP hx5
 clear hx5
 clear g F5 HN q1 q3 u16 u17 u18 u18s u19 u19s u20 u20s u21 u21s u22 u22s v15 fv15 v16 fv16
 have u23 := HM.out.p1.cell (i := 23) rfl
 have u24 := HM.out.p1.cell (i := 24) rfl
 have u24s := HM.out.p1.cell (i := 23 + 1) rfl
 have v17 := HM.out.p3.cell (i := 17) rfl
 have fv17 := HM.out.p3.thaw (17)
 have v18 := HM.out.p3.cell (i := 18) rfl
 have fv18 := HM.out.p3.thaw (18)
 have v18s := HM.out.p3.cell (i := 17 + 1) rfl
 have fv18s := HM.out.p3.thaw (17 + 1)
 have v19 := HM.out.p3.cell (i := 19) rfl
 have fv19 := HM.out.p3.thaw (19)
 have v19s := HM.out.p3.cell (i := 17 + 2) rfl
 have fv19s := HM.out.p3.thaw (17 + 2)
 have v20 := HM.out.p3.cell (i := 20) rfl
 have fv20 := HM.out.p3.thaw (20)
 have v20s := HM.out.p3.cell (i := 17 + 3) rfl
 have fv20s := HM.out.p3.thaw (17 + 3)
 have v21 := HM.out.p3.cell (i := 21) rfl
 have fv21 := HM.out.p3.thaw (21)
 have v21s := HM.out.p3.cell (i := 17 + 4) rfl
 have fv21s := HM.out.p3.thaw (17 + 4)
 have v22 := HM.out.p3.cell (i := 22) rfl
 have fv22 := HM.out.p3.thaw (22)
 have v22s := HM.out.p3.cell (i := 17 + 5) rfl
 have fv22s := HM.out.p3.thaw (17 + 5)
 have q1 := HM.out.p1.lt
 have q3 := HM.out.p3.lt
 have M5 := ((((((HM.out.set 17 (.slice y'.rA y'.rs.length y'.rc)).set 18 (.slice y'.mA y'.ms.length y'.mc)).set 19 (.slice y'.gA y'.gs.length y'.gc)).set 20 (.int .i64 y'.time)).set 21 (.slice y'.dA y'.ds.length y'.dc)).set 22 (.slice y'.lA y'.ls.length y'.lc))
 simp only [List.setIfInBounds_toArray, List.set_cons_zero, List.set_cons_succ] at M5
 have O5 := Offp.set (Offp.set (Offp.set (Offp.set (Offp.set (Offp.set (Offp.refl (fun z => z = w.heap.size + 1 ∨ z = w.heap.size + 1 + 1) w5) (Or.inr rfl) 17 (.slice y'.rA y'.rs.length y'.rc)) (Or.inr rfl) 18 (.slice y'.mA y'.ms.length y'.mc)) (Or.inr rfl) 19 (.slice y'.gA y'.gs.length y'.gc)) (Or.inr rfl) 20 (.int .i64 y'.time)) (Or.inr rfl) 21 (.slice y'.dA y'.ds.length y'.dc)) (Or.inr rfl) 22 (.slice y'.lA y'.ls.length y'.lc)
 have HN := hidP M5
 have P5 := hidP O5
 clear M5 O5 HM
 go_wp2_with fail
 refine (C6.out _ HN.out.bl HN.out.p3.lt).mono ?_
 rintro e w6 ⟨b6, rfl, g, hb6, F6⟩
 have z6 : w5.heap.size <= w6.heap.size := by have h9 := g.size; simpa using h9
 have F6 := F6
 try simp only [World.size_setCell] at F6
 try simp only [World.size_setCell] at hb6
 have HM := hidP (HN.out.below g)
 replace P5 := hidP (P5.out.trans (Offp.of_below g))
 have G6 := hidP F6
 clear g F6 HN q1 q3 u23 u24 u24s v17 fv17 v18 fv18 v18s fv18s v19 fv19 v19s fv19s v20 fv20 v20s fv20s v21 fv21 v21s fv21s v22 fv22 v22s fv22s
 have u25 := HM.out.p1.cell (i := 25) rfl
 have v23 := HM.out.p3.cell (i := 23) rfl
 have fv23 := HM.out.p3.thaw (23)
 have v24 := HM.out.p3.cell (i := 24) rfl
 have fv24 := HM.out.p3.thaw (24)
 have v24s := HM.out.p3.cell (i := 23 + 1) rfl
 have fv24s := HM.out.p3.thaw (23 + 1)
 have q1 := HM.out.p1.lt
 have q3 := HM.out.p3.lt
 have M6 := ((HM.out.set 23 (.slice (some ⟨b6, 0, none⟩) p.db.length p.db.length)).set 24 (.int .i64 p.su))
 simp only [List.setIfInBounds_toArray, List.set_cons_zero, List.set_cons_succ] at M6
 have O6 := Offp.set (Offp.set (Offp.refl (fun z => z = w.heap.size + 1 ∨ z = w.heap.size + 1 + 1) w6) (Or.inr rfl) 23 (.slice (some ⟨b6, 0, none⟩) p.db.length p.db.length)) (Or.inr rfl) 24 (.int .i64 p.su)
 have HN := hidP M6
 have P6 := hidP O6
 clear M6 O6 HM
 go_wp2_with fail
 refine (C7.out _ HN.out.bl HN.out.p3.lt).mono ?_
 rintro e w7 ⟨b7, hs', rfl, g, hx7, F7⟩
 have z7 : w6.heap.size <= w7.heap.size := by have h9 := g.size; simpa using h9
 have F7 := F7
 try simp only [World.size_setCell] at F7
 have HM := hidP (HN.out.below g)
 replace P6 := hidP (P6.out.trans (Offp.of_below g))
 have G7 := hidP F7
 have X7 := hidP hx7
 clear hx7
 clear g F7 HN q1 q3 u25 v23 fv23 v24 fv24 v24s fv24s
 have v25 := HM.out.p3.cell (i := 25) rfl
 have fv25 := HM.out.p3.thaw 25
 have q1 := HM.out.p1.lt
 have q3 := HM.out.p3.lt
 have M7 := HM.out.set 25 (.slice (some ⟨b7, 0, none⟩) p.hs.length p.hs.length)
 simp only [List.setIfInBounds_toArray, List.set_cons_zero, List.set_cons_succ] at M7
 have HN := hidP M7
 clear M7
 have OO : Hid (∀ V : World, Offp (fun z => z = w.heap.size + 1 ∨ z = w.heap.size + 1 + 1) w7 V -> NewP w V (.returned (.agg (Qaa p.id p.te p.vo p.base p.bt (some ⟨b1, 0, none⟩) p.l.length p.l.length x'.rA x'.rs.length x'.rc x'.mA x'.ms.length x'.mc x'.gA x'.gs.length x'.gc x'.time x'.dA x'.ds.length x'.dc x'.lA x'.ls.length x'.lc p.role (some ⟨b2, 0, none⟩) p.vs.length p.vs.length (some ⟨b3, 0, none⟩) p.ns.length p.ns.length (some ⟨b4, 0, none⟩) p.ps.length p.ps.length p.com y'.rA y'.rs.length y'.rc y'.mA y'.ms.length y'.mc y'.gA y'.gs.length y'.gc y'.time y'.dA y'.ds.length y'.dc y'.lA y'.ls.length y'.lc (some ⟨b6, 0, none⟩) p.db.length p.db.length p.su (some ⟨b7, 0, none⟩) p.hs.length p.hs.length))) p) := by
  intro V o
  have o6 := P6.out.trans o
  have o5 := P5.out.trans o6
  have o4 := P4.out.trans o5
  have o3 := P3.out.trans o4
  have o2 := P2.out.trans o3
  have o1 := P1.out.trans o2
  have hV := o.size
  have hz0 : w.heap.size + 1 + 1 < w1.heap.size := by omega
  refine ⟨b1, b2, b3, b4, b6, b7, x', y', hs', rfl, X1.out, X5.out, X7.out, by have := congrArg List.length X7.out; simpa using this, ⟨fun b => if b < w1.heap.size then (if b = b1 then 1 else 2) else if b < w2.heap.size then 3 else if b < w3.heap.size then 4 else if b < w4.heap.size then 5 else if b < w5.heap.size then 6 else if b < w6.heap.size then 7 else 8, ?_, ?_, ?_, ?_, ?_, ?_, ?_, ?_⟩, HM.out.bl.trans (o.toBelow (fun z hz => by omega) HM.out.bl.size)⟩
  . exact (G1.out _ o1).1.mono (fun z hz => by subst hz; exact ⟨⟨by omega, by omega⟩, by (repeat' split)<;>first | rfl | omega⟩)
  . exact (G1.out _ o1).2.mono (fun z hz => by have h1 := hz.1; have h2 := hz.2.1; have h3 := hz.2.2; exact ⟨⟨by omega, by omega⟩, by (repeat' split)<;>first | rfl | omega⟩)
  . exact (G2.out _ o2).mono (fun z hz => by subst hz; exact ⟨⟨by omega, by omega⟩, by (repeat' split)<;>first | rfl | omega⟩)
  . exact (G3.out _ o3).mono (fun z hz => by subst hz; exact ⟨⟨by omega, by omega⟩, by (repeat' split)<;>first | rfl | omega⟩)
  . exact (G4.out _ o4).mono (fun z hz => by subst hz; exact ⟨⟨by omega, by omega⟩, by (repeat' split)<;>first | rfl | omega⟩)
  . exact (G5.out _ o5).mono (fun z hz => by have h1 := hz.1; have h2 := hz.2; exact ⟨⟨by omega, by omega⟩, by (repeat' split)<;>first | rfl | omega⟩)
  . exact (G6.out _ o6).mono (fun z hz => by subst hz; exact ⟨⟨by omega, by omega⟩, by (repeat' split)<;>first | rfl | omega⟩)
  . exact (G7.out _ o).mono (fun z hz => by have h1 := hz.1; have h2 := hz.2; exact ⟨⟨by omega, by omega⟩, by (repeat' split)<;>first | rfl | omega⟩)
 have PP := hidP (show Offp (fun z => z = w.heap.size + 1 ∨ z = w.heap.size + 1 + 1) w7 ((w7.setCell ⟨w.heap.size + 1 + 1, 25, none⟩ (.slice (some ⟨b7, 0, none⟩) p.hs.length p.hs.length)).setRow (w.heap.size + 1) (Qaa p.id p.te p.vo p.base p.bt (some ⟨b1, 0, none⟩) p.l.length p.l.length x'.rA x'.rs.length x'.rc x'.mA x'.ms.length x'.mc x'.gA x'.gs.length x'.gc x'.time x'.dA x'.ds.length x'.dc x'.lA x'.ls.length x'.lc p.role (some ⟨b2, 0, none⟩) p.vs.length p.vs.length (some ⟨b3, 0, none⟩) p.ns.length p.ns.length (some ⟨b4, 0, none⟩) p.ps.length p.ps.length p.com y'.rA y'.rs.length y'.rc y'.mA y'.ms.length y'.mc y'.gA y'.gs.length y'.gc y'.time y'.dA y'.ds.length y'.dc y'.lA y'.ls.length y'.lc (some ⟨b6, 0, none⟩) p.db.length p.db.length p.su (some ⟨b7, 0, none⟩) p.hs.length p.hs.length)) from ((Offp.refl _ w7).set (Or.inr rfl) 25 _).row (Or.inl rfl) _)
 clear HM P1 P2 P3 P4 P5 P6 G1 G2 G3 G4 G5 G6 G7 X1 X5 X7 C1 C2 C3 C4 C5 C6 C7
 go_upto_region 12 with fail
 refine wp_region_lit ?_
 refine Qau rfl 67 _ rfl (b := w.heap.size + 1 + 1) rfl HN.out.p3 Tryz.underlying67 (by kernel_rfl) ?_
 refine Qa2 rfl 67 _ _ rfl (g := w.heap.size + 1) (cells := (Qaa p.id p.te p.vo p.base p.bt (some ⟨b1, 0, none⟩) p.l.length p.l.length x'.rA x'.rs.length x'.rc x'.mA x'.ms.length x'.mc x'.gA x'.gs.length x'.gc x'.time x'.dA x'.ds.length x'.dc x'.lA x'.ls.length x'.lc p.role (some ⟨b2, 0, none⟩) p.vs.length p.vs.length (some ⟨b3, 0, none⟩) p.ns.length p.ns.length (some ⟨b4, 0, none⟩) p.ps.length p.ps.length p.com y'.rA y'.rs.length y'.rc y'.mA y'.ms.length y'.mc y'.gA y'.gs.length y'.gc y'.time y'.dA y'.ds.length y'.dc y'.lA y'.ls.length y'.lc (some ⟨b6, 0, none⟩) p.db.length p.db.length p.su (some ⟨b7, 0, none⟩) p.hs.length p.hs.length)) rfl rfl HN.out.p2 (by kernel_rfl) rfl (by simp [Value.oneCell']) ?_
 refine wpList_nil ?_
 have HB := hidP (HN.out.p2.row (Qaa p.id p.te p.vo p.base p.bt (some ⟨b1, 0, none⟩) p.l.length p.l.length x'.rA x'.rs.length x'.rc x'.mA x'.ms.length x'.mc x'.gA x'.gs.length x'.gc x'.time x'.dA x'.ds.length x'.dc x'.lA x'.ls.length x'.lc p.role (some ⟨b2, 0, none⟩) p.vs.length p.vs.length (some ⟨b3, 0, none⟩) p.ns.length p.ns.length (some ⟨b4, 0, none⟩) p.ps.length p.ps.length p.com y'.rA y'.rs.length y'.rc y'.mA y'.ms.length y'.mc y'.gA y'.gs.length y'.gc y'.time y'.dA y'.ds.length y'.dc y'.lA y'.ls.length y'.lc (some ⟨b6, 0, none⟩) p.db.length p.db.length p.su (some ⟨b7, 0, none⟩) p.hs.length p.hs.length))
 clear HN
 go_wp2
 exact bodyPost_ret (v := .agg (Qaa p.id p.te p.vo p.base p.bt (some ⟨b1, 0, none⟩) p.l.length p.l.length x'.rA x'.rs.length x'.rc x'.mA x'.ms.length x'.mc x'.gA x'.gs.length x'.gc x'.time x'.dA x'.ds.length x'.dc x'.lA x'.ls.length x'.lc p.role (some ⟨b2, 0, none⟩) p.vs.length p.vs.length (some ⟨b3, 0, none⟩) p.ns.length p.ns.length (some ⟨b4, 0, none⟩) p.ps.length p.ps.length p.com y'.rA y'.rs.length y'.rc y'.mA y'.ms.length y'.mc y'.gA y'.gs.length y'.gc y'.time y'.dA y'.ds.length y'.dc y'.lA y'.ls.length y'.lc (some ⟨b6, 0, none⟩) p.db.length p.db.length p.su (some ⟨b7, 0, none⟩) p.hs.length p.hs.length)) (Qdb (by rfl) rfl HB.out Tryz.underlying67 (by kernel_rfl)) rfl (OO.out _ PP.out)
end Go.Proofs.YtkmkldjipihceaaGreat.Gen
