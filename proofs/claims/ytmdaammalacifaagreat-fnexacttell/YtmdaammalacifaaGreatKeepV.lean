/-
  A keeper: how it lies, and what the laws' sz, to, eq, mark and held functions of it do. No condition but that its lists have at most 1048576 records in all.
-/
import Derived.Test.YtmdaammalacifaaGreatRowList
import Derived.Test.YtmdaammalacifaaGreatGpList
import Derived.Test.YtmdaammalacifaaGreatMakList2
import Derived.Test.YtmdaammalacifaaGreatAnsList
set_option linter.unusedVariables false
set_option linter.unusedSimpArgs false
set_option maxRecDepth 100000
set_option maxHeartbeats 8000000
namespace Go.Proofs.YtmdaammalacifaaGreat.Gen
open ChangeShapes WideShapes ChangeAt RowKit Joins Deep Base
theorem Blk.row6 {W : World} {B : Nat} {t : TypeId} {a b c d e f : Value} (h : Blk W B t #[a, b, c, d, e, f]) : W.cell? ⟨B, 0, none⟩ = some a /\ W.cell? ⟨B, 1, none⟩ = some b /\ W.cell? ⟨B, 2, none⟩ = some c /\ W.cell? ⟨B, 3, none⟩ = some d /\ W.cell? ⟨B, 4, none⟩ = some e /\ W.cell? ⟨B, 5, none⟩ = some f := ⟨h.cell (by rfl), h.cell (by rfl), h.cell (by rfl), h.cell (by rfl), h.cell (by rfl), h.cell (by rfl)⟩
structure KC where
  rA : Option Addr
  rc : Nat
  rs : List RC
  mA : Option Addr
  mc : Nat
  ms : List MC
  gA : Option Addr
  gc : Nat
  gs : List GC
  time : Int
  dA : Option Addr
  dc : Nat
  ds : List Int
  lA : Option Addr
  lc : Nat
  ls : List An
structure PK where
  rs : List PR
  ms : List PM
  gs : List PG
  time : Int
  ds : List Int
  ls : List An
def KC.p (x : KC) : PK := ⟨x.rs.map RC.p, x.ms.map MC.p, x.gs.map GC.p, x.time, x.ds, x.ls⟩
def KC.cells (x : KC) : Array Value := #[.slice x.rA x.rs.length x.rc, .slice x.mA x.ms.length x.mc, .slice x.gA x.gs.length x.gc, .int .i64 x.time, .slice x.dA x.ds.length x.dc, .slice x.lA x.ls.length x.lc]
theorem KC.p_len {x y : KC} (h : y.p = x.p) : y.rs.length = x.rs.length /\ y.ms.length = x.ms.length /\ y.gs.length = x.gs.length /\ y.time = x.time /\ y.ds = x.ds /\ y.ls = x.ls := by
 simp only [KC.p, PK.mk.injEq] at h
 obtain ⟨h1, h2, h3, h4, h5, h6⟩ := h
 exact ⟨by have := congrArg List.length h1; simpa using this, by have := congrArg List.length h2; simpa using this, by have := congrArg List.length h3; simpa using this, h4, h5, h6⟩
structure KAt (w : World) (x : KC) : Prop where
  ra : At w x.rA x.rs
  re : EachR w x.rs
  ma : At w x.mA x.ms
  me : Each w x.ms
  ga : At w x.gA x.gs
  ge : EachG w x.gs
  da : At w x.dA x.ds
  la : At w x.lA x.ls
theorem KAt.below {w w' : World} {x : KC} (h : KAt w x) (g : Below w.heap.size w w') : KAt w' x :=
 ⟨h.ra.below g, h.re.below g, h.ma.below g, h.me.below g, h.ga.below g, h.ge.below g, h.da.below g, h.la.below g⟩
structure KCol (w : World) (x : KC) (S : Nat -> Prop) (col : Nat -> Nat) : Prop where
  r : Own rowP w x.rA x.rs (fun b => S b /\ col b = 1)
  m : Own makP w x.mA x.ms (fun b => S b /\ col b = 2)
  g : Own grpP w x.gA x.gs (fun b => S b /\ col b = 3)
  d : Sub w x.dA x.ds (fun b => S b /\ col b = 4)
  l : Sub w x.lA x.ls (fun b => S b /\ col b = 5)
def KOwn (w : World) (x : KC) (S : Nat -> Prop) : Prop := ∃ col, KCol w x S col
theorem KCol.at {w : World} {x : KC} {S : Nat -> Prop} {col : Nat -> Nat} (h : KCol w x S col) : KAt w x := ⟨h.r.at, rowP_each h.r, h.m.at, makP_each h.m, h.g.at, grpP_each h.g, h.d.at, h.l.at⟩
theorem KOwn.at {w : World} {x : KC} {S : Nat -> Prop} (h : KOwn w x S) : KAt w x := by obtain ⟨_, h⟩ := h; exact h.at
theorem KCol.offp {w w' : World} {x : KC} {S T : Nat -> Prop} {col : Nat -> Nat} (h : KCol w x S col) (k : Offp T w w') (hd : ∀ b, S b -> ¬ T b) : KCol w' x S col :=
 ⟨h.r.offp Qao k (fun b hb => hd b hb.1), h.m.offp Qap k (fun b hb => hd b hb.1), h.g.offp Qau k (fun b hb => hd b hb.1), h.d.offp k (fun b hb => hd b hb.1), h.l.offp k (fun b hb => hd b hb.1)⟩
theorem KOwn.offp {w w' : World} {x : KC} {S T : Nat -> Prop} (h : KOwn w x S) (k : Offp T w w') (hd : ∀ b, S b -> ¬ T b) : KOwn w' x S := by obtain ⟨c, h⟩ := h; exact ⟨c, h.offp k hd⟩
theorem KOwn.below {w w' : World} {x : KC} {S : Nat -> Prop} (h : KOwn w x S) (k : Below w.heap.size w w') : KOwn w' x S := h.offp (Offp.of_below (S := fun _ => False) k) (fun _ _ e => e)
theorem KOwn.mono {w : World} {x : KC} {S T : Nat -> Prop} (h : KOwn w x S) (s : ∀ b, S b -> T b) : KOwn w x T := by
 obtain ⟨c, h⟩ := h
 exact ⟨c, h.r.mono (fun b hb => ⟨s b hb.1, hb.2⟩), h.m.mono (fun b hb => ⟨s b hb.1, hb.2⟩), h.g.mono (fun b hb => ⟨s b hb.1, hb.2⟩), h.d.mono (fun b hb => ⟨s b hb.1, hb.2⟩), h.l.mono (fun b hb => ⟨s b hb.1, hb.2⟩)⟩
structure KFit (x : KC) : Prop where
  rl : x.rs.length <= 1048576
  ml : x.ms.length <= 1048576
  gl : x.gs.length <= 1048576
  dl : x.ds.length <= 1048576
  ll : x.ls.length <= 1048576
  ri : ∀ y ∈ x.rs, y.its.length <= 1048576
  mi : ∀ y ∈ x.ms, y.ms.length <= 1048576
  gi : ∀ y ∈ x.gs, y.m.length <= 1048576 /\ y.b.length <= 1048576 /\ y.o.length <= 1048576
  rc : Qae cR x.rs <= 10000000
  mc : Qae cM x.ms <= 10000000
  gc : Qae cG x.gs <= 10000000
theorem Qhd (x y : KC) (hf : KFit x) (hp : y.p = x.p) (w : World) (hx : KAt w x) (hy : KAt w y) :
 Calls Tryz.prog 38 #[.agg #[.slice x.rA x.rs.length x.rc, .slice x.mA x.ms.length x.mc, .slice x.gA x.gs.length x.gc, .int .i64 x.time, .slice x.dA x.ds.length x.dc, .slice x.lA x.ls.length x.lc], .agg #[.slice y.rA x.rs.length y.rc, .slice y.mA x.ms.length y.mc, .slice y.gA x.gs.length y.gc, .int .i64 x.time, .slice y.dA x.ds.length y.dc, .slice y.lA x.ls.length y.lc]] w fun e w' => e = .returned (.bool true) /\ Below w.heap.size w w' := by
 have hp' := KC.p_len hp
 have Hp := hidP hp
 have Hl := hidP hp'
 have Hf := hidP hf
 have HX := hidP hx
 have HY := hidP hy
 clear hp hp' hf hx hy
 have E1 : Hid (∀ W : World, Below w.heap.size w W -> Calls Tryz.prog 81 #[.slice x.rA x.rs.length x.rc, .slice y.rA x.rs.length y.rc] W fun e w' => e = .returned (.bool true) /\ Below W.heap.size W w') := fun W g =>
  Qhb _ _ _ _ x.rs y.rs (by have := Hf.out.rl; omega) (fun z hz => by have := Hf.out.ri z hz; omega) (by have := Hp.out; simp only [KC.p, PK.mk.injEq] at this; exact this.1) W (HX.out.below g).ra (HX.out.below g).re (HY.out.below g).ra (HY.out.below g).re
 have E2 : Hid (∀ W : World, Below w.heap.size w W -> Calls Tryz.prog 82 #[.slice x.mA x.ms.length x.mc, .slice y.mA x.ms.length y.mc] W fun e w' => e = .returned (.bool true) /\ Below W.heap.size W w') := fun W g =>
  Qe2 _ _ _ _ x.ms y.ms (by have := Hf.out.ml; omega) (fun z hz => by have := Hf.out.mi z hz; omega) (by have := Hp.out; simp only [KC.p, PK.mk.injEq] at this; exact this.2.1) W (HX.out.below g).ma (HX.out.below g).me (HY.out.below g).ma (HY.out.below g).me
 have E3 : Hid (∀ W : World, Below w.heap.size w W -> Calls Tryz.prog 83 #[.slice x.gA x.gs.length x.gc, .slice y.gA x.gs.length y.gc] W fun e w' => e = .returned (.bool true) /\ Below W.heap.size W w') := fun W g =>
  Qe3 _ _ _ _ x.gs y.gs (by have := Hf.out.gl; omega) (fun z hz => by have := Hf.out.gi z hz; omega) (by have := Hp.out; simp only [KC.p, PK.mk.injEq] at this; exact this.2.2.1) W (HX.out.below g).ga (HX.out.below g).ge (HY.out.below g).ga (HY.out.below g).ge
 have E4 : Hid (∀ W : World, Below w.heap.size w W -> Calls Tryz.prog 37 #[.slice x.dA x.ds.length x.dc, .slice y.dA x.ds.length y.dc] W fun e w' => e = .returned (.bool true) /\ Below W.heap.size W w') := fun W g =>
  Qb7 _ _ _ _ x.ds (by have := Hf.out.dl; omega) W (HX.out.below g).da (by have h1 := (HY.out.below g).da; rw [Hl.out.2.2.2.2.1] at h1; exact h1)
 have E5 : Hid (∀ W : World, Below w.heap.size w W -> Calls Tryz.prog 84 #[.slice x.lA x.ls.length x.lc, .slice y.lA x.ls.length y.lc] W fun e w' => e = .returned (.bool true) /\ Below W.heap.size W w') := fun W g =>
  Qeg _ _ _ _ x.ls (by have := Hf.out.ll; omega) W (HX.out.below g).la (by have h1 := (HY.out.below g).la; rw [Hl.out.2.2.2.2.2] at h1; exact h1)
 go_enter Tryz.func38, Tryz.ntmps38
 go_wp2_with fail
 have p0 : Blk ((w.alloc (.cells #[.slice x.rA x.rs.length x.rc, .slice x.mA x.ms.length x.mc, .slice x.gA x.gs.length x.gc, .int .i64 x.time, .slice x.dA x.ds.length x.dc, .slice x.lA x.ls.length x.lc] 53)).alloc (.cells #[.slice y.rA x.rs.length y.rc, .slice y.mA x.ms.length y.mc, .slice y.gA x.gs.length y.gc, .int .i64 x.time, .slice y.dA x.ds.length y.dc, .slice y.lA x.ls.length y.lc] 53)) w.heap.size 53 #[.slice x.rA x.rs.length x.rc, .slice x.mA x.ms.length x.mc, .slice x.gA x.gs.length x.gc, .int .i64 x.time, .slice x.dA x.ds.length x.dc, .slice x.lA x.ls.length x.lc] := (Blk.new w _ _).alloc _
 have r0 : Blk ((w.alloc (.cells #[.slice x.rA x.rs.length x.rc, .slice x.mA x.ms.length x.mc, .slice x.gA x.gs.length x.gc, .int .i64 x.time, .slice x.dA x.ds.length x.dc, .slice x.lA x.ls.length x.lc] 53)).alloc (.cells #[.slice y.rA x.rs.length y.rc, .slice y.mA x.ms.length y.mc, .slice y.gA x.gs.length y.gc, .int .i64 x.time, .slice y.dA x.ds.length y.dc, .slice y.lA x.ls.length y.lc] 53)) (w.heap.size + 1) 53 #[.slice y.rA x.rs.length y.rc, .slice y.mA x.ms.length y.mc, .slice y.gA x.gs.length y.gc, .int .i64 x.time, .slice y.dA x.ds.length y.dc, .slice y.lA x.ls.length y.lc] := by have := Blk.new (w.alloc (.cells #[.slice x.rA x.rs.length x.rc, .slice x.mA x.ms.length x.mc, .slice x.gA x.gs.length x.gc, .int .i64 x.time, .slice x.dA x.ds.length x.dc, .slice x.lA x.ls.length x.lc] 53)) 53 #[.slice y.rA x.rs.length y.rc, .slice y.mA x.ms.length y.mc, .slice y.gA x.gs.length y.gc, .int .i64 x.time, .slice y.dA x.ds.length y.dc, .slice y.lA x.ls.length y.lc]; simpa using this
 have B0 : Below w.heap.size w ((w.alloc (.cells #[.slice x.rA x.rs.length x.rc, .slice x.mA x.ms.length x.mc, .slice x.gA x.gs.length x.gc, .int .i64 x.time, .slice x.dA x.ds.length x.dc, .slice x.lA x.ls.length x.lc] 53)).alloc (.cells #[.slice y.rA x.rs.length y.rc, .slice y.mA x.ms.length y.mc, .slice y.gA x.gs.length y.gc, .int .i64 x.time, .slice y.dA x.ds.length y.dc, .slice y.lA x.ls.length y.lc] 53)) := by repeat (first | exact Below.refl _ _ | assumption | refine via0 (by assumption) ?_ | refine Below.drew ?_ | refine Qab ?_ _)
 refine (E1.out _ B0).mono ?_
 rintro e w1 ⟨rfl, g1⟩
 have p1 := p0.below g1 p0.lt
 have r1 := r0.below g1 r0.lt
 have B1 : Below w.heap.size w w1 := via0 g1 B0
 obtain ⟨u0, u1, u2, u3, u4, u5⟩ := p1.row6
 obtain ⟨v0, v1, v2, v3, v4, v5⟩ := r1.row6
 have q1 := p1.lt
 have t1 := r1.lt
 clear p0 r0 B0 g1
 go_wp2_with fail
 refine (E2.out _ B1).mono ?_
 rintro e w2 ⟨rfl, g2⟩
 have p2 := p1.below g2 p1.lt
 have r2 := r1.below g2 r1.lt
 have B2 : Below w.heap.size w w2 := via0 g2 B1
 clear u0 u1 u2 u3 u4 u5 v0 v1 v2 v3 v4 v5 p1 r1 B1 g2 q1 t1
 obtain ⟨u0, u1, u2, u3, u4, u5⟩ := p2.row6
 obtain ⟨v0, v1, v2, v3, v4, v5⟩ := r2.row6
 have q1 := p2.lt
 have t1 := r2.lt
 go_wp2_with fail
 refine (E3.out _ B2).mono ?_
 rintro e w3 ⟨rfl, g3⟩
 have p3 := p2.below g3 p2.lt
 have r3 := r2.below g3 r2.lt
 have B3 : Below w.heap.size w w3 := via0 g3 B2
 clear u0 u1 u2 u3 u4 u5 v0 v1 v2 v3 v4 v5 p2 r2 B2 g3 q1 t1
 obtain ⟨u0, u1, u2, u3, u4, u5⟩ := p3.row6
 obtain ⟨v0, v1, v2, v3, v4, v5⟩ := r3.row6
 have q1 := p3.lt
 have t1 := r3.lt
 go_wp2_with fail
 refine (E4.out _ B3).mono ?_
 rintro e w4 ⟨rfl, g4⟩
 have p4 := p3.below g4 p3.lt
 have r4 := r3.below g4 r3.lt
 have B4 : Below w.heap.size w w4 := via0 g4 B3
 clear u0 u1 u2 u3 u4 u5 v0 v1 v2 v3 v4 v5 p3 r3 B3 g4 q1 t1
 obtain ⟨u0, u1, u2, u3, u4, u5⟩ := p4.row6
 obtain ⟨v0, v1, v2, v3, v4, v5⟩ := r4.row6
 have q1 := p4.lt
 have t1 := r4.lt
 go_wp2_with fail
 refine (E5.out _ B4).mono ?_
 rintro e w5 ⟨rfl, g5⟩
 have B5 : Below w.heap.size w w5 := via0 g5 B4
 go_wp2
 go_ret
 exact ⟨rfl, B5⟩
def kct (x : KC) : Nat := Qae cR x.rs + Qae cM x.ms + Qae cG x.gs + x.ds.length + x.ls.length * 4
def mK (x : KC) (k : Int) : KC :=
  { x with rs := marked mR cR x.rs k, ms := marked mM cM x.ms (k + Qae cR x.rs), gs := marked mG cG x.gs (k + Qae cR x.rs + Qae cM x.ms), ds := Qaq x.ds.length (k + Qae cR x.rs + Qae cM x.ms + Qae cG x.gs), ls := Qbj x.ls.length (k + Qae cR x.rs + Qae cM x.ms + Qae cG x.gs + x.ds.length) }
theorem mark_rows (a : Option Addr) (cap : Nat) (l : List RC) (S : Nat -> Prop) (k : Int) (hk : 1 <= k) (hk' : k <= 50000000) (hc : Qae cR l <= 50000000) (hl : l.length <= 1048576) (hs : ∀ x ∈ l, x.its.length <= 1048576) (w : World) (h : Own rowP w a l S) :
 Calls Tryz.prog 88 #[.slice a l.length cap, .int .i64 k] w fun e w' => e = .returned (.int .i64 (k + (Qae cR l : Int))) /\ Offp S w w' /\ Own rowP w' a (marked mR cR l k) S := by
 rcases h with rfl | ⟨b, o, fp, rfl, hS, hf, hO⟩
 . have : Calls Tryz.prog 88 #[.slice a 0 cap, .int .i64 k] w fun e w' => e = .returned (.int .i64 k) /\ w' = w := by
    go_enter Tryz.func88, Tryz.ntmps88
    go_wp2
    go_loopw [1, 5] (fun kk i w' => kk = .int .i64 k /\ i = .int .i64 0 /\ w' = w) (fun _ _ _ => 0)
    case atStart => exact ⟨rfl, rfl, rfl⟩
    case round =>
     obtain ⟨rfl, rfl, rfl⟩ := hrel
     go_wp2
     go_ret
     exact ⟨rfl, rfl⟩
   refine this.mono ?_
   rintro e w' ⟨rfl, rfl⟩
   exact ⟨by simp [Qae], Offp.refl _ _, .inl rfl⟩
 . refine (Qfx b o cap l fp k hk hk' hc hl hs w hO).mono ?_
   rintro e w' ⟨rfl, ko, hO'⟩
   exact ⟨rfl, ko.mono (fun x hx => by rcases hx with rfl | ⟨i, hx⟩; exact hS; exact hf i x hx), .inr ⟨b, o, fp, rfl, hS, hf, hO'⟩⟩
theorem Qgw (a : Option Addr) (cap : Nat) (l : List MC) (S : Nat -> Prop) (k : Int) (hk : 1 <= k) (hk' : k <= 50000000) (hc : Qae cM l <= 50000000) (hl : l.length <= 1048576) (hs : ∀ x ∈ l, x.ms.length <= 1048576) (w : World) (h : Own makP w a l S) :
 Calls Tryz.prog 89 #[.slice a l.length cap, .int .i64 k] w fun e w' => e = .returned (.int .i64 (k + (Qae cM l : Int))) /\ Offp S w w' /\ Own makP w' a (marked mM cM l k) S := by
 rcases h with rfl | ⟨b, o, fp, rfl, hS, hf, hO⟩
 . have : Calls Tryz.prog 89 #[.slice a 0 cap, .int .i64 k] w fun e w' => e = .returned (.int .i64 k) /\ w' = w := by
    go_enter Tryz.func89, Tryz.ntmps89
    go_wp2
    go_loopw [1, 5] (fun kk i w' => kk = .int .i64 k /\ i = .int .i64 0 /\ w' = w) (fun _ _ _ => 0)
    case atStart => exact ⟨rfl, rfl, rfl⟩
    case round =>
     obtain ⟨rfl, rfl, rfl⟩ := hrel
     go_wp2
     go_ret
     exact ⟨rfl, rfl⟩
   refine this.mono ?_
   rintro e w' ⟨rfl, rfl⟩
   exact ⟨by simp [Qae], Offp.refl _ _, .inl rfl⟩
 . refine (Qd9 b o cap l fp k hk hk' hc hl hs w hO).mono ?_
   rintro e w' ⟨rfl, ko, hO'⟩
   exact ⟨rfl, ko.mono (fun x hx => by rcases hx with rfl | ⟨i, hx⟩; exact hS; exact hf i x hx), .inr ⟨b, o, fp, rfl, hS, hf, hO'⟩⟩
theorem Qgx (a : Option Addr) (cap : Nat) (l : List GC) (S : Nat -> Prop) (k : Int) (hk : 1 <= k) (hk' : k <= 50000000) (hc : Qae cG l <= 50000000) (hl : l.length <= 1048576) (hs : ∀ x ∈ l, x.m.length <= 1048576 /\ x.b.length <= 1048576 /\ x.o.length <= 1048576) (w : World) (h : Own grpP w a l S) :
 Calls Tryz.prog 90 #[.slice a l.length cap, .int .i64 k] w fun e w' => e = .returned (.int .i64 (k + (Qae cG l : Int))) /\ Offp S w w' /\ Own grpP w' a (marked mG cG l k) S := by
 rcases h with rfl | ⟨b, o, fp, rfl, hS, hf, hO⟩
 . have : Calls Tryz.prog 90 #[.slice a 0 cap, .int .i64 k] w fun e w' => e = .returned (.int .i64 k) /\ w' = w := by
    go_enter Tryz.func90, Tryz.ntmps90
    go_wp2
    go_loopw [1, 5] (fun kk i w' => kk = .int .i64 k /\ i = .int .i64 0 /\ w' = w) (fun _ _ _ => 0)
    case atStart => exact ⟨rfl, rfl, rfl⟩
    case round =>
     obtain ⟨rfl, rfl, rfl⟩ := hrel
     go_wp2
     go_ret
     exact ⟨rfl, rfl⟩
   refine this.mono ?_
   rintro e w' ⟨rfl, rfl⟩
   exact ⟨by simp [Qae], Offp.refl _ _, .inl rfl⟩
 . refine (Qeb b o cap l fp k hk hk' hc hl hs w hO).mono ?_
   rintro e w' ⟨rfl, ko, hO'⟩
   exact ⟨rfl, ko.mono (fun x hx => by rcases hx with rfl | ⟨i, hx⟩; exact hS; exact hf i x hx), .inr ⟨b, o, fp, rfl, hS, hf, hO'⟩⟩
theorem Qfu (a : Option Addr) (cap : Nat) (l : List An) (S : Nat -> Prop) (k : Int) (hk : 1 <= k) (hk' : k <= 100000000) (hl : l.length <= 1048576) (w : World) (h : Sub w a l S) :
 Calls Tryz.prog 91 #[.slice a l.length cap, .int .i64 k] w fun e w' => e = .returned (.int .i64 (k + (l.length : Int) * 4)) /\ Offp S w w' /\ Sub w' a (Qbj l.length k) S := by
 rcases h with rfl | ⟨b, o, rfl, hS, hb, hi, ht⟩
 . have : Calls Tryz.prog 91 #[.slice a 0 cap, .int .i64 k] w fun e w' => e = .returned (.int .i64 k) /\ w' = w := by
    go_enter Tryz.func91, Tryz.ntmps91
    go_wp2
    go_loopw [1, 5] (fun kk i w' => kk = .int .i64 k /\ i = .int .i64 0 /\ w' = w) (fun _ _ _ => 0)
    case atStart => exact ⟨rfl, rfl, rfl⟩
    case round =>
     obtain ⟨rfl, rfl, rfl⟩ := hrel
     go_wp2
     go_ret
     exact ⟨rfl, rfl⟩
   refine this.mono ?_
   rintro e w' ⟨rfl, rfl⟩
   exact ⟨by simp, Offp.refl _ _, .inl rfl⟩
 . refine (Qd0 b o cap l.length k hk hk' hl w hb ht).mono ?_
   rintro e w' ⟨rfl, ko, hin, hth⟩
   exact ⟨rfl, (Offp.of_only ko).mono (fun x e => e ▸ hS), .inr ⟨b, o, rfl, hS, Nat.lt_of_lt_of_le hb ko.size, hin, by rw [Qb1]; exact hth⟩⟩
theorem Qdi (x : KC) (hf : KFit x) (S : Nat -> Prop) (k : Int) (hk : 1 <= k) (hk' : k <= 10000000) (w : World) (hlt : ∀ b, S b -> b < w.heap.size) (h : KOwn w x S) :
 Calls Tryz.prog 45 #[.agg #[.slice x.rA x.rs.length x.rc, .slice x.mA x.ms.length x.mc, .slice x.gA x.gs.length x.gc, .int .i64 x.time, .slice x.dA x.ds.length x.dc, .slice x.lA x.ls.length x.lc], .int .i64 k] w fun e w' => e = .returned (.int .i64 (k + (kct x : Int))) /\ Offp S w w' /\ KOwn w' (mK x k) S := by
 obtain ⟨col, h⟩ := h
 have hc1 := hf.rc
 have hc2 := hf.mc
 have hc3 := hf.gc
 have hl4 := hf.dl
 have hl5 := hf.ll
 obtain ⟨z1, hz1⟩ : ∃ z : Int, z = k + (Qae cR x.rs : Int) := ⟨_, rfl⟩
 obtain ⟨z2, hz2⟩ : ∃ z : Int, z = z1 + (Qae cM x.ms : Int) := ⟨_, rfl⟩
 obtain ⟨z3, hz3⟩ : ∃ z : Int, z = z2 + (Qae cG x.gs : Int) := ⟨_, rfl⟩
 have b1 : 1 <= z1 /\ z1 <= 20000000 := by omega
 have b2 : 1 <= z2 /\ z2 <= 30000000 := by omega
 have b3 : 1 <= z3 /\ z3 <= 40000000 := by omega
 have hw : ∀ b, S b -> b ≠ w.heap.size := fun b hb e => by have := hlt b hb; omega
 have Hh := hidP (h.offp (Offp.of_below (S := fun _ => False) (Qab (Below.refl _ _) (.cells #[.slice x.rA x.rs.length x.rc, .slice x.mA x.ms.length x.mc, .slice x.gA x.gs.length x.gc, .int .i64 x.time, .slice x.dA x.ds.length x.dc, .slice x.lA x.ls.length x.lc] 53))) (fun _ _ e => e))
 have Hf := hidP hf
 have Hw := hidP hw
 have Hz1 := hidP hz1
 have Hz2 := hidP hz2
 have Hz3 := hidP hz3
 clear h hf hw hz1 hz2 hz3 hc1 hc2 hc3
 go_enter Tryz.func45, Tryz.ntmps45
 go_wp2_with fail
 have p0 : Blk (w.alloc (.cells #[.slice x.rA x.rs.length x.rc, .slice x.mA x.ms.length x.mc, .slice x.gA x.gs.length x.gc, .int .i64 x.time, .slice x.dA x.ds.length x.dc, .slice x.lA x.ls.length x.lc] 53)) w.heap.size 53 #[.slice x.rA x.rs.length x.rc, .slice x.mA x.ms.length x.mc, .slice x.gA x.gs.length x.gc, .int .i64 x.time, .slice x.dA x.ds.length x.dc, .slice x.lA x.ls.length x.lc] := Blk.new w _ _
 have o0 : Offp S w (w.alloc (.cells #[.slice x.rA x.rs.length x.rc, .slice x.mA x.ms.length x.mc, .slice x.gA x.gs.length x.gc, .int .i64 x.time, .slice x.dA x.ds.length x.dc, .slice x.lA x.ls.length x.lc] 53)) := Offp.of_below (Qab (Below.refl _ _) _)
 refine (mark_rows _ _ _ _ k hk (by omega) (by have := Hf.out.rc; omega) Hf.out.rl Hf.out.ri _ Hh.out.r).mono ?_
 rw [← Hz1.out]
 rintro e w1 ⟨rfl, k1, t1⟩
 have p1 := p0.offp k1 (fun e => Hw.out _ e.1 rfl)
 have o1 := o0.trans (k1.mono (fun b hb => hb.1))
 have s2 := Hh.out.m.offp Qap k1 (fun b hb e => by have := hb.2; have := e.2; omega)
 have s3 := Hh.out.g.offp Qau k1 (fun b hb e => by have := hb.2; have := e.2; omega)
 have s4 := Hh.out.d.offp k1 (fun b hb e => by have := hb.2; have := e.2; omega)
 have s5 := Hh.out.l.offp k1 (fun b hb e => by have := hb.2; have := e.2; omega)
 have T1 := hidP t1
 have T2 := hidP s2
 have T3 := hidP s3
 have T4 := hidP s4
 have T5 := hidP s5
 have O1 := hidP o1
 clear p0 o0 k1 t1 s2 s3 s4 s5 o1 Hh
 obtain ⟨u0, u1, u2, u3, u4, u5⟩ := p1.row6
 go_wp2_with fail
 refine (Qgw _ _ _ _ z1 (by omega) (by omega) (by have := Hf.out.mc; omega) Hf.out.ml Hf.out.mi _ T2.out).mono ?_
 rw [← Hz2.out]
 rintro e w2 ⟨rfl, k2, t2⟩
 have p2 := p1.offp k2 (fun e => Hw.out _ e.1 rfl)
 have o2 := O1.out.trans (k2.mono (fun b hb => hb.1))
 have s1 := T1.out.offp Qao k2 (fun b hb e => by have := hb.2; have := e.2; omega)
 have s3 := T3.out.offp Qau k2 (fun b hb e => by have := hb.2; have := e.2; omega)
 have s4 := T4.out.offp k2 (fun b hb e => by have := hb.2; have := e.2; omega)
 have s5 := T5.out.offp k2 (fun b hb e => by have := hb.2; have := e.2; omega)
 clear T1 T2 T3 T4 T5 O1 p1 u0 u1 u2 u3 u4 u5
 have T1 := hidP s1
 have T2 := hidP t2
 have T3 := hidP s3
 have T4 := hidP s4
 have T5 := hidP s5
 have O1 := hidP o2
 clear k2 t2 s1 s3 s4 s5 o2
 obtain ⟨u0, u1, u2, u3, u4, u5⟩ := p2.row6
 go_wp2_with fail
 refine (Qgx _ _ _ _ z2 (by omega) (by omega) (by have := Hf.out.gc; omega) Hf.out.gl Hf.out.gi _ T3.out).mono ?_
 rw [← Hz3.out]
 rintro e w3 ⟨rfl, k3, t3⟩
 have p3 := p2.offp k3 (fun e => Hw.out _ e.1 rfl)
 have o3 := O1.out.trans (k3.mono (fun b hb => hb.1))
 have s1 := T1.out.offp Qao k3 (fun b hb e => by have := hb.2; have := e.2; omega)
 have s2 := T2.out.offp Qap k3 (fun b hb e => by have := hb.2; have := e.2; omega)
 have s4 := T4.out.offp k3 (fun b hb e => by have := hb.2; have := e.2; omega)
 have s5 := T5.out.offp k3 (fun b hb e => by have := hb.2; have := e.2; omega)
 clear T1 T2 T3 T4 T5 O1 p2 u0 u1 u2 u3 u4 u5
 have T1 := hidP s1
 have T2 := hidP s2
 have T3 := hidP t3
 have T4 := hidP s4
 have T5 := hidP s5
 have O1 := hidP o3
 clear k3 t3 s1 s2 s4 s5 o3
 obtain ⟨u0, u1, u2, u3, u4, u5⟩ := p3.row6
 go_wp2_with fail
 refine (Qci _ _ _ _ z3 (by omega) (by omega) (by omega) _ T4.out).mono ?_
 rintro e w4 ⟨rfl, k4, t4⟩
 have p4 := p3.offp k4 (fun e => Hw.out _ e.1 rfl)
 have o4 := O1.out.trans (k4.mono (fun b hb => hb.1))
 have s1 := T1.out.offp Qao k4 (fun b hb e => by have := hb.2; have := e.2; omega)
 have s2 := T2.out.offp Qap k4 (fun b hb e => by have := hb.2; have := e.2; omega)
 have s3 := T3.out.offp Qau k4 (fun b hb e => by have := hb.2; have := e.2; omega)
 have s5 := T5.out.offp k4 (fun b hb e => by have := hb.2; have := e.2; omega)
 clear T1 T2 T3 T4 T5 O1 p3 u0 u1 u2 u3 u4 u5
 have T1 := hidP s1
 have T2 := hidP s2
 have T3 := hidP s3
 have T4 := hidP t4
 have T5 := hidP s5
 have O1 := hidP o4
 clear k4 t4 s1 s2 s3 s5 o4
 obtain ⟨u0, u1, u2, u3, u4, u5⟩ := p4.row6
 go_wp2_with fail
 refine (Qfu _ _ _ _ (z3 + (x.ds.length : Int)) (by omega) (by omega) (by omega) _ T5.out).mono ?_
 rintro e w5 ⟨rfl, k5, t5⟩
 have o5 := hidP (O1.out.trans (k5.mono (fun b hb => hb.1)))
 have s1 := hidP (T1.out.offp Qao k5 (fun b hb e => by have := hb.2; have := e.2; omega))
 have s2 := hidP (T2.out.offp Qap k5 (fun b hb e => by have := hb.2; have := e.2; omega))
 have s3 := hidP (T3.out.offp Qau k5 (fun b hb e => by have := hb.2; have := e.2; omega))
 have s4 := hidP (T4.out.offp k5 (fun b hb e => by have := hb.2; have := e.2; omega))
 have s5 := hidP t5
 clear u0 u1 u2 u3 u4 u5 k5 t5
 go_wp2
 go_ret
 have hz1 := Hz1.out
 have hz2 := Hz2.out
 have hz3 := Hz3.out
 have e : z3 + (x.ds.length : Int) + (x.ls.length : Int) * 4 = k + (kct x : Int) := by simp only [kct]; omega
 refine ⟨by rw [← e]; rfl, o5.out, col, ?_⟩
 subst hz3
 subst hz2
 subst hz1
 exact ⟨s1.out, s2.out, s3.out, s4.out, s5.out⟩
theorem Qdj (x : KC) (hf : KFit x) (k : Int) (hk : 1 <= k) (hk' : k <= 10000000) (w : World) (h : KAt w (mK x k)) :
 Calls Tryz.prog 52 #[.agg #[.slice x.rA x.rs.length x.rc, .slice x.mA x.ms.length x.mc, .slice x.gA x.gs.length x.gc, .int .i64 x.time, .slice x.dA x.ds.length x.dc, .slice x.lA x.ls.length x.lc], .int .i64 k] w fun e w' => e = .returned (.int .i64 (k + (kct x : Int))) /\ Below w.heap.size w w' := by
 have hc1 := hf.rc
 have hc2 := hf.mc
 have hc3 := hf.gc
 have hl4 := hf.dl
 have hl5 := hf.ll
 obtain ⟨z1, hz1⟩ : ∃ z : Int, z = k + (Qae cR x.rs : Int) := ⟨_, rfl⟩
 obtain ⟨z2, hz2⟩ : ∃ z : Int, z = z1 + (Qae cM x.ms : Int) := ⟨_, rfl⟩
 obtain ⟨z3, hz3⟩ : ∃ z : Int, z = z2 + (Qae cG x.gs : Int) := ⟨_, rfl⟩
 have b1 : 1 <= z1 /\ z1 <= 20000000 := by omega
 have b2 : 1 <= z2 /\ z2 <= 30000000 := by omega
 have b3 : 1 <= z3 /\ z3 <= 40000000 := by omega
 have Hh : Hid ((At w x.rA (marked mR cR x.rs k) /\ EachR w (marked mR cR x.rs k)) /\ (At w x.mA (marked mM cM x.ms z1) /\ Each w (marked mM cM x.ms z1)) /\ (At w x.gA (marked mG cG x.gs z2) /\ EachG w (marked mG cG x.gs z2)) /\ At w x.dA (Qaq x.ds.length z3) /\ At w x.lA (Qbj x.ls.length (z3 + x.ds.length))) := by
  subst hz3; subst hz2; subst hz1
  exact ⟨⟨h.ra, h.re⟩, ⟨h.ma, h.me⟩, ⟨h.ga, h.ge⟩, h.da, h.la⟩
 have Hf := hidP hf
 have Hz1 := hidP hz1
 have Hz2 := hidP hz2
 have Hz3 := hidP hz3
 clear h hf hz1 hz2 hz3 hc1 hc2 hc3
 have n1 : ¬ z1 < 0 := by omega
 have n2 : ¬ z2 < 0 := by omega
 have n3 : ¬ z3 < 0 := by omega
 have n4 : ¬ z3 + (x.ds.length : Int) < 0 := by omega
 have n5 : ¬ z3 + (x.ds.length : Int) + (x.ls.length : Int) * 4 < 0 := by omega
 go_enter Tryz.func52, Tryz.ntmps52
 go_wp2_with fail
 have p0 : Blk (w.alloc (.cells #[.slice x.rA x.rs.length x.rc, .slice x.mA x.ms.length x.mc, .slice x.gA x.gs.length x.gc, .int .i64 x.time, .slice x.dA x.ds.length x.dc, .slice x.lA x.ls.length x.lc] 53)) w.heap.size 53 #[.slice x.rA x.rs.length x.rc, .slice x.mA x.ms.length x.mc, .slice x.gA x.gs.length x.gc, .int .i64 x.time, .slice x.dA x.ds.length x.dc, .slice x.lA x.ls.length x.lc] := Blk.new w _ _
 have B0 : Below w.heap.size w (w.alloc (.cells #[.slice x.rA x.rs.length x.rc, .slice x.mA x.ms.length x.mc, .slice x.gA x.gs.length x.gc, .int .i64 x.time, .slice x.dA x.ds.length x.dc, .slice x.lA x.ls.length x.lc] 53)) := Qab (Below.refl _ _) _
 refine (Qf8 _ _ x.rs k hk (by omega) (by have := Hf.out.rc; omega) Hf.out.rl Hf.out.ri _ (Hh.out.1.1.below B0) (Hh.out.1.2.below B0)).mono ?_
 rw [← Hz1.out]
 rintro e w1 ⟨rfl, g1⟩
 have p1 := p0.below g1 p0.lt
 have B1 : Below w.heap.size w w1 := via0 g1 B0
 clear p0 B0 g1
 obtain ⟨u0, u1, u2, u3, u4, u5⟩ := p1.row6
 go_wp2_with fail
 refine (Qed _ _ x.ms z1 (by omega) (by omega) (by have := Hf.out.mc; omega) Hf.out.ml Hf.out.mi _ (Hh.out.2.1.1.below B1) (Hh.out.2.1.2.below B1)).mono ?_
 rw [← Hz2.out]
 rintro e w2 ⟨rfl, g2⟩
 have p2 := p1.below g2 p1.lt
 have B2 : Below w.heap.size w w2 := via0 g2 B1
 clear p1 B1 g2 u0 u1 u2 u3 u4 u5
 obtain ⟨u0, u1, u2, u3, u4, u5⟩ := p2.row6
 go_wp2_with fail
 refine (Qee _ _ x.gs z2 (by omega) (by omega) (by have := Hf.out.gc; omega) Hf.out.gl Hf.out.gi _ (Hh.out.2.2.1.1.below B2) (Hh.out.2.2.1.2.below B2)).mono ?_
 rw [← Hz3.out]
 rintro e w3 ⟨rfl, g3⟩
 have p3 := p2.below g3 p2.lt
 have B3 : Below w.heap.size w w3 := via0 g3 B2
 clear p2 B2 g3 u0 u1 u2 u3 u4 u5
 obtain ⟨u0, u1, u2, u3, u4, u5⟩ := p3.row6
 go_wp2_with fail
 refine (Qb0 _ _ x.ds.length z3 (by omega) (by omega) (by omega) _ (Qe7 (Hh.out.2.2.2.1.below B3))).mono ?_
 rintro e w4 ⟨rfl, g4⟩
 have p4 := p3.below g4 p3.lt
 have B4 : Below w.heap.size w w4 := via0 g4 B3
 clear p3 B3 g4 u0 u1 u2 u3 u4 u5
 obtain ⟨u0, u1, u2, u3, u4, u5⟩ := p4.row6
 go_wp2_with fail
 refine (Qd2 _ _ x.ls.length (z3 + (x.ds.length : Int)) (by omega) (by omega) (by omega) _ ((Hh.out.2.2.2.2.below B4).imp (fun e => by have := congrArg List.length e; rw [Qb1] at this; simpa using this) id)).mono ?_
 rintro e w5 ⟨rfl, g5⟩
 have B5 : Below w.heap.size w w5 := via0 g5 B4
 clear p4 B4 g5 u0 u1 u2 u3 u4 u5
 go_wp2
 go_ret
 have hz1 := Hz1.out
 have hz2 := Hz2.out
 have hz3 := Hz3.out
 have e : z3 + (x.ds.length : Int) + (x.ls.length : Int) * 4 = k + (kct x : Int) := by simp only [kct]; omega
 exact ⟨by rw [← e]; rfl, B5⟩
end Go.Proofs.YtmdaammalacifaaGreat.Gen
