/-
  A keeper: how it lies, and what the laws' sz, to, eq, mark and held functions of it do. No condition but that its lists have at most 1048576 records in all.
-/
import Derived.Test.YtlcjaabnfdnfmaaGreatDoorGpList
import Derived.Test.YtlcjaabnfdnfmaaGreatDoorEntMark
set_option linter.unusedVariables false
set_option linter.unusedSimpArgs false
set_option maxRecDepth 100000
set_option maxHeartbeats 8000000
namespace Go.Proofs.YtlcjaabnfdnfmaaGreatDoor.Gen
open ChangeShapes WideShapes ChangeAt RowKit Joins Deep Base
theorem Blk.row6 {W : World} {B : Nat} {t : TypeId} {a b c d e f : Value} (h : Blk W B t #[a, b, c, d, e, f]) : W.cell? ⟨B, 0, none⟩ = some a /\ W.cell? ⟨B, 1, none⟩ = some b /\ W.cell? ⟨B, 2, none⟩ = some c /\ W.cell? ⟨B, 3, none⟩ = some d /\ W.cell? ⟨B, 4, none⟩ = some e /\ W.cell? ⟨B, 5, none⟩ = some f := ⟨h.cell (by rfl), h.cell (by rfl), h.cell (by rfl), h.cell (by rfl), h.cell (by rfl), h.cell (by rfl)⟩
structure KC where
  rA : Option Addr
  rc : Nat
  rs : List RC
  mA : Option Addr
  mc : Nat
  ms : List MC
  gA : Option Addr
  gc : Nat
  gs : List GC
  time : Int
  dA : Option Addr
  dc : Nat
  ds : List Int
  lA : Option Addr
  lc : Nat
  ls : List An
structure PK where
  rs : List PR
  ms : List PM
  gs : List PG
  time : Int
  ds : List Int
  ls : List An
def KC.p (x : KC) : PK := ⟨x.rs.map RC.p, x.ms.map MC.p, x.gs.map GC.p, x.time, x.ds, x.ls⟩
def KC.cells (x : KC) : Array Value := #[.slice x.rA x.rs.length x.rc, .slice x.mA x.ms.length x.mc, .slice x.gA x.gs.length x.gc, .int .i64 x.time, .slice x.dA x.ds.length x.dc, .slice x.lA x.ls.length x.lc]
theorem KC.p_len {x y : KC} (h : y.p = x.p) : y.rs.length = x.rs.length /\ y.ms.length = x.ms.length /\ y.gs.length = x.gs.length /\ y.time = x.time /\ y.ds = x.ds /\ y.ls = x.ls := by
 simp only [KC.p, PK.mk.injEq] at h
 obtain ⟨h1, h2, h3, h4, h5, h6⟩ := h
 exact ⟨by have := congrArg List.length h1; simpa using this, by have := congrArg List.length h2; simpa using this, by have := congrArg List.length h3; simpa using this, h4, h5, h6⟩
structure KAt (w : World) (x : KC) : Prop where
  ra : At w x.rA x.rs
  re : EachR w x.rs
  ma : At w x.mA x.ms
  me : Each w x.ms
  ga : At w x.gA x.gs
  ge : EachG w x.gs
  da : At w x.dA x.ds
  la : At w x.lA x.ls
theorem KAt.below {w w' : World} {x : KC} (h : KAt w x) (g : Below w.heap.size w w') : KAt w' x :=
 ⟨h.ra.below g, h.re.below g, h.ma.below g, h.me.below g, h.ga.below g, h.ge.below g, h.da.below g, h.la.below g⟩
structure KCol (w : World) (x : KC) (S : Nat -> Prop) (col : Nat -> Nat) : Prop where
  r : Own rowP w x.rA x.rs (fun b => S b /\ col b = 1)
  m : Own makP w x.mA x.ms (fun b => S b /\ col b = 2)
  g : Own grpP w x.gA x.gs (fun b => S b /\ col b = 3)
  d : Sub w x.dA x.ds (fun b => S b /\ col b = 4)
  l : Sub w x.lA x.ls (fun b => S b /\ col b = 5)
def KOwn (w : World) (x : KC) (S : Nat -> Prop) : Prop := ∃ col, KCol w x S col
theorem KCol.at {w : World} {x : KC} {S : Nat -> Prop} {col : Nat -> Nat} (h : KCol w x S col) : KAt w x := ⟨h.r.at, rowP_each h.r, h.m.at, makP_each h.m, h.g.at, grpP_each h.g, h.d.at, h.l.at⟩
theorem KOwn.at {w : World} {x : KC} {S : Nat -> Prop} (h : KOwn w x S) : KAt w x := by obtain ⟨_, h⟩ := h; exact h.at
theorem KCol.offp {w w' : World} {x : KC} {S T : Nat -> Prop} {col : Nat -> Nat} (h : KCol w x S col) (k : Offp T w w') (hd : ∀ b, S b -> ¬ T b) : KCol w' x S col :=
 ⟨h.r.offp Qa4 k (fun b hb => hd b hb.1), h.m.offp Qaz k (fun b hb => hd b hb.1), h.g.offp Qar k (fun b hb => hd b hb.1), h.d.offp k (fun b hb => hd b hb.1), h.l.offp k (fun b hb => hd b hb.1)⟩
theorem KOwn.offp {w w' : World} {x : KC} {S T : Nat -> Prop} (h : KOwn w x S) (k : Offp T w w') (hd : ∀ b, S b -> ¬ T b) : KOwn w' x S := by obtain ⟨c, h⟩ := h; exact ⟨c, h.offp k hd⟩
theorem KOwn.below {w w' : World} {x : KC} {S : Nat -> Prop} (h : KOwn w x S) (k : Below w.heap.size w w') : KOwn w' x S := h.offp (Offp.of_below (S := fun _ => False) k) (fun _ _ e => e)
theorem KOwn.mono {w : World} {x : KC} {S T : Nat -> Prop} (h : KOwn w x S) (s : ∀ b, S b -> T b) : KOwn w x T := by
 obtain ⟨c, h⟩ := h
 exact ⟨c, h.r.mono (fun b hb => ⟨s b hb.1, hb.2⟩), h.m.mono (fun b hb => ⟨s b hb.1, hb.2⟩), h.g.mono (fun b hb => ⟨s b hb.1, hb.2⟩), h.d.mono (fun b hb => ⟨s b hb.1, hb.2⟩), h.l.mono (fun b hb => ⟨s b hb.1, hb.2⟩)⟩
structure KFit (x : KC) : Prop where
  rl : x.rs.length <= 1048576
  ml : x.ms.length <= 1048576
  gl : x.gs.length <= 1048576
  dl : x.ds.length <= 1048576
  ll : x.ls.length <= 1048576
  ri : ∀ y ∈ x.rs, y.its.length <= 1048576
  mi : ∀ y ∈ x.ms, y.ms.length <= 1048576
  gi : ∀ y ∈ x.gs, y.m.length <= 1048576 /\ y.b.length <= 1048576 /\ y.o.length <= 1048576
  rc : Qac cR x.rs <= 10000000
  mc : Qac cM x.ms <= 10000000
  gc : Qac cG x.gs <= 10000000
theorem Qkq (x y : KC) (hf : KFit x) (hp : y.p = x.p) (w : World) (hx : KAt w x) (hy : KAt w y) :
 Calls Tryz.prog 23 #[.agg #[.slice x.rA x.rs.length x.rc, .slice x.mA x.ms.length x.mc, .slice x.gA x.gs.length x.gc, .int .i64 x.time, .slice x.dA x.ds.length x.dc, .slice x.lA x.ls.length x.lc], .agg #[.slice y.rA x.rs.length y.rc, .slice y.mA x.ms.length y.mc, .slice y.gA x.gs.length y.gc, .int .i64 x.time, .slice y.dA x.ds.length y.dc, .slice y.lA x.ls.length y.lc]] w fun e w' => e = .returned (.bool true) /\ Below w.heap.size w w' := by
 have hp' := KC.p_len hp
 have Hp := hidP hp
 have Hl := hidP hp'
 have Hf := hidP hf
 have HX := hidP hx
 have HY := hidP hy
 clear hp hp' hf hx hy
 have E1 : Hid (∀ W : World, Below w.heap.size w W -> Calls Tryz.prog 57 #[.slice x.rA x.rs.length x.rc, .slice y.rA x.rs.length y.rc] W fun e w' => e = .returned (.bool true) /\ Below W.heap.size W w') := fun W g =>
  Qko _ _ _ _ x.rs y.rs (by have := Hf.out.rl; omega) (fun z hz => by have := Hf.out.ri z hz; omega) (by have := Hp.out; simp only [KC.p, PK.mk.injEq] at this; exact this.1) W (HX.out.below g).ra (HX.out.below g).re (HY.out.below g).ra (HY.out.below g).re
 have E2 : Hid (∀ W : World, Below w.heap.size w W -> Calls Tryz.prog 58 #[.slice x.mA x.ms.length x.mc, .slice y.mA x.ms.length y.mc] W fun e w' => e = .returned (.bool true) /\ Below W.heap.size W w') := fun W g =>
  Qhe _ _ _ _ x.ms y.ms (by have := Hf.out.ml; omega) (fun z hz => by have := Hf.out.mi z hz; omega) (by have := Hp.out; simp only [KC.p, PK.mk.injEq] at this; exact this.2.1) W (HX.out.below g).ma (HX.out.below g).me (HY.out.below g).ma (HY.out.below g).me
 have E3 : Hid (∀ W : World, Below w.heap.size w W -> Calls Tryz.prog 59 #[.slice x.gA x.gs.length x.gc, .slice y.gA x.gs.length y.gc] W fun e w' => e = .returned (.bool true) /\ Below W.heap.size W w') := fun W g =>
  Qhf _ _ _ _ x.gs y.gs (by have := Hf.out.gl; omega) (fun z hz => by have := Hf.out.gi z hz; omega) (by have := Hp.out; simp only [KC.p, PK.mk.injEq] at this; exact this.2.2.1) W (HX.out.below g).ga (HX.out.below g).ge (HY.out.below g).ga (HY.out.below g).ge
 have E4 : Hid (∀ W : World, Below w.heap.size w W -> Calls Tryz.prog 22 #[.slice x.dA x.ds.length x.dc, .slice y.dA x.ds.length y.dc] W fun e w' => e = .returned (.bool true) /\ Below W.heap.size W w') := fun W g =>
  Qcd _ _ _ _ x.ds (by have := Hf.out.dl; omega) W (HX.out.below g).da (by have h1 := (HY.out.below g).da; rw [Hl.out.2.2.2.2.1] at h1; exact h1)
 have E5 : Hid (∀ W : World, Below w.heap.size w W -> Calls Tryz.prog 60 #[.slice x.lA x.ls.length x.lc, .slice y.lA x.ls.length y.lc] W fun e w' => e = .returned (.bool true) /\ Below W.heap.size W w') := fun W g =>
  Qgf _ _ _ _ x.ls (by have := Hf.out.ll; omega) W (HX.out.below g).la (by have h1 := (HY.out.below g).la; rw [Hl.out.2.2.2.2.2] at h1; exact h1)
 go_enter Tryz.func23, Tryz.ntmps23
 go_wp2_with fail
 have p0 : Blk ((w.alloc (.cells #[.slice x.rA x.rs.length x.rc, .slice x.mA x.ms.length x.mc, .slice x.gA x.gs.length x.gc, .int .i64 x.time, .slice x.dA x.ds.length x.dc, .slice x.lA x.ls.length x.lc] 33)).alloc (.cells #[.slice y.rA x.rs.length y.rc, .slice y.mA x.ms.length y.mc, .slice y.gA x.gs.length y.gc, .int .i64 x.time, .slice y.dA x.ds.length y.dc, .slice y.lA x.ls.length y.lc] 33)) w.heap.size 33 #[.slice x.rA x.rs.length x.rc, .slice x.mA x.ms.length x.mc, .slice x.gA x.gs.length x.gc, .int .i64 x.time, .slice x.dA x.ds.length x.dc, .slice x.lA x.ls.length x.lc] := (Blk.new w _ _).alloc _
 have r0 : Blk ((w.alloc (.cells #[.slice x.rA x.rs.length x.rc, .slice x.mA x.ms.length x.mc, .slice x.gA x.gs.length x.gc, .int .i64 x.time, .slice x.dA x.ds.length x.dc, .slice x.lA x.ls.length x.lc] 33)).alloc (.cells #[.slice y.rA x.rs.length y.rc, .slice y.mA x.ms.length y.mc, .slice y.gA x.gs.length y.gc, .int .i64 x.time, .slice y.dA x.ds.length y.dc, .slice y.lA x.ls.length y.lc] 33)) (w.heap.size + 1) 33 #[.slice y.rA x.rs.length y.rc, .slice y.mA x.ms.length y.mc, .slice y.gA x.gs.length y.gc, .int .i64 x.time, .slice y.dA x.ds.length y.dc, .slice y.lA x.ls.length y.lc] := by have := Blk.new (w.alloc (.cells #[.slice x.rA x.rs.length x.rc, .slice x.mA x.ms.length x.mc, .slice x.gA x.gs.length x.gc, .int .i64 x.time, .slice x.dA x.ds.length x.dc, .slice x.lA x.ls.length x.lc] 33)) 33 #[.slice y.rA x.rs.length y.rc, .slice y.mA x.ms.length y.mc, .slice y.gA x.gs.length y.gc, .int .i64 x.time, .slice y.dA x.ds.length y.dc, .slice y.lA x.ls.length y.lc]; simpa using this
 have B0 : Below w.heap.size w ((w.alloc (.cells #[.slice x.rA x.rs.length x.rc, .slice x.mA x.ms.length x.mc, .slice x.gA x.gs.length x.gc, .int .i64 x.time, .slice x.dA x.ds.length x.dc, .slice x.lA x.ls.length x.lc] 33)).alloc (.cells #[.slice y.rA x.rs.length y.rc, .slice y.mA x.ms.length y.mc, .slice y.gA x.gs.length y.gc, .int .i64 x.time, .slice y.dA x.ds.length y.dc, .slice y.lA x.ls.length y.lc] 33)) := by repeat (first | exact Below.refl _ _ | assumption | refine via0 (by assumption) ?_ | refine Below.drew ?_ | refine Qaa ?_ _)
 refine (E1.out _ B0).mono ?_
 rintro e w1 ⟨rfl, g1⟩
 have p1 := p0.below g1 p0.lt
 have r1 := r0.below g1 r0.lt
 have B1 : Below w.heap.size w w1 := via0 g1 B0
 obtain ⟨u0, u1, u2, u3, u4, u5⟩ := p1.row6
 obtain ⟨v0, v1, v2, v3, v4, v5⟩ := r1.row6
 have q1 := p1.lt
 have t1 := r1.lt
 clear p0 r0 B0 g1
 go_wp2_with fail
 refine (E2.out _ B1).mono ?_
 rintro e w2 ⟨rfl, g2⟩
 have p2 := p1.below g2 p1.lt
 have r2 := r1.below g2 r1.lt
 have B2 : Below w.heap.size w w2 := via0 g2 B1
 clear u0 u1 u2 u3 u4 u5 v0 v1 v2 v3 v4 v5 p1 r1 B1 g2 q1 t1
 obtain ⟨u0, u1, u2, u3, u4, u5⟩ := p2.row6
 obtain ⟨v0, v1, v2, v3, v4, v5⟩ := r2.row6
 have q1 := p2.lt
 have t1 := r2.lt
 go_wp2_with fail
 refine (E3.out _ B2).mono ?_
 rintro e w3 ⟨rfl, g3⟩
 have p3 := p2.below g3 p2.lt
 have r3 := r2.below g3 r2.lt
 have B3 : Below w.heap.size w w3 := via0 g3 B2
 clear u0 u1 u2 u3 u4 u5 v0 v1 v2 v3 v4 v5 p2 r2 B2 g3 q1 t1
 obtain ⟨u0, u1, u2, u3, u4, u5⟩ := p3.row6
 obtain ⟨v0, v1, v2, v3, v4, v5⟩ := r3.row6
 have q1 := p3.lt
 have t1 := r3.lt
 go_wp2_with fail
 refine (E4.out _ B3).mono ?_
 rintro e w4 ⟨rfl, g4⟩
 have p4 := p3.below g4 p3.lt
 have r4 := r3.below g4 r3.lt
 have B4 : Below w.heap.size w w4 := via0 g4 B3
 clear u0 u1 u2 u3 u4 u5 v0 v1 v2 v3 v4 v5 p3 r3 B3 g4 q1 t1
 obtain ⟨u0, u1, u2, u3, u4, u5⟩ := p4.row6
 obtain ⟨v0, v1, v2, v3, v4, v5⟩ := r4.row6
 have q1 := p4.lt
 have t1 := r4.lt
 go_wp2_with fail
 refine (E5.out _ B4).mono ?_
 rintro e w5 ⟨rfl, g5⟩
 have B5 : Below w.heap.size w w5 := via0 g5 B4
 go_wp2
 go_ret
 exact ⟨rfl, B5⟩
def kct (x : KC) : Nat := Qac cR x.rs + Qac cM x.ms + Qac cG x.gs + x.ds.length + x.ls.length * 4
def mK (x : KC) (k : Int) : KC :=
  { x with rs := marked mR cR x.rs k, ms := marked mM cM x.ms (k + Qac cR x.rs), gs := marked mG cG x.gs (k + Qac cR x.rs + Qac cM x.ms), ds := Qae x.ds.length (k + Qac cR x.rs + Qac cM x.ms + Qac cG x.gs), ls := Qbd x.ls.length (k + Qac cR x.rs + Qac cM x.ms + Qac cG x.gs + x.ds.length) }
theorem mark_rows (a : Option Addr) (cap : Nat) (l : List RC) (S : Nat -> Prop) (k : Int) (hk : 1 <= k) (hk' : k <= 50000000) (hc : Qac cR l <= 50000000) (hl : l.length <= 1048576) (hs : ∀ x ∈ l, x.its.length <= 1048576) (w : World) (h : Own rowP w a l S) :
 Calls Tryz.prog 64 #[.slice a l.length cap, .int .i64 k] w fun e w' => e = .returned (.int .i64 (k + (Qac cR l : Int))) /\ Offp S w w' /\ Own rowP w' a (marked mR cR l k) S := by
 rcases h with rfl | ⟨b, o, fp, rfl, hS, hf, hO⟩
 . have : Calls Tryz.prog 64 #[.slice a 0 cap, .int .i64 k] w fun e w' => e = .returned (.int .i64 k) /\ w' = w := by
    go_enter Tryz.func64, Tryz.ntmps64
    go_wp2
    go_loopw [1, 5] (fun kk i w' => kk = .int .i64 k /\ i = .int .i64 0 /\ w' = w) (fun _ _ _ => 0)
    case atStart => exact ⟨rfl, rfl, rfl⟩
    case round =>
     obtain ⟨rfl, rfl, rfl⟩ := hrel
     go_wp2
     go_ret
     exact ⟨rfl, rfl⟩
   refine this.mono ?_
   rintro e w' ⟨rfl, rfl⟩
   exact ⟨by simp [Qac], Offp.refl _ _, .inl rfl⟩
 . refine (Qis b o cap l fp k hk hk' hc hl hs w hO).mono ?_
   rintro e w' ⟨rfl, ko, hO'⟩
   exact ⟨rfl, ko.mono (fun x hx => by rcases hx with rfl | ⟨i, hx⟩; exact hS; exact hf i x hx), .inr ⟨b, o, fp, rfl, hS, hf, hO'⟩⟩
theorem Qj7 (a : Option Addr) (cap : Nat) (l : List MC) (S : Nat -> Prop) (k : Int) (hk : 1 <= k) (hk' : k <= 50000000) (hc : Qac cM l <= 50000000) (hl : l.length <= 1048576) (hs : ∀ x ∈ l, x.ms.length <= 1048576) (w : World) (h : Own makP w a l S) :
 Calls Tryz.prog 65 #[.slice a l.length cap, .int .i64 k] w fun e w' => e = .returned (.int .i64 (k + (Qac cM l : Int))) /\ Offp S w w' /\ Own makP w' a (marked mM cM l k) S := by
 rcases h with rfl | ⟨b, o, fp, rfl, hS, hf, hO⟩
 . have : Calls Tryz.prog 65 #[.slice a 0 cap, .int .i64 k] w fun e w' => e = .returned (.int .i64 k) /\ w' = w := by
    go_enter Tryz.func65, Tryz.ntmps65
    go_wp2
    go_loopw [1, 5] (fun kk i w' => kk = .int .i64 k /\ i = .int .i64 0 /\ w' = w) (fun _ _ _ => 0)
    case atStart => exact ⟨rfl, rfl, rfl⟩
    case round =>
     obtain ⟨rfl, rfl, rfl⟩ := hrel
     go_wp2
     go_ret
     exact ⟨rfl, rfl⟩
   refine this.mono ?_
   rintro e w' ⟨rfl, rfl⟩
   exact ⟨by simp [Qac], Offp.refl _ _, .inl rfl⟩
 . refine (Qf0 b o cap l fp k hk hk' hc hl hs w hO).mono ?_
   rintro e w' ⟨rfl, ko, hO'⟩
   exact ⟨rfl, ko.mono (fun x hx => by rcases hx with rfl | ⟨i, hx⟩; exact hS; exact hf i x hx), .inr ⟨b, o, fp, rfl, hS, hf, hO'⟩⟩
theorem Qj8 (a : Option Addr) (cap : Nat) (l : List GC) (S : Nat -> Prop) (k : Int) (hk : 1 <= k) (hk' : k <= 50000000) (hc : Qac cG l <= 50000000) (hl : l.length <= 1048576) (hs : ∀ x ∈ l, x.m.length <= 1048576 /\ x.b.length <= 1048576 /\ x.o.length <= 1048576) (w : World) (h : Own grpP w a l S) :
 Calls Tryz.prog 66 #[.slice a l.length cap, .int .i64 k] w fun e w' => e = .returned (.int .i64 (k + (Qac cG l : Int))) /\ Offp S w w' /\ Own grpP w' a (marked mG cG l k) S := by
 rcases h with rfl | ⟨b, o, fp, rfl, hS, hf, hO⟩
 . have : Calls Tryz.prog 66 #[.slice a 0 cap, .int .i64 k] w fun e w' => e = .returned (.int .i64 k) /\ w' = w := by
    go_enter Tryz.func66, Tryz.ntmps66
    go_wp2
    go_loopw [1, 5] (fun kk i w' => kk = .int .i64 k /\ i = .int .i64 0 /\ w' = w) (fun _ _ _ => 0)
    case atStart => exact ⟨rfl, rfl, rfl⟩
    case round =>
     obtain ⟨rfl, rfl, rfl⟩ := hrel
     go_wp2
     go_ret
     exact ⟨rfl, rfl⟩
   refine this.mono ?_
   rintro e w' ⟨rfl, rfl⟩
   exact ⟨by simp [Qac], Offp.refl _ _, .inl rfl⟩
 . refine (Qf2 b o cap l fp k hk hk' hc hl hs w hO).mono ?_
   rintro e w' ⟨rfl, ko, hO'⟩
   exact ⟨rfl, ko.mono (fun x hx => by rcases hx with rfl | ⟨i, hx⟩; exact hS; exact hf i x hx), .inr ⟨b, o, fp, rfl, hS, hf, hO'⟩⟩
theorem Qip (a : Option Addr) (cap : Nat) (l : List An) (S : Nat -> Prop) (k : Int) (hk : 1 <= k) (hk' : k <= 100000000) (hl : l.length <= 1048576) (w : World) (h : Sub w a l S) :
 Calls Tryz.prog 67 #[.slice a l.length cap, .int .i64 k] w fun e w' => e = .returned (.int .i64 (k + (l.length : Int) * 4)) /\ Offp S w w' /\ Sub w' a (Qbd l.length k) S := by
 rcases h with rfl | ⟨b, o, rfl, hS, hb, hi, ht⟩
 . have : Calls Tryz.prog 67 #[.slice a 0 cap, .int .i64 k] w fun e w' => e = .returned (.int .i64 k) /\ w' = w := by
    go_enter Tryz.func67, Tryz.ntmps67
    go_wp2
    go_loopw [1, 5] (fun kk i w' => kk = .int .i64 k /\ i = .int .i64 0 /\ w' = w) (fun _ _ _ => 0)
    case atStart => exact ⟨rfl, rfl, rfl⟩
    case round =>
     obtain ⟨rfl, rfl, rfl⟩ := hrel
     go_wp2
     go_ret
     exact ⟨rfl, rfl⟩
   refine this.mono ?_
   rintro e w' ⟨rfl, rfl⟩
   exact ⟨by simp, Offp.refl _ _, .inl rfl⟩
 . refine (Qfa b o cap l.length k hk hk' hl w hb ht).mono ?_
   rintro e w' ⟨rfl, ko, hin, hth⟩
   exact ⟨rfl, (Offp.of_only ko).mono (fun x e => e ▸ hS), .inr ⟨b, o, rfl, hS, Nat.lt_of_lt_of_le hb ko.size, hin, by rw [Qb4]; exact hth⟩⟩
theorem Qeh (x : KC) (hf : KFit x) (S : Nat -> Prop) (k : Int) (hk : 1 <= k) (hk' : k <= 10000000) (w : World) (hlt : ∀ b, S b -> b < w.heap.size) (h : KOwn w x S) :
 Calls Tryz.prog 29 #[.agg #[.slice x.rA x.rs.length x.rc, .slice x.mA x.ms.length x.mc, .slice x.gA x.gs.length x.gc, .int .i64 x.time, .slice x.dA x.ds.length x.dc, .slice x.lA x.ls.length x.lc], .int .i64 k] w fun e w' => e = .returned (.int .i64 (k + (kct x : Int))) /\ Offp S w w' /\ KOwn w' (mK x k) S := by
 obtain ⟨col, h⟩ := h
 have hc1 := hf.rc
 have hc2 := hf.mc
 have hc3 := hf.gc
 have hl4 := hf.dl
 have hl5 := hf.ll
 obtain ⟨z1, hz1⟩ : ∃ z : Int, z = k + (Qac cR x.rs : Int) := ⟨_, rfl⟩
 obtain ⟨z2, hz2⟩ : ∃ z : Int, z = z1 + (Qac cM x.ms : Int) := ⟨_, rfl⟩
 obtain ⟨z3, hz3⟩ : ∃ z : Int, z = z2 + (Qac cG x.gs : Int) := ⟨_, rfl⟩
 have b1 : 1 <= z1 /\ z1 <= 20000000 := by omega
 have b2 : 1 <= z2 /\ z2 <= 30000000 := by omega
 have b3 : 1 <= z3 /\ z3 <= 40000000 := by omega
 have hw : ∀ b, S b -> b ≠ w.heap.size := fun b hb e => by have := hlt b hb; omega
 have Hh := hidP (h.offp (Offp.of_below (S := fun _ => False) (Qaa (Below.refl _ _) (.cells #[.slice x.rA x.rs.length x.rc, .slice x.mA x.ms.length x.mc, .slice x.gA x.gs.length x.gc, .int .i64 x.time, .slice x.dA x.ds.length x.dc, .slice x.lA x.ls.length x.lc] 33))) (fun _ _ e => e))
 have Hf := hidP hf
 have Hw := hidP hw
 have Hz1 := hidP hz1
 have Hz2 := hidP hz2
 have Hz3 := hidP hz3
 clear h hf hw hz1 hz2 hz3 hc1 hc2 hc3
 go_enter Tryz.func29, Tryz.ntmps29
 go_wp2_with fail
 have p0 : Blk (w.alloc (.cells #[.slice x.rA x.rs.length x.rc, .slice x.mA x.ms.length x.mc, .slice x.gA x.gs.length x.gc, .int .i64 x.time, .slice x.dA x.ds.length x.dc, .slice x.lA x.ls.length x.lc] 33)) w.heap.size 33 #[.slice x.rA x.rs.length x.rc, .slice x.mA x.ms.length x.mc, .slice x.gA x.gs.length x.gc, .int .i64 x.time, .slice x.dA x.ds.length x.dc, .slice x.lA x.ls.length x.lc] := Blk.new w _ _
 have o0 : Offp S w (w.alloc (.cells #[.slice x.rA x.rs.length x.rc, .slice x.mA x.ms.length x.mc, .slice x.gA x.gs.length x.gc, .int .i64 x.time, .slice x.dA x.ds.length x.dc, .slice x.lA x.ls.length x.lc] 33)) := Offp.of_below (Qaa (Below.refl _ _) _)
 refine (mark_rows _ _ _ _ k hk (by omega) (by have := Hf.out.rc; omega) Hf.out.rl Hf.out.ri _ Hh.out.r).mono ?_
 rw [← Hz1.out]
 rintro e w1 ⟨rfl, k1, t1⟩
 have p1 := p0.offp k1 (fun e => Hw.out _ e.1 rfl)
 have o1 := o0.trans (k1.mono (fun b hb => hb.1))
 have s2 := Hh.out.m.offp Qaz k1 (fun b hb e => by have := hb.2; have := e.2; omega)
 have s3 := Hh.out.g.offp Qar k1 (fun b hb e => by have := hb.2; have := e.2; omega)
 have s4 := Hh.out.d.offp k1 (fun b hb e => by have := hb.2; have := e.2; omega)
 have s5 := Hh.out.l.offp k1 (fun b hb e => by have := hb.2; have := e.2; omega)
 have T1 := hidP t1
 have T2 := hidP s2
 have T3 := hidP s3
 have T4 := hidP s4
 have T5 := hidP s5
 have O1 := hidP o1
 clear p0 o0 k1 t1 s2 s3 s4 s5 o1 Hh
 obtain ⟨u0, u1, u2, u3, u4, u5⟩ := p1.row6
 go_wp2_with fail
 refine (Qj7 _ _ _ _ z1 (by omega) (by omega) (by have := Hf.out.mc; omega) Hf.out.ml Hf.out.mi _ T2.out).mono ?_
 rw [← Hz2.out]
 rintro e w2 ⟨rfl, k2, t2⟩
 have p2 := p1.offp k2 (fun e => Hw.out _ e.1 rfl)
 have o2 := O1.out.trans (k2.mono (fun b hb => hb.1))
 have s1 := T1.out.offp Qa4 k2 (fun b hb e => by have := hb.2; have := e.2; omega)
 have s3 := T3.out.offp Qar k2 (fun b hb e => by have := hb.2; have := e.2; omega)
 have s4 := T4.out.offp k2 (fun b hb e => by have := hb.2; have := e.2; omega)
 have s5 := T5.out.offp k2 (fun b hb e => by have := hb.2; have := e.2; omega)
 clear T1 T2 T3 T4 T5 O1 p1 u0 u1 u2 u3 u4 u5
 have T1 := hidP s1
 have T2 := hidP t2
 have T3 := hidP s3
 have T4 := hidP s4
 have T5 := hidP s5
 have O1 := hidP o2
 clear k2 t2 s1 s3 s4 s5 o2
 obtain ⟨u0, u1, u2, u3, u4, u5⟩ := p2.row6
 go_wp2_with fail
 refine (Qj8 _ _ _ _ z2 (by omega) (by omega) (by have := Hf.out.gc; omega) Hf.out.gl Hf.out.gi _ T3.out).mono ?_
 rw [← Hz3.out]
 rintro e w3 ⟨rfl, k3, t3⟩
 have p3 := p2.offp k3 (fun e => Hw.out _ e.1 rfl)
 have o3 := O1.out.trans (k3.mono (fun b hb => hb.1))
 have s1 := T1.out.offp Qa4 k3 (fun b hb e => by have := hb.2; have := e.2; omega)
 have s2 := T2.out.offp Qaz k3 (fun b hb e => by have := hb.2; have := e.2; omega)
 have s4 := T4.out.offp k3 (fun b hb e => by have := hb.2; have := e.2; omega)
 have s5 := T5.out.offp k3 (fun b hb e => by have := hb.2; have := e.2; omega)
 clear T1 T2 T3 T4 T5 O1 p2 u0 u1 u2 u3 u4 u5
 have T1 := hidP s1
 have T2 := hidP s2
 have T3 := hidP t3
 have T4 := hidP s4
 have T5 := hidP s5
 have O1 := hidP o3
 clear k3 t3 s1 s2 s4 s5 o3
 obtain ⟨u0, u1, u2, u3, u4, u5⟩ := p3.row6
 go_wp2_with fail
 refine (Qcw _ _ _ _ z3 (by omega) (by omega) (by omega) _ T4.out).mono ?_
 rintro e w4 ⟨rfl, k4, t4⟩
 have p4 := p3.offp k4 (fun e => Hw.out _ e.1 rfl)
 have o4 := O1.out.trans (k4.mono (fun b hb => hb.1))
 have s1 := T1.out.offp Qa4 k4 (fun b hb e => by have := hb.2; have := e.2; omega)
 have s2 := T2.out.offp Qaz k4 (fun b hb e => by have := hb.2; have := e.2; omega)
 have s3 := T3.out.offp Qar k4 (fun b hb e => by have := hb.2; have := e.2; omega)
 have s5 := T5.out.offp k4 (fun b hb e => by have := hb.2; have := e.2; omega)
 clear T1 T2 T3 T4 T5 O1 p3 u0 u1 u2 u3 u4 u5
 have T1 := hidP s1
 have T2 := hidP s2
 have T3 := hidP s3
 have T4 := hidP t4
 have T5 := hidP s5
 have O1 := hidP o4
 clear k4 t4 s1 s2 s3 s5 o4
 obtain ⟨u0, u1, u2, u3, u4, u5⟩ := p4.row6
 go_wp2_with fail
 refine (Qip _ _ _ _ (z3 + (x.ds.length : Int)) (by omega) (by omega) (by omega) _ T5.out).mono ?_
 rintro e w5 ⟨rfl, k5, t5⟩
 have o5 := hidP (O1.out.trans (k5.mono (fun b hb => hb.1)))
 have s1 := hidP (T1.out.offp Qa4 k5 (fun b hb e => by have := hb.2; have := e.2; omega))
 have s2 := hidP (T2.out.offp Qaz k5 (fun b hb e => by have := hb.2; have := e.2; omega))
 have s3 := hidP (T3.out.offp Qar k5 (fun b hb e => by have := hb.2; have := e.2; omega))
 have s4 := hidP (T4.out.offp k5 (fun b hb e => by have := hb.2; have := e.2; omega))
 have s5 := hidP t5
 clear u0 u1 u2 u3 u4 u5 k5 t5
 go_wp2
 go_ret
 have hz1 := Hz1.out
 have hz2 := Hz2.out
 have hz3 := Hz3.out
 have e : z3 + (x.ds.length : Int) + (x.ls.length : Int) * 4 = k + (kct x : Int) := by simp only [kct]; omega
 refine ⟨by rw [← e]; rfl, o5.out, col, ?_⟩
 subst hz3
 subst hz2
 subst hz1
 exact ⟨s1.out, s2.out, s3.out, s4.out, s5.out⟩
theorem Qel (x : KC) (hf : KFit x) (k : Int) (hk : 1 <= k) (hk' : k <= 10000000) (w : World) (h : KAt w (mK x k)) :
 Calls Tryz.prog 35 #[.agg #[.slice x.rA x.rs.length x.rc, .slice x.mA x.ms.length x.mc, .slice x.gA x.gs.length x.gc, .int .i64 x.time, .slice x.dA x.ds.length x.dc, .slice x.lA x.ls.length x.lc], .int .i64 k] w fun e w' => e = .returned (.int .i64 (k + (kct x : Int))) /\ Below w.heap.size w w' := by
 have hc1 := hf.rc
 have hc2 := hf.mc
 have hc3 := hf.gc
 have hl4 := hf.dl
 have hl5 := hf.ll
 obtain ⟨z1, hz1⟩ : ∃ z : Int, z = k + (Qac cR x.rs : Int) := ⟨_, rfl⟩
 obtain ⟨z2, hz2⟩ : ∃ z : Int, z = z1 + (Qac cM x.ms : Int) := ⟨_, rfl⟩
 obtain ⟨z3, hz3⟩ : ∃ z : Int, z = z2 + (Qac cG x.gs : Int) := ⟨_, rfl⟩
 have b1 : 1 <= z1 /\ z1 <= 20000000 := by omega
 have b2 : 1 <= z2 /\ z2 <= 30000000 := by omega
 have b3 : 1 <= z3 /\ z3 <= 40000000 := by omega
 have Hh : Hid ((At w x.rA (marked mR cR x.rs k) /\ EachR w (marked mR cR x.rs k)) /\ (At w x.mA (marked mM cM x.ms z1) /\ Each w (marked mM cM x.ms z1)) /\ (At w x.gA (marked mG cG x.gs z2) /\ EachG w (marked mG cG x.gs z2)) /\ At w x.dA (Qae x.ds.length z3) /\ At w x.lA (Qbd x.ls.length (z3 + x.ds.length))) := by
  subst hz3; subst hz2; subst hz1
  exact ⟨⟨h.ra, h.re⟩, ⟨h.ma, h.me⟩, ⟨h.ga, h.ge⟩, h.da, h.la⟩
 have Hf := hidP hf
 have Hz1 := hidP hz1
 have Hz2 := hidP hz2
 have Hz3 := hidP hz3
 clear h hf hz1 hz2 hz3 hc1 hc2 hc3
 have n1 : ¬ z1 < 0 := by omega
 have n2 : ¬ z2 < 0 := by omega
 have n3 : ¬ z3 < 0 := by omega
 have n4 : ¬ z3 + (x.ds.length : Int) < 0 := by omega
 have n5 : ¬ z3 + (x.ds.length : Int) + (x.ls.length : Int) * 4 < 0 := by omega
 go_enter Tryz.func35, Tryz.ntmps35
 go_wp2_with fail
 have p0 : Blk (w.alloc (.cells #[.slice x.rA x.rs.length x.rc, .slice x.mA x.ms.length x.mc, .slice x.gA x.gs.length x.gc, .int .i64 x.time, .slice x.dA x.ds.length x.dc, .slice x.lA x.ls.length x.lc] 33)) w.heap.size 33 #[.slice x.rA x.rs.length x.rc, .slice x.mA x.ms.length x.mc, .slice x.gA x.gs.length x.gc, .int .i64 x.time, .slice x.dA x.ds.length x.dc, .slice x.lA x.ls.length x.lc] := Blk.new w _ _
 have B0 : Below w.heap.size w (w.alloc (.cells #[.slice x.rA x.rs.length x.rc, .slice x.mA x.ms.length x.mc, .slice x.gA x.gs.length x.gc, .int .i64 x.time, .slice x.dA x.ds.length x.dc, .slice x.lA x.ls.length x.lc] 33)) := Qaa (Below.refl _ _) _
 refine (Qi6 _ _ x.rs k hk (by omega) (by have := Hf.out.rc; omega) Hf.out.rl Hf.out.ri _ (Hh.out.1.1.below B0) (Hh.out.1.2.below B0)).mono ?_
 rw [← Hz1.out]
 rintro e w1 ⟨rfl, g1⟩
 have p1 := p0.below g1 p0.lt
 have B1 : Below w.heap.size w w1 := via0 g1 B0
 clear p0 B0 g1
 obtain ⟨u0, u1, u2, u3, u4, u5⟩ := p1.row6
 go_wp2_with fail
 refine (Qga _ _ x.ms z1 (by omega) (by omega) (by have := Hf.out.mc; omega) Hf.out.ml Hf.out.mi _ (Hh.out.2.1.1.below B1) (Hh.out.2.1.2.below B1)).mono ?_
 rw [← Hz2.out]
 rintro e w2 ⟨rfl, g2⟩
 have p2 := p1.below g2 p1.lt
 have B2 : Below w.heap.size w w2 := via0 g2 B1
 clear p1 B1 g2 u0 u1 u2 u3 u4 u5
 obtain ⟨u0, u1, u2, u3, u4, u5⟩ := p2.row6
 go_wp2_with fail
 refine (Qgb _ _ x.gs z2 (by omega) (by omega) (by have := Hf.out.gc; omega) Hf.out.gl Hf.out.gi _ (Hh.out.2.2.1.1.below B2) (Hh.out.2.2.1.2.below B2)).mono ?_
 rw [← Hz3.out]
 rintro e w3 ⟨rfl, g3⟩
 have p3 := p2.below g3 p2.lt
 have B3 : Below w.heap.size w w3 := via0 g3 B2
 clear p2 B2 g3 u0 u1 u2 u3 u4 u5
 obtain ⟨u0, u1, u2, u3, u4, u5⟩ := p3.row6
 go_wp2_with fail
 refine (Qb3 _ _ x.ds.length z3 (by omega) (by omega) (by omega) _ (Qhp (Hh.out.2.2.2.1.below B3))).mono ?_
 rintro e w4 ⟨rfl, g4⟩
 have p4 := p3.below g4 p3.lt
 have B4 : Below w.heap.size w w4 := via0 g4 B3
 clear p3 B3 g4 u0 u1 u2 u3 u4 u5
 obtain ⟨u0, u1, u2, u3, u4, u5⟩ := p4.row6
 go_wp2_with fail
 refine (Qfh _ _ x.ls.length (z3 + (x.ds.length : Int)) (by omega) (by omega) (by omega) _ ((Hh.out.2.2.2.2.below B4).imp (fun e => by have := congrArg List.length e; rw [Qb4] at this; simpa using this) id)).mono ?_
 rintro e w5 ⟨rfl, g5⟩
 have B5 : Below w.heap.size w w5 := via0 g5 B4
 clear p4 B4 g5 u0 u1 u2 u3 u4 u5
 go_wp2
 go_ret
 have hz1 := Hz1.out
 have hz2 := Hz2.out
 have hz3 := Hz3.out
 have e : z3 + (x.ds.length : Int) + (x.ls.length : Int) * 4 = k + (kct x : Int) := by simp only [kct]; omega
 exact ⟨by rw [← e]; rfl, B5⟩
end Go.Proofs.YtlcjaabnfdnfmaaGreatDoor.Gen
namespace Go.Proofs.YtlcjaabnfdnfmaaGreatDoor.Gen
open ChangeShapes WideShapes ChangeAt RowKit Joins Deep Base
theorem At.hid {α : Type} [Cel α] {w : World} {A : Option Addr} {l : List α} (hA : At w A l) : Hid (∀ W : World, Below w.heap.size w W -> At W A l) := fun W hW => hA.below hW
theorem eqLog_same (base bt : Int) (A A' : Option Addr) (cap cap' : Nat) (l : List En) (hl : l.length <= 9223372036854775807) (w : World) (hA : At w A l) (hA' : At w A' l) :
 Calls Tryz.prog 56 #[.agg #[.int .i64 base, .int .i64 bt, .slice A l.length cap], .agg #[.int .i64 base, .int .i64 bt, .slice A' l.length cap']] w fun e w' => e = .returned (.bool true) /\ Below w.heap.size w w' := by
 have HA := hA.hid
 have HA' := hA'.hid
 clear hA hA'
 go_enter Tryz.func56, Tryz.ntmps56
 go_wp2_with (go_at_call 115; refine (Qd4 A A' cap cap' l hl _ (HA.out _ ?_) (HA'.out _ ?_)).mono ?_; (repeat (first | exact Below.refl _ _ | assumption | refine via0 (by assumption) ?_ | refine Below.drew ?_ | refine Qaa ?_ _)); (repeat (first | exact Below.refl _ _ | assumption | refine via0 (by assumption) ?_ | refine Below.drew ?_ | refine Qaa ?_ _)); rintro e w1 ⟨rfl, g1⟩)
 go_ret
 refine ⟨rfl, ?_⟩
 repeat (first | exact Below.refl _ _ | assumption | refine via0 (by assumption) ?_ | refine Below.drew ?_ | refine Qaa ?_ _)
end Go.Proofs.YtlcjaabnfdnfmaaGreatDoor.Gen
namespace Go.Proofs.YtlcjaabnfdnfmaaGreatDoor.Gen
open ChangeShapes WideShapes ChangeAt RowKit Joins Deep Base
theorem Qeg (a : Option Addr) (cap : Nat) (k : Int) (w : World) :
 Calls Tryz.prog 69 #[.slice a 0 cap, .int .i64 k] w fun e w' => e = .returned (.int .i64 k) /\ w' = w := by
 go_enter Tryz.func69, Tryz.ntmps69
 go_wp2
 go_loopw [1, 5] (fun kk i w' => kk = .int .i64 k /\ i = .int .i64 0 /\ w' = w) (fun _ _ _ => 0)
 case atStart => exact ⟨rfl, rfl, rfl⟩
 case round =>
  obtain ⟨rfl, rfl, rfl⟩ := hrel
  go_wp2
  go_ret
  exact ⟨rfl, rfl⟩
theorem markE_any (a : Option Addr) (cap : Nat) (l : List En) (hl : l.length <= 3000000) (k : Int) (hk : 1 <= k) (hk' : k <= 100000000) (F : List Nat) (w : World) (hs : Sl w a l F) :
 Calls Tryz.prog 69 #[.slice a l.length cap, .int .i64 k] w fun e w' => e = .returned (.int .i64 (k + (l.length : Int) * 9)) /\ Off F w w' /\ Sl w' a (Qal l.length k) F := by
 rcases hs with ⟨rfl, rfl⟩ | ⟨b, o, rfl, rfl, hb, hi, ht⟩
 . refine (Qeg a cap k w).mono ?_
   rintro e w' ⟨rfl, rfl⟩
   exact ⟨by simp, Off.refl _ _, .inl ⟨rfl, rfl⟩⟩
 . refine (Qdk b o cap l.length k hk hk' hl w hb ht).mono ?_
   rintro e w' ⟨rfl, ho, hi', ht'⟩
   exact ⟨rfl, Off.of_only ho, .inr ⟨b, o, rfl, rfl, Nat.lt_of_lt_of_le hb ho.size, hi', by rw [Qax]; exact ht'⟩⟩
theorem heldE_any (a : Option Addr) (cap n : Nat) (hl : n <= 3000000) (k : Int) (hk : 1 <= k) (hk' : k <= 100000000) (F : List Nat) (w : World) (hs : Sl w a (Qal n k) F) :
 Calls Tryz.prog 77 #[.slice a n cap, .int .i64 k] w fun e w' => e = .returned (.int .i64 (k + (n : Int) * 9)) /\ Below w.heap.size w w' := by
 refine Qdo a cap n k hk hk' hl w ?_
 rcases hs with ⟨h, _⟩ | ⟨b, o, rfl, _, hb, hi, _⟩
 . left
   have := congrArg List.length h
   rwa [Qax] at this
 . exact .inr ⟨b, o, rfl, hb, hi⟩
theorem Qkb (base bt : Int) (a : Option Addr) (cap : Nat) (l : List En) (hl : l.length <= 3000000) (k : Int) (hk : 1 <= k) (hk' : k <= 100000000) (F : List Nat) (w : World) (hs : Sl w a l F) :
 Calls Tryz.prog 63 #[.agg #[.int .i64 base, .int .i64 bt, .slice a l.length cap], .int .i64 k] w fun e w' => e = .returned (.int .i64 (k + (l.length : Int) * 9)) /\ Off F w w' /\ Sl w' a (Qal l.length k) F := by
 have HC : Hid (∀ ob : Obj, Calls Tryz.prog 69 #[.slice a l.length cap, .int .i64 k] (w.alloc ob) fun e w' => e = .returned (.int .i64 (k + (l.length : Int) * 9)) /\ Off F (w.alloc ob) w' /\ Sl w' a (Qal l.length k) F) := fun ob => markE_any a cap l hl k hk hk' F _ (hs.below (Qaa (Below.refl _ _) ob))
 clear hs
 generalize hz : k + (l.length : Int) * 9 = z at HC ⊢
 clear hz
 go_enter Tryz.func63, Tryz.ntmps63
 go_wp2_with fail
 refine (HC.out _).mono ?_
 rintro e w1 ⟨rfl, o1, s1⟩
 have O1 := hidP o1
 have S1 := hidP s1
 clear o1 s1
 go_wp2
 go_ret
 exact ⟨rfl, by simpa using (Off.of_below (Qaa (Below.refl _ _) _)).trans O1.out, S1.out⟩
theorem Qkk (base bt : Int) (a : Option Addr) (cap n : Nat) (hl : n <= 3000000) (k : Int) (hk : 1 <= k) (hk' : k <= 100000000) (F : List Nat) (w : World) (hs : Sl w a (Qal n k) F) :
 Calls Tryz.prog 71 #[.agg #[.int .i64 base, .int .i64 bt, .slice a n cap], .int .i64 k] w fun e w' => e = .returned (.int .i64 (k + (n : Int) * 9)) /\ Below w.heap.size w w' := by
 have HC : Hid (∀ ob : Obj, Calls Tryz.prog 77 #[.slice a n cap, .int .i64 k] (w.alloc ob) fun e w' => e = .returned (.int .i64 (k + (n : Int) * 9)) /\ Below (w.alloc ob).heap.size (w.alloc ob) w') := fun ob => heldE_any a cap n hl k hk hk' F _ (hs.below (Qaa (Below.refl _ _) ob))
 clear hs
 have hp : ¬ k + (n : Int) * 9 < 0 := by omega
 generalize hz : k + (n : Int) * 9 = z at HC hp ⊢
 clear hz
 go_enter Tryz.func71, Tryz.ntmps71
 go_wp2_with fail
 refine (HC.out _).mono ?_
 rintro e w1 ⟨rfl, g1⟩
 go_wp2
 go_ret
 exact ⟨rfl, by repeat (first | exact Below.refl _ _ | assumption | refine via0 (by assumption) ?_ | refine Below.drew ?_ | refine Qaa ?_ _)⟩
end Go.Proofs.YtlcjaabnfdnfmaaGreatDoor.Gen
namespace Go.Proofs.YtlcjaabnfdnfmaaGreatDoor.Gen
open ChangeShapes WideShapes ChangeAt RowKit Joins Deep Base
theorem Blk.row11 {W : World} {B : Nat} {t : TypeId} {a b c d e f g h i j k : Value} (p : Blk W B t #[a, b, c, d, e, f, g, h, i, j, k]) :
 W.cell? ⟨B, 0, none⟩ = some a /\ W.cell? ⟨B, 1, none⟩ = some b /\ W.cell? ⟨B, 2, none⟩ = some c /\ W.cell? ⟨B, 2 + 1, none⟩ = some d /\ W.cell? ⟨B, 2 + 2, none⟩ = some e /\ W.cell? ⟨B, 5, none⟩ = some f /\ W.cell? ⟨B, 5 + 1, none⟩ = some g /\ W.cell? ⟨B, 5 + 2, none⟩ = some h /\ W.cell? ⟨B, 5 + 3, none⟩ = some i /\ W.cell? ⟨B, 5 + 4, none⟩ = some j /\ W.cell? ⟨B, 5 + 5, none⟩ = some k :=
 ⟨p.cell (by rfl), p.cell (by rfl), p.cell (by rfl), p.cell (by rfl), p.cell (by rfl), p.cell (by rfl), p.cell (by rfl), p.cell (by rfl), p.cell (by rfl), p.cell (by rfl), p.cell (by rfl)⟩
theorem Qjh (x y : KC) (hf : KFit x) (hp : y.p = x.p) (w : World) (hx : KAt w x) (hy : KAt w y) :
 Calls Tryz.prog 23 #[.agg #[.slice x.rA x.rs.length x.rc, .slice x.mA x.ms.length x.mc, .slice x.gA x.gs.length x.gc, .int .i64 x.time, .slice x.dA x.ds.length x.dc, .slice x.lA x.ls.length x.lc], .agg #[.slice y.rA y.rs.length y.rc, .slice y.mA y.ms.length y.mc, .slice y.gA y.gs.length y.gc, .int .i64 y.time, .slice y.dA y.ds.length y.dc, .slice y.lA y.ls.length y.lc]] w fun e w' => e = .returned (.bool true) /\ Below w.heap.size w w' := by
 have h := Qkq x y hf hp w hx hy
 obtain ⟨l1, l2, l3, l4, l5, l6⟩ := KC.p_len hp
 rw [← l1, ← l2, ← l3, ← l4] at h
 rw [l5, l6]
 rw [← l1, ← l2, ← l3, ← l4]
 exact h
theorem Qks (te vo base bt : Int) (A A' : Option Addr) (cap cap' : Nat) (l : List En) (hl : l.length <= 9223372036854775807) (x y : KC) (hf : KFit x) (hp : y.p = x.p) (w : World) (hA : At w A l) (hA' : At w A' l) (hx : KAt w x) (hy : KAt w y) :
 Calls Tryz.prog 20 #[.agg #[.int .i64 te, .int .i64 vo, .int .i64 base, .int .i64 bt, .slice A l.length cap, .slice x.rA x.rs.length x.rc, .slice x.mA x.ms.length x.mc, .slice x.gA x.gs.length x.gc, .int .i64 x.time, .slice x.dA x.ds.length x.dc, .slice x.lA x.ls.length x.lc], .agg #[.int .i64 te, .int .i64 vo, .int .i64 base, .int .i64 bt, .slice A' l.length cap', .slice y.rA y.rs.length y.rc, .slice y.mA y.ms.length y.mc, .slice y.gA y.gs.length y.gc, .int .i64 y.time, .slice y.dA y.ds.length y.dc, .slice y.lA y.ls.length y.lc]] w fun e w' => e = .returned (.bool true) /\ Below w.heap.size w w' := by
 have E1 : Hid (∀ W : World, Below w.heap.size w W -> Calls Tryz.prog 56 #[.agg #[.int .i64 base, .int .i64 bt, .slice A l.length cap], .agg #[.int .i64 base, .int .i64 bt, .slice A' l.length cap']] W fun e w' => e = .returned (.bool true) /\ Below W.heap.size W w') := fun W g =>
  eqLog_same base bt A A' cap cap' l hl W (hA.below g) (hA'.below g)
 have E2 : Hid (∀ W : World, Below w.heap.size w W -> Calls Tryz.prog 23 #[.agg #[.slice x.rA x.rs.length x.rc, .slice x.mA x.ms.length x.mc, .slice x.gA x.gs.length x.gc, .int .i64 x.time, .slice x.dA x.ds.length x.dc, .slice x.lA x.ls.length x.lc], .agg #[.slice y.rA y.rs.length y.rc, .slice y.mA y.ms.length y.mc, .slice y.gA y.gs.length y.gc, .int .i64 y.time, .slice y.dA y.ds.length y.dc, .slice y.lA y.ls.length y.lc]] W fun e w' => e = .returned (.bool true) /\ Below W.heap.size W w') := fun W g =>
  Qjh x y hf hp W (hx.below g) (hy.below g)
 clear hA hA' hx hy hf hp
 go_enter Tryz.func20, Tryz.ntmps20
 go_wp2_with fail
 have p0 : Blk ((w.alloc (.cells #[.int .i64 te, .int .i64 vo, .int .i64 base, .int .i64 bt, .slice A l.length cap, .slice x.rA x.rs.length x.rc, .slice x.mA x.ms.length x.mc, .slice x.gA x.gs.length x.gc, .int .i64 x.time, .slice x.dA x.ds.length x.dc, .slice x.lA x.ls.length x.lc] 35)).alloc (.cells #[.int .i64 te, .int .i64 vo, .int .i64 base, .int .i64 bt, .slice A' l.length cap', .slice y.rA y.rs.length y.rc, .slice y.mA y.ms.length y.mc, .slice y.gA y.gs.length y.gc, .int .i64 y.time, .slice y.dA y.ds.length y.dc, .slice y.lA y.ls.length y.lc] 35)) w.heap.size 35 #[.int .i64 te, .int .i64 vo, .int .i64 base, .int .i64 bt, .slice A l.length cap, .slice x.rA x.rs.length x.rc, .slice x.mA x.ms.length x.mc, .slice x.gA x.gs.length x.gc, .int .i64 x.time, .slice x.dA x.ds.length x.dc, .slice x.lA x.ls.length x.lc] := (Blk.new w _ _).alloc _
 have r0 : Blk ((w.alloc (.cells #[.int .i64 te, .int .i64 vo, .int .i64 base, .int .i64 bt, .slice A l.length cap, .slice x.rA x.rs.length x.rc, .slice x.mA x.ms.length x.mc, .slice x.gA x.gs.length x.gc, .int .i64 x.time, .slice x.dA x.ds.length x.dc, .slice x.lA x.ls.length x.lc] 35)).alloc (.cells #[.int .i64 te, .int .i64 vo, .int .i64 base, .int .i64 bt, .slice A' l.length cap', .slice y.rA y.rs.length y.rc, .slice y.mA y.ms.length y.mc, .slice y.gA y.gs.length y.gc, .int .i64 y.time, .slice y.dA y.ds.length y.dc, .slice y.lA y.ls.length y.lc] 35)) (w.heap.size + 1) 35 #[.int .i64 te, .int .i64 vo, .int .i64 base, .int .i64 bt, .slice A' l.length cap', .slice y.rA y.rs.length y.rc, .slice y.mA y.ms.length y.mc, .slice y.gA y.gs.length y.gc, .int .i64 y.time, .slice y.dA y.ds.length y.dc, .slice y.lA y.ls.length y.lc] := by have := Blk.new (w.alloc (.cells #[.int .i64 te, .int .i64 vo, .int .i64 base, .int .i64 bt, .slice A l.length cap, .slice x.rA x.rs.length x.rc, .slice x.mA x.ms.length x.mc, .slice x.gA x.gs.length x.gc, .int .i64 x.time, .slice x.dA x.ds.length x.dc, .slice x.lA x.ls.length x.lc] 35)) 35 #[.int .i64 te, .int .i64 vo, .int .i64 base, .int .i64 bt, .slice A' l.length cap', .slice y.rA y.rs.length y.rc, .slice y.mA y.ms.length y.mc, .slice y.gA y.gs.length y.gc, .int .i64 y.time, .slice y.dA y.ds.length y.dc, .slice y.lA y.ls.length y.lc]; simpa using this
 have B0 : Below w.heap.size w ((w.alloc (.cells #[.int .i64 te, .int .i64 vo, .int .i64 base, .int .i64 bt, .slice A l.length cap, .slice x.rA x.rs.length x.rc, .slice x.mA x.ms.length x.mc, .slice x.gA x.gs.length x.gc, .int .i64 x.time, .slice x.dA x.ds.length x.dc, .slice x.lA x.ls.length x.lc] 35)).alloc (.cells #[.int .i64 te, .int .i64 vo, .int .i64 base, .int .i64 bt, .slice A' l.length cap', .slice y.rA y.rs.length y.rc, .slice y.mA y.ms.length y.mc, .slice y.gA y.gs.length y.gc, .int .i64 y.time, .slice y.dA y.ds.length y.dc, .slice y.lA y.ls.length y.lc] 35)) := by repeat (first | exact Below.refl _ _ | assumption | refine via0 (by assumption) ?_ | refine Below.drew ?_ | refine Qaa ?_ _)
 refine (E1.out _ B0).mono ?_
 rintro e w1 ⟨rfl, g1⟩
 have p1 := p0.below g1 p0.lt
 have r1 := r0.below g1 r0.lt
 have B1 : Below w.heap.size w w1 := via0 g1 B0
 obtain ⟨u0, u1, u2, u3, u4, u5, u6, u7, u8, u9, u10⟩ := p1.row11
 obtain ⟨v0, v1, v2, v3, v4, v5, v6, v7, v8, v9, v10⟩ := r1.row11
 have q1 := p1.lt
 have t1 := r1.lt
 clear p0 r0 B0 g1
 go_wp2_with fail
 refine (E2.out _ B1).mono ?_
 rintro e w2 ⟨rfl, g2⟩
 have B2 : Below w.heap.size w w2 := via0 g2 B1
 go_wp2
 go_ret
 exact ⟨rfl, B2⟩
theorem Qiw (te vo base bt : Int) (A : Option Addr) (cap : Nat) (l : List En) (hl : l.length <= 1048576) (x : KC) (hf : KFit x) (F : List Nat) (S : Nat -> Prop) (hd : ∀ b ∈ F, ¬ S b) (k : Int) (hk : 1 <= k) (hk' : k <= 500000) (w : World) (hlt : ∀ b, S b -> b < w.heap.size) (hs : Sl w A l F) (h : KOwn w x S) :
 Calls Tryz.prog 26 #[.agg #[.int .i64 te, .int .i64 vo, .int .i64 base, .int .i64 bt, .slice A l.length cap, .slice x.rA x.rs.length x.rc, .slice x.mA x.ms.length x.mc, .slice x.gA x.gs.length x.gc, .int .i64 x.time, .slice x.dA x.ds.length x.dc, .slice x.lA x.ls.length x.lc], .int .i64 k] w fun e w' => e = .returned (.int .i64 (k + (l.length : Int) * 9 + (kct x : Int))) /\ Offp (fun b => b ∈ F ∨ S b) w w' /\ Sl w' A (Qal l.length k) F /\ KOwn w' (mK x (k + (l.length : Int) * 9)) S := by
 have hFl := hs.lt
 obtain ⟨z, hz⟩ : ∃ z : Int, z = k + (l.length : Int) * 9 := ⟨_, rfl⟩
 have z1 : 1 <= z := by omega
 have z2 : z <= 10000000 := by omega
 have HL : Hid (∀ W : World, Sl W A l F -> Calls Tryz.prog 63 #[.agg #[.int .i64 base, .int .i64 bt, .slice A l.length cap], .int .i64 k] W fun e w' => e = .returned (.int .i64 z) /\ Off F W w' /\ Sl w' A (Qal l.length k) F) := fun W hW => hz ▸ Qkb base bt A cap l (by omega) k hk (by omega) F W hW
 have HK : Hid (∀ W : World, (∀ b, S b -> b < W.heap.size) -> KOwn W x S -> Calls Tryz.prog 29 #[.agg #[.slice x.rA x.rs.length x.rc, .slice x.mA x.ms.length x.mc, .slice x.gA x.gs.length x.gc, .int .i64 x.time, .slice x.dA x.ds.length x.dc, .slice x.lA x.ls.length x.lc], .int .i64 z] W fun e w' => e = .returned (.int .i64 (z + (kct x : Int))) /\ Offp S W w' /\ KOwn w' (mK x z) S) := fun W h1 h2 => Qeh x hf S z z1 z2 W h1 h2
 rw [← hz]
 have n0 : Below w.heap.size w (w.alloc (.cells #[.int .i64 te, .int .i64 vo, .int .i64 base, .int .i64 bt, .slice A l.length cap, .slice x.rA x.rs.length x.rc, .slice x.mA x.ms.length x.mc, .slice x.gA x.gs.length x.gc, .int .i64 x.time, .slice x.dA x.ds.length x.dc, .slice x.lA x.ls.length x.lc] 35)) := Qaa (Below.refl _ _) _
 have Hs := hidP (hs.below n0)
 have Hh := hidP (h.below n0)
 have hw : ∀ b, b ∈ F ∨ S b -> b < w.heap.size := fun b hb => hb.elim (hFl b) (hlt b)
 have Hw := hidP hw
 have Hd := hidP hd
 obtain ⟨c, hc⟩ : ∃ c : Int, (kct x : Int) = c := ⟨_, rfl⟩
 rw [hc] at HK ⊢
 clear hs h hf hd hlt hw hFl hz hc n0
 go_enter Tryz.func26, Tryz.ntmps26
 go_wp2_with fail
 have p0 : Blk (w.alloc (.cells #[.int .i64 te, .int .i64 vo, .int .i64 base, .int .i64 bt, .slice A l.length cap, .slice x.rA x.rs.length x.rc, .slice x.mA x.ms.length x.mc, .slice x.gA x.gs.length x.gc, .int .i64 x.time, .slice x.dA x.ds.length x.dc, .slice x.lA x.ls.length x.lc] 35)) w.heap.size 35 #[.int .i64 te, .int .i64 vo, .int .i64 base, .int .i64 bt, .slice A l.length cap, .slice x.rA x.rs.length x.rc, .slice x.mA x.ms.length x.mc, .slice x.gA x.gs.length x.gc, .int .i64 x.time, .slice x.dA x.ds.length x.dc, .slice x.lA x.ls.length x.lc] := Blk.new w _ _
 have o0 : Offp (fun b => b ∈ F ∨ S b) w (w.alloc (.cells #[.int .i64 te, .int .i64 vo, .int .i64 base, .int .i64 bt, .slice A l.length cap, .slice x.rA x.rs.length x.rc, .slice x.mA x.ms.length x.mc, .slice x.gA x.gs.length x.gc, .int .i64 x.time, .slice x.dA x.ds.length x.dc, .slice x.lA x.ls.length x.lc] 35)) := Offp.of_below (Qaa (Below.refl _ _) _)
 refine (HL.out _ Hs.out).mono ?_
 rintro e w1 ⟨rfl, k1, t1⟩
 have p1 := p0.offp (Offp.of_off k1) (fun e => by have := Hw.out _ (.inl e); omega)
 have o1 := o0.trans ((Offp.of_off k1).mono (fun b hb => .inl hb))
 have s1 := Hh.out.offp (Offp.of_off k1) (fun b hb e => Hd.out b e hb)
 have T1 := hidP t1
 have S1 := hidP s1
 have O1 := hidP o1
 clear p0 o0 k1 t1 s1 o1 Hs Hh HL
 obtain ⟨u0, u1, u2, u3, u4, u5, u6, u7, u8, u9, u10⟩ := p1.row11
 have q1 := p1.lt
 go_wp2_with fail
 refine (HK.out _ (fun b hb => by have := Hw.out b (.inr hb); omega) S1.out).mono ?_
 rintro e w2 ⟨rfl, k2, t2⟩
 have o2 := hidP (O1.out.trans (k2.mono (fun b hb => .inr hb)))
 have s2 := hidP ((show Sl w2 A (Qal l.length k) F from by
  rcases T1.out with h | ⟨b, o, e1, e2, hb, hi, ht⟩
  . exact .inl h
  . have hn : ¬ S b := Hd.out b (by rw [e2]; simp)
    exact .inr ⟨b, o, e1, e2, Nat.lt_of_lt_of_le hb k2.size, hi.offp k2 hb hn, Qcq ht k2 hb hn⟩))
 have T2 := hidP t2
 clear u0 u1 u2 u3 u4 u5 u6 u7 u8 u9 u10 q1 k2 t2
 go_wp2
 go_ret
 exact ⟨rfl, o2.out, s2.out, T2.out⟩
theorem Qi8 (te vo base bt : Int) (A : Option Addr) (cap : Nat) (l : List En) (hl : l.length <= 1048576) (x : KC) (hf : KFit x) (F : List Nat) (k : Int) (hk : 1 <= k) (hk' : k <= 500000) (w : World) (hs : Sl w A (Qal l.length k) F) (h : KAt w (mK x (k + (l.length : Int) * 9))) :
 Calls Tryz.prog 32 #[.agg #[.int .i64 te, .int .i64 vo, .int .i64 base, .int .i64 bt, .slice A l.length cap, .slice x.rA x.rs.length x.rc, .slice x.mA x.ms.length x.mc, .slice x.gA x.gs.length x.gc, .int .i64 x.time, .slice x.dA x.ds.length x.dc, .slice x.lA x.ls.length x.lc], .int .i64 k] w fun e w' => e = .returned (.int .i64 (k + (l.length : Int) * 9 + (kct x : Int))) /\ Below w.heap.size w w' := by
 obtain ⟨z, hz⟩ : ∃ z : Int, z = k + (l.length : Int) * 9 := ⟨_, rfl⟩
 have z1 : 1 <= z := by omega
 have z2 : z <= 10000000 := by omega
 rw [← hz] at h ⊢
 have HL : Hid (∀ W : World, Below w.heap.size w W -> Calls Tryz.prog 71 #[.agg #[.int .i64 base, .int .i64 bt, .slice A l.length cap], .int .i64 k] W fun e w' => e = .returned (.int .i64 z) /\ Below W.heap.size W w') := fun W g => hz ▸ Qkk base bt A cap l.length (by omega) k hk (by omega) F W (hs.below g)
 have HK : Hid (∀ W : World, Below w.heap.size w W -> Calls Tryz.prog 35 #[.agg #[.slice x.rA x.rs.length x.rc, .slice x.mA x.ms.length x.mc, .slice x.gA x.gs.length x.gc, .int .i64 x.time, .slice x.dA x.ds.length x.dc, .slice x.lA x.ls.length x.lc], .int .i64 z] W fun e w' => e = .returned (.int .i64 (z + (kct x : Int))) /\ Below W.heap.size W w') := fun W g => Qel x hf z z1 z2 W (h.below g)
 obtain ⟨c, hc⟩ : ∃ c : Int, z + (kct x : Int) = c := ⟨_, rfl⟩
 have hc0 : ¬ c < 0 := by omega
 have hz0 : ¬ z < 0 := by omega
 rw [hc] at HK ⊢
 clear hs h hf hz hc
 go_enter Tryz.func32, Tryz.ntmps32
 go_wp2_with fail
 have p0 : Blk (w.alloc (.cells #[.int .i64 te, .int .i64 vo, .int .i64 base, .int .i64 bt, .slice A l.length cap, .slice x.rA x.rs.length x.rc, .slice x.mA x.ms.length x.mc, .slice x.gA x.gs.length x.gc, .int .i64 x.time, .slice x.dA x.ds.length x.dc, .slice x.lA x.ls.length x.lc] 35)) w.heap.size 35 #[.int .i64 te, .int .i64 vo, .int .i64 base, .int .i64 bt, .slice A l.length cap, .slice x.rA x.rs.length x.rc, .slice x.mA x.ms.length x.mc, .slice x.gA x.gs.length x.gc, .int .i64 x.time, .slice x.dA x.ds.length x.dc, .slice x.lA x.ls.length x.lc] := Blk.new w _ _
 have B0 : Below w.heap.size w (w.alloc (.cells #[.int .i64 te, .int .i64 vo, .int .i64 base, .int .i64 bt, .slice A l.length cap, .slice x.rA x.rs.length x.rc, .slice x.mA x.ms.length x.mc, .slice x.gA x.gs.length x.gc, .int .i64 x.time, .slice x.dA x.ds.length x.dc, .slice x.lA x.ls.length x.lc] 35)) := Qaa (Below.refl _ _) _
 refine (HL.out _ B0).mono ?_
 rintro e w1 ⟨rfl, g1⟩
 have p1 := p0.below g1 p0.lt
 have B1 : Below w.heap.size w w1 := via0 g1 B0
 clear p0 B0 g1 HL
 obtain ⟨u0, u1, u2, u3, u4, u5, u6, u7, u8, u9, u10⟩ := p1.row11
 have q1 := p1.lt
 go_wp2_with fail
 refine (HK.out _ B1).mono ?_
 rintro e w2 ⟨rfl, g2⟩
 have B2 : Below w.heap.size w w2 := via0 g2 B1
 go_wp2
 go_ret
 exact ⟨rfl, B2⟩
end Go.Proofs.YtlcjaabnfdnfmaaGreatDoor.Gen
namespace Go.Proofs.YtlcjaabnfdnfmaaGreatDoor.Gen
open ChangeShapes WideShapes ChangeAt RowKit Joins Deep Base
theorem Qjm {α : Type} (c s : α -> Nat) (p q : Nat) : ∀ (l : List α), (∀ y ∈ l, c y <= p + q * s y) -> Qac c l <= p * l.length + q * Qac s l
 | [], _ => by simp [Qac]
 | a :: l, h => by
  have h1 := Qjm c s p q l (fun y hy => h y (by simp [hy]))
  have h2 := h a (by simp)
  simp only [Qac, List.map_cons, List.sum_cons, List.length_cons, Nat.mul_add] at h1 ⊢
  omega
def NewK (w w' : World) (e : Ending) (c : PK) : Prop := ∃ y : KC, e = .returned (.agg y.cells) /\ y.p = c /\ KOwn w' y (fun b => w.heap.size <= b /\ b < w'.heap.size) /\ Below w.heap.size w w'
end Go.Proofs.YtlcjaabnfdnfmaaGreatDoor.Gen
