/-
  A keeper: how it lies, and what the laws' sz, to, eq, mark and held functions of it do. No condition but that its lists have at most 1048576 records in all.
-/
import Derived.Test.YtddijnmdeabjbaaGreatRowList
import Derived.Test.YtddijnmdeabjbaaGreatGpList
import Derived.Test.YtddijnmdeabjbaaGreatMakList2
set_option linter.unusedVariables false
set_option linter.unusedSimpArgs false
set_option maxRecDepth 100000
set_option maxHeartbeats 8000000
namespace Go.Proofs.YtddijnmdeabjbaaGreat.Gen
open ChangeShapes WideShapes ChangeAt RowKit Joins Deep Base
theorem Blk.row6 {W : World} {B : Nat} {t : TypeId} {a b c d e f : Value} (h : Blk W B t #[a, b, c, d, e, f]) : W.cell? ⟨B, 0, none⟩ = some a /\ W.cell? ⟨B, 1, none⟩ = some b /\ W.cell? ⟨B, 2, none⟩ = some c /\ W.cell? ⟨B, 3, none⟩ = some d /\ W.cell? ⟨B, 4, none⟩ = some e /\ W.cell? ⟨B, 5, none⟩ = some f := ⟨h.cell (by rfl), h.cell (by rfl), h.cell (by rfl), h.cell (by rfl), h.cell (by rfl), h.cell (by rfl)⟩
structure KC where
  rA : Option Addr
  rc : Nat
  rs : List RC
  mA : Option Addr
  mc : Nat
  ms : List MC
  gA : Option Addr
  gc : Nat
  gs : List GC
  time : Int
  dA : Option Addr
  dc : Nat
  ds : List Int
  lA : Option Addr
  lc : Nat
  ls : List An
structure PK where
  rs : List PR
  ms : List PM
  gs : List PG
  time : Int
  ds : List Int
  ls : List An
def KC.p (x : KC) : PK := ⟨x.rs.map RC.p, x.ms.map MC.p, x.gs.map GC.p, x.time, x.ds, x.ls⟩
def KC.cells (x : KC) : Array Value := #[.slice x.rA x.rs.length x.rc, .slice x.mA x.ms.length x.mc, .slice x.gA x.gs.length x.gc, .int .i64 x.time, .slice x.dA x.ds.length x.dc, .slice x.lA x.ls.length x.lc]
theorem KC.p_len {x y : KC} (h : y.p = x.p) : y.rs.length = x.rs.length /\ y.ms.length = x.ms.length /\ y.gs.length = x.gs.length /\ y.time = x.time /\ y.ds = x.ds /\ y.ls = x.ls := by
 simp only [KC.p, PK.mk.injEq] at h
 obtain ⟨h1, h2, h3, h4, h5, h6⟩ := h
 exact ⟨by have := congrArg List.length h1; simpa using this, by have := congrArg List.length h2; simpa using this, by have := congrArg List.length h3; simpa using this, h4, h5, h6⟩
structure KAt (w : World) (x : KC) : Prop where
  ra : At w x.rA x.rs
  re : EachR w x.rs
  ma : At w x.mA x.ms
  me : Each w x.ms
  ga : At w x.gA x.gs
  ge : EachG w x.gs
  da : At w x.dA x.ds
  la : At w x.lA x.ls
theorem KAt.below {w w' : World} {x : KC} (h : KAt w x) (g : Below w.heap.size w w') : KAt w' x :=
 ⟨h.ra.below g, h.re.below g, h.ma.below g, h.me.below g, h.ga.below g, h.ge.below g, h.da.below g, h.la.below g⟩
structure KCol (w : World) (x : KC) (S : Nat -> Prop) (col : Nat -> Nat) : Prop where
  r : Own rowP w x.rA x.rs (fun b => S b /\ col b = 1)
  m : Own makP w x.mA x.ms (fun b => S b /\ col b = 2)
  g : Own grpP w x.gA x.gs (fun b => S b /\ col b = 3)
  d : Sub w x.dA x.ds (fun b => S b /\ col b = 4)
  l : Sub w x.lA x.ls (fun b => S b /\ col b = 5)
def KOwn (w : World) (x : KC) (S : Nat -> Prop) : Prop := ∃ col, KCol w x S col
theorem KCol.at {w : World} {x : KC} {S : Nat -> Prop} {col : Nat -> Nat} (h : KCol w x S col) : KAt w x := ⟨h.r.at, rowP_each h.r, h.m.at, makP_each h.m, h.g.at, grpP_each h.g, h.d.at, h.l.at⟩
theorem KOwn.at {w : World} {x : KC} {S : Nat -> Prop} (h : KOwn w x S) : KAt w x := by obtain ⟨_, h⟩ := h; exact h.at
theorem KCol.offp {w w' : World} {x : KC} {S T : Nat -> Prop} {col : Nat -> Nat} (h : KCol w x S col) (k : Offp T w w') (hd : ∀ b, S b -> ¬ T b) : KCol w' x S col :=
 ⟨h.r.offp Qah k (fun b hb => hd b hb.1), h.m.offp Qam k (fun b hb => hd b hb.1), h.g.offp Qar k (fun b hb => hd b hb.1), h.d.offp k (fun b hb => hd b hb.1), h.l.offp k (fun b hb => hd b hb.1)⟩
theorem KOwn.offp {w w' : World} {x : KC} {S T : Nat -> Prop} (h : KOwn w x S) (k : Offp T w w') (hd : ∀ b, S b -> ¬ T b) : KOwn w' x S := by obtain ⟨c, h⟩ := h; exact ⟨c, h.offp k hd⟩
theorem KOwn.mono {w : World} {x : KC} {S T : Nat -> Prop} (h : KOwn w x S) (s : ∀ b, S b -> T b) : KOwn w x T := by
 obtain ⟨c, h⟩ := h
 exact ⟨c, h.r.mono (fun b hb => ⟨s b hb.1, hb.2⟩), h.m.mono (fun b hb => ⟨s b hb.1, hb.2⟩), h.g.mono (fun b hb => ⟨s b hb.1, hb.2⟩), h.d.mono (fun b hb => ⟨s b hb.1, hb.2⟩), h.l.mono (fun b hb => ⟨s b hb.1, hb.2⟩)⟩
structure KFit (x : KC) : Prop where
  rl : x.rs.length <= 1048576
  ml : x.ms.length <= 1048576
  gl : x.gs.length <= 1048576
  dl : x.ds.length <= 1048576
  ll : x.ls.length <= 1048576
  ri : ∀ y ∈ x.rs, y.its.length <= 1048576
  mi : ∀ y ∈ x.ms, y.ms.length <= 1048576
  gi : ∀ y ∈ x.gs, y.m.length <= 1048576 /\ y.b.length <= 1048576 /\ y.o.length <= 1048576
  rc : Qad cR x.rs <= 10000000
  mc : Qad cM x.ms <= 10000000
  gc : Qad cG x.gs <= 10000000
theorem Qdo (x y : KC) (hf : KFit x) (hp : y.p = x.p) (w : World) (hx : KAt w x) (hy : KAt w y) :
 Calls Tryz.prog 104 #[.agg #[.slice x.rA x.rs.length x.rc, .slice x.mA x.ms.length x.mc, .slice x.gA x.gs.length x.gc, .int .i64 x.time, .slice x.dA x.ds.length x.dc, .slice x.lA x.ls.length x.lc], .agg #[.slice y.rA x.rs.length y.rc, .slice y.mA x.ms.length y.mc, .slice y.gA x.gs.length y.gc, .int .i64 x.time, .slice y.dA x.ds.length y.dc, .slice y.lA x.ls.length y.lc]] w fun e w' => e = .returned (.bool true) /\ Below w.heap.size w w' := by
 have hp' := KC.p_len hp
 have Hp := hidP hp
 have Hl := hidP hp'
 have Hf := hidP hf
 have HX := hidP hx
 have HY := hidP hy
 clear hp hp' hf hx hy
 have E1 : Hid (∀ W : World, Below w.heap.size w W -> Calls Tryz.prog 132 #[.slice x.rA x.rs.length x.rc, .slice y.rA x.rs.length y.rc] W fun e w' => e = .returned (.bool true) /\ Below W.heap.size W w') := fun W g =>
  Qdm _ _ _ _ x.rs y.rs (by have := Hf.out.rl; omega) (fun z hz => by have := Hf.out.ri z hz; omega) (by have := Hp.out; simp only [KC.p, PK.mk.injEq] at this; exact this.1) W (HX.out.below g).ra (HX.out.below g).re (HY.out.below g).ra (HY.out.below g).re
 have E2 : Hid (∀ W : World, Below w.heap.size w W -> Calls Tryz.prog 133 #[.slice x.mA x.ms.length x.mc, .slice y.mA x.ms.length y.mc] W fun e w' => e = .returned (.bool true) /\ Below W.heap.size W w') := fun W g =>
  Qcj _ _ _ _ x.ms y.ms (by have := Hf.out.ml; omega) (fun z hz => by have := Hf.out.mi z hz; omega) (by have := Hp.out; simp only [KC.p, PK.mk.injEq] at this; exact this.2.1) W (HX.out.below g).ma (HX.out.below g).me (HY.out.below g).ma (HY.out.below g).me
 have E3 : Hid (∀ W : World, Below w.heap.size w W -> Calls Tryz.prog 134 #[.slice x.gA x.gs.length x.gc, .slice y.gA x.gs.length y.gc] W fun e w' => e = .returned (.bool true) /\ Below W.heap.size W w') := fun W g =>
  Qcl _ _ _ _ x.gs y.gs (by have := Hf.out.gl; omega) (fun z hz => by have := Hf.out.gi z hz; omega) (by have := Hp.out; simp only [KC.p, PK.mk.injEq] at this; exact this.2.2.1) W (HX.out.below g).ga (HX.out.below g).ge (HY.out.below g).ga (HY.out.below g).ge
 have E4 : Hid (∀ W : World, Below w.heap.size w W -> Calls Tryz.prog 46 #[.slice x.dA x.ds.length x.dc, .slice y.dA x.ds.length y.dc] W fun e w' => e = .returned (.bool true) /\ Below W.heap.size W w') := fun W g =>
  Qau _ _ _ _ x.ds (by have := Hf.out.dl; omega) W (HX.out.below g).da (by have h1 := (HY.out.below g).da; rw [Hl.out.2.2.2.2.1] at h1; exact h1)
 have E5 : Hid (∀ W : World, Below w.heap.size w W -> Calls Tryz.prog 135 #[.slice x.lA x.ls.length x.lc, .slice y.lA x.ls.length y.lc] W fun e w' => e = .returned (.bool true) /\ Below W.heap.size W w') := fun W g =>
  Qb1 _ _ _ _ x.ls (by have := Hf.out.ll; omega) W (HX.out.below g).la (by have h1 := (HY.out.below g).la; rw [Hl.out.2.2.2.2.2] at h1; exact h1)
 go_enter Tryz.func104, Tryz.ntmps104
 go_wp2_with fail
 have p0 : Blk ((w.alloc (.cells #[.slice x.rA x.rs.length x.rc, .slice x.mA x.ms.length x.mc, .slice x.gA x.gs.length x.gc, .int .i64 x.time, .slice x.dA x.ds.length x.dc, .slice x.lA x.ls.length x.lc] 60)).alloc (.cells #[.slice y.rA x.rs.length y.rc, .slice y.mA x.ms.length y.mc, .slice y.gA x.gs.length y.gc, .int .i64 x.time, .slice y.dA x.ds.length y.dc, .slice y.lA x.ls.length y.lc] 60)) w.heap.size 60 #[.slice x.rA x.rs.length x.rc, .slice x.mA x.ms.length x.mc, .slice x.gA x.gs.length x.gc, .int .i64 x.time, .slice x.dA x.ds.length x.dc, .slice x.lA x.ls.length x.lc] := (Blk.new w _ _).alloc _
 have r0 : Blk ((w.alloc (.cells #[.slice x.rA x.rs.length x.rc, .slice x.mA x.ms.length x.mc, .slice x.gA x.gs.length x.gc, .int .i64 x.time, .slice x.dA x.ds.length x.dc, .slice x.lA x.ls.length x.lc] 60)).alloc (.cells #[.slice y.rA x.rs.length y.rc, .slice y.mA x.ms.length y.mc, .slice y.gA x.gs.length y.gc, .int .i64 x.time, .slice y.dA x.ds.length y.dc, .slice y.lA x.ls.length y.lc] 60)) (w.heap.size + 1) 60 #[.slice y.rA x.rs.length y.rc, .slice y.mA x.ms.length y.mc, .slice y.gA x.gs.length y.gc, .int .i64 x.time, .slice y.dA x.ds.length y.dc, .slice y.lA x.ls.length y.lc] := by have := Blk.new (w.alloc (.cells #[.slice x.rA x.rs.length x.rc, .slice x.mA x.ms.length x.mc, .slice x.gA x.gs.length x.gc, .int .i64 x.time, .slice x.dA x.ds.length x.dc, .slice x.lA x.ls.length x.lc] 60)) 60 #[.slice y.rA x.rs.length y.rc, .slice y.mA x.ms.length y.mc, .slice y.gA x.gs.length y.gc, .int .i64 x.time, .slice y.dA x.ds.length y.dc, .slice y.lA x.ls.length y.lc]; simpa using this
 have B0 : Below w.heap.size w ((w.alloc (.cells #[.slice x.rA x.rs.length x.rc, .slice x.mA x.ms.length x.mc, .slice x.gA x.gs.length x.gc, .int .i64 x.time, .slice x.dA x.ds.length x.dc, .slice x.lA x.ls.length x.lc] 60)).alloc (.cells #[.slice y.rA x.rs.length y.rc, .slice y.mA x.ms.length y.mc, .slice y.gA x.gs.length y.gc, .int .i64 x.time, .slice y.dA x.ds.length y.dc, .slice y.lA x.ls.length y.lc] 60)) := by repeat (first | exact Below.refl _ _ | assumption | refine via0 (by assumption) ?_ | refine Below.drew ?_ | refine Qaa ?_ _)
 refine (E1.out _ B0).mono ?_
 rintro e w1 ⟨rfl, g1⟩
 have p1 := p0.below g1 p0.lt
 have r1 := r0.below g1 r0.lt
 have B1 : Below w.heap.size w w1 := via0 g1 B0
 obtain ⟨u0, u1, u2, u3, u4, u5⟩ := p1.row6
 obtain ⟨v0, v1, v2, v3, v4, v5⟩ := r1.row6
 have q1 := p1.lt
 have t1 := r1.lt
 clear p0 r0 B0 g1
 go_wp2_with fail
 refine (E2.out _ B1).mono ?_
 rintro e w2 ⟨rfl, g2⟩
 have p2 := p1.below g2 p1.lt
 have r2 := r1.below g2 r1.lt
 have B2 : Below w.heap.size w w2 := via0 g2 B1
 clear u0 u1 u2 u3 u4 u5 v0 v1 v2 v3 v4 v5 p1 r1 B1 g2 q1 t1
 obtain ⟨u0, u1, u2, u3, u4, u5⟩ := p2.row6
 obtain ⟨v0, v1, v2, v3, v4, v5⟩ := r2.row6
 have q1 := p2.lt
 have t1 := r2.lt
 go_wp2_with fail
 refine (E3.out _ B2).mono ?_
 rintro e w3 ⟨rfl, g3⟩
 have p3 := p2.below g3 p2.lt
 have r3 := r2.below g3 r2.lt
 have B3 : Below w.heap.size w w3 := via0 g3 B2
 clear u0 u1 u2 u3 u4 u5 v0 v1 v2 v3 v4 v5 p2 r2 B2 g3 q1 t1
 obtain ⟨u0, u1, u2, u3, u4, u5⟩ := p3.row6
 obtain ⟨v0, v1, v2, v3, v4, v5⟩ := r3.row6
 have q1 := p3.lt
 have t1 := r3.lt
 go_wp2_with fail
 refine (E4.out _ B3).mono ?_
 rintro e w4 ⟨rfl, g4⟩
 have p4 := p3.below g4 p3.lt
 have r4 := r3.below g4 r3.lt
 have B4 : Below w.heap.size w w4 := via0 g4 B3
 clear u0 u1 u2 u3 u4 u5 v0 v1 v2 v3 v4 v5 p3 r3 B3 g4 q1 t1
 obtain ⟨u0, u1, u2, u3, u4, u5⟩ := p4.row6
 obtain ⟨v0, v1, v2, v3, v4, v5⟩ := r4.row6
 have q1 := p4.lt
 have t1 := r4.lt
 go_wp2_with fail
 refine (E5.out _ B4).mono ?_
 rintro e w5 ⟨rfl, g5⟩
 have B5 : Below w.heap.size w w5 := via0 g5 B4
 go_wp2
 go_ret
 exact ⟨rfl, B5⟩
def kct (x : KC) : Nat := Qad cR x.rs + Qad cM x.ms + Qad cG x.gs + x.ds.length + x.ls.length * 4
end Go.Proofs.YtddijnmdeabjbaaGreat.Gen
