/-
  A keeper: how it lies, and what the laws' sz, to, eq, mark and held functions of it do. No condition but that its lists have at most 1048576 records in all.
-/
import Derived.Test.YtengolneibbdfaaGreatRowList
import Derived.Test.YtengolneibbdfaaGreatAnsList
import Derived.Deep.RegionHeld3
import Derived.Test.YtengolneibbdfaaGreatBase
import Derived.Test.YtengolneibbdfaaGreatAns
namespace Go.Proofs.YtengolneibbdfaaGreat.Gen
open Go.ChangeShapes Go.WideShapes Go.ChangeAt Go.RowKit Go.Joins Go.Deep Base
set_option linter.unusedVariables false
set_option linter.unusedSimpArgs false
theorem Blk.row6 {W : World} {B : Nat} {t : TypeId} {a b c d e f : Value} (h : Blk W B t #[a, b, c, d, e, f]) : W.cell? ⟨B, 0, none⟩ = some a /\ W.cell? ⟨B, 1, none⟩ = some b /\ W.cell? ⟨B, 2, none⟩ = some c /\ W.cell? ⟨B, 3, none⟩ = some d /\ W.cell? ⟨B, 4, none⟩ = some e /\ W.cell? ⟨B, 5, none⟩ = some f := ⟨h.cell (by rfl), h.cell (by rfl), h.cell (by rfl), h.cell (by rfl), h.cell (by rfl), h.cell (by rfl)⟩
structure KC where
  rA : Option Addr
  rc : Nat
  rs : List RC
  mA : Option Addr
  mc : Nat
  ms : List MC
  gA : Option Addr
  gc : Nat
  gs : List GC
  time : Int
  dA : Option Addr
  dc : Nat
  ds : List Int
  lA : Option Addr
  lc : Nat
  ls : List An
structure PK where
  rs : List PR
  ms : List PM
  gs : List PG
  time : Int
  ds : List Int
  ls : List An
def KC.p (x : KC) : PK := ⟨x.rs.map RC.p, x.ms.map MC.p, x.gs.map GC.p, x.time, x.ds, x.ls⟩
def KC.cells (x : KC) : Array Value := #[.slice x.rA x.rs.length x.rc, .slice x.mA x.ms.length x.mc, .slice x.gA x.gs.length x.gc, .int .i64 x.time, .slice x.dA x.ds.length x.dc, .slice x.lA x.ls.length x.lc]
theorem KC.p_len {x y : KC} (h : y.p = x.p) : y.rs.length = x.rs.length /\ y.ms.length = x.ms.length /\ y.gs.length = x.gs.length /\ y.time = x.time /\ y.ds = x.ds /\ y.ls = x.ls := by
  simp only [KC.p, PK.mk.injEq] at h
  obtain ⟨h1, h2, h3, h4, h5, h6⟩ := h
  exact ⟨by have := congrArg List.length h1; simpa using this, by have := congrArg List.length h2; simpa using this, by have := congrArg List.length h3; simpa using this, h4, h5, h6⟩
structure KAt (w : World) (x : KC) : Prop where
  ra : At w x.rA x.rs
  re : EachR w x.rs
  ma : At w x.mA x.ms
  me : Each w x.ms
  ga : At w x.gA x.gs
  ge : EachG w x.gs
  da : At w x.dA x.ds
  la : At w x.lA x.ls
theorem KAt.below {w w' : World} {x : KC} (h : KAt w x) (g : Below w.heap.size w w') : KAt w' x :=
  ⟨h.ra.below g, h.re.below g, h.ma.below g, h.me.below g, h.ga.below g, h.ge.below g, h.da.below g, h.la.below g⟩
structure KCol (w : World) (x : KC) (S : Nat -> Prop) (col : Nat -> Nat) : Prop where
  r : Own rowP w x.rA x.rs (fun b => S b /\ col b = 1)
  m : Own makP w x.mA x.ms (fun b => S b /\ col b = 2)
  g : Own grpP w x.gA x.gs (fun b => S b /\ col b = 3)
  d : Sub w x.dA x.ds (fun b => S b /\ col b = 4)
  l : Sub w x.lA x.ls (fun b => S b /\ col b = 5)
def KOwn (w : World) (x : KC) (S : Nat -> Prop) : Prop := ∃ col, KCol w x S col
theorem KCol.at {w : World} {x : KC} {S : Nat -> Prop} {col : Nat -> Nat} (h : KCol w x S col) : KAt w x := ⟨h.r.at, rowP_each h.r, h.m.at, makP_each h.m, h.g.at, grpP_each h.g, h.d.at, h.l.at⟩
theorem KOwn.at {w : World} {x : KC} {S : Nat -> Prop} (h : KOwn w x S) : KAt w x := by obtain ⟨_, h⟩ := h; exact h.at
theorem KCol.offp {w w' : World} {x : KC} {S T : Nat -> Prop} {col : Nat -> Nat} (h : KCol w x S col) (k : Offp T w w') (hd : ∀ b, S b -> ¬ T b) : KCol w' x S col :=
  ⟨h.r.offp rowP_firm k (fun b hb => hd b hb.1), h.m.offp makP_firm k (fun b hb => hd b hb.1), h.g.offp grpP_firm k (fun b hb => hd b hb.1), h.d.offp k (fun b hb => hd b hb.1), h.l.offp k (fun b hb => hd b hb.1)⟩
theorem KOwn.offp {w w' : World} {x : KC} {S T : Nat -> Prop} (h : KOwn w x S) (k : Offp T w w') (hd : ∀ b, S b -> ¬ T b) : KOwn w' x S := by obtain ⟨c, h⟩ := h; exact ⟨c, h.offp k hd⟩
theorem KOwn.below {w w' : World} {x : KC} {S : Nat -> Prop} (h : KOwn w x S) (k : Below w.heap.size w w') : KOwn w' x S := h.offp (Offp.of_below (S := fun _ => False) k) (fun _ _ e => e)
theorem KOwn.mono {w : World} {x : KC} {S T : Nat -> Prop} (h : KOwn w x S) (s : ∀ b, S b -> T b) : KOwn w x T := by
  obtain ⟨c, h⟩ := h
  exact ⟨c, h.r.mono (fun b hb => ⟨s b hb.1, hb.2⟩), h.m.mono (fun b hb => ⟨s b hb.1, hb.2⟩), h.g.mono (fun b hb => ⟨s b hb.1, hb.2⟩), h.d.mono (fun b hb => ⟨s b hb.1, hb.2⟩), h.l.mono (fun b hb => ⟨s b hb.1, hb.2⟩)⟩
structure KFit (x : KC) : Prop where
  rl : x.rs.length <= 1048576
  ml : x.ms.length <= 1048576
  gl : x.gs.length <= 1048576
  dl : x.ds.length <= 1048576
  ll : x.ls.length <= 1048576
  ri : ∀ y ∈ x.rs, y.its.length <= 1048576
  mi : ∀ y ∈ x.ms, y.ms.length <= 1048576
  gi : ∀ y ∈ x.gs, y.m.length <= 1048576 /\ y.b.length <= 1048576 /\ y.o.length <= 1048576
  rc : count cR x.rs <= 10000000
  mc : count cM x.ms <= 10000000
  gc : count cG x.gs <= 10000000
set_option maxRecDepth 100000 in
set_option maxHeartbeats 1000000 in
theorem eqKeep_same (x y : KC) (hf : KFit x) (hp : y.p = x.p) (w : World) (hx : KAt w x) (hy : KAt w y) :
    Calls Tryz.prog 42 #[.agg #[.slice x.rA x.rs.length x.rc, .slice x.mA x.ms.length x.mc, .slice x.gA x.gs.length x.gc, .int .i64 x.time, .slice x.dA x.ds.length x.dc, .slice x.lA x.ls.length x.lc], .agg #[.slice y.rA x.rs.length y.rc, .slice y.mA x.ms.length y.mc, .slice y.gA x.gs.length y.gc, .int .i64 x.time, .slice y.dA x.ds.length y.dc, .slice y.lA x.ls.length y.lc]] w fun e w' => e = .returned (.bool true) /\ Below w.heap.size w w' := by
  have hp' := KC.p_len hp
  have Hp := hidP hp
  have Hl := hidP hp'
  have Hf := hidP hf
  have HX := hidP hx
  have HY := hidP hy
  clear hp hp' hf hx hy
  have E1 : Hid (∀ W : World, Below w.heap.size w W -> Calls Tryz.prog 95 #[.slice x.rA x.rs.length x.rc, .slice y.rA x.rs.length y.rc] W fun e w' => e = .returned (.bool true) /\ Below W.heap.size W w') := fun W g =>
    eqRowS_same _ _ _ _ x.rs y.rs (by have := Hf.out.rl; omega) (fun z hz => by have := Hf.out.ri z hz; omega) (by have := Hp.out; simp only [KC.p, PK.mk.injEq] at this; exact this.1) W (HX.out.below g).ra (HX.out.below g).re (HY.out.below g).ra (HY.out.below g).re
  have E2 : Hid (∀ W : World, Below w.heap.size w W -> Calls Tryz.prog 96 #[.slice x.mA x.ms.length x.mc, .slice y.mA x.ms.length y.mc] W fun e w' => e = .returned (.bool true) /\ Below W.heap.size W w') := fun W g =>
    eqMakerS_same _ _ _ _ x.ms y.ms (by have := Hf.out.ml; omega) (fun z hz => by have := Hf.out.mi z hz; omega) (by have := Hp.out; simp only [KC.p, PK.mk.injEq] at this; exact this.2.1) W (HX.out.below g).ma (HX.out.below g).me (HY.out.below g).ma (HY.out.below g).me
  have E3 : Hid (∀ W : World, Below w.heap.size w W -> Calls Tryz.prog 97 #[.slice x.gA x.gs.length x.gc, .slice y.gA x.gs.length y.gc] W fun e w' => e = .returned (.bool true) /\ Below W.heap.size W w') := fun W g =>
    eqGroupS_same _ _ _ _ x.gs y.gs (by have := Hf.out.gl; omega) (fun z hz => by have := Hf.out.gi z hz; omega) (by have := Hp.out; simp only [KC.p, PK.mk.injEq] at this; exact this.2.2.1) W (HX.out.below g).ga (HX.out.below g).ge (HY.out.below g).ga (HY.out.below g).ge
  have E4 : Hid (∀ W : World, Below w.heap.size w W -> Calls Tryz.prog 41 #[.slice x.dA x.ds.length x.dc, .slice y.dA x.ds.length y.dc] W fun e w' => e = .returned (.bool true) /\ Below W.heap.size W w') := fun W g =>
    eqInt_same _ _ _ _ x.ds (by have := Hf.out.dl; omega) W (HX.out.below g).da (by have h1 := (HY.out.below g).da; rw [Hl.out.2.2.2.2.1] at h1; exact h1)
  have E5 : Hid (∀ W : World, Below w.heap.size w W -> Calls Tryz.prog 98 #[.slice x.lA x.ls.length x.lc, .slice y.lA x.ls.length y.lc] W fun e w' => e = .returned (.bool true) /\ Below W.heap.size W w') := fun W g =>
    eqAnswerS_same _ _ _ _ x.ls (by have := Hf.out.ll; omega) W (HX.out.below g).la (by have h1 := (HY.out.below g).la; rw [Hl.out.2.2.2.2.2] at h1; exact h1)
  go_enter Tryz.func42, Tryz.ntmps42
  go_wp2_with fail
  have p0 : Blk ((w.alloc (.cells #[.slice x.rA x.rs.length x.rc, .slice x.mA x.ms.length x.mc, .slice x.gA x.gs.length x.gc, .int .i64 x.time, .slice x.dA x.ds.length x.dc, .slice x.lA x.ls.length x.lc] 55)).alloc (.cells #[.slice y.rA x.rs.length y.rc, .slice y.mA x.ms.length y.mc, .slice y.gA x.gs.length y.gc, .int .i64 x.time, .slice y.dA x.ds.length y.dc, .slice y.lA x.ls.length y.lc] 55)) w.heap.size 55 #[.slice x.rA x.rs.length x.rc, .slice x.mA x.ms.length x.mc, .slice x.gA x.gs.length x.gc, .int .i64 x.time, .slice x.dA x.ds.length x.dc, .slice x.lA x.ls.length x.lc] := (Blk.new w _ _).alloc _
  have r0 : Blk ((w.alloc (.cells #[.slice x.rA x.rs.length x.rc, .slice x.mA x.ms.length x.mc, .slice x.gA x.gs.length x.gc, .int .i64 x.time, .slice x.dA x.ds.length x.dc, .slice x.lA x.ls.length x.lc] 55)).alloc (.cells #[.slice y.rA x.rs.length y.rc, .slice y.mA x.ms.length y.mc, .slice y.gA x.gs.length y.gc, .int .i64 x.time, .slice y.dA x.ds.length y.dc, .slice y.lA x.ls.length y.lc] 55)) (w.heap.size + 1) 55 #[.slice y.rA x.rs.length y.rc, .slice y.mA x.ms.length y.mc, .slice y.gA x.gs.length y.gc, .int .i64 x.time, .slice y.dA x.ds.length y.dc, .slice y.lA x.ls.length y.lc] := by have := Blk.new (w.alloc (.cells #[.slice x.rA x.rs.length x.rc, .slice x.mA x.ms.length x.mc, .slice x.gA x.gs.length x.gc, .int .i64 x.time, .slice x.dA x.ds.length x.dc, .slice x.lA x.ls.length x.lc] 55)) 55 #[.slice y.rA x.rs.length y.rc, .slice y.mA x.ms.length y.mc, .slice y.gA x.gs.length y.gc, .int .i64 x.time, .slice y.dA x.ds.length y.dc, .slice y.lA x.ls.length y.lc]; simpa using this
  have B0 : Below w.heap.size w ((w.alloc (.cells #[.slice x.rA x.rs.length x.rc, .slice x.mA x.ms.length x.mc, .slice x.gA x.gs.length x.gc, .int .i64 x.time, .slice x.dA x.ds.length x.dc, .slice x.lA x.ls.length x.lc] 55)).alloc (.cells #[.slice y.rA x.rs.length y.rc, .slice y.mA x.ms.length y.mc, .slice y.gA x.gs.length y.gc, .int .i64 x.time, .slice y.dA x.ds.length y.dc, .slice y.lA x.ls.length y.lc] 55)) := by repeat (first | exact Below.refl _ _ | assumption | refine via0 (by assumption) ?_ | refine Below.drew ?_ | refine alloc0 ?_ _)
  refine (E1.out _ B0).mono ?_
  rintro e w1 ⟨rfl, g1⟩
  have p1 := p0.below g1 p0.lt
  have r1 := r0.below g1 r0.lt
  have B1 : Below w.heap.size w w1 := via0 g1 B0
  obtain ⟨u0, u1, u2, u3, u4, u5⟩ := p1.row6
  obtain ⟨v0, v1, v2, v3, v4, v5⟩ := r1.row6
  have q1 := p1.lt
  have t1 := r1.lt
  clear p0 r0 B0 g1
  go_wp2_with fail
  refine (E2.out _ B1).mono ?_
  rintro e w2 ⟨rfl, g2⟩
  have p2 := p1.below g2 p1.lt
  have r2 := r1.below g2 r1.lt
  have B2 : Below w.heap.size w w2 := via0 g2 B1
  clear u0 u1 u2 u3 u4 u5 v0 v1 v2 v3 v4 v5 p1 r1 B1 g2 q1 t1
  obtain ⟨u0, u1, u2, u3, u4, u5⟩ := p2.row6
  obtain ⟨v0, v1, v2, v3, v4, v5⟩ := r2.row6
  have q1 := p2.lt
  have t1 := r2.lt
  go_wp2_with fail
  refine (E3.out _ B2).mono ?_
  rintro e w3 ⟨rfl, g3⟩
  have p3 := p2.below g3 p2.lt
  have r3 := r2.below g3 r2.lt
  have B3 : Below w.heap.size w w3 := via0 g3 B2
  clear u0 u1 u2 u3 u4 u5 v0 v1 v2 v3 v4 v5 p2 r2 B2 g3 q1 t1
  obtain ⟨u0, u1, u2, u3, u4, u5⟩ := p3.row6
  obtain ⟨v0, v1, v2, v3, v4, v5⟩ := r3.row6
  have q1 := p3.lt
  have t1 := r3.lt
  go_wp2_with fail
  refine (E4.out _ B3).mono ?_
  rintro e w4 ⟨rfl, g4⟩
  have p4 := p3.below g4 p3.lt
  have r4 := r3.below g4 r3.lt
  have B4 : Below w.heap.size w w4 := via0 g4 B3
  clear u0 u1 u2 u3 u4 u5 v0 v1 v2 v3 v4 v5 p3 r3 B3 g4 q1 t1
  obtain ⟨u0, u1, u2, u3, u4, u5⟩ := p4.row6
  obtain ⟨v0, v1, v2, v3, v4, v5⟩ := r4.row6
  have q1 := p4.lt
  have t1 := r4.lt
  go_wp2_with fail
  refine (E5.out _ B4).mono ?_
  rintro e w5 ⟨rfl, g5⟩
  have B5 : Below w.heap.size w w5 := via0 g5 B4
  go_wp2
  go_ret
  exact ⟨rfl, B5⟩
def kct (x : KC) : Nat := count cR x.rs + count cM x.ms + count cG x.gs + x.ds.length + x.ls.length * 4
def mK (x : KC) (k : Int) : KC :=
  { x with rs := marked mR cR x.rs k, ms := marked mM cM x.ms (k + count cR x.rs), gs := marked mG cG x.gs (k + count cR x.rs + count cM x.ms), ds := marksInt x.ds.length (k + count cR x.rs + count cM x.ms + count cG x.gs), ls := marksAn x.ls.length (k + count cR x.rs + count cM x.ms + count cG x.gs + x.ds.length) }
theorem mark_rows (a : Option Addr) (cap : Nat) (l : List RC) (S : Nat -> Prop) (k : Int) (hk : 1 <= k) (hk' : k <= 50000000) (hc : count cR l <= 50000000) (hl : l.length <= 1048576) (hs : ∀ x ∈ l, x.its.length <= 1048576) (w : World) (h : Own rowP w a l S) :
    Calls Tryz.prog 115 #[.slice a l.length cap, .int .i64 k] w fun e w' => e = .returned (.int .i64 (k + (count cR l : Int))) /\ Offp S w w' /\ Own rowP w' a (marked mR cR l k) S := by
  rcases h with rfl | ⟨b, o, fp, rfl, hS, hf, hO⟩
  . have : Calls Tryz.prog 115 #[.slice a 0 cap, .int .i64 k] w fun e w' => e = .returned (.int .i64 k) /\ w' = w := by
      go_enter Tryz.func115, Tryz.ntmps115
      go_wp2
      go_loopw [1, 5] (fun kk i w' => kk = .int .i64 k /\ i = .int .i64 0 /\ w' = w) (fun _ _ _ => 0)
      case atStart => exact ⟨rfl, rfl, rfl⟩
      case round =>
        obtain ⟨rfl, rfl, rfl⟩ := hrel
        go_wp2
        go_ret
        exact ⟨rfl, rfl⟩
    refine this.mono ?_
    rintro e w' ⟨rfl, rfl⟩
    exact ⟨by simp [count], Offp.refl _ _, .inl rfl⟩
  . refine (markRowS_any b o cap l fp k hk hk' hc hl hs w hO).mono ?_
    rintro e w' ⟨rfl, ko, hO'⟩
    exact ⟨rfl, ko.mono (fun x hx => by rcases hx with rfl | ⟨i, hx⟩; exact hS; exact hf i x hx), .inr ⟨b, o, fp, rfl, hS, hf, hO'⟩⟩
theorem mark_makers (a : Option Addr) (cap : Nat) (l : List MC) (S : Nat -> Prop) (k : Int) (hk : 1 <= k) (hk' : k <= 50000000) (hc : count cM l <= 50000000) (hl : l.length <= 1048576) (hs : ∀ x ∈ l, x.ms.length <= 1048576) (w : World) (h : Own makP w a l S) :
    Calls Tryz.prog 116 #[.slice a l.length cap, .int .i64 k] w fun e w' => e = .returned (.int .i64 (k + (count cM l : Int))) /\ Offp S w w' /\ Own makP w' a (marked mM cM l k) S := by
  rcases h with rfl | ⟨b, o, fp, rfl, hS, hf, hO⟩
  . have : Calls Tryz.prog 116 #[.slice a 0 cap, .int .i64 k] w fun e w' => e = .returned (.int .i64 k) /\ w' = w := by
      go_enter Tryz.func116, Tryz.ntmps116
      go_wp2
      go_loopw [1, 5] (fun kk i w' => kk = .int .i64 k /\ i = .int .i64 0 /\ w' = w) (fun _ _ _ => 0)
      case atStart => exact ⟨rfl, rfl, rfl⟩
      case round =>
        obtain ⟨rfl, rfl, rfl⟩ := hrel
        go_wp2
        go_ret
        exact ⟨rfl, rfl⟩
    refine this.mono ?_
    rintro e w' ⟨rfl, rfl⟩
    exact ⟨by simp [count], Offp.refl _ _, .inl rfl⟩
  . refine (markMakerS_own b o cap l fp k hk hk' hc hl hs w hO).mono ?_
    rintro e w' ⟨rfl, ko, hO'⟩
    exact ⟨rfl, ko.mono (fun x hx => by rcases hx with rfl | ⟨i, hx⟩; exact hS; exact hf i x hx), .inr ⟨b, o, fp, rfl, hS, hf, hO'⟩⟩
theorem mark_groups (a : Option Addr) (cap : Nat) (l : List GC) (S : Nat -> Prop) (k : Int) (hk : 1 <= k) (hk' : k <= 50000000) (hc : count cG l <= 50000000) (hl : l.length <= 1048576) (hs : ∀ x ∈ l, x.m.length <= 1048576 /\ x.b.length <= 1048576 /\ x.o.length <= 1048576) (w : World) (h : Own grpP w a l S) :
    Calls Tryz.prog 117 #[.slice a l.length cap, .int .i64 k] w fun e w' => e = .returned (.int .i64 (k + (count cG l : Int))) /\ Offp S w w' /\ Own grpP w' a (marked mG cG l k) S := by
  rcases h with rfl | ⟨b, o, fp, rfl, hS, hf, hO⟩
  . have : Calls Tryz.prog 117 #[.slice a 0 cap, .int .i64 k] w fun e w' => e = .returned (.int .i64 k) /\ w' = w := by
      go_enter Tryz.func117, Tryz.ntmps117
      go_wp2
      go_loopw [1, 5] (fun kk i w' => kk = .int .i64 k /\ i = .int .i64 0 /\ w' = w) (fun _ _ _ => 0)
      case atStart => exact ⟨rfl, rfl, rfl⟩
      case round =>
        obtain ⟨rfl, rfl, rfl⟩ := hrel
        go_wp2
        go_ret
        exact ⟨rfl, rfl⟩
    refine this.mono ?_
    rintro e w' ⟨rfl, rfl⟩
    exact ⟨by simp [count], Offp.refl _ _, .inl rfl⟩
  . refine (markGroupS_any b o cap l fp k hk hk' hc hl hs w hO).mono ?_
    rintro e w' ⟨rfl, ko, hO'⟩
    exact ⟨rfl, ko.mono (fun x hx => by rcases hx with rfl | ⟨i, hx⟩; exact hS; exact hf i x hx), .inr ⟨b, o, fp, rfl, hS, hf, hO'⟩⟩
theorem mark_answers (a : Option Addr) (cap : Nat) (l : List An) (S : Nat -> Prop) (k : Int) (hk : 1 <= k) (hk' : k <= 100000000) (hl : l.length <= 1048576) (w : World) (h : Sub w a l S) :
    Calls Tryz.prog 118 #[.slice a l.length cap, .int .i64 k] w fun e w' => e = .returned (.int .i64 (k + (l.length : Int) * 4)) /\ Offp S w w' /\ Sub w' a (marksAn l.length k) S := by
  rcases h with rfl | ⟨b, o, rfl, hS, hb, hi, ht⟩
  . have : Calls Tryz.prog 118 #[.slice a 0 cap, .int .i64 k] w fun e w' => e = .returned (.int .i64 k) /\ w' = w := by
      go_enter Tryz.func118, Tryz.ntmps118
      go_wp2
      go_loopw [1, 5] (fun kk i w' => kk = .int .i64 k /\ i = .int .i64 0 /\ w' = w) (fun _ _ _ => 0)
      case atStart => exact ⟨rfl, rfl, rfl⟩
      case round =>
        obtain ⟨rfl, rfl, rfl⟩ := hrel
        go_wp2
        go_ret
        exact ⟨rfl, rfl⟩
    refine this.mono ?_
    rintro e w' ⟨rfl, rfl⟩
    exact ⟨by simp, Offp.refl _ _, .inl rfl⟩
  . refine (markAnswerS_any b o cap l.length k hk hk' hl w hb ht).mono ?_
    rintro e w' ⟨rfl, ko, hin, hth⟩
    exact ⟨rfl, (Offp.of_only ko).mono (fun x e => e ▸ hS), .inr ⟨b, o, rfl, hS, Nat.lt_of_lt_of_le hb ko.size, hin, by rw [marksAn_length]; exact hth⟩⟩
set_option maxRecDepth 100000 in
set_option maxHeartbeats 1000000 in
theorem markKeep_any (x : KC) (hf : KFit x) (S : Nat -> Prop) (k : Int) (hk : 1 <= k) (hk' : k <= 10000000) (w : World) (hlt : ∀ b, S b -> b < w.heap.size) (h : KOwn w x S) :
    Calls Tryz.prog 56 #[.agg #[.slice x.rA x.rs.length x.rc, .slice x.mA x.ms.length x.mc, .slice x.gA x.gs.length x.gc, .int .i64 x.time, .slice x.dA x.ds.length x.dc, .slice x.lA x.ls.length x.lc], .int .i64 k] w fun e w' => e = .returned (.int .i64 (k + (kct x : Int))) /\ Offp S w w' /\ KOwn w' (mK x k) S := by
  obtain ⟨col, h⟩ := h
  have hc1 := hf.rc
  have hc2 := hf.mc
  have hc3 := hf.gc
  have hl4 := hf.dl
  have hl5 := hf.ll
  obtain ⟨z1, hz1⟩ : ∃ z : Int, z = k + (count cR x.rs : Int) := ⟨_, rfl⟩
  obtain ⟨z2, hz2⟩ : ∃ z : Int, z = z1 + (count cM x.ms : Int) := ⟨_, rfl⟩
  obtain ⟨z3, hz3⟩ : ∃ z : Int, z = z2 + (count cG x.gs : Int) := ⟨_, rfl⟩
  have b1 : 1 <= z1 /\ z1 <= 20000000 := by omega
  have b2 : 1 <= z2 /\ z2 <= 30000000 := by omega
  have b3 : 1 <= z3 /\ z3 <= 40000000 := by omega
  have hw : ∀ b, S b -> b ≠ w.heap.size := fun b hb e => by have := hlt b hb; omega
  have Hh := hidP (h.offp (Offp.of_below (S := fun _ => False) (alloc0 (Below.refl _ _) (.cells #[.slice x.rA x.rs.length x.rc, .slice x.mA x.ms.length x.mc, .slice x.gA x.gs.length x.gc, .int .i64 x.time, .slice x.dA x.ds.length x.dc, .slice x.lA x.ls.length x.lc] 55))) (fun _ _ e => e))
  have Hf := hidP hf
  have Hw := hidP hw
  have Hz1 := hidP hz1
  have Hz2 := hidP hz2
  have Hz3 := hidP hz3
  clear h hf hw hz1 hz2 hz3 hc1 hc2 hc3
  go_enter Tryz.func56, Tryz.ntmps56
  go_wp2_with fail
  have p0 : Blk (w.alloc (.cells #[.slice x.rA x.rs.length x.rc, .slice x.mA x.ms.length x.mc, .slice x.gA x.gs.length x.gc, .int .i64 x.time, .slice x.dA x.ds.length x.dc, .slice x.lA x.ls.length x.lc] 55)) w.heap.size 55 #[.slice x.rA x.rs.length x.rc, .slice x.mA x.ms.length x.mc, .slice x.gA x.gs.length x.gc, .int .i64 x.time, .slice x.dA x.ds.length x.dc, .slice x.lA x.ls.length x.lc] := Blk.new w _ _
  have o0 : Offp S w (w.alloc (.cells #[.slice x.rA x.rs.length x.rc, .slice x.mA x.ms.length x.mc, .slice x.gA x.gs.length x.gc, .int .i64 x.time, .slice x.dA x.ds.length x.dc, .slice x.lA x.ls.length x.lc] 55)) := Offp.of_below (alloc0 (Below.refl _ _) _)
  refine (mark_rows _ _ _ _ k hk (by omega) (by have := Hf.out.rc; omega) Hf.out.rl Hf.out.ri _ Hh.out.r).mono ?_
  rw [← Hz1.out]
  rintro e w1 ⟨rfl, k1, t1⟩
  have p1 := p0.offp k1 (fun e => Hw.out _ e.1 rfl)
  have o1 := o0.trans (k1.mono (fun b hb => hb.1))
  have s2 := Hh.out.m.offp makP_firm k1 (fun b hb e => by have := hb.2; have := e.2; omega)
  have s3 := Hh.out.g.offp grpP_firm k1 (fun b hb e => by have := hb.2; have := e.2; omega)
  have s4 := Hh.out.d.offp k1 (fun b hb e => by have := hb.2; have := e.2; omega)
  have s5 := Hh.out.l.offp k1 (fun b hb e => by have := hb.2; have := e.2; omega)
  have T1 := hidP t1
  have T2 := hidP s2
  have T3 := hidP s3
  have T4 := hidP s4
  have T5 := hidP s5
  have O1 := hidP o1
  clear p0 o0 k1 t1 s2 s3 s4 s5 o1 Hh
  obtain ⟨u0, u1, u2, u3, u4, u5⟩ := p1.row6
  go_wp2_with fail
  refine (mark_makers _ _ _ _ z1 (by omega) (by omega) (by have := Hf.out.mc; omega) Hf.out.ml Hf.out.mi _ T2.out).mono ?_
  rw [← Hz2.out]
  rintro e w2 ⟨rfl, k2, t2⟩
  have p2 := p1.offp k2 (fun e => Hw.out _ e.1 rfl)
  have o2 := O1.out.trans (k2.mono (fun b hb => hb.1))
  have s1 := T1.out.offp rowP_firm k2 (fun b hb e => by have := hb.2; have := e.2; omega)
  have s3 := T3.out.offp grpP_firm k2 (fun b hb e => by have := hb.2; have := e.2; omega)
  have s4 := T4.out.offp k2 (fun b hb e => by have := hb.2; have := e.2; omega)
  have s5 := T5.out.offp k2 (fun b hb e => by have := hb.2; have := e.2; omega)
  clear T1 T2 T3 T4 T5 O1 p1 u0 u1 u2 u3 u4 u5
  have T1 := hidP s1
  have T2 := hidP t2
  have T3 := hidP s3
  have T4 := hidP s4
  have T5 := hidP s5
  have O1 := hidP o2
  clear k2 t2 s1 s3 s4 s5 o2
  obtain ⟨u0, u1, u2, u3, u4, u5⟩ := p2.row6
  go_wp2_with fail
  refine (mark_groups _ _ _ _ z2 (by omega) (by omega) (by have := Hf.out.gc; omega) Hf.out.gl Hf.out.gi _ T3.out).mono ?_
  rw [← Hz3.out]
  rintro e w3 ⟨rfl, k3, t3⟩
  have p3 := p2.offp k3 (fun e => Hw.out _ e.1 rfl)
  have o3 := O1.out.trans (k3.mono (fun b hb => hb.1))
  have s1 := T1.out.offp rowP_firm k3 (fun b hb e => by have := hb.2; have := e.2; omega)
  have s2 := T2.out.offp makP_firm k3 (fun b hb e => by have := hb.2; have := e.2; omega)
  have s4 := T4.out.offp k3 (fun b hb e => by have := hb.2; have := e.2; omega)
  have s5 := T5.out.offp k3 (fun b hb e => by have := hb.2; have := e.2; omega)
  clear T1 T2 T3 T4 T5 O1 p2 u0 u1 u2 u3 u4 u5
  have T1 := hidP s1
  have T2 := hidP s2
  have T3 := hidP t3
  have T4 := hidP s4
  have T5 := hidP s5
  have O1 := hidP o3
  clear k3 t3 s1 s2 s4 s5 o3
  obtain ⟨u0, u1, u2, u3, u4, u5⟩ := p3.row6
  go_wp2_with fail
  refine (mark_ints _ _ _ _ z3 (by omega) (by omega) (by omega) _ T4.out).mono ?_
  rintro e w4 ⟨rfl, k4, t4⟩
  have p4 := p3.offp k4 (fun e => Hw.out _ e.1 rfl)
  have o4 := O1.out.trans (k4.mono (fun b hb => hb.1))
  have s1 := T1.out.offp rowP_firm k4 (fun b hb e => by have := hb.2; have := e.2; omega)
  have s2 := T2.out.offp makP_firm k4 (fun b hb e => by have := hb.2; have := e.2; omega)
  have s3 := T3.out.offp grpP_firm k4 (fun b hb e => by have := hb.2; have := e.2; omega)
  have s5 := T5.out.offp k4 (fun b hb e => by have := hb.2; have := e.2; omega)
  clear T1 T2 T3 T4 T5 O1 p3 u0 u1 u2 u3 u4 u5
  have T1 := hidP s1
  have T2 := hidP s2
  have T3 := hidP s3
  have T4 := hidP t4
  have T5 := hidP s5
  have O1 := hidP o4
  clear k4 t4 s1 s2 s3 s5 o4
  obtain ⟨u0, u1, u2, u3, u4, u5⟩ := p4.row6
  go_wp2_with fail
  refine (mark_answers _ _ _ _ (z3 + (x.ds.length : Int)) (by omega) (by omega) (by omega) _ T5.out).mono ?_
  rintro e w5 ⟨rfl, k5, t5⟩
  have o5 := hidP (O1.out.trans (k5.mono (fun b hb => hb.1)))
  have s1 := hidP (T1.out.offp rowP_firm k5 (fun b hb e => by have := hb.2; have := e.2; omega))
  have s2 := hidP (T2.out.offp makP_firm k5 (fun b hb e => by have := hb.2; have := e.2; omega))
  have s3 := hidP (T3.out.offp grpP_firm k5 (fun b hb e => by have := hb.2; have := e.2; omega))
  have s4 := hidP (T4.out.offp k5 (fun b hb e => by have := hb.2; have := e.2; omega))
  have s5 := hidP t5
  clear u0 u1 u2 u3 u4 u5 k5 t5
  go_wp2
  go_ret
  have hz1 := Hz1.out
  have hz2 := Hz2.out
  have hz3 := Hz3.out
  have e : z3 + (x.ds.length : Int) + (x.ls.length : Int) * 4 = k + (kct x : Int) := by simp only [kct]; omega
  refine ⟨by rw [← e]; rfl, o5.out, col, ?_⟩
  subst hz3
  subst hz2
  subst hz1
  exact ⟨s1.out, s2.out, s3.out, s4.out, s5.out⟩
set_option maxRecDepth 100000 in
set_option maxHeartbeats 1000000 in
theorem heldKeep_any (x : KC) (hf : KFit x) (k : Int) (hk : 1 <= k) (hk' : k <= 10000000) (w : World) (h : KAt w (mK x k)) :
    Calls Tryz.prog 63 #[.agg #[.slice x.rA x.rs.length x.rc, .slice x.mA x.ms.length x.mc, .slice x.gA x.gs.length x.gc, .int .i64 x.time, .slice x.dA x.ds.length x.dc, .slice x.lA x.ls.length x.lc], .int .i64 k] w fun e w' => e = .returned (.int .i64 (k + (kct x : Int))) /\ Below w.heap.size w w' := by
  have hc1 := hf.rc
  have hc2 := hf.mc
  have hc3 := hf.gc
  have hl4 := hf.dl
  have hl5 := hf.ll
  obtain ⟨z1, hz1⟩ : ∃ z : Int, z = k + (count cR x.rs : Int) := ⟨_, rfl⟩
  obtain ⟨z2, hz2⟩ : ∃ z : Int, z = z1 + (count cM x.ms : Int) := ⟨_, rfl⟩
  obtain ⟨z3, hz3⟩ : ∃ z : Int, z = z2 + (count cG x.gs : Int) := ⟨_, rfl⟩
  have b1 : 1 <= z1 /\ z1 <= 20000000 := by omega
  have b2 : 1 <= z2 /\ z2 <= 30000000 := by omega
  have b3 : 1 <= z3 /\ z3 <= 40000000 := by omega
  have Hh : Hid ((At w x.rA (marked mR cR x.rs k) /\ EachR w (marked mR cR x.rs k)) /\ (At w x.mA (marked mM cM x.ms z1) /\ Each w (marked mM cM x.ms z1)) /\ (At w x.gA (marked mG cG x.gs z2) /\ EachG w (marked mG cG x.gs z2)) /\ At w x.dA (marksInt x.ds.length z3) /\ At w x.lA (marksAn x.ls.length (z3 + x.ds.length))) := by
    subst hz3; subst hz2; subst hz1
    exact ⟨⟨h.ra, h.re⟩, ⟨h.ma, h.me⟩, ⟨h.ga, h.ge⟩, h.da, h.la⟩
  have Hf := hidP hf
  have Hz1 := hidP hz1
  have Hz2 := hidP hz2
  have Hz3 := hidP hz3
  clear h hf hz1 hz2 hz3 hc1 hc2 hc3
  have n1 : ¬ z1 < 0 := by omega
  have n2 : ¬ z2 < 0 := by omega
  have n3 : ¬ z3 < 0 := by omega
  have n4 : ¬ z3 + (x.ds.length : Int) < 0 := by omega
  have n5 : ¬ z3 + (x.ds.length : Int) + (x.ls.length : Int) * 4 < 0 := by omega
  go_enter Tryz.func63, Tryz.ntmps63
  go_wp2_with fail
  have p0 : Blk (w.alloc (.cells #[.slice x.rA x.rs.length x.rc, .slice x.mA x.ms.length x.mc, .slice x.gA x.gs.length x.gc, .int .i64 x.time, .slice x.dA x.ds.length x.dc, .slice x.lA x.ls.length x.lc] 55)) w.heap.size 55 #[.slice x.rA x.rs.length x.rc, .slice x.mA x.ms.length x.mc, .slice x.gA x.gs.length x.gc, .int .i64 x.time, .slice x.dA x.ds.length x.dc, .slice x.lA x.ls.length x.lc] := Blk.new w _ _
  have B0 : Below w.heap.size w (w.alloc (.cells #[.slice x.rA x.rs.length x.rc, .slice x.mA x.ms.length x.mc, .slice x.gA x.gs.length x.gc, .int .i64 x.time, .slice x.dA x.ds.length x.dc, .slice x.lA x.ls.length x.lc] 55)) := alloc0 (Below.refl _ _) _
  refine (heldRowS_any _ _ x.rs k hk (by omega) (by have := Hf.out.rc; omega) Hf.out.rl Hf.out.ri _ (Hh.out.1.1.below B0) (Hh.out.1.2.below B0)).mono ?_
  rw [← Hz1.out]
  rintro e w1 ⟨rfl, g1⟩
  have p1 := p0.below g1 p0.lt
  have B1 : Below w.heap.size w w1 := via0 g1 B0
  clear p0 B0 g1
  obtain ⟨u0, u1, u2, u3, u4, u5⟩ := p1.row6
  go_wp2_with fail
  refine (heldMakerS_any _ _ x.ms z1 (by omega) (by omega) (by have := Hf.out.mc; omega) Hf.out.ml Hf.out.mi _ (Hh.out.2.1.1.below B1) (Hh.out.2.1.2.below B1)).mono ?_
  rw [← Hz2.out]
  rintro e w2 ⟨rfl, g2⟩
  have p2 := p1.below g2 p1.lt
  have B2 : Below w.heap.size w w2 := via0 g2 B1
  clear p1 B1 g2 u0 u1 u2 u3 u4 u5
  obtain ⟨u0, u1, u2, u3, u4, u5⟩ := p2.row6
  go_wp2_with fail
  refine (heldGroupS_any _ _ x.gs z2 (by omega) (by omega) (by have := Hf.out.gc; omega) Hf.out.gl Hf.out.gi _ (Hh.out.2.2.1.1.below B2) (Hh.out.2.2.1.2.below B2)).mono ?_
  rw [← Hz3.out]
  rintro e w3 ⟨rfl, g3⟩
  have p3 := p2.below g3 p2.lt
  have B3 : Below w.heap.size w w3 := via0 g3 B2
  clear p2 B2 g3 u0 u1 u2 u3 u4 u5
  obtain ⟨u0, u1, u2, u3, u4, u5⟩ := p3.row6
  go_wp2_with fail
  refine (heldInt_any _ _ x.ds.length z3 (by omega) (by omega) (by omega) _ (at_zero (Hh.out.2.2.2.1.below B3))).mono ?_
  rintro e w4 ⟨rfl, g4⟩
  have p4 := p3.below g4 p3.lt
  have B4 : Below w.heap.size w w4 := via0 g4 B3
  clear p3 B3 g4 u0 u1 u2 u3 u4 u5
  obtain ⟨u0, u1, u2, u3, u4, u5⟩ := p4.row6
  go_wp2_with fail
  refine (heldAnswerS_any _ _ x.ls.length (z3 + (x.ds.length : Int)) (by omega) (by omega) (by omega) _ ((Hh.out.2.2.2.2.below B4).imp (fun e => by have := congrArg List.length e; rw [marksAn_length] at this; simpa using this) id)).mono ?_
  rintro e w5 ⟨rfl, g5⟩
  have B5 : Below w.heap.size w w5 := via0 g5 B4
  clear p4 B4 g5 u0 u1 u2 u3 u4 u5
  go_wp2
  go_ret
  have hz1 := Hz1.out
  have hz2 := Hz2.out
  have hz3 := Hz3.out
  have e : z3 + (x.ds.length : Int) + (x.ls.length : Int) * 4 = k + (kct x : Int) := by simp only [kct]; omega
  exact ⟨by rw [← e]; rfl, B5⟩
end Go.Proofs.YtengolneibbdfaaGreat.Gen

/-
  A region that draws its order, and whose last operation (a store, as a rule) waits for all others: what its loads read need hold up to that operation alone, so that it may write the very cells that they read. No condition.
-/
namespace Go.Proofs.YtengolneibbdfaaGreat.Gen
set_option linter.unusedVariables false
section
variable {P : Program} {ops : Array Oper} {Q : Exit -> Act -> World -> Prop} {md : Region.Mode} {S : World -> Prop} {z : Nat}
def waitsForAll (md : Region.Mode) (ops : Array Oper) (z : Nat) : Bool :=
  match ops[z]? with
  | none => false
  | some o => (List.range ops.size).all fun j => j == z || o.after.any fun e => Region.binds md e && e.on == j
theorem not_last {i : Nat} {L : Array Bool} (hz : waitsForAll md ops z = true) (hi : i ∈ Region.ready md ops L) (hne : i ≠ z) : z ∉ Region.ready md ops L := fun h => by
  obtain ⟨hu, oi, hoi, _⟩ := mem_ready.1 hi
  obtain ⟨_, oz, hoz, hall⟩ := mem_ready.1 h
  have hlt : i < ops.size := (Array.getElem?_eq_some_iff.1 hoi).1
  simp only [waitsForAll, hoz, List.all_eq_true, List.mem_range, Bool.or_eq_true, beq_iff_eq] at hz
  have h1 := (hz i hlt).resolve_left hne
  obtain ⟨e, he, hb⟩ := Array.any_eq_true'.1 h1
  simp only [Bool.and_eq_true, beq_iff_eq] at hb
  have h2 := hall e he hb.1
  rw [hb.2] at h2
  rcases Nat.lt_or_ge i L.size with h' | h'
  . simp [h'] at hu h2
    rw [hu] at h2; cases h2
  . simp [Array.getElem?_eq_none h'] at h2
def anyUpTo (P : Program) (md : Region.Mode) (ops : Array Oper) (Q : Exit -> Act -> World -> Prop) (S : World -> Prop) (z : Nat) : Nat -> Array Bool -> Act -> World -> Prop
  | 0, L, a, w => Region.ready md ops L = [] /\ Q .normal a w
  | n + 1, L, a, w => (Region.ready md ops L = [] -> Q .normal a w) /\
    ∀ i ∈ Region.ready md ops L, wpOp P ops Q i (fun a' w' => (i = z ∨ S w') /\ anyUpTo P md ops Q S z n (L.setIfInBounds i true) a' w') a w
theorem any_of_upTo (n : Nat) : ∀ (L : Array Bool) (a : Act) (w : World), anyUpTo P md ops Q S z n L a w -> wpAny P md ops Q n L a w := by
  induction n with
  | zero => exact fun _ _ _ h => h
  | succ n ih => exact fun L a w h => ⟨h.1, fun i hi => wpOp_mono (fun a' w' g => ih _ a' w' g.2) (h.2 i hi)⟩
theorem upTo_take {i : Nat} {oi : Oper} {v : Value} (hz : waitsForAll md ops z = true) (hi : ops[i]? = some oi) (hs : Region.noSelect ops = true) (hQ : ∀ c a w, Q (.panic c) (a.put oi.dst v) w -> Q (.panic c) a w) (hiz : i ≠ z) (n : Nat) :
    ∀ (L : Array Bool) (a : Act) (w : World), Region.free md ops L i = true -> i ∈ Region.ready md ops L -> YieldsIf P ops S oi v a -> S w ->
      anyUpTo P md ops Q S z n (L.setIfInBounds i true) (a.put oi.dst v) w -> anyUpTo P md ops Q S z (n + 1) L a w := by
  have sel : ∀ (j : Nat) (o : Oper) cs b, ops[j]? = some o -> o.op ≠ .select cs b := Region.noSelect_spec hs
  suffices key : ∀ (L : Array Bool) (a : Act) (w : World), (∀ j oj, ops[j]? = some oj -> j ≠ i -> L.getD j true = false -> (∀ e ∈ oj.after, Region.binds md e = true -> e.on ≠ i) -> oi.apart ops oj = true) ->
      i ∈ Region.ready md ops L -> YieldsIf P ops S oi v a -> S w -> anyUpTo P md ops Q S z n (L.setIfInBounds i true) (a.put oi.dst v) w -> anyUpTo P md ops Q S z (n + 1) L a w from
    fun L a w hf hr hy hS H => key L a w (Region.free_spec hi hf) hr hy hS H
  induction n with
  | zero =>
    intro L a w _ hr hy hS H
    constructor
    . intro h; rw [h] at hr; exact absurd hr (List.not_mem_nil)
    . intro j hj
      rcases Decidable.em (j = i) with e | e
      . subst e; exact hy.wpOp hi hS ⟨.inr hS, H⟩
      . have g := ready_mono hj e
        rw [H.1] at g
        exact absurd g (List.not_mem_nil)
  | succ n ih =>
    intro L a w hfr hr hy hS H
    constructor
    . intro h; rw [h] at hr; exact absurd hr (List.not_mem_nil)
    . intro j hj
      rcases Decidable.em (j = i) with e | e
      . subst e; exact hy.wpOp hi hS ⟨.inr hS, H⟩
      . obtain ⟨hun, oj, hoj, hwait⟩ := mem_ready.1 hj
        have hjz : j ≠ z := fun h => by subst h; exact not_last hz hr hiz hj
        have iun := (mem_ready.1 hr).1
        have hno : ∀ d ∈ oj.after, Region.binds md d = true -> d.on ≠ i := fun d hd hb q => by
          have g := hwait d hd hb
          rw [q] at g
          rcases Nat.lt_or_ge i L.size with k | k
          . simp [k] at iun g
            rw [iun] at g; cases g
          . simp [Array.getElem?_eq_none k] at g
        have step := wpOp_putIf hoj (hfr j oj hoj e hun hno) (fun cs b => sel i oi cs b hi) (fun cs b => sel j oj cs b hoj) hQ hy (H.2 j (ready_mono hj e))
        refine wpOp_mono (fun a' w' g => ?_) step
        have hS' : S w' := g.2.1.resolve_left hjz
        refine ⟨.inr hS', ih _ a' w' (fun k ok hk hki hu hn => ?_) (ready_mono hr (Ne.symm e)) g.1 hS' ?_⟩
        . refine hfr k ok hk hki ?_ hn
          rcases Decidable.em (j = k) with q | q
          . subst q; exact hun
          . rwa [getD_set_ne true q] at hu
        . have := g.2.2
          rwa [Array.setIfInBounds_comm _ _ (Ne.symm e)] at this
theorem upTo_taken {i : Nat} {oi : Oper} {v : Value} {n : Nat} {L : Array Bool} {a : Act} {w : World} (hz : waitsForAll md ops z = true) (hi : ops[i]? = some oi) (hs : Region.noSelect ops = true) (hiz : i ≠ z)
    (hf : Region.free md ops L i = true) (hr : (Region.ready md ops L).contains i = true) (hQ : ∀ c a w, Q (.panic c) (a.put oi.dst v) w -> Q (.panic c) a w) (hy : YieldsIf P ops S oi v a) (hS : S w)
    (h : anyUpTo P md ops Q S z n (L.setIfInBounds i true) (a.put oi.dst v) w) : anyUpTo P md ops Q S z (n + 1) L a w :=
  upTo_take hz hi hs hQ hiz n L a w hf (by simpa using hr) hy hS h
theorem upTo_next {i : Nat} {o : Oper} {n : Nat} {L : Array Bool} {a : Act} {w : World} (hr : Region.ready md ops L = [i]) (ho : ops[i]? = some o)
    (h : ∀ K' : Act -> World -> Prop, Shut (∀ a w, (i = z ∨ S w) -> anyUpTo P md ops Q S z n (L.setIfInBounds i true) a w -> K' a w) -> if Region.wanted o (yielded ops a.tmps) = true then Oper.wp P o a w K' Q else K' (a.put o.dst undef) w) :
    anyUpTo P md ops Q S z (n + 1) L a w := by
  refine ⟨fun h0 => (by rw [hr] at h0; cases h0), fun j hj => ?_⟩
  rw [hr] at hj
  obtain rfl : j = i := by simpa using hj
  exact wpOp_step ho (fun K' hK => h K' (fun a w h1 h2 => hK a w ⟨h1, h2⟩))
theorem upTo_done {L : Array Bool} {a : Act} {w : World} (hr : Region.ready md ops L = []) (h : Q .normal a w) : ∀ n, anyUpTo P md ops Q S z n L a w
  | 0 => ⟨hr, h⟩
  | _ + 1 => ⟨fun _ => h, by rw [hr]; simp⟩
theorem region_upTo {id : Nat} {a : Act} {w : World} (z : Nat) (S : World -> Prop) (hm : P.follows .mixedOrders = true) (h : anyUpTo P .any ops Q S z ops.size (Array.replicate ops.size false) a w.drew) : (Code.region id ops true).wp P Q a w :=
  wp_region_any hm (any_of_upTo _ _ _ _ h)
end
end Go.Proofs.YtengolneibbdfaaGreat.Gen

/-
  Short names for the steps of a region that draws its order: no condition.
-/
namespace Go.Proofs.YtengolneibbdfaaGreat
open Gen
set_option linter.unusedVariables false
theorem zG {α : Type} : (∀ (l : List α) (i : Nat) (h : i < l.toArray.size), l.toArray[i] = l[i]'(by simpa using h)) /\ (∀ (a : α) (l : List α) (i : Nat) (h : i + 1 < (a :: l).length), (a :: l)[i + 1] = l[i]'(by simpa using h)) /\ (∀ (a : α) (l : List α) (h : 0 < (a :: l).length), (a :: l)[0] = a) := ⟨fun _ _ _ => rfl, fun _ _ _ _ => rfl, fun _ _ _ => rfl⟩
theorem zY {α : Type} : (∀ (l : List α) (i : Nat) (h : i < l.toArray.size), l.toArray[i] = l[i]'(by simpa using h)) /\ (∀ (a : α) (l : List α) (i : Nat) (h : i + 1 < (a :: l).length), (a :: l)[i + 1] = l[i]'(by simpa using h)) /\ (∀ (a : α) (l : List α) (h : 0 < (a :: l).length), (a :: l)[0] = a) /\ (∀ (l : List α) (i : Nat) (v : α), l.toArray.setIfInBounds i v = (l.set i v).toArray) /\ (∀ (a v : α) (l : List α), (a :: l).set 0 v = v :: l) /\ (∀ (a v : α) (l : List α) (i : Nat), (a :: l).set (i + 1) v = a :: l.set i v) := ⟨fun _ _ _ => rfl, fun _ _ _ _ => rfl, fun _ _ _ => rfl, fun _ _ _ => by simp, fun _ _ _ => rfl, fun _ _ _ _ => rfl⟩
theorem zX : (∀ (a : Act) (v : Value), a.put none v = a) /\ (∀ (a : Act) (t : Tmp) (v : Value), a.put (some t) v = { a with tmps := a.tmps.setIfInBounds t v }) := ⟨fun _ _ => rfl, fun _ _ _ => rfl⟩
section
variable {P : Program} {md : Region.Mode} {ops : Array Oper} {Q : Go.Exit -> Act -> World -> Prop} {S : World -> Prop} {fuel : Nat} {listed : Array Bool} {a : Act} {w : World}
def ZTk (_ : List Nat) (P : Program) (md : Region.Mode) (ops : Array Oper) (Q : Go.Exit -> Act -> World -> Prop) (S : World -> Prop) (fuel : Nat) (listed : Array Bool) (a : Act) (w : World) : Prop := wpAnyH P md ops Q S fuel listed a w
theorem ztk (is : List Nat) (h : ZTk is P md ops Q S fuel listed a w) : wpAnyH P md ops Q S fuel listed a w := h
theorem zt1 (i : Nat) (h : ZTk [i] P md ops Q S fuel listed a w) : wpAnyH P md ops Q S fuel listed a w := h
theorem zte (h : wpAnyH P md ops Q S fuel listed a w) : ZTk [] P md ops Q S fuel listed a w := h
theorem ztn {i : Nat} {is : List Nat} {oi : Oper} {v : Value} (hi : ops[i]? = some oi := by rfl) (hw : Region.wanted oi (yielded ops a.tmps) = true := by rfl) (hy : ∀ w, S w -> (execOp a.eval oi).run P w = .ok (.value v) w := by (intro w hSw; (try dsimp only at hSw); go_simp<;>with_reducible rfl)) (hS : S w := by assumption) (hs : Region.noSelect ops = true := by kernel_rfl) (hf : Region.free md ops listed i = true := by kernel_rfl) (hr : (Region.ready md ops listed).contains i = true := by kernel_rfl)
    (hQ : ∀ c a w, Q (.panic c) (a.put oi.dst v) w -> Q (.panic c) a w := by exact fun _ _ _ h => h) (h : ZTk is P md ops Q S fuel (listed.setIfInBounds i true) (a.put oi.dst v) w) : ZTk (i :: is) P md ops Q S (fuel + 1) listed a w := wpAnyH_take hi hs hf hr hQ (.inl ⟨hw, hy⟩) hS h
theorem ztu {i : Nat} {is : List Nat} {oi : Oper} (hi : ops[i]? = some oi := by rfl) (hw : Region.wanted oi (yielded ops a.tmps) = false := by rfl) (hS : S w := by assumption) (hs : Region.noSelect ops = true := by kernel_rfl) (hf : Region.free md ops listed i = true := by kernel_rfl) (hr : (Region.ready md ops listed).contains i = true := by kernel_rfl)
    (hQ : ∀ c a w, Q (.panic c) (a.put oi.dst undef) w -> Q (.panic c) a w := by exact fun _ _ _ h => h) (h : ZTk is P md ops Q S fuel (listed.setIfInBounds i true) (a.put oi.dst undef) w) : ZTk (i :: is) P md ops Q S (fuel + 1) listed a w := wpAnyH_take hi hs hf hr hQ (.inr ⟨hw, rfl⟩) hS h
theorem zR1 (i : Nat) {o : Oper} (h : ∀ K' : Act -> World -> Prop, Shut (∀ a w, S w -> (S w -> wpAnyH P md ops Q S fuel (listed.setIfInBounds i true) a w) -> K' a w) -> if Region.wanted o (yielded ops a.tmps) = true then Oper.wp P o a w K' Q else K' (a.put o.dst undef) w) (ho : ops[i]? = some o := by rfl) (hr : Region.ready md ops listed = [i] := by kernel_rfl) : wpAnyH P md ops Q S (fuel + 1) listed a w := wpAnyH_ready hr (by simp) (.cons ho h .nil)
theorem zR2 (i j : Nat) {o o2 : Oper} (h : ∀ K' : Act -> World -> Prop, Shut (∀ a w, S w -> (S w -> wpAnyH P md ops Q S fuel (listed.setIfInBounds i true) a w) -> K' a w) -> if Region.wanted o (yielded ops a.tmps) = true then Oper.wp P o a w K' Q else K' (a.put o.dst undef) w) (h2 : ∀ K' : Act -> World -> Prop, Shut (∀ a w, S w -> (S w -> wpAnyH P md ops Q S fuel (listed.setIfInBounds j true) a w) -> K' a w) -> if Region.wanted o2 (yielded ops a.tmps) = true then Oper.wp P o2 a w K' Q else K' (a.put o2.dst undef) w)
    (ho : ops[i]? = some o := by rfl) (ho2 : ops[j]? = some o2 := by rfl) (hr : Region.ready md ops listed = [i, j] := by kernel_rfl) : wpAnyH P md ops Q S (fuel + 1) listed a w := wpAnyH_ready hr (by simp) (.cons ho h (.cons ho2 h2 .nil))
theorem zR3 (i j k : Nat) {o o2 o3 : Oper} (h : ∀ K' : Act -> World -> Prop, Shut (∀ a w, S w -> (S w -> wpAnyH P md ops Q S fuel (listed.setIfInBounds i true) a w) -> K' a w) -> if Region.wanted o (yielded ops a.tmps) = true then Oper.wp P o a w K' Q else K' (a.put o.dst undef) w) (h2 : ∀ K' : Act -> World -> Prop, Shut (∀ a w, S w -> (S w -> wpAnyH P md ops Q S fuel (listed.setIfInBounds j true) a w) -> K' a w) -> if Region.wanted o2 (yielded ops a.tmps) = true then Oper.wp P o2 a w K' Q else K' (a.put o2.dst undef) w)
    (h3 : ∀ K' : Act -> World -> Prop, Shut (∀ a w, S w -> (S w -> wpAnyH P md ops Q S fuel (listed.setIfInBounds k true) a w) -> K' a w) -> if Region.wanted o3 (yielded ops a.tmps) = true then Oper.wp P o3 a w K' Q else K' (a.put o3.dst undef) w)
    (ho : ops[i]? = some o := by rfl) (ho2 : ops[j]? = some o2 := by rfl) (ho3 : ops[k]? = some o3 := by rfl) (hr : Region.ready md ops listed = [i, j, k] := by kernel_rfl) : wpAnyH P md ops Q S (fuel + 1) listed a w := wpAnyH_ready hr (by simp) (.cons ho h (.cons ho2 h2 (.cons ho3 h3 .nil)))
theorem zdn (h : Q .normal a w) (hr : Region.ready md ops listed = [] := by kernel_rfl) : wpAnyH P md ops (NoPanic Q) S fuel listed a w := wpAnyH_done hr (NoPanic.normal h) _
end
section
variable {P : Program} {md : Region.Mode} {ops : Array Oper} {Q : Go.Exit -> Act -> World -> Prop} {S : World -> Prop} {z fuel : Nat} {listed : Array Bool} {a : Act} {w : World}
def ZPk (_ : List Nat) (P : Program) (md : Region.Mode) (ops : Array Oper) (Q : Go.Exit -> Act -> World -> Prop) (S : World -> Prop) (z fuel : Nat) (listed : Array Bool) (a : Act) (w : World) : Prop := anyUpTo P md ops Q S z fuel listed a w
theorem zpk (is : List Nat) (h : ZPk is P md ops Q S z fuel listed a w) : anyUpTo P md ops Q S z fuel listed a w := h
theorem zp1 (i : Nat) (h : ZPk [i] P md ops Q S z fuel listed a w) : anyUpTo P md ops Q S z fuel listed a w := h
theorem zpe (h : anyUpTo P md ops Q S z fuel listed a w) : ZPk [] P md ops Q S z fuel listed a w := h
theorem zpn {i : Nat} {is : List Nat} {oi : Oper} {v : Value} (hi : ops[i]? = some oi := by rfl) (hw : Region.wanted oi (yielded ops a.tmps) = true := by rfl) (hy : ∀ w, S w -> (execOp a.eval oi).run P w = .ok (.value v) w := by (intro w hSw; (try dsimp only at hSw); go_simp<;>with_reducible rfl)) (hS : S w := by assumption) (hz : waitsForAll md ops z = true := by kernel_rfl) (hs : Region.noSelect ops = true := by kernel_rfl) (hiz : i ≠ z := by decide) (hf : Region.free md ops listed i = true := by kernel_rfl) (hr : (Region.ready md ops listed).contains i = true := by kernel_rfl)
    (hQ : ∀ c a w, Q (.panic c) (a.put oi.dst v) w -> Q (.panic c) a w := by exact fun _ _ _ h => h) (h : ZPk is P md ops Q S z fuel (listed.setIfInBounds i true) (a.put oi.dst v) w) : ZPk (i :: is) P md ops Q S z (fuel + 1) listed a w := upTo_taken hz hi hs hiz hf hr hQ (.inl ⟨hw, hy⟩) hS h
theorem zpu {i : Nat} {is : List Nat} {oi : Oper} (hi : ops[i]? = some oi := by rfl) (hw : Region.wanted oi (yielded ops a.tmps) = false := by rfl) (hS : S w := by assumption) (hz : waitsForAll md ops z = true := by kernel_rfl) (hs : Region.noSelect ops = true := by kernel_rfl) (hiz : i ≠ z := by decide) (hf : Region.free md ops listed i = true := by kernel_rfl) (hr : (Region.ready md ops listed).contains i = true := by kernel_rfl)
    (hQ : ∀ c a w, Q (.panic c) (a.put oi.dst undef) w -> Q (.panic c) a w := by exact fun _ _ _ h => h) (h : ZPk is P md ops Q S z fuel (listed.setIfInBounds i true) (a.put oi.dst undef) w) : ZPk (i :: is) P md ops Q S z (fuel + 1) listed a w := upTo_taken hz hi hs hiz hf hr hQ (.inr ⟨hw, rfl⟩) hS h
end
end Go.Proofs.YtengolneibbdfaaGreat

/-
  The program's small functions of groups at this seat: copyOf, oneMore, isTooOld. No condition but that lists have at most 1048576 numbers.
-/
namespace Go.Proofs.YtengolneibbdfaaGreat.Gen
open Go.ChangeShapes Go.WideShapes Go.ChangeAt Go.RowKit Go.Joins Go.Deep Base
set_option linter.unusedVariables false
set_option linter.unusedSimpArgs false
structure Mb where
  who : Int
  beat : Int
  has : Bool
instance : Inhabited Mb := ⟨⟨0, 0, false⟩⟩
instance : Cel Mb where
  k := 3
  cs x := [.int .i64 x.who, .int .i64 x.beat, .bool x.has]
  len _ := rfl
  one x u hu := by simp at hu; rcases hu with rfl | rfl | rfl<;>rfl
end Go.Proofs.YtengolneibbdfaaGreat.Gen

/-
  A region that draws its order and stores into cells that its loads read: what the loads read need hold until that store alone, if the store waits for them. Operations that do not look at the memory may come on either side of it. No condition.
-/
namespace Go.Proofs.YtengolneibbdfaaGreat.Gen
set_option linter.unusedVariables false
section
variable {P : Program} {ops : Array Oper} {Q : Exit -> Act -> World -> Prop} {md : Region.Mode} {S : World -> Prop} {z : Nat}
def waitsFor (md : Region.Mode) (ops : Array Oper) (z i : Nat) : Bool :=
  match ops[z]? with
  | none => false
  | some o => o.after.any fun e => Region.binds md e && e.on == i
theorem not_before {i : Nat} {L : Array Bool} (hz : waitsFor md ops z i = true) (hi : i ∈ Region.ready md ops L) : z ∉ Region.ready md ops L := fun h => by
  obtain ⟨hu, oi, hoi, _⟩ := mem_ready.1 hi
  obtain ⟨_, oz, hoz, hall⟩ := mem_ready.1 h
  simp only [waitsFor, hoz] at hz
  obtain ⟨e, he, hb⟩ := Array.any_eq_true'.1 hz
  simp only [Bool.and_eq_true, beq_iff_eq] at hb
  have h2 := hall e he hb.1
  rw [hb.2] at h2
  rcases Nat.lt_or_ge i L.size with h' | h'
  . simp [h'] at hu h2
    rw [hu] at h2; cases h2
  . simp [Array.getElem?_eq_none h'] at h2
theorem getD_self (L : Array Bool) (z : Nat) : (L.setIfInBounds z true).getD z true = true := by
  by_cases h : z < L.size
  . simp [h]
  . simp [h]
def anyTill (P : Program) (md : Region.Mode) (ops : Array Oper) (Q : Exit -> Act -> World -> Prop) (S : World -> Prop) (z : Nat) : Nat -> Array Bool -> Act -> World -> Prop
  | 0, L, a, w => Region.ready md ops L = [] /\ Q .normal a w
  | n + 1, L, a, w => (Region.ready md ops L = [] -> Q .normal a w) /\
    ∀ i ∈ Region.ready md ops L, wpOp P ops Q i (fun a' w' => ((L.setIfInBounds i true).getD z true = true ∨ S w') /\ anyTill P md ops Q S z n (L.setIfInBounds i true) a' w') a w
theorem any_of_till (n : Nat) : ∀ (L : Array Bool) (a : Act) (w : World), anyTill P md ops Q S z n L a w -> wpAny P md ops Q n L a w := by
  induction n with
  | zero => exact fun _ _ _ h => h
  | succ n ih => exact fun L a w h => ⟨h.1, fun i hi => wpOp_mono (fun a' w' g => ih _ a' w' g.2) (h.2 i hi)⟩
theorem till_take {i : Nat} {oi : Oper} {v : Value} (hz : waitsFor md ops z i = true) (hi : ops[i]? = some oi) (hs : Region.noSelect ops = true) (hQ : ∀ c a w, Q (.panic c) (a.put oi.dst v) w -> Q (.panic c) a w) (hiz : i ≠ z) (n : Nat) :
    ∀ (L : Array Bool) (a : Act) (w : World), L.getD z true = false -> Region.free md ops L i = true -> i ∈ Region.ready md ops L -> YieldsIf P ops S oi v a -> S w ->
      anyTill P md ops Q S z n (L.setIfInBounds i true) (a.put oi.dst v) w -> anyTill P md ops Q S z (n + 1) L a w := by
  have sel : ∀ (j : Nat) (o : Oper) cs b, ops[j]? = some o -> o.op ≠ .select cs b := Region.noSelect_spec hs
  suffices key : ∀ (L : Array Bool) (a : Act) (w : World), L.getD z true = false -> (∀ j oj, ops[j]? = some oj -> j ≠ i -> L.getD j true = false -> (∀ e ∈ oj.after, Region.binds md e = true -> e.on ≠ i) -> oi.apart ops oj = true) ->
      i ∈ Region.ready md ops L -> YieldsIf P ops S oi v a -> S w -> anyTill P md ops Q S z n (L.setIfInBounds i true) (a.put oi.dst v) w -> anyTill P md ops Q S z (n + 1) L a w from
    fun L a w h0 hf hr hy hS H => key L a w h0 (Region.free_spec hi hf) hr hy hS H
  induction n with
  | zero =>
    intro L a w _ _ hr hy hS H
    constructor
    . intro h; rw [h] at hr; exact absurd hr (List.not_mem_nil)
    . intro j hj
      rcases Decidable.em (j = i) with e | e
      . subst e; exact hy.wpOp hi hS ⟨.inr hS, H⟩
      . have g := ready_mono hj e
        rw [H.1] at g
        exact absurd g (List.not_mem_nil)
  | succ n ih =>
    intro L a w hL hfr hr hy hS H
    constructor
    . intro h; rw [h] at hr; exact absurd hr (List.not_mem_nil)
    . intro j hj
      rcases Decidable.em (j = i) with e | e
      . subst e; exact hy.wpOp hi hS ⟨.inr hS, H⟩
      . obtain ⟨hun, oj, hoj, hwait⟩ := mem_ready.1 hj
        have hjz : j ≠ z := fun h => by subst h; exact not_before hz hr hj
        have iun := (mem_ready.1 hr).1
        have hno : ∀ d ∈ oj.after, Region.binds md d = true -> d.on ≠ i := fun d hd hb q => by
          have g := hwait d hd hb
          rw [q] at g
          rcases Nat.lt_or_ge i L.size with k | k
          . simp [k] at iun g
            rw [iun] at g; cases g
          . simp [Array.getElem?_eq_none k] at g
        have step := wpOp_putIf hoj (hfr j oj hoj e hun hno) (fun cs b => sel i oi cs b hi) (fun cs b => sel j oj cs b hoj) hQ hy (H.2 j (ready_mono hj e))
        refine wpOp_mono (fun a' w' g => ?_) step
        have hL2 : (L.setIfInBounds j true).getD z true = false := by rw [getD_set_ne true hjz]; exact hL
        have hS' : S w' := g.2.1.resolve_left (by rw [getD_set_ne true hjz, getD_set_ne true hiz, hL]; decide)
        refine ⟨.inr hS', ih _ a' w' hL2 (fun k ok hk hki hu hn => ?_) (ready_mono hr (Ne.symm e)) g.1 hS' ?_⟩
        . refine hfr k ok hk hki ?_ hn
          rcases Decidable.em (j = k) with q | q
          . subst q; exact hun
          . rwa [getD_set_ne true q] at hu
        . have := g.2.2
          rwa [Array.setIfInBounds_comm _ _ (Ne.symm e)] at this
theorem till_taken {i : Nat} {oi : Oper} {v : Value} {n : Nat} {L : Array Bool} {a : Act} {w : World} (hz : waitsFor md ops z i = true) (hi : ops[i]? = some oi) (hs : Region.noSelect ops = true) (hiz : i ≠ z) (h0 : L.getD z true = false)
    (hf : Region.free md ops L i = true) (hr : (Region.ready md ops L).contains i = true) (hQ : ∀ c a w, Q (.panic c) (a.put oi.dst v) w -> Q (.panic c) a w) (hy : YieldsIf P ops S oi v a) (hS : S w)
    (h : anyTill P md ops Q S z n (L.setIfInBounds i true) (a.put oi.dst v) w) : anyTill P md ops Q S z (n + 1) L a w :=
  till_take hz hi hs hQ hiz n L a w h0 hf (by simpa using hr) hy hS h
theorem till_next {i : Nat} {o : Oper} {n : Nat} {L : Array Bool} {a : Act} {w : World} (hr : Region.ready md ops L = [i]) (ho : ops[i]? = some o)
    (h : ∀ K' : Act -> World -> Prop, Shut (∀ a w, (i = z ∨ S w) -> anyTill P md ops Q S z n (L.setIfInBounds i true) a w -> K' a w) -> if Region.wanted o (yielded ops a.tmps) = true then Oper.wp P o a w K' Q else K' (a.put o.dst undef) w) :
    anyTill P md ops Q S z (n + 1) L a w := by
  refine ⟨fun h0 => (by rw [hr] at h0; cases h0), fun j hj => ?_⟩
  rw [hr] at hj
  obtain rfl : j = i := by simpa using hj
  exact wpOp_step ho (fun K' hK => h K' (fun a w h1 h2 => hK a w ⟨h1.imp (fun e => by subst e; exact getD_self _ _) id, h2⟩))
theorem till_done {L : Array Bool} {a : Act} {w : World} (hr : Region.ready md ops L = []) (h : Q .normal a w) : ∀ n, anyTill P md ops Q S z n L a w
  | 0 => ⟨hr, h⟩
  | n + 1 => ⟨fun _ => h, fun i hi => by rw [hr] at hi; exact absurd hi List.not_mem_nil⟩
theorem region_till {id : Nat} {a : Act} {w : World} (z : Nat) (S : World -> Prop) (hm : P.follows .mixedOrders = true) (h : anyTill P .any ops Q S z ops.size (Array.replicate ops.size false) a w.drew) : (Code.region id ops true).wp P Q a w :=
  wp_region_any hm (any_of_till _ _ _ _ h)
end
end Go.Proofs.YtengolneibbdfaaGreat.Gen

/-
  The program's member sets at this seat: emptied, and some dropped. No condition but that there are at most 1048576.
-/
namespace Go.Proofs.YtengolneibbdfaaGreat.Gen
open Go.ChangeShapes Go.WideShapes Go.ChangeAt Go.RowKit Go.Joins Go.Deep Base
set_option linter.unusedVariables false
set_option linter.unusedSimpArgs false
theorem off_setCell {F : List Nat} {w W : World} (h : Off F w W) (b i : Nat) (v : Value) (hb : b ∈ F) : Off F w (W.setCell ⟨b, i, none⟩ v) :=
  ⟨h.os, h.tape, h.output, by simpa using h.size, fun k hk hn => (Below.heap_setCell W ⟨b, i, none⟩ v k (fun e => hn (e ▸ hb))).trans (h.block k hk hn)⟩
end Go.Proofs.YtengolneibbdfaaGreat.Gen

/-
  Groups in blocks of their own: marked, and held. No condition but that its lists have at most 2000000 numbers.
-/
namespace Go.Proofs.YtengolneibbdfaaGreat.Gen
open Go.ChangeShapes Go.WideShapes Go.ChangeAt Go.RowKit Go.Joins Go.Deep Base
set_option linter.unusedVariables false
def Gp (w : World) (a1 a2 a3 : Option Addr) (m b o : List Int) (F : List Nat) : Prop :=
  ∃ F1 F2 F3, F = F1 ++ (F2 ++ F3) /\ Sl w a1 m F1 /\ Sl w a2 b F2 /\ Sl w a3 o F3 /\ F.Nodup
theorem Gp.off {F G : List Nat} {w w1 : World} {a1 a2 a3 : Option Addr} {m b o : List Int} (h : Gp w a1 a2 a3 m b o F) (k : Off G w w1) (hd : ∀ x ∈ F, x ∉ G) : Gp w1 a1 a2 a3 m b o F := by
  obtain ⟨F1, F2, F3, rfl, s1, s2, s3, hn⟩ := h
  exact ⟨F1, F2, F3, rfl, s1.off k fun x hx => hd x (by simp [hx]), s2.off k fun x hx => hd x (by simp [hx]), s3.off k fun x hx => hd x (by simp [hx]), hn⟩
theorem Gp.lt {F : List Nat} {w : World} {a1 a2 a3 : Option Addr} {m b o : List Int} (h : Gp w a1 a2 a3 m b o F) : ∀ x ∈ F, x < w.heap.size := by
  obtain ⟨F1, F2, F3, rfl, s1, s2, s3, hn⟩ := h
  intro x hx
  simp only [List.mem_append] at hx
  rcases hx with h | h | h
  . exact s1.lt x h
  . exact s2.lt x h
  . exact s3.lt x h
end Go.Proofs.YtengolneibbdfaaGreat.Gen

/-
  The program's group told of its member set, at this seat. No condition but that its lists have at most 1048576 numbers.
-/
namespace Go.Proofs.YtengolneibbdfaaGreat.Gen
open Go.ChangeShapes Go.WideShapes Go.ChangeAt Go.RowKit Go.Joins Go.Deep Base
set_option linter.unusedVariables false
set_option linter.unusedSimpArgs false
structure Wi (w W : World) (gen : Int) (vm vb vo : Value) : Prop where
  bl : Below w.heap.size w W
  g : Blk W w.heap.size 139 #[.int .i64 gen, vm, vb, vo]
  r : Blk W (w.heap.size + 1) 139 #[.int .i64 0, .slice none 0 0, .slice none 0 0, .slice none 0 0]
theorem Wi.below {w W W' : World} {gen : Int} {vm vb vo : Value} (h : Wi w W gen vm vb vo) (k : Below W.heap.size W W') : Wi w W' gen vm vb vo := ⟨via0 k h.bl, h.g.below k h.g.lt, h.r.below k h.r.lt⟩
theorem Wi.alloc {w W : World} {gen : Int} {vm vb vo : Value} (h : Wi w W gen vm vb vo) (ob : Obj) : Wi w (W.alloc ob) gen vm vb vo := h.below (alloc0 (Below.refl _ _) _)
theorem owns_ne {B : Nat} {W : World} {v : Value} {t t' : TypeId} {k n p : Nat} {xs : List Value} {vs : Array Value} (h : W.ownsRow B t k v n xs) (hp : Blk W p t' vs) (ht : t ≠ t') : ∀ x, v.ownBlock = some x -> x ≠ p := by
  intro x hx e
  subst e
  rcases h.2 with ⟨rfl, rfl⟩ | ⟨g, c, cur, rfl, hB, hg, _⟩
  . cases hx
  . have : g = x := by simpa [Value.ownBlock] using hx
    subst this
    have h2 : W.heap[g]? = _ := hp
    rw [h2] at hg
    cases hg
    exact ht rfl
theorem sl_own {W : World} {a : Option Addr} {l : List Int} {F : List Nat} (h : Sl W a l F) (n c : Nat) : ∀ x ∈ F, (Value.slice a n c).ownBlock = some x := by
  rcases h with ⟨_, rfl⟩ | ⟨b, o, rfl, rfl, _⟩
  . simp
  . simp [Value.ownBlock]
abbrev putG (Y : World) (p : Nat) (g v1 v2 v3 : Value) : World := (((Y.setCell ⟨p, 0, none⟩ g).setCell ⟨p, 1, none⟩ v1).setCell ⟨p, 2, none⟩ v2).setCell ⟨p, 3, none⟩ v3
theorem off_putG (Y : World) (p : Nat) (g v1 v2 v3 : Value) : Off [p] Y (putG Y p g v1 v2 v3) := off_setCell (off_setCell (off_setCell (off_setCell (Off.refl _ _) p 0 _ (by simp)) p 1 _ (by simp)) p 2 _ (by simp)) p 3 _ (by simp)
end Go.Proofs.YtengolneibbdfaaGreat.Gen

/-
  The specification's copy of a group, at this seat. No condition but that its lists have at most 1048576 numbers.
-/
namespace Go.Proofs.YtengolneibbdfaaGreat.Gen
open Go.ChangeShapes Go.WideShapes Go.ChangeAt Go.RowKit Go.Joins Go.Deep Base
set_option linter.unusedVariables false
set_option linter.unusedSimpArgs false
def Dis (v u : Value) : Prop := ∀ x, v.ownBlock = some x -> u.ownBlock ≠ some x
theorem Dis.symm {v u : Value} (h : Dis v u) : Dis u v := fun x hx hy => h x hy hx
structure Tri (q : Nat) (W : World) (v1 v2 v3 : Value) (l1 l2 l3 : List Int) : Prop where
  o1 : W.ownsRow q 3 1 v1 l1.length (flat l1)
  o2 : W.ownsRow q 3 1 v2 l2.length (flat l2)
  o3 : W.ownsRow q 3 1 v3 l3.length (flat l3)
  d12 : Dis v1 v2
  d13 : Dis v1 v3
  d23 : Dis v2 v3
  q : q <= W.heap.size
theorem Tri.nil (q : Nat) (W : World) (hq : q <= W.heap.size) : Tri q W (.slice none 0 0) (.slice none 0 0) (.slice none 0 0) [] [] [] :=
  ⟨World.ownsRow_nil _ _ _ _, World.ownsRow_nil _ _ _ _, World.ownsRow_nil _ _ _ _, (fun x h => by cases h), (fun x h => by cases h), (fun x h => by cases h), hq⟩
section
variable {q : Nat} {W : World} {v1 v2 v3 : Value} {l1 l2 l3 : List Int}
theorem Tri.s12 (h : Tri q W v1 v2 v3 l1 l2 l3) : Tri q W v2 v1 v3 l2 l1 l3 := ⟨h.o2, h.o1, h.o3, h.d12.symm, h.d23, h.d13, h.q⟩
theorem Tri.s13 (h : Tri q W v1 v2 v3 l1 l2 l3) : Tri q W v3 v2 v1 l3 l2 l1 := ⟨h.o3, h.o2, h.o1, h.d23.symm, h.d13.symm, h.d12.symm, h.q⟩
theorem Tri.new1 {g : Nat} (h : Tri q W (.slice none 0 0) v2 v3 [] l2 l3) (hg : W.heap.size = g) : Tri q (W.alloc (.cells #[] 3)) (.slice (some ⟨g, 0, none⟩) 0 0) v2 v3 [] l2 l3 := by
  subst hg
  refine ⟨World.ownsRow_made W #[] 0 h.q (by simp [maxLen]) rfl, owns_alloc h.o2 _, owns_alloc h.o3 _, fun x hx hy => ?_, fun x hx hy => ?_, h.d23, by have := h.q; simp; omega⟩
  . cases hx; exact Nat.lt_irrefl _ (owns_lt h.o2 hy)
  . cases hx; exact Nat.lt_irrefl _ (owns_lt h.o3 hy)
theorem Tri.new2 {g : Nat} (h : Tri q W v1 (.slice none 0 0) v3 l1 [] l3) (hg : W.heap.size = g) : Tri q (W.alloc (.cells #[] 3)) v1 (.slice (some ⟨g, 0, none⟩) 0 0) v3 l1 [] l3 := (h.s12.new1 hg).s12
theorem Tri.new3 {g : Nat} (h : Tri q W v1 v2 (.slice none 0 0) l1 l2 []) (hg : W.heap.size = g) : Tri q (W.alloc (.cells #[] 3)) v1 v2 (.slice (some ⟨g, 0, none⟩) 0 0) l1 l2 [] := (h.s13.new1 hg).s13
theorem owns_grown {B : Nat} {W W' : World} {v : Value} {t : TypeId} {k n : Nat} {xs : List Value} {row : Option Nat} (h : W.ownsRow B t k v n xs) (hg : W.grownBy W' row) (hne : ∀ x, v.ownBlock = some x -> some x ≠ row) : W'.ownsRow B t k v n xs := by
  refine ⟨h.1, ?_⟩
  rcases h.2 with ⟨rfl, rfl⟩ | ⟨g, c, cur, rfl, hB, hb, hc, hm, hsz, ht⟩
  . exact .inl ⟨rfl, rfl⟩
  . exact .inr ⟨g, c, cur, rfl, hB, Blk.kept (show Blk W g t cur from hb) hg (hne g rfl), hc, hm, hsz, ht⟩
theorem Tri.app1 {A : Option Addr} {cap : Nat} {m : List Int} (h : Tri q W v1 v2 v3 [] l2 l3) (hA : At W A m) (hm : m.length <= 1048576) :
    ∃ a c w', (Builtin.append_ #[30, 30] 30 #[v1, .slice A m.length cap]).run Tryz.prog W = .ok (.slice a m.length c) w' /\ Tri q w' (.slice a m.length c) v2 v3 m l2 l3 /\ (∀ p t vs, t ≠ 3 -> Blk W p t vs -> Blk w' p t vs) /\ Below q W w' := by
  obtain ⟨v, w1, hr, hown, hgrow, hat⟩ := append_els (P := Tryz.prog) Tryz.underlying30 infoInt rfl (by decide) (by decide) q v1 ([] : List Int) m A cap W h.q h.o1 hA (by simp; omega)
  simp only [List.length_nil, Nat.zero_add, List.nil_append] at hown
  obtain ⟨a, c, rfl, _⟩ := owns_form hown
  refine ⟨a, c, w1, hr, ⟨hown, owns_grown h.o2 hgrow (fun x hx e => h.d12 x e.symm hx), owns_grown h.o3 hgrow (fun x hx e => h.d13 x e.symm hx), fun x hx hy => ?_, fun x hx hy => ?_, h.d23, Nat.le_trans h.q hgrow.size⟩, fun p t vs ht hp => hp.kept hgrow (fun e => owns_ne h.o1 hp (Ne.symm ht) p e.symm rfl), ?_⟩
  . rcases hat with e | e
    . exact h.d12 x (e ▸ hx) hy
    . rw [e] at hx; cases hx; exact Nat.lt_irrefl _ (owns_lt h.o2 hy)
  . rcases hat with e | e
    . exact h.d13 x (e ▸ hx) hy
    . rw [e] at hx; cases hx; exact Nat.lt_irrefl _ (owns_lt h.o3 hy)
  . exact (Below.refl _ W).grown hgrow h.q (fun k e => (h.o1.lt k e).1)
theorem Tri.app2 {A : Option Addr} {cap : Nat} {m : List Int} (h : Tri q W v1 v2 v3 l1 [] l3) (hA : At W A m) (hm : m.length <= 1048576) :
    ∃ a c w', (Builtin.append_ #[30, 30] 30 #[v2, .slice A m.length cap]).run Tryz.prog W = .ok (.slice a m.length c) w' /\ Tri q w' v1 (.slice a m.length c) v3 l1 m l3 /\ (∀ p t vs, t ≠ 3 -> Blk W p t vs -> Blk w' p t vs) /\ Below q W w' := by
  obtain ⟨a, c, w', h1, h2, h3⟩ := h.s12.app1 (cap := cap) hA hm
  exact ⟨a, c, w', h1, h2.s12, h3⟩
theorem Tri.app3 {A : Option Addr} {cap : Nat} {m : List Int} (h : Tri q W v1 v2 v3 l1 l2 []) (hA : At W A m) (hm : m.length <= 1048576) :
    ∃ a c w', (Builtin.append_ #[30, 30] 30 #[v3, .slice A m.length cap]).run Tryz.prog W = .ok (.slice a m.length c) w' /\ Tri q w' v1 v2 (.slice a m.length c) l1 l2 m /\ (∀ p t vs, t ≠ 3 -> Blk W p t vs -> Blk w' p t vs) /\ Below q W w' := by
  obtain ⟨a, c, w', h1, h2, h3⟩ := h.s13.app1 (cap := cap) hA hm
  exact ⟨a, c, w', h1, h2.s13, h3⟩
theorem Tri.gp {a1 a2 a3 : Option Addr} {c1 c2 c3 p : Nat} {vs : Array Value} (h : Tri q W (.slice a1 l1.length c1) (.slice a2 l2.length c2) (.slice a3 l3.length c3) l1 l2 l3) (hp : Blk W p 139 vs) : ∃ F, Gp W a1 a2 a3 l1 l2 l3 F /\ ∀ x ∈ F, q <= x /\ x ≠ p := by
  obtain ⟨_, F1, s1, k1⟩ := Sl.of_fresh (fresh_owns_n (α := Int) rfl h.o1)
  obtain ⟨_, F2, s2, k2⟩ := Sl.of_fresh (fresh_owns_n (α := Int) rfl h.o2)
  obtain ⟨_, F3, s3, k3⟩ := Sl.of_fresh (fresh_owns_n (α := Int) rfl h.o3)
  have u1 := sl_own s1 l1.length c1
  have u2 := sl_own s2 l2.length c2
  have u3 := sl_own s3 l3.length c3
  refine ⟨F1 ++ (F2 ++ F3), ⟨F1, F2, F3, rfl, s1, s2, s3, ?_⟩, ?_⟩
  . rw [List.nodup_append, List.nodup_append]
    refine ⟨s1.nodup, ⟨s2.nodup, s3.nodup, fun x hx y hy e => ?_⟩, fun x hx y hy e => ?_⟩
    . subst e; exact h.d23 x (u2 x hx) (u3 x hy)
    . subst e
      rcases List.mem_append.1 hy with hy | hy
      . exact h.d12 x (u1 x hx) (u2 x hy)
      . exact h.d13 x (u1 x hx) (u3 x hy)
  . intro x hx
    simp only [List.mem_append] at hx
    rcases hx with e | e | e
    . exact ⟨k1 x e, owns_ne h.o1 hp (by decide) x (u1 x e)⟩
    . exact ⟨k2 x e, owns_ne h.o2 hp (by decide) x (u2 x e)⟩
    . exact ⟨k3 x e, owns_ne h.o3 hp (by decide) x (u3 x e)⟩
end
theorem Wi.s4 {w W : World} {gen : Int} {vm vb vo : Value} (h : Wi w W gen vm vb vo) : W.cell? ⟨w.heap.size, 0, none⟩ = some (.int .i64 gen) /\ W.cell? ⟨w.heap.size, 1, none⟩ = some vm /\ W.cell? ⟨w.heap.size, 2, none⟩ = some vb /\ W.cell? ⟨w.heap.size, 3, none⟩ = some vo := h.g.row4
theorem Wi.kept {w W W' : World} {gen : Int} {vm vb vo : Value} (h : Wi w W gen vm vb vo) (k : ∀ p t vs, t ≠ 3 -> Blk W p t vs -> Blk W' p t vs) (hb : Below (w.heap.size + 2) W W') : Wi w W' gen vm vb vo :=
  ⟨h.bl.trans ⟨hb.os, hb.tape, hb.output, hb.size, fun i hi => hb.block i (by omega)⟩, k _ _ _ (by decide) h.g, k _ _ _ (by decide) h.r⟩
theorem owns_cap {B : Nat} {W : World} {a : Option Addr} {n c : Nat} {t : TypeId} {k : Nat} {xs : List Value} (h : W.ownsRow B t k (.slice a n c) n xs) : n <= c /\ c <= 9223372036854775807 := by
  rcases h.2 with ⟨e, rfl⟩ | ⟨g, c', cur, e, hB, hb, hc, hm, _⟩
  . cases e; exact ⟨Nat.le_refl _, by decide⟩
  . cases e; simp [maxLen] at hm; exact ⟨hc, by omega⟩
def ToldC (w w' : World) (e : Ending) (gen : Int) (m b o : List Int) : Prop :=
  ∃ (a1 a2 a3 : Option Addr) (c1 c2 c3 : Nat) (F : List Nat), e = .returned (.agg #[.int .i64 gen, .slice a1 m.length c1, .slice a2 b.length c2, .slice a3 o.length c3]) /\ Below w.heap.size w w' /\ Gp w' a1 a2 a3 m b o F /\ (∀ x ∈ F, w.heap.size <= x) /\ (m.length <= c1 /\ c1 <= 9223372036854775807) /\ (b.length <= c2 /\ c2 <= 9223372036854775807)
theorem Tri.told {w W : World} {gen : Int} {vm vb vo : Value} {a1 a2 a3 : Option Addr} {c1 c2 c3 : Nat} {m b o : List Int} (T : Tri (w.heap.size + 2) W (.slice a1 m.length c1) (.slice a2 b.length c2) (.slice a3 o.length c3) m b o) (I : Wi w W gen vm vb vo) :
    ToldC w (putG W (w.heap.size + 1) (.int .i64 gen) (.slice a1 m.length c1) (.slice a2 b.length c2) (.slice a3 o.length c3)) (.returned (.agg #[.int .i64 gen, .slice a1 m.length c1, .slice a2 b.length c2, .slice a3 o.length c3])) gen m b o := by
  obtain ⟨F, hG, hF⟩ := T.gp I.r
  exact ⟨a1, a2, a3, c1, c2, c3, F, rfl, I.bl.trans ((off_putG W (w.heap.size + 1) _ _ _ _).toBelow (by simp) I.bl.size), hG.off (off_putG W (w.heap.size + 1) _ _ _ _) (fun x hx => by simpa using (hF x hx).2), fun x hx => by have := (hF x hx).1; omega, owns_cap T.o1, owns_cap T.o2⟩
set_option maxRecDepth 100000 in
set_option maxHeartbeats 8000000 in
theorem l5Copy_any (gen : Int) (A B C : Option Addr) (ca cb cc : Nat) (m b o : List Int) (hm : m.length <= 1048576) (hb : b.length <= 1048576) (ho : o.length <= 1048576) (w : World) (hA : At w A m) (hB : At w B b) (hC : At w C o) :
    Calls Tryz.prog 170 #[.agg #[.int .i64 gen, .slice A m.length ca, .slice B b.length cb, .slice C o.length cc]] w fun e w' => ToldC w w' e gen m b o := by
  have HA := hidP hA
  have HB := hidP hB
  have HC := hidP hC
  clear hA hB hC
  go_enter Tryz.func170, Tryz.ntmps170
  go_wp2_with fail
  have I : Wi w ((w.alloc (.cells #[.int .i64 gen, .slice A m.length ca, .slice B b.length cb, .slice C o.length cc] 139)).alloc (.cells #[.int .i64 0, .slice none 0 0, .slice none 0 0, .slice none 0 0] 139)).drew gen (.slice A m.length ca) (.slice B b.length cb) (.slice C o.length cc) := ⟨by repeat (first | exact Below.refl _ _ | assumption | refine via0 (by assumption) ?_ | refine Below.drew ?_ | refine alloc0 ?_ _), (Blk.new w 139 #[.int .i64 gen, .slice A m.length ca, .slice B b.length cb, .slice C o.length cc]).alloc _, by have := Blk.new (w.alloc (.cells #[.int .i64 gen, .slice A m.length ca, .slice B b.length cb, .slice C o.length cc] 139)) 139 #[.int .i64 0, .slice none 0 0, .slice none 0 0, .slice none 0 0]; rw [World.size_alloc] at this; exact this⟩
  have T := Tri.nil (w.heap.size + 2) ((w.alloc (.cells #[.int .i64 gen, .slice A m.length ca, .slice B b.length cb, .slice C o.length cc] 139)).alloc (.cells #[.int .i64 0, .slice none 0 0, .slice none 0 0, .slice none 0 0] 139)).drew (by simp)
  refine wp_region_noPanic ?_
  refine wp_region_held_drew (S := fun (w' : World) => w'.cell? ⟨w.heap.size, 0, none⟩ = some (.int .i64 gen) /\ w'.cell? ⟨w.heap.size, 1, none⟩ = some (.slice A m.length ca) /\ w'.cell? ⟨w.heap.size, 2, none⟩ = some (.slice B b.length cb) /\ w'.cell? ⟨w.heap.size, 3, none⟩ = some (.slice C o.length cc)) (by kernel_rfl) ?_ (fun hH => ?_)
  . exact I.s4
  refine ztk [0,1,3,4,7,8,11,12] ?_; repeat (refine ztn (h := ?_); try simp only [zX,zY])
  refine zte ?_
  refine zR3 2 6 10 (fun K hK => ?_) (fun K hK => ?_) (fun K hK => ?_)
  . simp only [zG]
    go_simp
    have T := T.new1 (g := w.heap.size + 1 + 1) (by simp); have I := I.alloc (.cells #[] 3)
    refine hK.out _ _ ?_ (fun hH => ?_)
    . exact I.s4
    clear hK K
    try simp only [zX,zY]
    refine zR3 5 6 10 (fun K hK => ?_) (fun K hK => ?_) (fun K hK => ?_)
    . simp only [zG]
      obtain ⟨x1, y1, w1, hr1, T', hk1, hb1⟩ := T.app1 (cap := ca) (HA.out.below I.bl) hm; have T := T'; clear T'; rw [if_pos (by rfl)]; refine wp_append_is _ _ _ (by rfl) _ _ _ (by rfl) (by rfl) hr1 ?_; have I := I.kept hk1 hb1; clear hr1 hk1 hb1
      refine hK.out _ _ ?_ (fun hH => ?_)
      . exact I.s4
      clear hK K
      try simp only [zX,zY]
      refine zR2 6 10 (fun K hK => ?_) (fun K hK => ?_)
      . simp only [zG]
        go_simp
        have T := T.new2 (g := w1.heap.size) (by simp); have I := I.alloc (.cells #[] 3)
        refine hK.out _ _ ?_ (fun hH => ?_)
        . exact I.s4
        clear hK K
        try simp only [zX,zY]
        refine zR2 9 10 (fun K hK => ?_) (fun K hK => ?_)
        . simp only [zG]
          obtain ⟨x2, y2, w2, hr2, T', hk2, hb2⟩ := T.app2 (cap := cb) (HB.out.below I.bl) hb; have T := T'; clear T'; rw [if_pos (by rfl)]; refine wp_append_is _ _ _ (by rfl) _ _ _ (by rfl) (by rfl) hr2 ?_; have I := I.kept hk2 hb2; clear hr2 hk2 hb2
          refine hK.out _ _ ?_ (fun hH => ?_)
          . exact I.s4
          clear hK K
          try simp only [zX,zY]
          refine zR1 10 (fun K hK => ?_)
          simp only [zG]
          go_simp
          have T := T.new3 (g := w2.heap.size) (by simp); have I := I.alloc (.cells #[] 3)
          refine hK.out _ _ ?_ (fun hH => ?_)
          . exact I.s4
          clear hK K
          try simp only [zX,zY]
          refine zR1 13 (fun K hK => ?_)
          simp only [zG]
          obtain ⟨x3, y3, w3, hr3, T', hk3, hb3⟩ := T.app3 (cap := cc) (HC.out.below I.bl) ho; have T := T'; clear T'; rw [if_pos (by rfl)]; refine wp_append_is _ _ _ (by rfl) _ _ _ (by rfl) (by rfl) hr3 ?_; have I := I.kept hk3 hb3; clear hr3 hk3 hb3; obtain ⟨r0, r1, r2, r3⟩ := I.r.row4; have f0 := I.r.thaw 0; have f1 := I.r.thaw 1; have f2 := I.r.thaw 2; have f3 := I.r.thaw 3
          refine hK.out _ _ ?_ (fun hH => ?_)
          . exact I.s4
          clear hK K
          try simp only [zX,zY]
          refine zt1 14 ?_; refine ztn (h := ?_); try simp only [zX,zY]
          refine zte ?_
          refine zR1 15 (fun K hK => ?_)
          simp only [zG]
          go_simp
          refine hK.out _ _ ?_ (fun hH => ?_)
          . exact (I.g.off (off_putG w3 (w.heap.size + 1) (.int .i64 gen) (.slice x1 m.length y1) (.slice x2 b.length y2) (.slice x3 o.length y3)) (by simp)).row4
          clear hK K
          try simp only [zX,zY]
          refine zdn ?_
          generalize w3 = W at *
          go_wp2
          have k0 : Blk (W.setCell ⟨w.heap.size + 1, 0, none⟩ (.int .i64 gen)) (w.heap.size + 1) 139 #[.int .i64 gen, .slice none 0 0, .slice none 0 0, .slice none 0 0] := I.r.setAt 0 _
          have s0 : (W.setCell ⟨w.heap.size + 1, 0, none⟩ (.int .i64 gen)).cell? ⟨w.heap.size + 1, 0, none⟩ = some (.int .i64 gen) := k0.row4.1
          have k1 : Blk ((W.setCell ⟨w.heap.size + 1, 0, none⟩ (.int .i64 gen)).setCell ⟨w.heap.size + 1, 1, none⟩ (.slice x1 m.length y1)) (w.heap.size + 1) 139 #[.int .i64 gen, .slice x1 m.length y1, .slice none 0 0, .slice none 0 0] := k0.setAt 1 _
          have s1 : ((W.setCell ⟨w.heap.size + 1, 0, none⟩ (.int .i64 gen)).setCell ⟨w.heap.size + 1, 1, none⟩ (.slice x1 m.length y1)).cell? ⟨w.heap.size + 1, 1, none⟩ = some (.slice x1 m.length y1) := k1.row4.2.1
          have k2 : Blk (((W.setCell ⟨w.heap.size + 1, 0, none⟩ (.int .i64 gen)).setCell ⟨w.heap.size + 1, 1, none⟩ (.slice x1 m.length y1)).setCell ⟨w.heap.size + 1, 2, none⟩ (.slice x2 b.length y2)) (w.heap.size + 1) 139 #[.int .i64 gen, .slice x1 m.length y1, .slice x2 b.length y2, .slice none 0 0] := k1.setAt 2 _
          have s2 : (((W.setCell ⟨w.heap.size + 1, 0, none⟩ (.int .i64 gen)).setCell ⟨w.heap.size + 1, 1, none⟩ (.slice x1 m.length y1)).setCell ⟨w.heap.size + 1, 2, none⟩ (.slice x2 b.length y2)).cell? ⟨w.heap.size + 1, 2, none⟩ = some (.slice x2 b.length y2) := k2.row4.2.2.1
          have k3 : Blk ((((W.setCell ⟨w.heap.size + 1, 0, none⟩ (.int .i64 gen)).setCell ⟨w.heap.size + 1, 1, none⟩ (.slice x1 m.length y1)).setCell ⟨w.heap.size + 1, 2, none⟩ (.slice x2 b.length y2)).setCell ⟨w.heap.size + 1, 3, none⟩ (.slice x3 o.length y3)) (w.heap.size + 1) 139 #[.int .i64 gen, .slice x1 m.length y1, .slice x2 b.length y2, .slice x3 o.length y3] := k2.setAt 3 _
          have s3 : ((((W.setCell ⟨w.heap.size + 1, 0, none⟩ (.int .i64 gen)).setCell ⟨w.heap.size + 1, 1, none⟩ (.slice x1 m.length y1)).setCell ⟨w.heap.size + 1, 2, none⟩ (.slice x2 b.length y2)).setCell ⟨w.heap.size + 1, 3, none⟩ (.slice x3 o.length y3)).cell? ⟨w.heap.size + 1, 3, none⟩ = some (.slice x3 o.length y3) := k3.row4.2.2.2
          refine bodyPost_ret (v := .agg #[.int .i64 gen, .slice x1 m.length y1, .slice x2 b.length y2, .slice x3 o.length y3]) (by simp [results, Tryz.results170, go_sem, s0, s1, s2, s3]) rfl ?_
          exact T.told I
        . simp only [zG]
          go_simp
          have T := T.new3 (g := w1.heap.size + 1) (by simp); have I := I.alloc (.cells #[] 3)
          refine hK.out _ _ ?_ (fun hH => ?_)
          . exact I.s4
          clear hK K
          try simp only [zX,zY]
          refine zR1 9 (fun K hK => ?_)
          simp only [zG]
          obtain ⟨x2, y2, w2, hr2, T', hk2, hb2⟩ := T.app2 (cap := cb) (HB.out.below I.bl) hb; have T := T'; clear T'; rw [if_pos (by rfl)]; refine wp_append_is _ _ _ (by rfl) _ _ _ (by rfl) (by rfl) hr2 ?_; have I := I.kept hk2 hb2; clear hr2 hk2 hb2
          refine hK.out _ _ ?_ (fun hH => ?_)
          . exact I.s4
          clear hK K
          try simp only [zX,zY]
          refine zR1 13 (fun K hK => ?_)
          simp only [zG]
          obtain ⟨x3, y3, w3, hr3, T', hk3, hb3⟩ := T.app3 (cap := cc) (HC.out.below I.bl) ho; have T := T'; clear T'; rw [if_pos (by rfl)]; refine wp_append_is _ _ _ (by rfl) _ _ _ (by rfl) (by rfl) hr3 ?_; have I := I.kept hk3 hb3; clear hr3 hk3 hb3; obtain ⟨r0, r1, r2, r3⟩ := I.r.row4; have f0 := I.r.thaw 0; have f1 := I.r.thaw 1; have f2 := I.r.thaw 2; have f3 := I.r.thaw 3
          refine hK.out _ _ ?_ (fun hH => ?_)
          . exact I.s4
          clear hK K
          try simp only [zX,zY]
          refine zt1 14 ?_; refine ztn (h := ?_); try simp only [zX,zY]
          refine zte ?_
          refine zR1 15 (fun K hK => ?_)
          simp only [zG]
          go_simp
          refine hK.out _ _ ?_ (fun hH => ?_)
          . exact (I.g.off (off_putG w3 (w.heap.size + 1) (.int .i64 gen) (.slice x1 m.length y1) (.slice x2 b.length y2) (.slice x3 o.length y3)) (by simp)).row4
          clear hK K
          try simp only [zX,zY]
          refine zdn ?_
          generalize w3 = W at *
          go_wp2
          have k0 : Blk (W.setCell ⟨w.heap.size + 1, 0, none⟩ (.int .i64 gen)) (w.heap.size + 1) 139 #[.int .i64 gen, .slice none 0 0, .slice none 0 0, .slice none 0 0] := I.r.setAt 0 _
          have s0 : (W.setCell ⟨w.heap.size + 1, 0, none⟩ (.int .i64 gen)).cell? ⟨w.heap.size + 1, 0, none⟩ = some (.int .i64 gen) := k0.row4.1
          have k1 : Blk ((W.setCell ⟨w.heap.size + 1, 0, none⟩ (.int .i64 gen)).setCell ⟨w.heap.size + 1, 1, none⟩ (.slice x1 m.length y1)) (w.heap.size + 1) 139 #[.int .i64 gen, .slice x1 m.length y1, .slice none 0 0, .slice none 0 0] := k0.setAt 1 _
          have s1 : ((W.setCell ⟨w.heap.size + 1, 0, none⟩ (.int .i64 gen)).setCell ⟨w.heap.size + 1, 1, none⟩ (.slice x1 m.length y1)).cell? ⟨w.heap.size + 1, 1, none⟩ = some (.slice x1 m.length y1) := k1.row4.2.1
          have k2 : Blk (((W.setCell ⟨w.heap.size + 1, 0, none⟩ (.int .i64 gen)).setCell ⟨w.heap.size + 1, 1, none⟩ (.slice x1 m.length y1)).setCell ⟨w.heap.size + 1, 2, none⟩ (.slice x2 b.length y2)) (w.heap.size + 1) 139 #[.int .i64 gen, .slice x1 m.length y1, .slice x2 b.length y2, .slice none 0 0] := k1.setAt 2 _
          have s2 : (((W.setCell ⟨w.heap.size + 1, 0, none⟩ (.int .i64 gen)).setCell ⟨w.heap.size + 1, 1, none⟩ (.slice x1 m.length y1)).setCell ⟨w.heap.size + 1, 2, none⟩ (.slice x2 b.length y2)).cell? ⟨w.heap.size + 1, 2, none⟩ = some (.slice x2 b.length y2) := k2.row4.2.2.1
          have k3 : Blk ((((W.setCell ⟨w.heap.size + 1, 0, none⟩ (.int .i64 gen)).setCell ⟨w.heap.size + 1, 1, none⟩ (.slice x1 m.length y1)).setCell ⟨w.heap.size + 1, 2, none⟩ (.slice x2 b.length y2)).setCell ⟨w.heap.size + 1, 3, none⟩ (.slice x3 o.length y3)) (w.heap.size + 1) 139 #[.int .i64 gen, .slice x1 m.length y1, .slice x2 b.length y2, .slice x3 o.length y3] := k2.setAt 3 _
          have s3 : ((((W.setCell ⟨w.heap.size + 1, 0, none⟩ (.int .i64 gen)).setCell ⟨w.heap.size + 1, 1, none⟩ (.slice x1 m.length y1)).setCell ⟨w.heap.size + 1, 2, none⟩ (.slice x2 b.length y2)).setCell ⟨w.heap.size + 1, 3, none⟩ (.slice x3 o.length y3)).cell? ⟨w.heap.size + 1, 3, none⟩ = some (.slice x3 o.length y3) := k3.row4.2.2.2
          refine bodyPost_ret (v := .agg #[.int .i64 gen, .slice x1 m.length y1, .slice x2 b.length y2, .slice x3 o.length y3]) (by simp [results, Tryz.results170, go_sem, s0, s1, s2, s3]) rfl ?_
          exact T.told I
      . simp only [zG]
        go_simp
        have T := T.new3 (g := w1.heap.size) (by simp); have I := I.alloc (.cells #[] 3)
        refine hK.out _ _ ?_ (fun hH => ?_)
        . exact I.s4
        clear hK K
        try simp only [zX,zY]
        refine zR1 6 (fun K hK => ?_)
        simp only [zG]
        go_simp
        have T := T.new2 (g := w1.heap.size + 1) (by simp); have I := I.alloc (.cells #[] 3)
        refine hK.out _ _ ?_ (fun hH => ?_)
        . exact I.s4
        clear hK K
        try simp only [zX,zY]
        refine zR1 9 (fun K hK => ?_)
        simp only [zG]
        obtain ⟨x2, y2, w2, hr2, T', hk2, hb2⟩ := T.app2 (cap := cb) (HB.out.below I.bl) hb; have T := T'; clear T'; rw [if_pos (by rfl)]; refine wp_append_is _ _ _ (by rfl) _ _ _ (by rfl) (by rfl) hr2 ?_; have I := I.kept hk2 hb2; clear hr2 hk2 hb2
        refine hK.out _ _ ?_ (fun hH => ?_)
        . exact I.s4
        clear hK K
        try simp only [zX,zY]
        refine zR1 13 (fun K hK => ?_)
        simp only [zG]
        obtain ⟨x3, y3, w3, hr3, T', hk3, hb3⟩ := T.app3 (cap := cc) (HC.out.below I.bl) ho; have T := T'; clear T'; rw [if_pos (by rfl)]; refine wp_append_is _ _ _ (by rfl) _ _ _ (by rfl) (by rfl) hr3 ?_; have I := I.kept hk3 hb3; clear hr3 hk3 hb3; obtain ⟨r0, r1, r2, r3⟩ := I.r.row4; have f0 := I.r.thaw 0; have f1 := I.r.thaw 1; have f2 := I.r.thaw 2; have f3 := I.r.thaw 3
        refine hK.out _ _ ?_ (fun hH => ?_)
        . exact I.s4
        clear hK K
        try simp only [zX,zY]
        refine zt1 14 ?_; refine ztn (h := ?_); try simp only [zX,zY]
        refine zte ?_
        refine zR1 15 (fun K hK => ?_)
        simp only [zG]
        go_simp
        refine hK.out _ _ ?_ (fun hH => ?_)
        . exact (I.g.off (off_putG w3 (w.heap.size + 1) (.int .i64 gen) (.slice x1 m.length y1) (.slice x2 b.length y2) (.slice x3 o.length y3)) (by simp)).row4
        clear hK K
        try simp only [zX,zY]
        refine zdn ?_
        generalize w3 = W at *
        go_wp2
        have k0 : Blk (W.setCell ⟨w.heap.size + 1, 0, none⟩ (.int .i64 gen)) (w.heap.size + 1) 139 #[.int .i64 gen, .slice none 0 0, .slice none 0 0, .slice none 0 0] := I.r.setAt 0 _
        have s0 : (W.setCell ⟨w.heap.size + 1, 0, none⟩ (.int .i64 gen)).cell? ⟨w.heap.size + 1, 0, none⟩ = some (.int .i64 gen) := k0.row4.1
        have k1 : Blk ((W.setCell ⟨w.heap.size + 1, 0, none⟩ (.int .i64 gen)).setCell ⟨w.heap.size + 1, 1, none⟩ (.slice x1 m.length y1)) (w.heap.size + 1) 139 #[.int .i64 gen, .slice x1 m.length y1, .slice none 0 0, .slice none 0 0] := k0.setAt 1 _
        have s1 : ((W.setCell ⟨w.heap.size + 1, 0, none⟩ (.int .i64 gen)).setCell ⟨w.heap.size + 1, 1, none⟩ (.slice x1 m.length y1)).cell? ⟨w.heap.size + 1, 1, none⟩ = some (.slice x1 m.length y1) := k1.row4.2.1
        have k2 : Blk (((W.setCell ⟨w.heap.size + 1, 0, none⟩ (.int .i64 gen)).setCell ⟨w.heap.size + 1, 1, none⟩ (.slice x1 m.length y1)).setCell ⟨w.heap.size + 1, 2, none⟩ (.slice x2 b.length y2)) (w.heap.size + 1) 139 #[.int .i64 gen, .slice x1 m.length y1, .slice x2 b.length y2, .slice none 0 0] := k1.setAt 2 _
        have s2 : (((W.setCell ⟨w.heap.size + 1, 0, none⟩ (.int .i64 gen)).setCell ⟨w.heap.size + 1, 1, none⟩ (.slice x1 m.length y1)).setCell ⟨w.heap.size + 1, 2, none⟩ (.slice x2 b.length y2)).cell? ⟨w.heap.size + 1, 2, none⟩ = some (.slice x2 b.length y2) := k2.row4.2.2.1
        have k3 : Blk ((((W.setCell ⟨w.heap.size + 1, 0, none⟩ (.int .i64 gen)).setCell ⟨w.heap.size + 1, 1, none⟩ (.slice x1 m.length y1)).setCell ⟨w.heap.size + 1, 2, none⟩ (.slice x2 b.length y2)).setCell ⟨w.heap.size + 1, 3, none⟩ (.slice x3 o.length y3)) (w.heap.size + 1) 139 #[.int .i64 gen, .slice x1 m.length y1, .slice x2 b.length y2, .slice x3 o.length y3] := k2.setAt 3 _
        have s3 : ((((W.setCell ⟨w.heap.size + 1, 0, none⟩ (.int .i64 gen)).setCell ⟨w.heap.size + 1, 1, none⟩ (.slice x1 m.length y1)).setCell ⟨w.heap.size + 1, 2, none⟩ (.slice x2 b.length y2)).setCell ⟨w.heap.size + 1, 3, none⟩ (.slice x3 o.length y3)).cell? ⟨w.heap.size + 1, 3, none⟩ = some (.slice x3 o.length y3) := k3.row4.2.2.2
        refine bodyPost_ret (v := .agg #[.int .i64 gen, .slice x1 m.length y1, .slice x2 b.length y2, .slice x3 o.length y3]) (by simp [results, Tryz.results170, go_sem, s0, s1, s2, s3]) rfl ?_
        exact T.told I
    . simp only [zG]
      go_simp
      have T := T.new2 (g := w.heap.size + 1 + 1 + 1) (by simp); have I := I.alloc (.cells #[] 3)
      refine hK.out _ _ ?_ (fun hH => ?_)
      . exact I.s4
      clear hK K
      try simp only [zX,zY]
      refine zR2 5 10 (fun K hK => ?_) (fun K hK => ?_)
      . simp only [zG]
        obtain ⟨x1, y1, w1, hr1, T', hk1, hb1⟩ := T.app1 (cap := ca) (HA.out.below I.bl) hm; have T := T'; clear T'; rw [if_pos (by rfl)]; refine wp_append_is _ _ _ (by rfl) _ _ _ (by rfl) (by rfl) hr1 ?_; have I := I.kept hk1 hb1; clear hr1 hk1 hb1
        refine hK.out _ _ ?_ (fun hH => ?_)
        . exact I.s4
        clear hK K
        try simp only [zX,zY]
        refine zR2 9 10 (fun K hK => ?_) (fun K hK => ?_)
        . simp only [zG]
          obtain ⟨x2, y2, w2, hr2, T', hk2, hb2⟩ := T.app2 (cap := cb) (HB.out.below I.bl) hb; have T := T'; clear T'; rw [if_pos (by rfl)]; refine wp_append_is _ _ _ (by rfl) _ _ _ (by rfl) (by rfl) hr2 ?_; have I := I.kept hk2 hb2; clear hr2 hk2 hb2
          refine hK.out _ _ ?_ (fun hH => ?_)
          . exact I.s4
          clear hK K
          try simp only [zX,zY]
          refine zR1 10 (fun K hK => ?_)
          simp only [zG]
          go_simp
          have T := T.new3 (g := w2.heap.size) (by simp); have I := I.alloc (.cells #[] 3)
          refine hK.out _ _ ?_ (fun hH => ?_)
          . exact I.s4
          clear hK K
          try simp only [zX,zY]
          refine zR1 13 (fun K hK => ?_)
          simp only [zG]
          obtain ⟨x3, y3, w3, hr3, T', hk3, hb3⟩ := T.app3 (cap := cc) (HC.out.below I.bl) ho; have T := T'; clear T'; rw [if_pos (by rfl)]; refine wp_append_is _ _ _ (by rfl) _ _ _ (by rfl) (by rfl) hr3 ?_; have I := I.kept hk3 hb3; clear hr3 hk3 hb3; obtain ⟨r0, r1, r2, r3⟩ := I.r.row4; have f0 := I.r.thaw 0; have f1 := I.r.thaw 1; have f2 := I.r.thaw 2; have f3 := I.r.thaw 3
          refine hK.out _ _ ?_ (fun hH => ?_)
          . exact I.s4
          clear hK K
          try simp only [zX,zY]
          refine zt1 14 ?_; refine ztn (h := ?_); try simp only [zX,zY]
          refine zte ?_
          refine zR1 15 (fun K hK => ?_)
          simp only [zG]
          go_simp
          refine hK.out _ _ ?_ (fun hH => ?_)
          . exact (I.g.off (off_putG w3 (w.heap.size + 1) (.int .i64 gen) (.slice x1 m.length y1) (.slice x2 b.length y2) (.slice x3 o.length y3)) (by simp)).row4
          clear hK K
          try simp only [zX,zY]
          refine zdn ?_
          generalize w3 = W at *
          go_wp2
          have k0 : Blk (W.setCell ⟨w.heap.size + 1, 0, none⟩ (.int .i64 gen)) (w.heap.size + 1) 139 #[.int .i64 gen, .slice none 0 0, .slice none 0 0, .slice none 0 0] := I.r.setAt 0 _
          have s0 : (W.setCell ⟨w.heap.size + 1, 0, none⟩ (.int .i64 gen)).cell? ⟨w.heap.size + 1, 0, none⟩ = some (.int .i64 gen) := k0.row4.1
          have k1 : Blk ((W.setCell ⟨w.heap.size + 1, 0, none⟩ (.int .i64 gen)).setCell ⟨w.heap.size + 1, 1, none⟩ (.slice x1 m.length y1)) (w.heap.size + 1) 139 #[.int .i64 gen, .slice x1 m.length y1, .slice none 0 0, .slice none 0 0] := k0.setAt 1 _
          have s1 : ((W.setCell ⟨w.heap.size + 1, 0, none⟩ (.int .i64 gen)).setCell ⟨w.heap.size + 1, 1, none⟩ (.slice x1 m.length y1)).cell? ⟨w.heap.size + 1, 1, none⟩ = some (.slice x1 m.length y1) := k1.row4.2.1
          have k2 : Blk (((W.setCell ⟨w.heap.size + 1, 0, none⟩ (.int .i64 gen)).setCell ⟨w.heap.size + 1, 1, none⟩ (.slice x1 m.length y1)).setCell ⟨w.heap.size + 1, 2, none⟩ (.slice x2 b.length y2)) (w.heap.size + 1) 139 #[.int .i64 gen, .slice x1 m.length y1, .slice x2 b.length y2, .slice none 0 0] := k1.setAt 2 _
          have s2 : (((W.setCell ⟨w.heap.size + 1, 0, none⟩ (.int .i64 gen)).setCell ⟨w.heap.size + 1, 1, none⟩ (.slice x1 m.length y1)).setCell ⟨w.heap.size + 1, 2, none⟩ (.slice x2 b.length y2)).cell? ⟨w.heap.size + 1, 2, none⟩ = some (.slice x2 b.length y2) := k2.row4.2.2.1
          have k3 : Blk ((((W.setCell ⟨w.heap.size + 1, 0, none⟩ (.int .i64 gen)).setCell ⟨w.heap.size + 1, 1, none⟩ (.slice x1 m.length y1)).setCell ⟨w.heap.size + 1, 2, none⟩ (.slice x2 b.length y2)).setCell ⟨w.heap.size + 1, 3, none⟩ (.slice x3 o.length y3)) (w.heap.size + 1) 139 #[.int .i64 gen, .slice x1 m.length y1, .slice x2 b.length y2, .slice x3 o.length y3] := k2.setAt 3 _
          have s3 : ((((W.setCell ⟨w.heap.size + 1, 0, none⟩ (.int .i64 gen)).setCell ⟨w.heap.size + 1, 1, none⟩ (.slice x1 m.length y1)).setCell ⟨w.heap.size + 1, 2, none⟩ (.slice x2 b.length y2)).setCell ⟨w.heap.size + 1, 3, none⟩ (.slice x3 o.length y3)).cell? ⟨w.heap.size + 1, 3, none⟩ = some (.slice x3 o.length y3) := k3.row4.2.2.2
          refine bodyPost_ret (v := .agg #[.int .i64 gen, .slice x1 m.length y1, .slice x2 b.length y2, .slice x3 o.length y3]) (by simp [results, Tryz.results170, go_sem, s0, s1, s2, s3]) rfl ?_
          exact T.told I
        . simp only [zG]
          go_simp
          have T := T.new3 (g := w1.heap.size) (by simp); have I := I.alloc (.cells #[] 3)
          refine hK.out _ _ ?_ (fun hH => ?_)
          . exact I.s4
          clear hK K
          try simp only [zX,zY]
          refine zR1 9 (fun K hK => ?_)
          simp only [zG]
          obtain ⟨x2, y2, w2, hr2, T', hk2, hb2⟩ := T.app2 (cap := cb) (HB.out.below I.bl) hb; have T := T'; clear T'; rw [if_pos (by rfl)]; refine wp_append_is _ _ _ (by rfl) _ _ _ (by rfl) (by rfl) hr2 ?_; have I := I.kept hk2 hb2; clear hr2 hk2 hb2
          refine hK.out _ _ ?_ (fun hH => ?_)
          . exact I.s4
          clear hK K
          try simp only [zX,zY]
          refine zR1 13 (fun K hK => ?_)
          simp only [zG]
          obtain ⟨x3, y3, w3, hr3, T', hk3, hb3⟩ := T.app3 (cap := cc) (HC.out.below I.bl) ho; have T := T'; clear T'; rw [if_pos (by rfl)]; refine wp_append_is _ _ _ (by rfl) _ _ _ (by rfl) (by rfl) hr3 ?_; have I := I.kept hk3 hb3; clear hr3 hk3 hb3; obtain ⟨r0, r1, r2, r3⟩ := I.r.row4; have f0 := I.r.thaw 0; have f1 := I.r.thaw 1; have f2 := I.r.thaw 2; have f3 := I.r.thaw 3
          refine hK.out _ _ ?_ (fun hH => ?_)
          . exact I.s4
          clear hK K
          try simp only [zX,zY]
          refine zt1 14 ?_; refine ztn (h := ?_); try simp only [zX,zY]
          refine zte ?_
          refine zR1 15 (fun K hK => ?_)
          simp only [zG]
          go_simp
          refine hK.out _ _ ?_ (fun hH => ?_)
          . exact (I.g.off (off_putG w3 (w.heap.size + 1) (.int .i64 gen) (.slice x1 m.length y1) (.slice x2 b.length y2) (.slice x3 o.length y3)) (by simp)).row4
          clear hK K
          try simp only [zX,zY]
          refine zdn ?_
          generalize w3 = W at *
          go_wp2
          have k0 : Blk (W.setCell ⟨w.heap.size + 1, 0, none⟩ (.int .i64 gen)) (w.heap.size + 1) 139 #[.int .i64 gen, .slice none 0 0, .slice none 0 0, .slice none 0 0] := I.r.setAt 0 _
          have s0 : (W.setCell ⟨w.heap.size + 1, 0, none⟩ (.int .i64 gen)).cell? ⟨w.heap.size + 1, 0, none⟩ = some (.int .i64 gen) := k0.row4.1
          have k1 : Blk ((W.setCell ⟨w.heap.size + 1, 0, none⟩ (.int .i64 gen)).setCell ⟨w.heap.size + 1, 1, none⟩ (.slice x1 m.length y1)) (w.heap.size + 1) 139 #[.int .i64 gen, .slice x1 m.length y1, .slice none 0 0, .slice none 0 0] := k0.setAt 1 _
          have s1 : ((W.setCell ⟨w.heap.size + 1, 0, none⟩ (.int .i64 gen)).setCell ⟨w.heap.size + 1, 1, none⟩ (.slice x1 m.length y1)).cell? ⟨w.heap.size + 1, 1, none⟩ = some (.slice x1 m.length y1) := k1.row4.2.1
          have k2 : Blk (((W.setCell ⟨w.heap.size + 1, 0, none⟩ (.int .i64 gen)).setCell ⟨w.heap.size + 1, 1, none⟩ (.slice x1 m.length y1)).setCell ⟨w.heap.size + 1, 2, none⟩ (.slice x2 b.length y2)) (w.heap.size + 1) 139 #[.int .i64 gen, .slice x1 m.length y1, .slice x2 b.length y2, .slice none 0 0] := k1.setAt 2 _
          have s2 : (((W.setCell ⟨w.heap.size + 1, 0, none⟩ (.int .i64 gen)).setCell ⟨w.heap.size + 1, 1, none⟩ (.slice x1 m.length y1)).setCell ⟨w.heap.size + 1, 2, none⟩ (.slice x2 b.length y2)).cell? ⟨w.heap.size + 1, 2, none⟩ = some (.slice x2 b.length y2) := k2.row4.2.2.1
          have k3 : Blk ((((W.setCell ⟨w.heap.size + 1, 0, none⟩ (.int .i64 gen)).setCell ⟨w.heap.size + 1, 1, none⟩ (.slice x1 m.length y1)).setCell ⟨w.heap.size + 1, 2, none⟩ (.slice x2 b.length y2)).setCell ⟨w.heap.size + 1, 3, none⟩ (.slice x3 o.length y3)) (w.heap.size + 1) 139 #[.int .i64 gen, .slice x1 m.length y1, .slice x2 b.length y2, .slice x3 o.length y3] := k2.setAt 3 _
          have s3 : ((((W.setCell ⟨w.heap.size + 1, 0, none⟩ (.int .i64 gen)).setCell ⟨w.heap.size + 1, 1, none⟩ (.slice x1 m.length y1)).setCell ⟨w.heap.size + 1, 2, none⟩ (.slice x2 b.length y2)).setCell ⟨w.heap.size + 1, 3, none⟩ (.slice x3 o.length y3)).cell? ⟨w.heap.size + 1, 3, none⟩ = some (.slice x3 o.length y3) := k3.row4.2.2.2
          refine bodyPost_ret (v := .agg #[.int .i64 gen, .slice x1 m.length y1, .slice x2 b.length y2, .slice x3 o.length y3]) (by simp [results, Tryz.results170, go_sem, s0, s1, s2, s3]) rfl ?_
          exact T.told I
      . simp only [zG]
        go_simp
        have T := T.new3 (g := w.heap.size + 1 + 1 + 1 + 1) (by simp); have I := I.alloc (.cells #[] 3)
        refine hK.out _ _ ?_ (fun hH => ?_)
        . exact I.s4
        clear hK K
        try simp only [zX,zY]
        refine zR1 5 (fun K hK => ?_)
        simp only [zG]
        obtain ⟨x1, y1, w1, hr1, T', hk1, hb1⟩ := T.app1 (cap := ca) (HA.out.below I.bl) hm; have T := T'; clear T'; rw [if_pos (by rfl)]; refine wp_append_is _ _ _ (by rfl) _ _ _ (by rfl) (by rfl) hr1 ?_; have I := I.kept hk1 hb1; clear hr1 hk1 hb1
        refine hK.out _ _ ?_ (fun hH => ?_)
        . exact I.s4
        clear hK K
        try simp only [zX,zY]
        refine zR1 9 (fun K hK => ?_)
        simp only [zG]
        obtain ⟨x2, y2, w2, hr2, T', hk2, hb2⟩ := T.app2 (cap := cb) (HB.out.below I.bl) hb; have T := T'; clear T'; rw [if_pos (by rfl)]; refine wp_append_is _ _ _ (by rfl) _ _ _ (by rfl) (by rfl) hr2 ?_; have I := I.kept hk2 hb2; clear hr2 hk2 hb2
        refine hK.out _ _ ?_ (fun hH => ?_)
        . exact I.s4
        clear hK K
        try simp only [zX,zY]
        refine zR1 13 (fun K hK => ?_)
        simp only [zG]
        obtain ⟨x3, y3, w3, hr3, T', hk3, hb3⟩ := T.app3 (cap := cc) (HC.out.below I.bl) ho; have T := T'; clear T'; rw [if_pos (by rfl)]; refine wp_append_is _ _ _ (by rfl) _ _ _ (by rfl) (by rfl) hr3 ?_; have I := I.kept hk3 hb3; clear hr3 hk3 hb3; obtain ⟨r0, r1, r2, r3⟩ := I.r.row4; have f0 := I.r.thaw 0; have f1 := I.r.thaw 1; have f2 := I.r.thaw 2; have f3 := I.r.thaw 3
        refine hK.out _ _ ?_ (fun hH => ?_)
        . exact I.s4
        clear hK K
        try simp only [zX,zY]
        refine zt1 14 ?_; refine ztn (h := ?_); try simp only [zX,zY]
        refine zte ?_
        refine zR1 15 (fun K hK => ?_)
        simp only [zG]
        go_simp
        refine hK.out _ _ ?_ (fun hH => ?_)
        . exact (I.g.off (off_putG w3 (w.heap.size + 1) (.int .i64 gen) (.slice x1 m.length y1) (.slice x2 b.length y2) (.slice x3 o.length y3)) (by simp)).row4
        clear hK K
        try simp only [zX,zY]
        refine zdn ?_
        generalize w3 = W at *
        go_wp2
        have k0 : Blk (W.setCell ⟨w.heap.size + 1, 0, none⟩ (.int .i64 gen)) (w.heap.size + 1) 139 #[.int .i64 gen, .slice none 0 0, .slice none 0 0, .slice none 0 0] := I.r.setAt 0 _
        have s0 : (W.setCell ⟨w.heap.size + 1, 0, none⟩ (.int .i64 gen)).cell? ⟨w.heap.size + 1, 0, none⟩ = some (.int .i64 gen) := k0.row4.1
        have k1 : Blk ((W.setCell ⟨w.heap.size + 1, 0, none⟩ (.int .i64 gen)).setCell ⟨w.heap.size + 1, 1, none⟩ (.slice x1 m.length y1)) (w.heap.size + 1) 139 #[.int .i64 gen, .slice x1 m.length y1, .slice none 0 0, .slice none 0 0] := k0.setAt 1 _
        have s1 : ((W.setCell ⟨w.heap.size + 1, 0, none⟩ (.int .i64 gen)).setCell ⟨w.heap.size + 1, 1, none⟩ (.slice x1 m.length y1)).cell? ⟨w.heap.size + 1, 1, none⟩ = some (.slice x1 m.length y1) := k1.row4.2.1
        have k2 : Blk (((W.setCell ⟨w.heap.size + 1, 0, none⟩ (.int .i64 gen)).setCell ⟨w.heap.size + 1, 1, none⟩ (.slice x1 m.length y1)).setCell ⟨w.heap.size + 1, 2, none⟩ (.slice x2 b.length y2)) (w.heap.size + 1) 139 #[.int .i64 gen, .slice x1 m.length y1, .slice x2 b.length y2, .slice none 0 0] := k1.setAt 2 _
        have s2 : (((W.setCell ⟨w.heap.size + 1, 0, none⟩ (.int .i64 gen)).setCell ⟨w.heap.size + 1, 1, none⟩ (.slice x1 m.length y1)).setCell ⟨w.heap.size + 1, 2, none⟩ (.slice x2 b.length y2)).cell? ⟨w.heap.size + 1, 2, none⟩ = some (.slice x2 b.length y2) := k2.row4.2.2.1
        have k3 : Blk ((((W.setCell ⟨w.heap.size + 1, 0, none⟩ (.int .i64 gen)).setCell ⟨w.heap.size + 1, 1, none⟩ (.slice x1 m.length y1)).setCell ⟨w.heap.size + 1, 2, none⟩ (.slice x2 b.length y2)).setCell ⟨w.heap.size + 1, 3, none⟩ (.slice x3 o.length y3)) (w.heap.size + 1) 139 #[.int .i64 gen, .slice x1 m.length y1, .slice x2 b.length y2, .slice x3 o.length y3] := k2.setAt 3 _
        have s3 : ((((W.setCell ⟨w.heap.size + 1, 0, none⟩ (.int .i64 gen)).setCell ⟨w.heap.size + 1, 1, none⟩ (.slice x1 m.length y1)).setCell ⟨w.heap.size + 1, 2, none⟩ (.slice x2 b.length y2)).setCell ⟨w.heap.size + 1, 3, none⟩ (.slice x3 o.length y3)).cell? ⟨w.heap.size + 1, 3, none⟩ = some (.slice x3 o.length y3) := k3.row4.2.2.2
        refine bodyPost_ret (v := .agg #[.int .i64 gen, .slice x1 m.length y1, .slice x2 b.length y2, .slice x3 o.length y3]) (by simp [results, Tryz.results170, go_sem, s0, s1, s2, s3]) rfl ?_
        exact T.told I
    . simp only [zG]
      go_simp
      have T := T.new3 (g := w.heap.size + 1 + 1 + 1) (by simp); have I := I.alloc (.cells #[] 3)
      refine hK.out _ _ ?_ (fun hH => ?_)
      . exact I.s4
      clear hK K
      try simp only [zX,zY]
      refine zR2 5 6 (fun K hK => ?_) (fun K hK => ?_)
      . simp only [zG]
        obtain ⟨x1, y1, w1, hr1, T', hk1, hb1⟩ := T.app1 (cap := ca) (HA.out.below I.bl) hm; have T := T'; clear T'; rw [if_pos (by rfl)]; refine wp_append_is _ _ _ (by rfl) _ _ _ (by rfl) (by rfl) hr1 ?_; have I := I.kept hk1 hb1; clear hr1 hk1 hb1
        refine hK.out _ _ ?_ (fun hH => ?_)
        . exact I.s4
        clear hK K
        try simp only [zX,zY]
        refine zR1 6 (fun K hK => ?_)
        simp only [zG]
        go_simp
        have T := T.new2 (g := w1.heap.size) (by simp); have I := I.alloc (.cells #[] 3)
        refine hK.out _ _ ?_ (fun hH => ?_)
        . exact I.s4
        clear hK K
        try simp only [zX,zY]
        refine zR1 9 (fun K hK => ?_)
        simp only [zG]
        obtain ⟨x2, y2, w2, hr2, T', hk2, hb2⟩ := T.app2 (cap := cb) (HB.out.below I.bl) hb; have T := T'; clear T'; rw [if_pos (by rfl)]; refine wp_append_is _ _ _ (by rfl) _ _ _ (by rfl) (by rfl) hr2 ?_; have I := I.kept hk2 hb2; clear hr2 hk2 hb2
        refine hK.out _ _ ?_ (fun hH => ?_)
        . exact I.s4
        clear hK K
        try simp only [zX,zY]
        refine zR1 13 (fun K hK => ?_)
        simp only [zG]
        obtain ⟨x3, y3, w3, hr3, T', hk3, hb3⟩ := T.app3 (cap := cc) (HC.out.below I.bl) ho; have T := T'; clear T'; rw [if_pos (by rfl)]; refine wp_append_is _ _ _ (by rfl) _ _ _ (by rfl) (by rfl) hr3 ?_; have I := I.kept hk3 hb3; clear hr3 hk3 hb3; obtain ⟨r0, r1, r2, r3⟩ := I.r.row4; have f0 := I.r.thaw 0; have f1 := I.r.thaw 1; have f2 := I.r.thaw 2; have f3 := I.r.thaw 3
        refine hK.out _ _ ?_ (fun hH => ?_)
        . exact I.s4
        clear hK K
        try simp only [zX,zY]
        refine zt1 14 ?_; refine ztn (h := ?_); try simp only [zX,zY]
        refine zte ?_
        refine zR1 15 (fun K hK => ?_)
        simp only [zG]
        go_simp
        refine hK.out _ _ ?_ (fun hH => ?_)
        . exact (I.g.off (off_putG w3 (w.heap.size + 1) (.int .i64 gen) (.slice x1 m.length y1) (.slice x2 b.length y2) (.slice x3 o.length y3)) (by simp)).row4
        clear hK K
        try simp only [zX,zY]
        refine zdn ?_
        generalize w3 = W at *
        go_wp2
        have k0 : Blk (W.setCell ⟨w.heap.size + 1, 0, none⟩ (.int .i64 gen)) (w.heap.size + 1) 139 #[.int .i64 gen, .slice none 0 0, .slice none 0 0, .slice none 0 0] := I.r.setAt 0 _
        have s0 : (W.setCell ⟨w.heap.size + 1, 0, none⟩ (.int .i64 gen)).cell? ⟨w.heap.size + 1, 0, none⟩ = some (.int .i64 gen) := k0.row4.1
        have k1 : Blk ((W.setCell ⟨w.heap.size + 1, 0, none⟩ (.int .i64 gen)).setCell ⟨w.heap.size + 1, 1, none⟩ (.slice x1 m.length y1)) (w.heap.size + 1) 139 #[.int .i64 gen, .slice x1 m.length y1, .slice none 0 0, .slice none 0 0] := k0.setAt 1 _
        have s1 : ((W.setCell ⟨w.heap.size + 1, 0, none⟩ (.int .i64 gen)).setCell ⟨w.heap.size + 1, 1, none⟩ (.slice x1 m.length y1)).cell? ⟨w.heap.size + 1, 1, none⟩ = some (.slice x1 m.length y1) := k1.row4.2.1
        have k2 : Blk (((W.setCell ⟨w.heap.size + 1, 0, none⟩ (.int .i64 gen)).setCell ⟨w.heap.size + 1, 1, none⟩ (.slice x1 m.length y1)).setCell ⟨w.heap.size + 1, 2, none⟩ (.slice x2 b.length y2)) (w.heap.size + 1) 139 #[.int .i64 gen, .slice x1 m.length y1, .slice x2 b.length y2, .slice none 0 0] := k1.setAt 2 _
        have s2 : (((W.setCell ⟨w.heap.size + 1, 0, none⟩ (.int .i64 gen)).setCell ⟨w.heap.size + 1, 1, none⟩ (.slice x1 m.length y1)).setCell ⟨w.heap.size + 1, 2, none⟩ (.slice x2 b.length y2)).cell? ⟨w.heap.size + 1, 2, none⟩ = some (.slice x2 b.length y2) := k2.row4.2.2.1
        have k3 : Blk ((((W.setCell ⟨w.heap.size + 1, 0, none⟩ (.int .i64 gen)).setCell ⟨w.heap.size + 1, 1, none⟩ (.slice x1 m.length y1)).setCell ⟨w.heap.size + 1, 2, none⟩ (.slice x2 b.length y2)).setCell ⟨w.heap.size + 1, 3, none⟩ (.slice x3 o.length y3)) (w.heap.size + 1) 139 #[.int .i64 gen, .slice x1 m.length y1, .slice x2 b.length y2, .slice x3 o.length y3] := k2.setAt 3 _
        have s3 : ((((W.setCell ⟨w.heap.size + 1, 0, none⟩ (.int .i64 gen)).setCell ⟨w.heap.size + 1, 1, none⟩ (.slice x1 m.length y1)).setCell ⟨w.heap.size + 1, 2, none⟩ (.slice x2 b.length y2)).setCell ⟨w.heap.size + 1, 3, none⟩ (.slice x3 o.length y3)).cell? ⟨w.heap.size + 1, 3, none⟩ = some (.slice x3 o.length y3) := k3.row4.2.2.2
        refine bodyPost_ret (v := .agg #[.int .i64 gen, .slice x1 m.length y1, .slice x2 b.length y2, .slice x3 o.length y3]) (by simp [results, Tryz.results170, go_sem, s0, s1, s2, s3]) rfl ?_
        exact T.told I
      . simp only [zG]
        go_simp
        have T := T.new2 (g := w.heap.size + 1 + 1 + 1 + 1) (by simp); have I := I.alloc (.cells #[] 3)
        refine hK.out _ _ ?_ (fun hH => ?_)
        . exact I.s4
        clear hK K
        try simp only [zX,zY]
        refine zR1 5 (fun K hK => ?_)
        simp only [zG]
        obtain ⟨x1, y1, w1, hr1, T', hk1, hb1⟩ := T.app1 (cap := ca) (HA.out.below I.bl) hm; have T := T'; clear T'; rw [if_pos (by rfl)]; refine wp_append_is _ _ _ (by rfl) _ _ _ (by rfl) (by rfl) hr1 ?_; have I := I.kept hk1 hb1; clear hr1 hk1 hb1
        refine hK.out _ _ ?_ (fun hH => ?_)
        . exact I.s4
        clear hK K
        try simp only [zX,zY]
        refine zR1 9 (fun K hK => ?_)
        simp only [zG]
        obtain ⟨x2, y2, w2, hr2, T', hk2, hb2⟩ := T.app2 (cap := cb) (HB.out.below I.bl) hb; have T := T'; clear T'; rw [if_pos (by rfl)]; refine wp_append_is _ _ _ (by rfl) _ _ _ (by rfl) (by rfl) hr2 ?_; have I := I.kept hk2 hb2; clear hr2 hk2 hb2
        refine hK.out _ _ ?_ (fun hH => ?_)
        . exact I.s4
        clear hK K
        try simp only [zX,zY]
        refine zR1 13 (fun K hK => ?_)
        simp only [zG]
        obtain ⟨x3, y3, w3, hr3, T', hk3, hb3⟩ := T.app3 (cap := cc) (HC.out.below I.bl) ho; have T := T'; clear T'; rw [if_pos (by rfl)]; refine wp_append_is _ _ _ (by rfl) _ _ _ (by rfl) (by rfl) hr3 ?_; have I := I.kept hk3 hb3; clear hr3 hk3 hb3; obtain ⟨r0, r1, r2, r3⟩ := I.r.row4; have f0 := I.r.thaw 0; have f1 := I.r.thaw 1; have f2 := I.r.thaw 2; have f3 := I.r.thaw 3
        refine hK.out _ _ ?_ (fun hH => ?_)
        . exact I.s4
        clear hK K
        try simp only [zX,zY]
        refine zt1 14 ?_; refine ztn (h := ?_); try simp only [zX,zY]
        refine zte ?_
        refine zR1 15 (fun K hK => ?_)
        simp only [zG]
        go_simp
        refine hK.out _ _ ?_ (fun hH => ?_)
        . exact (I.g.off (off_putG w3 (w.heap.size + 1) (.int .i64 gen) (.slice x1 m.length y1) (.slice x2 b.length y2) (.slice x3 o.length y3)) (by simp)).row4
        clear hK K
        try simp only [zX,zY]
        refine zdn ?_
        generalize w3 = W at *
        go_wp2
        have k0 : Blk (W.setCell ⟨w.heap.size + 1, 0, none⟩ (.int .i64 gen)) (w.heap.size + 1) 139 #[.int .i64 gen, .slice none 0 0, .slice none 0 0, .slice none 0 0] := I.r.setAt 0 _
        have s0 : (W.setCell ⟨w.heap.size + 1, 0, none⟩ (.int .i64 gen)).cell? ⟨w.heap.size + 1, 0, none⟩ = some (.int .i64 gen) := k0.row4.1
        have k1 : Blk ((W.setCell ⟨w.heap.size + 1, 0, none⟩ (.int .i64 gen)).setCell ⟨w.heap.size + 1, 1, none⟩ (.slice x1 m.length y1)) (w.heap.size + 1) 139 #[.int .i64 gen, .slice x1 m.length y1, .slice none 0 0, .slice none 0 0] := k0.setAt 1 _
        have s1 : ((W.setCell ⟨w.heap.size + 1, 0, none⟩ (.int .i64 gen)).setCell ⟨w.heap.size + 1, 1, none⟩ (.slice x1 m.length y1)).cell? ⟨w.heap.size + 1, 1, none⟩ = some (.slice x1 m.length y1) := k1.row4.2.1
        have k2 : Blk (((W.setCell ⟨w.heap.size + 1, 0, none⟩ (.int .i64 gen)).setCell ⟨w.heap.size + 1, 1, none⟩ (.slice x1 m.length y1)).setCell ⟨w.heap.size + 1, 2, none⟩ (.slice x2 b.length y2)) (w.heap.size + 1) 139 #[.int .i64 gen, .slice x1 m.length y1, .slice x2 b.length y2, .slice none 0 0] := k1.setAt 2 _
        have s2 : (((W.setCell ⟨w.heap.size + 1, 0, none⟩ (.int .i64 gen)).setCell ⟨w.heap.size + 1, 1, none⟩ (.slice x1 m.length y1)).setCell ⟨w.heap.size + 1, 2, none⟩ (.slice x2 b.length y2)).cell? ⟨w.heap.size + 1, 2, none⟩ = some (.slice x2 b.length y2) := k2.row4.2.2.1
        have k3 : Blk ((((W.setCell ⟨w.heap.size + 1, 0, none⟩ (.int .i64 gen)).setCell ⟨w.heap.size + 1, 1, none⟩ (.slice x1 m.length y1)).setCell ⟨w.heap.size + 1, 2, none⟩ (.slice x2 b.length y2)).setCell ⟨w.heap.size + 1, 3, none⟩ (.slice x3 o.length y3)) (w.heap.size + 1) 139 #[.int .i64 gen, .slice x1 m.length y1, .slice x2 b.length y2, .slice x3 o.length y3] := k2.setAt 3 _
        have s3 : ((((W.setCell ⟨w.heap.size + 1, 0, none⟩ (.int .i64 gen)).setCell ⟨w.heap.size + 1, 1, none⟩ (.slice x1 m.length y1)).setCell ⟨w.heap.size + 1, 2, none⟩ (.slice x2 b.length y2)).setCell ⟨w.heap.size + 1, 3, none⟩ (.slice x3 o.length y3)).cell? ⟨w.heap.size + 1, 3, none⟩ = some (.slice x3 o.length y3) := k3.row4.2.2.2
        refine bodyPost_ret (v := .agg #[.int .i64 gen, .slice x1 m.length y1, .slice x2 b.length y2, .slice x3 o.length y3]) (by simp [results, Tryz.results170, go_sem, s0, s1, s2, s3]) rfl ?_
        exact T.told I
  . simp only [zG]
    go_simp
    have T := T.new2 (g := w.heap.size + 1 + 1) (by simp); have I := I.alloc (.cells #[] 3)
    refine hK.out _ _ ?_ (fun hH => ?_)
    . exact I.s4
    clear hK K
    try simp only [zX,zY]
    refine zR2 2 10 (fun K hK => ?_) (fun K hK => ?_)
    . simp only [zG]
      go_simp
      have T := T.new1 (g := w.heap.size + 1 + 1 + 1) (by simp); have I := I.alloc (.cells #[] 3)
      refine hK.out _ _ ?_ (fun hH => ?_)
      . exact I.s4
      clear hK K
      try simp only [zX,zY]
      refine zR2 5 10 (fun K hK => ?_) (fun K hK => ?_)
      . simp only [zG]
        obtain ⟨x1, y1, w1, hr1, T', hk1, hb1⟩ := T.app1 (cap := ca) (HA.out.below I.bl) hm; have T := T'; clear T'; rw [if_pos (by rfl)]; refine wp_append_is _ _ _ (by rfl) _ _ _ (by rfl) (by rfl) hr1 ?_; have I := I.kept hk1 hb1; clear hr1 hk1 hb1
        refine hK.out _ _ ?_ (fun hH => ?_)
        . exact I.s4
        clear hK K
        try simp only [zX,zY]
        refine zR2 9 10 (fun K hK => ?_) (fun K hK => ?_)
        . simp only [zG]
          obtain ⟨x2, y2, w2, hr2, T', hk2, hb2⟩ := T.app2 (cap := cb) (HB.out.below I.bl) hb; have T := T'; clear T'; rw [if_pos (by rfl)]; refine wp_append_is _ _ _ (by rfl) _ _ _ (by rfl) (by rfl) hr2 ?_; have I := I.kept hk2 hb2; clear hr2 hk2 hb2
          refine hK.out _ _ ?_ (fun hH => ?_)
          . exact I.s4
          clear hK K
          try simp only [zX,zY]
          refine zR1 10 (fun K hK => ?_)
          simp only [zG]
          go_simp
          have T := T.new3 (g := w2.heap.size) (by simp); have I := I.alloc (.cells #[] 3)
          refine hK.out _ _ ?_ (fun hH => ?_)
          . exact I.s4
          clear hK K
          try simp only [zX,zY]
          refine zR1 13 (fun K hK => ?_)
          simp only [zG]
          obtain ⟨x3, y3, w3, hr3, T', hk3, hb3⟩ := T.app3 (cap := cc) (HC.out.below I.bl) ho; have T := T'; clear T'; rw [if_pos (by rfl)]; refine wp_append_is _ _ _ (by rfl) _ _ _ (by rfl) (by rfl) hr3 ?_; have I := I.kept hk3 hb3; clear hr3 hk3 hb3; obtain ⟨r0, r1, r2, r3⟩ := I.r.row4; have f0 := I.r.thaw 0; have f1 := I.r.thaw 1; have f2 := I.r.thaw 2; have f3 := I.r.thaw 3
          refine hK.out _ _ ?_ (fun hH => ?_)
          . exact I.s4
          clear hK K
          try simp only [zX,zY]
          refine zt1 14 ?_; refine ztn (h := ?_); try simp only [zX,zY]
          refine zte ?_
          refine zR1 15 (fun K hK => ?_)
          simp only [zG]
          go_simp
          refine hK.out _ _ ?_ (fun hH => ?_)
          . exact (I.g.off (off_putG w3 (w.heap.size + 1) (.int .i64 gen) (.slice x1 m.length y1) (.slice x2 b.length y2) (.slice x3 o.length y3)) (by simp)).row4
          clear hK K
          try simp only [zX,zY]
          refine zdn ?_
          generalize w3 = W at *
          go_wp2
          have k0 : Blk (W.setCell ⟨w.heap.size + 1, 0, none⟩ (.int .i64 gen)) (w.heap.size + 1) 139 #[.int .i64 gen, .slice none 0 0, .slice none 0 0, .slice none 0 0] := I.r.setAt 0 _
          have s0 : (W.setCell ⟨w.heap.size + 1, 0, none⟩ (.int .i64 gen)).cell? ⟨w.heap.size + 1, 0, none⟩ = some (.int .i64 gen) := k0.row4.1
          have k1 : Blk ((W.setCell ⟨w.heap.size + 1, 0, none⟩ (.int .i64 gen)).setCell ⟨w.heap.size + 1, 1, none⟩ (.slice x1 m.length y1)) (w.heap.size + 1) 139 #[.int .i64 gen, .slice x1 m.length y1, .slice none 0 0, .slice none 0 0] := k0.setAt 1 _
          have s1 : ((W.setCell ⟨w.heap.size + 1, 0, none⟩ (.int .i64 gen)).setCell ⟨w.heap.size + 1, 1, none⟩ (.slice x1 m.length y1)).cell? ⟨w.heap.size + 1, 1, none⟩ = some (.slice x1 m.length y1) := k1.row4.2.1
          have k2 : Blk (((W.setCell ⟨w.heap.size + 1, 0, none⟩ (.int .i64 gen)).setCell ⟨w.heap.size + 1, 1, none⟩ (.slice x1 m.length y1)).setCell ⟨w.heap.size + 1, 2, none⟩ (.slice x2 b.length y2)) (w.heap.size + 1) 139 #[.int .i64 gen, .slice x1 m.length y1, .slice x2 b.length y2, .slice none 0 0] := k1.setAt 2 _
          have s2 : (((W.setCell ⟨w.heap.size + 1, 0, none⟩ (.int .i64 gen)).setCell ⟨w.heap.size + 1, 1, none⟩ (.slice x1 m.length y1)).setCell ⟨w.heap.size + 1, 2, none⟩ (.slice x2 b.length y2)).cell? ⟨w.heap.size + 1, 2, none⟩ = some (.slice x2 b.length y2) := k2.row4.2.2.1
          have k3 : Blk ((((W.setCell ⟨w.heap.size + 1, 0, none⟩ (.int .i64 gen)).setCell ⟨w.heap.size + 1, 1, none⟩ (.slice x1 m.length y1)).setCell ⟨w.heap.size + 1, 2, none⟩ (.slice x2 b.length y2)).setCell ⟨w.heap.size + 1, 3, none⟩ (.slice x3 o.length y3)) (w.heap.size + 1) 139 #[.int .i64 gen, .slice x1 m.length y1, .slice x2 b.length y2, .slice x3 o.length y3] := k2.setAt 3 _
          have s3 : ((((W.setCell ⟨w.heap.size + 1, 0, none⟩ (.int .i64 gen)).setCell ⟨w.heap.size + 1, 1, none⟩ (.slice x1 m.length y1)).setCell ⟨w.heap.size + 1, 2, none⟩ (.slice x2 b.length y2)).setCell ⟨w.heap.size + 1, 3, none⟩ (.slice x3 o.length y3)).cell? ⟨w.heap.size + 1, 3, none⟩ = some (.slice x3 o.length y3) := k3.row4.2.2.2
          refine bodyPost_ret (v := .agg #[.int .i64 gen, .slice x1 m.length y1, .slice x2 b.length y2, .slice x3 o.length y3]) (by simp [results, Tryz.results170, go_sem, s0, s1, s2, s3]) rfl ?_
          exact T.told I
        . simp only [zG]
          go_simp
          have T := T.new3 (g := w1.heap.size) (by simp); have I := I.alloc (.cells #[] 3)
          refine hK.out _ _ ?_ (fun hH => ?_)
          . exact I.s4
          clear hK K
          try simp only [zX,zY]
          refine zR1 9 (fun K hK => ?_)
          simp only [zG]
          obtain ⟨x2, y2, w2, hr2, T', hk2, hb2⟩ := T.app2 (cap := cb) (HB.out.below I.bl) hb; have T := T'; clear T'; rw [if_pos (by rfl)]; refine wp_append_is _ _ _ (by rfl) _ _ _ (by rfl) (by rfl) hr2 ?_; have I := I.kept hk2 hb2; clear hr2 hk2 hb2
          refine hK.out _ _ ?_ (fun hH => ?_)
          . exact I.s4
          clear hK K
          try simp only [zX,zY]
          refine zR1 13 (fun K hK => ?_)
          simp only [zG]
          obtain ⟨x3, y3, w3, hr3, T', hk3, hb3⟩ := T.app3 (cap := cc) (HC.out.below I.bl) ho; have T := T'; clear T'; rw [if_pos (by rfl)]; refine wp_append_is _ _ _ (by rfl) _ _ _ (by rfl) (by rfl) hr3 ?_; have I := I.kept hk3 hb3; clear hr3 hk3 hb3; obtain ⟨r0, r1, r2, r3⟩ := I.r.row4; have f0 := I.r.thaw 0; have f1 := I.r.thaw 1; have f2 := I.r.thaw 2; have f3 := I.r.thaw 3
          refine hK.out _ _ ?_ (fun hH => ?_)
          . exact I.s4
          clear hK K
          try simp only [zX,zY]
          refine zt1 14 ?_; refine ztn (h := ?_); try simp only [zX,zY]
          refine zte ?_
          refine zR1 15 (fun K hK => ?_)
          simp only [zG]
          go_simp
          refine hK.out _ _ ?_ (fun hH => ?_)
          . exact (I.g.off (off_putG w3 (w.heap.size + 1) (.int .i64 gen) (.slice x1 m.length y1) (.slice x2 b.length y2) (.slice x3 o.length y3)) (by simp)).row4
          clear hK K
          try simp only [zX,zY]
          refine zdn ?_
          generalize w3 = W at *
          go_wp2
          have k0 : Blk (W.setCell ⟨w.heap.size + 1, 0, none⟩ (.int .i64 gen)) (w.heap.size + 1) 139 #[.int .i64 gen, .slice none 0 0, .slice none 0 0, .slice none 0 0] := I.r.setAt 0 _
          have s0 : (W.setCell ⟨w.heap.size + 1, 0, none⟩ (.int .i64 gen)).cell? ⟨w.heap.size + 1, 0, none⟩ = some (.int .i64 gen) := k0.row4.1
          have k1 : Blk ((W.setCell ⟨w.heap.size + 1, 0, none⟩ (.int .i64 gen)).setCell ⟨w.heap.size + 1, 1, none⟩ (.slice x1 m.length y1)) (w.heap.size + 1) 139 #[.int .i64 gen, .slice x1 m.length y1, .slice none 0 0, .slice none 0 0] := k0.setAt 1 _
          have s1 : ((W.setCell ⟨w.heap.size + 1, 0, none⟩ (.int .i64 gen)).setCell ⟨w.heap.size + 1, 1, none⟩ (.slice x1 m.length y1)).cell? ⟨w.heap.size + 1, 1, none⟩ = some (.slice x1 m.length y1) := k1.row4.2.1
          have k2 : Blk (((W.setCell ⟨w.heap.size + 1, 0, none⟩ (.int .i64 gen)).setCell ⟨w.heap.size + 1, 1, none⟩ (.slice x1 m.length y1)).setCell ⟨w.heap.size + 1, 2, none⟩ (.slice x2 b.length y2)) (w.heap.size + 1) 139 #[.int .i64 gen, .slice x1 m.length y1, .slice x2 b.length y2, .slice none 0 0] := k1.setAt 2 _
          have s2 : (((W.setCell ⟨w.heap.size + 1, 0, none⟩ (.int .i64 gen)).setCell ⟨w.heap.size + 1, 1, none⟩ (.slice x1 m.length y1)).setCell ⟨w.heap.size + 1, 2, none⟩ (.slice x2 b.length y2)).cell? ⟨w.heap.size + 1, 2, none⟩ = some (.slice x2 b.length y2) := k2.row4.2.2.1
          have k3 : Blk ((((W.setCell ⟨w.heap.size + 1, 0, none⟩ (.int .i64 gen)).setCell ⟨w.heap.size + 1, 1, none⟩ (.slice x1 m.length y1)).setCell ⟨w.heap.size + 1, 2, none⟩ (.slice x2 b.length y2)).setCell ⟨w.heap.size + 1, 3, none⟩ (.slice x3 o.length y3)) (w.heap.size + 1) 139 #[.int .i64 gen, .slice x1 m.length y1, .slice x2 b.length y2, .slice x3 o.length y3] := k2.setAt 3 _
          have s3 : ((((W.setCell ⟨w.heap.size + 1, 0, none⟩ (.int .i64 gen)).setCell ⟨w.heap.size + 1, 1, none⟩ (.slice x1 m.length y1)).setCell ⟨w.heap.size + 1, 2, none⟩ (.slice x2 b.length y2)).setCell ⟨w.heap.size + 1, 3, none⟩ (.slice x3 o.length y3)).cell? ⟨w.heap.size + 1, 3, none⟩ = some (.slice x3 o.length y3) := k3.row4.2.2.2
          refine bodyPost_ret (v := .agg #[.int .i64 gen, .slice x1 m.length y1, .slice x2 b.length y2, .slice x3 o.length y3]) (by simp [results, Tryz.results170, go_sem, s0, s1, s2, s3]) rfl ?_
          exact T.told I
      . simp only [zG]
        go_simp
        have T := T.new3 (g := w.heap.size + 1 + 1 + 1 + 1) (by simp); have I := I.alloc (.cells #[] 3)
        refine hK.out _ _ ?_ (fun hH => ?_)
        . exact I.s4
        clear hK K
        try simp only [zX,zY]
        refine zR1 5 (fun K hK => ?_)
        simp only [zG]
        obtain ⟨x1, y1, w1, hr1, T', hk1, hb1⟩ := T.app1 (cap := ca) (HA.out.below I.bl) hm; have T := T'; clear T'; rw [if_pos (by rfl)]; refine wp_append_is _ _ _ (by rfl) _ _ _ (by rfl) (by rfl) hr1 ?_; have I := I.kept hk1 hb1; clear hr1 hk1 hb1
        refine hK.out _ _ ?_ (fun hH => ?_)
        . exact I.s4
        clear hK K
        try simp only [zX,zY]
        refine zR1 9 (fun K hK => ?_)
        simp only [zG]
        obtain ⟨x2, y2, w2, hr2, T', hk2, hb2⟩ := T.app2 (cap := cb) (HB.out.below I.bl) hb; have T := T'; clear T'; rw [if_pos (by rfl)]; refine wp_append_is _ _ _ (by rfl) _ _ _ (by rfl) (by rfl) hr2 ?_; have I := I.kept hk2 hb2; clear hr2 hk2 hb2
        refine hK.out _ _ ?_ (fun hH => ?_)
        . exact I.s4
        clear hK K
        try simp only [zX,zY]
        refine zR1 13 (fun K hK => ?_)
        simp only [zG]
        obtain ⟨x3, y3, w3, hr3, T', hk3, hb3⟩ := T.app3 (cap := cc) (HC.out.below I.bl) ho; have T := T'; clear T'; rw [if_pos (by rfl)]; refine wp_append_is _ _ _ (by rfl) _ _ _ (by rfl) (by rfl) hr3 ?_; have I := I.kept hk3 hb3; clear hr3 hk3 hb3; obtain ⟨r0, r1, r2, r3⟩ := I.r.row4; have f0 := I.r.thaw 0; have f1 := I.r.thaw 1; have f2 := I.r.thaw 2; have f3 := I.r.thaw 3
        refine hK.out _ _ ?_ (fun hH => ?_)
        . exact I.s4
        clear hK K
        try simp only [zX,zY]
        refine zt1 14 ?_; refine ztn (h := ?_); try simp only [zX,zY]
        refine zte ?_
        refine zR1 15 (fun K hK => ?_)
        simp only [zG]
        go_simp
        refine hK.out _ _ ?_ (fun hH => ?_)
        . exact (I.g.off (off_putG w3 (w.heap.size + 1) (.int .i64 gen) (.slice x1 m.length y1) (.slice x2 b.length y2) (.slice x3 o.length y3)) (by simp)).row4
        clear hK K
        try simp only [zX,zY]
        refine zdn ?_
        generalize w3 = W at *
        go_wp2
        have k0 : Blk (W.setCell ⟨w.heap.size + 1, 0, none⟩ (.int .i64 gen)) (w.heap.size + 1) 139 #[.int .i64 gen, .slice none 0 0, .slice none 0 0, .slice none 0 0] := I.r.setAt 0 _
        have s0 : (W.setCell ⟨w.heap.size + 1, 0, none⟩ (.int .i64 gen)).cell? ⟨w.heap.size + 1, 0, none⟩ = some (.int .i64 gen) := k0.row4.1
        have k1 : Blk ((W.setCell ⟨w.heap.size + 1, 0, none⟩ (.int .i64 gen)).setCell ⟨w.heap.size + 1, 1, none⟩ (.slice x1 m.length y1)) (w.heap.size + 1) 139 #[.int .i64 gen, .slice x1 m.length y1, .slice none 0 0, .slice none 0 0] := k0.setAt 1 _
        have s1 : ((W.setCell ⟨w.heap.size + 1, 0, none⟩ (.int .i64 gen)).setCell ⟨w.heap.size + 1, 1, none⟩ (.slice x1 m.length y1)).cell? ⟨w.heap.size + 1, 1, none⟩ = some (.slice x1 m.length y1) := k1.row4.2.1
        have k2 : Blk (((W.setCell ⟨w.heap.size + 1, 0, none⟩ (.int .i64 gen)).setCell ⟨w.heap.size + 1, 1, none⟩ (.slice x1 m.length y1)).setCell ⟨w.heap.size + 1, 2, none⟩ (.slice x2 b.length y2)) (w.heap.size + 1) 139 #[.int .i64 gen, .slice x1 m.length y1, .slice x2 b.length y2, .slice none 0 0] := k1.setAt 2 _
        have s2 : (((W.setCell ⟨w.heap.size + 1, 0, none⟩ (.int .i64 gen)).setCell ⟨w.heap.size + 1, 1, none⟩ (.slice x1 m.length y1)).setCell ⟨w.heap.size + 1, 2, none⟩ (.slice x2 b.length y2)).cell? ⟨w.heap.size + 1, 2, none⟩ = some (.slice x2 b.length y2) := k2.row4.2.2.1
        have k3 : Blk ((((W.setCell ⟨w.heap.size + 1, 0, none⟩ (.int .i64 gen)).setCell ⟨w.heap.size + 1, 1, none⟩ (.slice x1 m.length y1)).setCell ⟨w.heap.size + 1, 2, none⟩ (.slice x2 b.length y2)).setCell ⟨w.heap.size + 1, 3, none⟩ (.slice x3 o.length y3)) (w.heap.size + 1) 139 #[.int .i64 gen, .slice x1 m.length y1, .slice x2 b.length y2, .slice x3 o.length y3] := k2.setAt 3 _
        have s3 : ((((W.setCell ⟨w.heap.size + 1, 0, none⟩ (.int .i64 gen)).setCell ⟨w.heap.size + 1, 1, none⟩ (.slice x1 m.length y1)).setCell ⟨w.heap.size + 1, 2, none⟩ (.slice x2 b.length y2)).setCell ⟨w.heap.size + 1, 3, none⟩ (.slice x3 o.length y3)).cell? ⟨w.heap.size + 1, 3, none⟩ = some (.slice x3 o.length y3) := k3.row4.2.2.2
        refine bodyPost_ret (v := .agg #[.int .i64 gen, .slice x1 m.length y1, .slice x2 b.length y2, .slice x3 o.length y3]) (by simp [results, Tryz.results170, go_sem, s0, s1, s2, s3]) rfl ?_
        exact T.told I
    . simp only [zG]
      go_simp
      have T := T.new3 (g := w.heap.size + 1 + 1 + 1) (by simp); have I := I.alloc (.cells #[] 3)
      refine hK.out _ _ ?_ (fun hH => ?_)
      . exact I.s4
      clear hK K
      try simp only [zX,zY]
      refine zR1 2 (fun K hK => ?_)
      simp only [zG]
      go_simp
      have T := T.new1 (g := w.heap.size + 1 + 1 + 1 + 1) (by simp); have I := I.alloc (.cells #[] 3)
      refine hK.out _ _ ?_ (fun hH => ?_)
      . exact I.s4
      clear hK K
      try simp only [zX,zY]
      refine zR1 5 (fun K hK => ?_)
      simp only [zG]
      obtain ⟨x1, y1, w1, hr1, T', hk1, hb1⟩ := T.app1 (cap := ca) (HA.out.below I.bl) hm; have T := T'; clear T'; rw [if_pos (by rfl)]; refine wp_append_is _ _ _ (by rfl) _ _ _ (by rfl) (by rfl) hr1 ?_; have I := I.kept hk1 hb1; clear hr1 hk1 hb1
      refine hK.out _ _ ?_ (fun hH => ?_)
      . exact I.s4
      clear hK K
      try simp only [zX,zY]
      refine zR1 9 (fun K hK => ?_)
      simp only [zG]
      obtain ⟨x2, y2, w2, hr2, T', hk2, hb2⟩ := T.app2 (cap := cb) (HB.out.below I.bl) hb; have T := T'; clear T'; rw [if_pos (by rfl)]; refine wp_append_is _ _ _ (by rfl) _ _ _ (by rfl) (by rfl) hr2 ?_; have I := I.kept hk2 hb2; clear hr2 hk2 hb2
      refine hK.out _ _ ?_ (fun hH => ?_)
      . exact I.s4
      clear hK K
      try simp only [zX,zY]
      refine zR1 13 (fun K hK => ?_)
      simp only [zG]
      obtain ⟨x3, y3, w3, hr3, T', hk3, hb3⟩ := T.app3 (cap := cc) (HC.out.below I.bl) ho; have T := T'; clear T'; rw [if_pos (by rfl)]; refine wp_append_is _ _ _ (by rfl) _ _ _ (by rfl) (by rfl) hr3 ?_; have I := I.kept hk3 hb3; clear hr3 hk3 hb3; obtain ⟨r0, r1, r2, r3⟩ := I.r.row4; have f0 := I.r.thaw 0; have f1 := I.r.thaw 1; have f2 := I.r.thaw 2; have f3 := I.r.thaw 3
      refine hK.out _ _ ?_ (fun hH => ?_)
      . exact I.s4
      clear hK K
      try simp only [zX,zY]
      refine zt1 14 ?_; refine ztn (h := ?_); try simp only [zX,zY]
      refine zte ?_
      refine zR1 15 (fun K hK => ?_)
      simp only [zG]
      go_simp
      refine hK.out _ _ ?_ (fun hH => ?_)
      . exact (I.g.off (off_putG w3 (w.heap.size + 1) (.int .i64 gen) (.slice x1 m.length y1) (.slice x2 b.length y2) (.slice x3 o.length y3)) (by simp)).row4
      clear hK K
      try simp only [zX,zY]
      refine zdn ?_
      generalize w3 = W at *
      go_wp2
      have k0 : Blk (W.setCell ⟨w.heap.size + 1, 0, none⟩ (.int .i64 gen)) (w.heap.size + 1) 139 #[.int .i64 gen, .slice none 0 0, .slice none 0 0, .slice none 0 0] := I.r.setAt 0 _
      have s0 : (W.setCell ⟨w.heap.size + 1, 0, none⟩ (.int .i64 gen)).cell? ⟨w.heap.size + 1, 0, none⟩ = some (.int .i64 gen) := k0.row4.1
      have k1 : Blk ((W.setCell ⟨w.heap.size + 1, 0, none⟩ (.int .i64 gen)).setCell ⟨w.heap.size + 1, 1, none⟩ (.slice x1 m.length y1)) (w.heap.size + 1) 139 #[.int .i64 gen, .slice x1 m.length y1, .slice none 0 0, .slice none 0 0] := k0.setAt 1 _
      have s1 : ((W.setCell ⟨w.heap.size + 1, 0, none⟩ (.int .i64 gen)).setCell ⟨w.heap.size + 1, 1, none⟩ (.slice x1 m.length y1)).cell? ⟨w.heap.size + 1, 1, none⟩ = some (.slice x1 m.length y1) := k1.row4.2.1
      have k2 : Blk (((W.setCell ⟨w.heap.size + 1, 0, none⟩ (.int .i64 gen)).setCell ⟨w.heap.size + 1, 1, none⟩ (.slice x1 m.length y1)).setCell ⟨w.heap.size + 1, 2, none⟩ (.slice x2 b.length y2)) (w.heap.size + 1) 139 #[.int .i64 gen, .slice x1 m.length y1, .slice x2 b.length y2, .slice none 0 0] := k1.setAt 2 _
      have s2 : (((W.setCell ⟨w.heap.size + 1, 0, none⟩ (.int .i64 gen)).setCell ⟨w.heap.size + 1, 1, none⟩ (.slice x1 m.length y1)).setCell ⟨w.heap.size + 1, 2, none⟩ (.slice x2 b.length y2)).cell? ⟨w.heap.size + 1, 2, none⟩ = some (.slice x2 b.length y2) := k2.row4.2.2.1
      have k3 : Blk ((((W.setCell ⟨w.heap.size + 1, 0, none⟩ (.int .i64 gen)).setCell ⟨w.heap.size + 1, 1, none⟩ (.slice x1 m.length y1)).setCell ⟨w.heap.size + 1, 2, none⟩ (.slice x2 b.length y2)).setCell ⟨w.heap.size + 1, 3, none⟩ (.slice x3 o.length y3)) (w.heap.size + 1) 139 #[.int .i64 gen, .slice x1 m.length y1, .slice x2 b.length y2, .slice x3 o.length y3] := k2.setAt 3 _
      have s3 : ((((W.setCell ⟨w.heap.size + 1, 0, none⟩ (.int .i64 gen)).setCell ⟨w.heap.size + 1, 1, none⟩ (.slice x1 m.length y1)).setCell ⟨w.heap.size + 1, 2, none⟩ (.slice x2 b.length y2)).setCell ⟨w.heap.size + 1, 3, none⟩ (.slice x3 o.length y3)).cell? ⟨w.heap.size + 1, 3, none⟩ = some (.slice x3 o.length y3) := k3.row4.2.2.2
      refine bodyPost_ret (v := .agg #[.int .i64 gen, .slice x1 m.length y1, .slice x2 b.length y2, .slice x3 o.length y3]) (by simp [results, Tryz.results170, go_sem, s0, s1, s2, s3]) rfl ?_
      exact T.told I
  . simp only [zG]
    go_simp
    have T := T.new3 (g := w.heap.size + 1 + 1) (by simp); have I := I.alloc (.cells #[] 3)
    refine hK.out _ _ ?_ (fun hH => ?_)
    . exact I.s4
    clear hK K
    try simp only [zX,zY]
    refine zR2 2 6 (fun K hK => ?_) (fun K hK => ?_)
    . simp only [zG]
      go_simp
      have T := T.new1 (g := w.heap.size + 1 + 1 + 1) (by simp); have I := I.alloc (.cells #[] 3)
      refine hK.out _ _ ?_ (fun hH => ?_)
      . exact I.s4
      clear hK K
      try simp only [zX,zY]
      refine zR2 5 6 (fun K hK => ?_) (fun K hK => ?_)
      . simp only [zG]
        obtain ⟨x1, y1, w1, hr1, T', hk1, hb1⟩ := T.app1 (cap := ca) (HA.out.below I.bl) hm; have T := T'; clear T'; rw [if_pos (by rfl)]; refine wp_append_is _ _ _ (by rfl) _ _ _ (by rfl) (by rfl) hr1 ?_; have I := I.kept hk1 hb1; clear hr1 hk1 hb1
        refine hK.out _ _ ?_ (fun hH => ?_)
        . exact I.s4
        clear hK K
        try simp only [zX,zY]
        refine zR1 6 (fun K hK => ?_)
        simp only [zG]
        go_simp
        have T := T.new2 (g := w1.heap.size) (by simp); have I := I.alloc (.cells #[] 3)
        refine hK.out _ _ ?_ (fun hH => ?_)
        . exact I.s4
        clear hK K
        try simp only [zX,zY]
        refine zR1 9 (fun K hK => ?_)
        simp only [zG]
        obtain ⟨x2, y2, w2, hr2, T', hk2, hb2⟩ := T.app2 (cap := cb) (HB.out.below I.bl) hb; have T := T'; clear T'; rw [if_pos (by rfl)]; refine wp_append_is _ _ _ (by rfl) _ _ _ (by rfl) (by rfl) hr2 ?_; have I := I.kept hk2 hb2; clear hr2 hk2 hb2
        refine hK.out _ _ ?_ (fun hH => ?_)
        . exact I.s4
        clear hK K
        try simp only [zX,zY]
        refine zR1 13 (fun K hK => ?_)
        simp only [zG]
        obtain ⟨x3, y3, w3, hr3, T', hk3, hb3⟩ := T.app3 (cap := cc) (HC.out.below I.bl) ho; have T := T'; clear T'; rw [if_pos (by rfl)]; refine wp_append_is _ _ _ (by rfl) _ _ _ (by rfl) (by rfl) hr3 ?_; have I := I.kept hk3 hb3; clear hr3 hk3 hb3; obtain ⟨r0, r1, r2, r3⟩ := I.r.row4; have f0 := I.r.thaw 0; have f1 := I.r.thaw 1; have f2 := I.r.thaw 2; have f3 := I.r.thaw 3
        refine hK.out _ _ ?_ (fun hH => ?_)
        . exact I.s4
        clear hK K
        try simp only [zX,zY]
        refine zt1 14 ?_; refine ztn (h := ?_); try simp only [zX,zY]
        refine zte ?_
        refine zR1 15 (fun K hK => ?_)
        simp only [zG]
        go_simp
        refine hK.out _ _ ?_ (fun hH => ?_)
        . exact (I.g.off (off_putG w3 (w.heap.size + 1) (.int .i64 gen) (.slice x1 m.length y1) (.slice x2 b.length y2) (.slice x3 o.length y3)) (by simp)).row4
        clear hK K
        try simp only [zX,zY]
        refine zdn ?_
        generalize w3 = W at *
        go_wp2
        have k0 : Blk (W.setCell ⟨w.heap.size + 1, 0, none⟩ (.int .i64 gen)) (w.heap.size + 1) 139 #[.int .i64 gen, .slice none 0 0, .slice none 0 0, .slice none 0 0] := I.r.setAt 0 _
        have s0 : (W.setCell ⟨w.heap.size + 1, 0, none⟩ (.int .i64 gen)).cell? ⟨w.heap.size + 1, 0, none⟩ = some (.int .i64 gen) := k0.row4.1
        have k1 : Blk ((W.setCell ⟨w.heap.size + 1, 0, none⟩ (.int .i64 gen)).setCell ⟨w.heap.size + 1, 1, none⟩ (.slice x1 m.length y1)) (w.heap.size + 1) 139 #[.int .i64 gen, .slice x1 m.length y1, .slice none 0 0, .slice none 0 0] := k0.setAt 1 _
        have s1 : ((W.setCell ⟨w.heap.size + 1, 0, none⟩ (.int .i64 gen)).setCell ⟨w.heap.size + 1, 1, none⟩ (.slice x1 m.length y1)).cell? ⟨w.heap.size + 1, 1, none⟩ = some (.slice x1 m.length y1) := k1.row4.2.1
        have k2 : Blk (((W.setCell ⟨w.heap.size + 1, 0, none⟩ (.int .i64 gen)).setCell ⟨w.heap.size + 1, 1, none⟩ (.slice x1 m.length y1)).setCell ⟨w.heap.size + 1, 2, none⟩ (.slice x2 b.length y2)) (w.heap.size + 1) 139 #[.int .i64 gen, .slice x1 m.length y1, .slice x2 b.length y2, .slice none 0 0] := k1.setAt 2 _
        have s2 : (((W.setCell ⟨w.heap.size + 1, 0, none⟩ (.int .i64 gen)).setCell ⟨w.heap.size + 1, 1, none⟩ (.slice x1 m.length y1)).setCell ⟨w.heap.size + 1, 2, none⟩ (.slice x2 b.length y2)).cell? ⟨w.heap.size + 1, 2, none⟩ = some (.slice x2 b.length y2) := k2.row4.2.2.1
        have k3 : Blk ((((W.setCell ⟨w.heap.size + 1, 0, none⟩ (.int .i64 gen)).setCell ⟨w.heap.size + 1, 1, none⟩ (.slice x1 m.length y1)).setCell ⟨w.heap.size + 1, 2, none⟩ (.slice x2 b.length y2)).setCell ⟨w.heap.size + 1, 3, none⟩ (.slice x3 o.length y3)) (w.heap.size + 1) 139 #[.int .i64 gen, .slice x1 m.length y1, .slice x2 b.length y2, .slice x3 o.length y3] := k2.setAt 3 _
        have s3 : ((((W.setCell ⟨w.heap.size + 1, 0, none⟩ (.int .i64 gen)).setCell ⟨w.heap.size + 1, 1, none⟩ (.slice x1 m.length y1)).setCell ⟨w.heap.size + 1, 2, none⟩ (.slice x2 b.length y2)).setCell ⟨w.heap.size + 1, 3, none⟩ (.slice x3 o.length y3)).cell? ⟨w.heap.size + 1, 3, none⟩ = some (.slice x3 o.length y3) := k3.row4.2.2.2
        refine bodyPost_ret (v := .agg #[.int .i64 gen, .slice x1 m.length y1, .slice x2 b.length y2, .slice x3 o.length y3]) (by simp [results, Tryz.results170, go_sem, s0, s1, s2, s3]) rfl ?_
        exact T.told I
      . simp only [zG]
        go_simp
        have T := T.new2 (g := w.heap.size + 1 + 1 + 1 + 1) (by simp); have I := I.alloc (.cells #[] 3)
        refine hK.out _ _ ?_ (fun hH => ?_)
        . exact I.s4
        clear hK K
        try simp only [zX,zY]
        refine zR1 5 (fun K hK => ?_)
        simp only [zG]
        obtain ⟨x1, y1, w1, hr1, T', hk1, hb1⟩ := T.app1 (cap := ca) (HA.out.below I.bl) hm; have T := T'; clear T'; rw [if_pos (by rfl)]; refine wp_append_is _ _ _ (by rfl) _ _ _ (by rfl) (by rfl) hr1 ?_; have I := I.kept hk1 hb1; clear hr1 hk1 hb1
        refine hK.out _ _ ?_ (fun hH => ?_)
        . exact I.s4
        clear hK K
        try simp only [zX,zY]
        refine zR1 9 (fun K hK => ?_)
        simp only [zG]
        obtain ⟨x2, y2, w2, hr2, T', hk2, hb2⟩ := T.app2 (cap := cb) (HB.out.below I.bl) hb; have T := T'; clear T'; rw [if_pos (by rfl)]; refine wp_append_is _ _ _ (by rfl) _ _ _ (by rfl) (by rfl) hr2 ?_; have I := I.kept hk2 hb2; clear hr2 hk2 hb2
        refine hK.out _ _ ?_ (fun hH => ?_)
        . exact I.s4
        clear hK K
        try simp only [zX,zY]
        refine zR1 13 (fun K hK => ?_)
        simp only [zG]
        obtain ⟨x3, y3, w3, hr3, T', hk3, hb3⟩ := T.app3 (cap := cc) (HC.out.below I.bl) ho; have T := T'; clear T'; rw [if_pos (by rfl)]; refine wp_append_is _ _ _ (by rfl) _ _ _ (by rfl) (by rfl) hr3 ?_; have I := I.kept hk3 hb3; clear hr3 hk3 hb3; obtain ⟨r0, r1, r2, r3⟩ := I.r.row4; have f0 := I.r.thaw 0; have f1 := I.r.thaw 1; have f2 := I.r.thaw 2; have f3 := I.r.thaw 3
        refine hK.out _ _ ?_ (fun hH => ?_)
        . exact I.s4
        clear hK K
        try simp only [zX,zY]
        refine zt1 14 ?_; refine ztn (h := ?_); try simp only [zX,zY]
        refine zte ?_
        refine zR1 15 (fun K hK => ?_)
        simp only [zG]
        go_simp
        refine hK.out _ _ ?_ (fun hH => ?_)
        . exact (I.g.off (off_putG w3 (w.heap.size + 1) (.int .i64 gen) (.slice x1 m.length y1) (.slice x2 b.length y2) (.slice x3 o.length y3)) (by simp)).row4
        clear hK K
        try simp only [zX,zY]
        refine zdn ?_
        generalize w3 = W at *
        go_wp2
        have k0 : Blk (W.setCell ⟨w.heap.size + 1, 0, none⟩ (.int .i64 gen)) (w.heap.size + 1) 139 #[.int .i64 gen, .slice none 0 0, .slice none 0 0, .slice none 0 0] := I.r.setAt 0 _
        have s0 : (W.setCell ⟨w.heap.size + 1, 0, none⟩ (.int .i64 gen)).cell? ⟨w.heap.size + 1, 0, none⟩ = some (.int .i64 gen) := k0.row4.1
        have k1 : Blk ((W.setCell ⟨w.heap.size + 1, 0, none⟩ (.int .i64 gen)).setCell ⟨w.heap.size + 1, 1, none⟩ (.slice x1 m.length y1)) (w.heap.size + 1) 139 #[.int .i64 gen, .slice x1 m.length y1, .slice none 0 0, .slice none 0 0] := k0.setAt 1 _
        have s1 : ((W.setCell ⟨w.heap.size + 1, 0, none⟩ (.int .i64 gen)).setCell ⟨w.heap.size + 1, 1, none⟩ (.slice x1 m.length y1)).cell? ⟨w.heap.size + 1, 1, none⟩ = some (.slice x1 m.length y1) := k1.row4.2.1
        have k2 : Blk (((W.setCell ⟨w.heap.size + 1, 0, none⟩ (.int .i64 gen)).setCell ⟨w.heap.size + 1, 1, none⟩ (.slice x1 m.length y1)).setCell ⟨w.heap.size + 1, 2, none⟩ (.slice x2 b.length y2)) (w.heap.size + 1) 139 #[.int .i64 gen, .slice x1 m.length y1, .slice x2 b.length y2, .slice none 0 0] := k1.setAt 2 _
        have s2 : (((W.setCell ⟨w.heap.size + 1, 0, none⟩ (.int .i64 gen)).setCell ⟨w.heap.size + 1, 1, none⟩ (.slice x1 m.length y1)).setCell ⟨w.heap.size + 1, 2, none⟩ (.slice x2 b.length y2)).cell? ⟨w.heap.size + 1, 2, none⟩ = some (.slice x2 b.length y2) := k2.row4.2.2.1
        have k3 : Blk ((((W.setCell ⟨w.heap.size + 1, 0, none⟩ (.int .i64 gen)).setCell ⟨w.heap.size + 1, 1, none⟩ (.slice x1 m.length y1)).setCell ⟨w.heap.size + 1, 2, none⟩ (.slice x2 b.length y2)).setCell ⟨w.heap.size + 1, 3, none⟩ (.slice x3 o.length y3)) (w.heap.size + 1) 139 #[.int .i64 gen, .slice x1 m.length y1, .slice x2 b.length y2, .slice x3 o.length y3] := k2.setAt 3 _
        have s3 : ((((W.setCell ⟨w.heap.size + 1, 0, none⟩ (.int .i64 gen)).setCell ⟨w.heap.size + 1, 1, none⟩ (.slice x1 m.length y1)).setCell ⟨w.heap.size + 1, 2, none⟩ (.slice x2 b.length y2)).setCell ⟨w.heap.size + 1, 3, none⟩ (.slice x3 o.length y3)).cell? ⟨w.heap.size + 1, 3, none⟩ = some (.slice x3 o.length y3) := k3.row4.2.2.2
        refine bodyPost_ret (v := .agg #[.int .i64 gen, .slice x1 m.length y1, .slice x2 b.length y2, .slice x3 o.length y3]) (by simp [results, Tryz.results170, go_sem, s0, s1, s2, s3]) rfl ?_
        exact T.told I
    . simp only [zG]
      go_simp
      have T := T.new2 (g := w.heap.size + 1 + 1 + 1) (by simp); have I := I.alloc (.cells #[] 3)
      refine hK.out _ _ ?_ (fun hH => ?_)
      . exact I.s4
      clear hK K
      try simp only [zX,zY]
      refine zR1 2 (fun K hK => ?_)
      simp only [zG]
      go_simp
      have T := T.new1 (g := w.heap.size + 1 + 1 + 1 + 1) (by simp); have I := I.alloc (.cells #[] 3)
      refine hK.out _ _ ?_ (fun hH => ?_)
      . exact I.s4
      clear hK K
      try simp only [zX,zY]
      refine zR1 5 (fun K hK => ?_)
      simp only [zG]
      obtain ⟨x1, y1, w1, hr1, T', hk1, hb1⟩ := T.app1 (cap := ca) (HA.out.below I.bl) hm; have T := T'; clear T'; rw [if_pos (by rfl)]; refine wp_append_is _ _ _ (by rfl) _ _ _ (by rfl) (by rfl) hr1 ?_; have I := I.kept hk1 hb1; clear hr1 hk1 hb1
      refine hK.out _ _ ?_ (fun hH => ?_)
      . exact I.s4
      clear hK K
      try simp only [zX,zY]
      refine zR1 9 (fun K hK => ?_)
      simp only [zG]
      obtain ⟨x2, y2, w2, hr2, T', hk2, hb2⟩ := T.app2 (cap := cb) (HB.out.below I.bl) hb; have T := T'; clear T'; rw [if_pos (by rfl)]; refine wp_append_is _ _ _ (by rfl) _ _ _ (by rfl) (by rfl) hr2 ?_; have I := I.kept hk2 hb2; clear hr2 hk2 hb2
      refine hK.out _ _ ?_ (fun hH => ?_)
      . exact I.s4
      clear hK K
      try simp only [zX,zY]
      refine zR1 13 (fun K hK => ?_)
      simp only [zG]
      obtain ⟨x3, y3, w3, hr3, T', hk3, hb3⟩ := T.app3 (cap := cc) (HC.out.below I.bl) ho; have T := T'; clear T'; rw [if_pos (by rfl)]; refine wp_append_is _ _ _ (by rfl) _ _ _ (by rfl) (by rfl) hr3 ?_; have I := I.kept hk3 hb3; clear hr3 hk3 hb3; obtain ⟨r0, r1, r2, r3⟩ := I.r.row4; have f0 := I.r.thaw 0; have f1 := I.r.thaw 1; have f2 := I.r.thaw 2; have f3 := I.r.thaw 3
      refine hK.out _ _ ?_ (fun hH => ?_)
      . exact I.s4
      clear hK K
      try simp only [zX,zY]
      refine zt1 14 ?_; refine ztn (h := ?_); try simp only [zX,zY]
      refine zte ?_
      refine zR1 15 (fun K hK => ?_)
      simp only [zG]
      go_simp
      refine hK.out _ _ ?_ (fun hH => ?_)
      . exact (I.g.off (off_putG w3 (w.heap.size + 1) (.int .i64 gen) (.slice x1 m.length y1) (.slice x2 b.length y2) (.slice x3 o.length y3)) (by simp)).row4
      clear hK K
      try simp only [zX,zY]
      refine zdn ?_
      generalize w3 = W at *
      go_wp2
      have k0 : Blk (W.setCell ⟨w.heap.size + 1, 0, none⟩ (.int .i64 gen)) (w.heap.size + 1) 139 #[.int .i64 gen, .slice none 0 0, .slice none 0 0, .slice none 0 0] := I.r.setAt 0 _
      have s0 : (W.setCell ⟨w.heap.size + 1, 0, none⟩ (.int .i64 gen)).cell? ⟨w.heap.size + 1, 0, none⟩ = some (.int .i64 gen) := k0.row4.1
      have k1 : Blk ((W.setCell ⟨w.heap.size + 1, 0, none⟩ (.int .i64 gen)).setCell ⟨w.heap.size + 1, 1, none⟩ (.slice x1 m.length y1)) (w.heap.size + 1) 139 #[.int .i64 gen, .slice x1 m.length y1, .slice none 0 0, .slice none 0 0] := k0.setAt 1 _
      have s1 : ((W.setCell ⟨w.heap.size + 1, 0, none⟩ (.int .i64 gen)).setCell ⟨w.heap.size + 1, 1, none⟩ (.slice x1 m.length y1)).cell? ⟨w.heap.size + 1, 1, none⟩ = some (.slice x1 m.length y1) := k1.row4.2.1
      have k2 : Blk (((W.setCell ⟨w.heap.size + 1, 0, none⟩ (.int .i64 gen)).setCell ⟨w.heap.size + 1, 1, none⟩ (.slice x1 m.length y1)).setCell ⟨w.heap.size + 1, 2, none⟩ (.slice x2 b.length y2)) (w.heap.size + 1) 139 #[.int .i64 gen, .slice x1 m.length y1, .slice x2 b.length y2, .slice none 0 0] := k1.setAt 2 _
      have s2 : (((W.setCell ⟨w.heap.size + 1, 0, none⟩ (.int .i64 gen)).setCell ⟨w.heap.size + 1, 1, none⟩ (.slice x1 m.length y1)).setCell ⟨w.heap.size + 1, 2, none⟩ (.slice x2 b.length y2)).cell? ⟨w.heap.size + 1, 2, none⟩ = some (.slice x2 b.length y2) := k2.row4.2.2.1
      have k3 : Blk ((((W.setCell ⟨w.heap.size + 1, 0, none⟩ (.int .i64 gen)).setCell ⟨w.heap.size + 1, 1, none⟩ (.slice x1 m.length y1)).setCell ⟨w.heap.size + 1, 2, none⟩ (.slice x2 b.length y2)).setCell ⟨w.heap.size + 1, 3, none⟩ (.slice x3 o.length y3)) (w.heap.size + 1) 139 #[.int .i64 gen, .slice x1 m.length y1, .slice x2 b.length y2, .slice x3 o.length y3] := k2.setAt 3 _
      have s3 : ((((W.setCell ⟨w.heap.size + 1, 0, none⟩ (.int .i64 gen)).setCell ⟨w.heap.size + 1, 1, none⟩ (.slice x1 m.length y1)).setCell ⟨w.heap.size + 1, 2, none⟩ (.slice x2 b.length y2)).setCell ⟨w.heap.size + 1, 3, none⟩ (.slice x3 o.length y3)).cell? ⟨w.heap.size + 1, 3, none⟩ = some (.slice x3 o.length y3) := k3.row4.2.2.2
      refine bodyPost_ret (v := .agg #[.int .i64 gen, .slice x1 m.length y1, .slice x2 b.length y2, .slice x3 o.length y3]) (by simp [results, Tryz.results170, go_sem, s0, s1, s2, s3]) rfl ?_
      exact T.told I
end Go.Proofs.YtengolneibbdfaaGreat.Gen
