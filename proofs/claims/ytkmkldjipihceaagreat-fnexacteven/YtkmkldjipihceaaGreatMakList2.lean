/-
  Lists of makers in blocks of their own: made by the laws' toMakerS, marked and held. No condition but that there are at most 1048576.
-/
import Derived.Test.YtkmkldjipihceaaGreatRowEq
import Derived.Test.YtkmkldjipihceaaGreatGroups
import Derived.Test.YtkmkldjipihceaaGreatEnt
set_option linter.unusedVariables false
set_option linter.unusedSimpArgs false
set_option maxRecDepth 100000
set_option maxHeartbeats 8000000
set_option maxRecDepth 100000
set_option maxHeartbeats 8000000
namespace Go.Proofs.YtkmkldjipihceaaGreat.Gen
open ChangeShapes WideShapes ChangeAt RowKit Joins Deep Base
def makP (w : World) (x : MC) (S : Nat -> Prop) : Prop := Sub w x.A x.ms S
theorem Qbe : Firm makP := fun w w' x S T h k hd => Sub.offp h k hd
theorem makP_each {S : Nat -> Prop} {w : World} {a : Option Addr} {l : List MC} (h : Own makP w a l S) : Each w l := h.each (fun x S hx => Sub.at hx)
theorem Qfq (A : Option Addr) (cap : Nat) (l : List MC) (hl : l.length <= 1048576) (hr : ∀ x ∈ l, x.ms.length <= 1048576) (w : World) (hA : At w A l) (hE : Each w l) :
 Calls Tryz.prog 120 #[.slice A l.length cap] w fun e w' => e = .returned (.slice (some ⟨w.heap.size, 0, none⟩) l.length l.length) /\ Below w.heap.size w w' /\ ∃ l', Grow makP w' w.heap.size l.length l' /\ l'.map MC.p = l.map MC.p := by
 have HA := hidP hA
 have HE := hidP hE
 have Hr := hidP hr
 clear hA hE hr
 have hmk := Qbg (P := Tryz.prog) Tryz.underlying55 infoMC (by omega) l.length hl
 go_enter Tryz.func120, Tryz.ntmps120
 go_wp2
 go_loopw [4] (fun i w' => ∃ (n : Nat) (pre : List MC), i = .int .i64 (n : Int) /\ n <= l.length /\ Below w.heap.size w w' /\ w.heap.size < w'.heap.size /\ Hid (pre.length = n) /\ Hid (Grow makP w' w.heap.size l.length pre) /\ Hid (pre.map MC.p = (l.take n).map MC.p)) (fun i _ => l.length - (intOf i).toNat)
 case atStart => exact ⟨0, [], rfl, by omega, by repeat (first | exact Below.refl _ _ | assumption | refine via0 (by assumption) ?_ | refine Below.drew ?_ | refine Qab ?_ _), by simp, rfl, Grow.start (by simp) (Qa0 w _ _ _ _), by simp [Hid]⟩
 case round =>
  obtain ⟨n, pre, rfl, hn, hbl, hsz, hpl, hgr, hsame⟩ := hrel
  by_cases hlt : n < l.length
  . obtain ⟨b, o, rfl, hbs, hIn⟩ : ∃ b o, A = some ⟨b, o, none⟩ /\ b < w.heap.size /\ In w b o l := by
     rcases HA.out with h | h
     . subst h; simp at hlt
     . exact h
    obtain ⟨c0, c1, c2, c3, c4⟩ := (hIn.below hbs hbl).getMC n hlt
    have hms := Hr.out _ (List.getElem_mem hlt)
    have hat := hidP ((HE.out _ (List.getElem_mem hlt)).below hbl)
    obtain ⟨⟨v0, d0⟩, f0⟩ := Qah (f := 0) hgr.out.th hlt (by decide)
    obtain ⟨⟨v1, d1⟩, f1⟩ := Qah (f := 1) hgr.out.th hlt (by decide)
    obtain ⟨⟨v2, d2⟩, f2⟩ := Qah (f := 2) hgr.out.th hlt (by decide)
    obtain ⟨⟨v3, d3⟩, f3⟩ := Qah (f := 3) hgr.out.th hlt (by decide)
    obtain ⟨⟨v4, d4⟩, f4⟩ := Qah (f := 4) hgr.out.th hlt (by decide)
    simp only [Nat.zero_add, Nat.add_zero, show Cel.k MC = 5 from rfl] at d0 f0 d1 f1 d2 f2 d3 f3 d4 f4
    go_wp2_with (go_at_call 143; refine (Qho _ _ _ _ _ _ _ hms _ hat.out).mono ?_; rintro e w1 ⟨bx, rfl, g1, hbx, hbx', hix, htx⟩; obtain ⟨k1, m1⟩ := Qax g1; have s1 := g1.size; have hix := hidP hix; have htx := hidP htx)
    have hpl' := hpl.out
    have hst := hgr.out.snoc Qbe (by omega) g1 (y := (⟨l[n].row, l[n].who, l[n].epoch, l[n].last, some ⟨bx, 0, none⟩, l[n].ms.length, l[n].ms⟩ : MC)) (S := fun x => x = bx) (.inr ⟨bx, 0, rfl, rfl, hbx', hix.out, htx.out⟩) (fun x hx => by subst hx; exact ⟨hbx, hbx'⟩)
    rw [hpl'] at hst
    refine ⟨⟨n + 1, _, by go_num, by omega, ?_, by simp; omega, ?_, hst, ?_⟩, by simp [intOf]; omega⟩
    . exact ((((((via0 g1 hbl).setCell (Nat.le_refl _) _).setCell (Nat.le_refl _) _).setCell (Nat.le_refl _) _).setCell (Nat.le_refl _) _).setCell (Nat.le_refl _) _)
    . show _ = _; simp [hpl']
    . show _ = _
      rw [List.map_append, hsame.out, List.take_succ_eq_append_getElem hlt, List.map_append]
      rfl
  . have e : l.take n = l := List.take_of_length_le (by omega)
    go_wp2
    go_ret
    exact ⟨rfl, hbl, pre, hgr.out, by rw [hsame.out, e]⟩
def cM (x : MC) : Nat := 4 + x.ms.length * 2
theorem Blk.row6 {W : World} {B : Nat} {t : TypeId} {a b c d e f : Value} (h : Blk W B t #[a, b, c, d, e, f]) : W.cell? ⟨B, 0, none⟩ = some a /\ W.cell? ⟨B, 1, none⟩ = some b /\ W.cell? ⟨B, 2, none⟩ = some c /\ W.cell? ⟨B, 3, none⟩ = some d /\ W.cell? ⟨B, 4, none⟩ = some e /\ W.cell? ⟨B, 5, none⟩ = some f := ⟨h.cell (by rfl), h.cell (by rfl), h.cell (by rfl), h.cell (by rfl), h.cell (by rfl), h.cell (by rfl)⟩
structure KC where
  rA : Option Addr
  rc : Nat
  rs : List RC
  mA : Option Addr
  mc : Nat
  ms : List MC
  gA : Option Addr
  gc : Nat
  gs : List GC
  time : Int
  dA : Option Addr
  dc : Nat
  ds : List Int
  lA : Option Addr
  lc : Nat
  ls : List An
structure PK where
  rs : List PR
  ms : List PM
  gs : List PG
  time : Int
  ds : List Int
  ls : List An
def KC.p (x : KC) : PK := ⟨x.rs.map RC.p, x.ms.map MC.p, x.gs.map GC.p, x.time, x.ds, x.ls⟩
def KC.cells (x : KC) : Array Value := (Qae x.rA x.rs.length x.rc x.mA x.ms.length x.mc x.gA x.gs.length x.gc x.time x.dA x.ds.length x.dc x.lA x.ls.length x.lc)
theorem KC.p_len {x y : KC} (h : y.p = x.p) : y.rs.length = x.rs.length /\ y.ms.length = x.ms.length /\ y.gs.length = x.gs.length /\ y.time = x.time /\ y.ds = x.ds /\ y.ls = x.ls := by
 simp only [KC.p, PK.mk.injEq] at h
 obtain ⟨h1, h2, h3, h4, h5, h6⟩ := h
 exact ⟨by have := congrArg List.length h1; simpa using this, by have := congrArg List.length h2; simpa using this, by have := congrArg List.length h3; simpa using this, h4, h5, h6⟩
structure KAt (w : World) (x : KC) : Prop where
  ra : At w x.rA x.rs
  re : EachR w x.rs
  ma : At w x.mA x.ms
  me : Each w x.ms
  ga : At w x.gA x.gs
  ge : EachG w x.gs
  da : At w x.dA x.ds
  la : At w x.lA x.ls
theorem KAt.below {w w' : World} {x : KC} (h : KAt w x) (g : Below w.heap.size w w') : KAt w' x :=
 ⟨h.ra.below g, h.re.below g, h.ma.below g, h.me.below g, h.ga.below g, h.ge.below g, h.da.below g, h.la.below g⟩
structure KCol (w : World) (x : KC) (S : Nat -> Prop) (col : Nat -> Nat) : Prop where
  r : Own rowP w x.rA x.rs (fun b => S b /\ col b = 1)
  m : Own makP w x.mA x.ms (fun b => S b /\ col b = 2)
  g : Own grpP w x.gA x.gs (fun b => S b /\ col b = 3)
  d : Sub w x.dA x.ds (fun b => S b /\ col b = 4)
  l : Sub w x.lA x.ls (fun b => S b /\ col b = 5)
def KOwn (w : World) (x : KC) (S : Nat -> Prop) : Prop := ∃ col, KCol w x S col
theorem KCol.at {w : World} {x : KC} {S : Nat -> Prop} {col : Nat -> Nat} (h : KCol w x S col) : KAt w x := ⟨h.r.at, rowP_each h.r, h.m.at, makP_each h.m, h.g.at, grpP_each h.g, h.d.at, h.l.at⟩
theorem KOwn.at {w : World} {x : KC} {S : Nat -> Prop} (h : KOwn w x S) : KAt w x := by obtain ⟨_, h⟩ := h; exact h.at
theorem KCol.offp {w w' : World} {x : KC} {S T : Nat -> Prop} {col : Nat -> Nat} (h : KCol w x S col) (k : Offp T w w') (hd : ∀ b, S b -> ¬ T b) : KCol w' x S col :=
 ⟨h.r.offp Qa7 k (fun b hb => hd b hb.1), h.m.offp Qbe k (fun b hb => hd b hb.1), h.g.offp Qbq k (fun b hb => hd b hb.1), h.d.offp k (fun b hb => hd b hb.1), h.l.offp k (fun b hb => hd b hb.1)⟩
theorem KOwn.offp {w w' : World} {x : KC} {S T : Nat -> Prop} (h : KOwn w x S) (k : Offp T w w') (hd : ∀ b, S b -> ¬ T b) : KOwn w' x S := by obtain ⟨c, h⟩ := h; exact ⟨c, h.offp k hd⟩
theorem KOwn.mono {w : World} {x : KC} {S T : Nat -> Prop} (h : KOwn w x S) (s : ∀ b, S b -> T b) : KOwn w x T := by
 obtain ⟨c, h⟩ := h
 exact ⟨c, h.r.mono (fun b hb => ⟨s b hb.1, hb.2⟩), h.m.mono (fun b hb => ⟨s b hb.1, hb.2⟩), h.g.mono (fun b hb => ⟨s b hb.1, hb.2⟩), h.d.mono (fun b hb => ⟨s b hb.1, hb.2⟩), h.l.mono (fun b hb => ⟨s b hb.1, hb.2⟩)⟩
structure KFit (x : KC) : Prop where
  rl : x.rs.length <= 1048576
  ml : x.ms.length <= 1048576
  gl : x.gs.length <= 1048576
  dl : x.ds.length <= 1048576
  ll : x.ls.length <= 1048576
  ri : ∀ y ∈ x.rs, y.its.length <= 1048576
  mi : ∀ y ∈ x.ms, y.ms.length <= 1048576
  gi : ∀ y ∈ x.gs, y.m.length <= 1048576 /\ y.b.length <= 1048576 /\ y.o.length <= 1048576
  rc : Qat cR x.rs <= 10000000
  mc : Qat cM x.ms <= 10000000
  gc : Qat cG x.gs <= 10000000
theorem Qia (x y : KC) (hf : KFit x) (hp : y.p = x.p) (w : World) (hx : KAt w x) (hy : KAt w y) :
 Calls Tryz.prog 102 #[.agg (Qae x.rA x.rs.length x.rc x.mA x.ms.length x.mc x.gA x.gs.length x.gc x.time x.dA x.ds.length x.dc x.lA x.ls.length x.lc), .agg (Qae y.rA x.rs.length y.rc y.mA x.ms.length y.mc y.gA x.gs.length y.gc x.time y.dA x.ds.length y.dc y.lA x.ls.length y.lc)] w fun e w' => e = .returned (.bool true) /\ Below w.heap.size w w' := by
 have hp' := KC.p_len hp
 have Hp := hidP hp
 have Hl := hidP hp'
 have Hf := hidP hf
 have HX := hidP hx
 have HY := hidP hy
 clear hp hp' hf hx hy
 have E1 : Hid (∀ W : World, Below w.heap.size w W -> Calls Tryz.prog 131 #[.slice x.rA x.rs.length x.rc, .slice y.rA x.rs.length y.rc] W fun e w' => e = .returned (.bool true) /\ Below W.heap.size W w') := fun W g =>
  Qh8 _ _ _ _ x.rs y.rs (by have := Hf.out.rl; omega) (fun z hz => by have := Hf.out.ri z hz; omega) (by have := Hp.out; simp only [KC.p, PK.mk.injEq] at this; exact this.1) W (HX.out.below g).ra (HX.out.below g).re (HY.out.below g).ra (HY.out.below g).re
 have E2 : Hid (∀ W : World, Below w.heap.size w W -> Calls Tryz.prog 132 #[.slice x.mA x.ms.length x.mc, .slice y.mA x.ms.length y.mc] W fun e w' => e = .returned (.bool true) /\ Below W.heap.size W w') := fun W g =>
  Qf5 _ _ _ _ x.ms y.ms (by have := Hf.out.ml; omega) (fun z hz => by have := Hf.out.mi z hz; omega) (by have := Hp.out; simp only [KC.p, PK.mk.injEq] at this; exact this.2.1) W (HX.out.below g).ma (HX.out.below g).me (HY.out.below g).ma (HY.out.below g).me
 have E3 : Hid (∀ W : World, Below w.heap.size w W -> Calls Tryz.prog 133 #[.slice x.gA x.gs.length x.gc, .slice y.gA x.gs.length y.gc] W fun e w' => e = .returned (.bool true) /\ Below W.heap.size W w') := fun W g =>
  Qf7 _ _ _ _ x.gs y.gs (by have := Hf.out.gl; omega) (fun z hz => by have := Hf.out.gi z hz; omega) (by have := Hp.out; simp only [KC.p, PK.mk.injEq] at this; exact this.2.2.1) W (HX.out.below g).ga (HX.out.below g).ge (HY.out.below g).ga (HY.out.below g).ge
 have E4 : Hid (∀ W : World, Below w.heap.size w W -> Calls Tryz.prog 30 #[.slice x.dA x.ds.length x.dc, .slice y.dA x.ds.length y.dc] W fun e w' => e = .returned (.bool true) /\ Below W.heap.size W w') := fun W g =>
  Qbv _ _ _ _ x.ds (by have := Hf.out.dl; omega) W (HX.out.below g).da (by have h1 := (HY.out.below g).da; rw [Hl.out.2.2.2.2.1] at h1; exact h1)
 have E5 : Hid (∀ W : World, Below w.heap.size w W -> Calls Tryz.prog 134 #[.slice x.lA x.ls.length x.lc, .slice y.lA x.ls.length y.lc] W fun e w' => e = .returned (.bool true) /\ Below W.heap.size W w') := fun W g =>
  Qe4 _ _ _ _ x.ls (by have := Hf.out.ll; omega) W (HX.out.below g).la (by have h1 := (HY.out.below g).la; rw [Hl.out.2.2.2.2.2] at h1; exact h1)
 go_enter Tryz.func102, Tryz.ntmps102
 go_wp2_with fail
 have p0 : Blk ((w.alloc (.cells (Qae x.rA x.rs.length x.rc x.mA x.ms.length x.mc x.gA x.gs.length x.gc x.time x.dA x.ds.length x.dc x.lA x.ls.length x.lc) 59)).alloc (.cells (Qae y.rA x.rs.length y.rc y.mA x.ms.length y.mc y.gA x.gs.length y.gc x.time y.dA x.ds.length y.dc y.lA x.ls.length y.lc) 59)) w.heap.size 59 (Qae x.rA x.rs.length x.rc x.mA x.ms.length x.mc x.gA x.gs.length x.gc x.time x.dA x.ds.length x.dc x.lA x.ls.length x.lc) := (Blk.new w _ _).alloc _
 have r0 : Blk ((w.alloc (.cells (Qae x.rA x.rs.length x.rc x.mA x.ms.length x.mc x.gA x.gs.length x.gc x.time x.dA x.ds.length x.dc x.lA x.ls.length x.lc) 59)).alloc (.cells (Qae y.rA x.rs.length y.rc y.mA x.ms.length y.mc y.gA x.gs.length y.gc x.time y.dA x.ds.length y.dc y.lA x.ls.length y.lc) 59)) (w.heap.size + 1) 59 (Qae y.rA x.rs.length y.rc y.mA x.ms.length y.mc y.gA x.gs.length y.gc x.time y.dA x.ds.length y.dc y.lA x.ls.length y.lc) := by have := Blk.new (w.alloc (.cells (Qae x.rA x.rs.length x.rc x.mA x.ms.length x.mc x.gA x.gs.length x.gc x.time x.dA x.ds.length x.dc x.lA x.ls.length x.lc) 59)) 59 (Qae y.rA x.rs.length y.rc y.mA x.ms.length y.mc y.gA x.gs.length y.gc x.time y.dA x.ds.length y.dc y.lA x.ls.length y.lc); simpa using this
 have B0 : Below w.heap.size w ((w.alloc (.cells (Qae x.rA x.rs.length x.rc x.mA x.ms.length x.mc x.gA x.gs.length x.gc x.time x.dA x.ds.length x.dc x.lA x.ls.length x.lc) 59)).alloc (.cells (Qae y.rA x.rs.length y.rc y.mA x.ms.length y.mc y.gA x.gs.length y.gc x.time y.dA x.ds.length y.dc y.lA x.ls.length y.lc) 59)) := by repeat (first | exact Below.refl _ _ | assumption | refine via0 (by assumption) ?_ | refine Below.drew ?_ | refine Qab ?_ _)
 refine (E1.out _ B0).mono ?_
 rintro e w1 ⟨rfl, g1⟩
 have p1 := p0.below g1 p0.lt
 have r1 := r0.below g1 r0.lt
 have B1 : Below w.heap.size w w1 := via0 g1 B0
 obtain ⟨u0, u1, u2, u3, u4, u5⟩ := p1.row6
 obtain ⟨v0, v1, v2, v3, v4, v5⟩ := r1.row6
 have q1 := p1.lt
 have t1 := r1.lt
 clear p0 r0 B0 g1
 go_wp2_with fail
 refine (E2.out _ B1).mono ?_
 rintro e w2 ⟨rfl, g2⟩
 have p2 := p1.below g2 p1.lt
 have r2 := r1.below g2 r1.lt
 have B2 : Below w.heap.size w w2 := via0 g2 B1
 clear u0 u1 u2 u3 u4 u5 v0 v1 v2 v3 v4 v5 p1 r1 B1 g2 q1 t1
 obtain ⟨u0, u1, u2, u3, u4, u5⟩ := p2.row6
 obtain ⟨v0, v1, v2, v3, v4, v5⟩ := r2.row6
 have q1 := p2.lt
 have t1 := r2.lt
 go_wp2_with fail
 refine (E3.out _ B2).mono ?_
 rintro e w3 ⟨rfl, g3⟩
 have p3 := p2.below g3 p2.lt
 have r3 := r2.below g3 r2.lt
 have B3 : Below w.heap.size w w3 := via0 g3 B2
 clear u0 u1 u2 u3 u4 u5 v0 v1 v2 v3 v4 v5 p2 r2 B2 g3 q1 t1
 obtain ⟨u0, u1, u2, u3, u4, u5⟩ := p3.row6
 obtain ⟨v0, v1, v2, v3, v4, v5⟩ := r3.row6
 have q1 := p3.lt
 have t1 := r3.lt
 go_wp2_with fail
 refine (E4.out _ B3).mono ?_
 rintro e w4 ⟨rfl, g4⟩
 have p4 := p3.below g4 p3.lt
 have r4 := r3.below g4 r3.lt
 have B4 : Below w.heap.size w w4 := via0 g4 B3
 clear u0 u1 u2 u3 u4 u5 v0 v1 v2 v3 v4 v5 p3 r3 B3 g4 q1 t1
 obtain ⟨u0, u1, u2, u3, u4, u5⟩ := p4.row6
 obtain ⟨v0, v1, v2, v3, v4, v5⟩ := r4.row6
 have q1 := p4.lt
 have t1 := r4.lt
 go_wp2_with fail
 refine (E5.out _ B4).mono ?_
 rintro e w5 ⟨rfl, g5⟩
 have B5 : Below w.heap.size w w5 := via0 g5 B4
 go_wp2
 go_ret
 exact ⟨rfl, B5⟩
def kct (x : KC) : Nat := Qat cR x.rs + Qat cM x.ms + Qat cG x.gs + x.ds.length + x.ls.length * 4
theorem At.hid {α : Type} [Cel α] {w : World} {A : Option Addr} {l : List α} (hA : At w A l) : Hid (∀ W : World, Below w.heap.size w W -> At W A l) := fun W hW => hA.below hW
theorem szLog_any (base bt : Int) (A : Option Addr) (cap : Nat) (l : List En) (hl : l.length <= 9223372036854775807) (hr : ∀ x ∈ l, x.fit) (left : Int) (h0 : 0 <= left) (h1 : left <= 1048576) (w : World) (hA : At w A l) :
 Calls Tryz.prog 107 #[.agg (Qap base bt A l.length cap), .int .i64 left] w fun e w' => (∃ r : Int, e = .returned (.int .i64 r) /\ (r < 0 ∨ (0 <= r /\ r = left - (l.length : Int) - (Qat szEn l : Int)))) /\ Below w.heap.size w w' := by
 have HA := hA.hid
 have Hr := hidP hr
 clear hA hr
 go_enter Tryz.func107, Tryz.ntmps107
 go_wp2_with fail
 refine (Qdx A cap l hl Hr.out left h0 h1 _ (HA.out _ (by repeat (first | exact Below.refl _ _ | assumption | refine via0 (by assumption) ?_ | refine Below.drew ?_ | refine Qab ?_ _)))).mono ?_
 rintro e w1 ⟨⟨r, rfl, hr⟩, g1⟩
 have HR := hidP hr
 have B1 : Below w.heap.size w w1 := by repeat (first | exact Below.refl _ _ | assumption | refine via0 (by assumption) ?_ | refine Below.drew ?_ | refine Qab ?_ _)
 clear hr
 by_cases hn : r < 0
 . go_wp2
   go_ret
   exact ⟨⟨-1, rfl, .inl (by omega)⟩, B1⟩
 . go_wp2
   go_ret
   exact ⟨⟨r, rfl, HR.out⟩, B1⟩
theorem toLog_any (base bt : Int) (A : Option Addr) (cap : Nat) (l : List En) (hl : l.length <= 1048576) (w : World) (hA : At w A l) :
 Calls Tryz.prog 118 #[.agg (Qap base bt A l.length cap)] w
  fun e w' => ∃ b, e = .returned (.agg (Qap base bt (some ⟨b, 0, none⟩) l.length l.length)) /\ Below w.heap.size w w' /\ w.heap.size <= b /\ b < w'.heap.size /\ In w' b 0 l /\ w'.there b 0 (l.length * 9) := by
 have HA := hA.hid
 clear hA
 go_enter Tryz.func118, Tryz.ntmps118
 go_wp2_with (go_at_call 87; refine (Qdv A cap l hl _ (HA.out _ ?_)).mono ?_; (repeat (first | exact Below.refl _ _ | assumption | refine via0 (by assumption) ?_ | refine Below.drew ?_ | refine Qab ?_ _)); rintro e w1 ⟨rfl, g1, s1, i1, t1⟩; obtain ⟨k1, m1⟩ := Qax g1)
 have i2 : In w1 (w.heap.size + 1 + 1 + 1) 0 l := by simpa using i1
 have t2 : w1.there (w.heap.size + 1 + 1 + 1) 0 (l.length * 9) := by simpa using t1
 have s2 : w.heap.size + 1 + 1 + 1 < w1.heap.size := by simpa using s1
 have g2 : Below w.heap.size w w1 := via0 g1 (by repeat (first | exact Below.refl _ _ | assumption | refine via0 (by assumption) ?_ | refine Below.drew ?_ | refine Qab ?_ _))
 refine bodyPost_ret (v := .agg (Qap base bt (some ⟨w.heap.size + 1 + 1 + 1, 0, none⟩) l.length l.length)) (by simp [results, Tryz.results118, go_sem, k1]) rfl ⟨w.heap.size + 1 + 1 + 1, rfl, ?_, by omega, by simp; omega, ?_, ?_⟩
 . exact Qa5 (Qa5 (Qa5 (Qa5 (g2) (by omega) _) (by omega) _) (by omega) _) (by omega) _
 . exact In.set (In.set (In.set (In.set (i2) _ _ (by simp)) _ _ (by simp)) _ _ (by simp)) _ _ (by simp)
 . exact Qaj (Qaj (Qaj (Qaj (t2) _ _ _) _ _ _) _ _ _) _ _ _
theorem eqLog_same (base bt : Int) (A A' : Option Addr) (cap cap' : Nat) (l : List En) (hl : l.length <= 9223372036854775807) (w : World) (hA : At w A l) (hA' : At w A' l) :
 Calls Tryz.prog 130 #[.agg (Qap base bt A l.length cap), .agg (Qap base bt A' l.length cap')] w fun e w' => e = .returned (.bool true) /\ Below w.heap.size w w' := by
 have HA := hA.hid
 have HA' := hA'.hid
 clear hA hA'
 go_enter Tryz.func130, Tryz.ntmps130
 go_wp2_with (go_at_call 104; refine (Qdl A A' cap cap' l hl _ (HA.out _ ?_) (HA'.out _ ?_)).mono ?_; (repeat (first | exact Below.refl _ _ | assumption | refine via0 (by assumption) ?_ | refine Below.drew ?_ | refine Qab ?_ _)); (repeat (first | exact Below.refl _ _ | assumption | refine via0 (by assumption) ?_ | refine Below.drew ?_ | refine Qab ?_ _)); rintro e w1 ⟨rfl, g1⟩)
 go_ret
 refine ⟨rfl, ?_⟩
 repeat (first | exact Below.refl _ _ | assumption | refine via0 (by assumption) ?_ | refine Below.drew ?_ | refine Qab ?_ _)
theorem Blk.row11 {W : World} {B : Nat} {t : TypeId} {a b c d e f g h i j k : Value} (p : Blk W B t #[a, b, c, d, e, f, g, h, i, j, k]) :
 W.cell? ⟨B, 0, none⟩ = some a /\ W.cell? ⟨B, 1, none⟩ = some b /\ W.cell? ⟨B, 2, none⟩ = some c /\ W.cell? ⟨B, 2 + 1, none⟩ = some d /\ W.cell? ⟨B, 2 + 2, none⟩ = some e /\ W.cell? ⟨B, 5, none⟩ = some f /\ W.cell? ⟨B, 5 + 1, none⟩ = some g /\ W.cell? ⟨B, 5 + 2, none⟩ = some h /\ W.cell? ⟨B, 5 + 3, none⟩ = some i /\ W.cell? ⟨B, 5 + 4, none⟩ = some j /\ W.cell? ⟨B, 5 + 5, none⟩ = some k :=
 ⟨p.cell (by rfl), p.cell (by rfl), p.cell (by rfl), p.cell (by rfl), p.cell (by rfl), p.cell (by rfl), p.cell (by rfl), p.cell (by rfl), p.cell (by rfl), p.cell (by rfl), p.cell (by rfl)⟩
theorem Qg7 (x y : KC) (hf : KFit x) (hp : y.p = x.p) (w : World) (hx : KAt w x) (hy : KAt w y) :
 Calls Tryz.prog 102 #[.agg (Qae x.rA x.rs.length x.rc x.mA x.ms.length x.mc x.gA x.gs.length x.gc x.time x.dA x.ds.length x.dc x.lA x.ls.length x.lc), .agg (Qae y.rA y.rs.length y.rc y.mA y.ms.length y.mc y.gA y.gs.length y.gc y.time y.dA y.ds.length y.dc y.lA y.ls.length y.lc)] w fun e w' => e = .returned (.bool true) /\ Below w.heap.size w w' := by
 have h := Qia x y hf hp w hx hy
 obtain ⟨l1, l2, l3, l4, l5, l6⟩ := KC.p_len hp
 rw [← l1, ← l2, ← l3, ← l4] at h
 rw [l5, l6]
 rw [← l1, ← l2, ← l3, ← l4]
 exact h
theorem Qic (te vo base bt : Int) (A A' : Option Addr) (cap cap' : Nat) (l : List En) (hl : l.length <= 9223372036854775807) (x y : KC) (hf : KFit x) (hp : y.p = x.p) (w : World) (hA : At w A l) (hA' : At w A' l) (hx : KAt w x) (hy : KAt w y) :
 Calls Tryz.prog 100 #[.agg (Qad te vo base bt A l.length cap x.rA x.rs.length x.rc x.mA x.ms.length x.mc x.gA x.gs.length x.gc x.time x.dA x.ds.length x.dc x.lA x.ls.length x.lc), .agg (Qad te vo base bt A' l.length cap' y.rA y.rs.length y.rc y.mA y.ms.length y.mc y.gA y.gs.length y.gc y.time y.dA y.ds.length y.dc y.lA y.ls.length y.lc)] w fun e w' => e = .returned (.bool true) /\ Below w.heap.size w w' := by
 have E1 : Hid (∀ W : World, Below w.heap.size w W -> Calls Tryz.prog 130 #[.agg (Qap base bt A l.length cap), .agg (Qap base bt A' l.length cap')] W fun e w' => e = .returned (.bool true) /\ Below W.heap.size W w') := fun W g =>
  eqLog_same base bt A A' cap cap' l hl W (hA.below g) (hA'.below g)
 have E2 : Hid (∀ W : World, Below w.heap.size w W -> Calls Tryz.prog 102 #[.agg (Qae x.rA x.rs.length x.rc x.mA x.ms.length x.mc x.gA x.gs.length x.gc x.time x.dA x.ds.length x.dc x.lA x.ls.length x.lc), .agg (Qae y.rA y.rs.length y.rc y.mA y.ms.length y.mc y.gA y.gs.length y.gc y.time y.dA y.ds.length y.dc y.lA y.ls.length y.lc)] W fun e w' => e = .returned (.bool true) /\ Below W.heap.size W w') := fun W g =>
  Qg7 x y hf hp W (hx.below g) (hy.below g)
 clear hA hA' hx hy hf hp
 go_enter Tryz.func100, Tryz.ntmps100
 go_wp2_with fail
 have p0 : Blk ((w.alloc (.cells (Qad te vo base bt A l.length cap x.rA x.rs.length x.rc x.mA x.ms.length x.mc x.gA x.gs.length x.gc x.time x.dA x.ds.length x.dc x.lA x.ls.length x.lc) 61)).alloc (.cells (Qad te vo base bt A' l.length cap' y.rA y.rs.length y.rc y.mA y.ms.length y.mc y.gA y.gs.length y.gc y.time y.dA y.ds.length y.dc y.lA y.ls.length y.lc) 61)) w.heap.size 61 (Qad te vo base bt A l.length cap x.rA x.rs.length x.rc x.mA x.ms.length x.mc x.gA x.gs.length x.gc x.time x.dA x.ds.length x.dc x.lA x.ls.length x.lc) := (Blk.new w _ _).alloc _
 have r0 : Blk ((w.alloc (.cells (Qad te vo base bt A l.length cap x.rA x.rs.length x.rc x.mA x.ms.length x.mc x.gA x.gs.length x.gc x.time x.dA x.ds.length x.dc x.lA x.ls.length x.lc) 61)).alloc (.cells (Qad te vo base bt A' l.length cap' y.rA y.rs.length y.rc y.mA y.ms.length y.mc y.gA y.gs.length y.gc y.time y.dA y.ds.length y.dc y.lA y.ls.length y.lc) 61)) (w.heap.size + 1) 61 (Qad te vo base bt A' l.length cap' y.rA y.rs.length y.rc y.mA y.ms.length y.mc y.gA y.gs.length y.gc y.time y.dA y.ds.length y.dc y.lA y.ls.length y.lc) := by have := Blk.new (w.alloc (.cells (Qad te vo base bt A l.length cap x.rA x.rs.length x.rc x.mA x.ms.length x.mc x.gA x.gs.length x.gc x.time x.dA x.ds.length x.dc x.lA x.ls.length x.lc) 61)) 61 (Qad te vo base bt A' l.length cap' y.rA y.rs.length y.rc y.mA y.ms.length y.mc y.gA y.gs.length y.gc y.time y.dA y.ds.length y.dc y.lA y.ls.length y.lc); simpa using this
 have B0 : Below w.heap.size w ((w.alloc (.cells (Qad te vo base bt A l.length cap x.rA x.rs.length x.rc x.mA x.ms.length x.mc x.gA x.gs.length x.gc x.time x.dA x.ds.length x.dc x.lA x.ls.length x.lc) 61)).alloc (.cells (Qad te vo base bt A' l.length cap' y.rA y.rs.length y.rc y.mA y.ms.length y.mc y.gA y.gs.length y.gc y.time y.dA y.ds.length y.dc y.lA y.ls.length y.lc) 61)) := by repeat (first | exact Below.refl _ _ | assumption | refine via0 (by assumption) ?_ | refine Below.drew ?_ | refine Qab ?_ _)
 refine (E1.out _ B0).mono ?_
 rintro e w1 ⟨rfl, g1⟩
 have p1 := p0.below g1 p0.lt
 have r1 := r0.below g1 r0.lt
 have B1 : Below w.heap.size w w1 := via0 g1 B0
 obtain ⟨u0, u1, u2, u3, u4, u5, u6, u7, u8, u9, u10⟩ := p1.row11
 obtain ⟨v0, v1, v2, v3, v4, v5, v6, v7, v8, v9, v10⟩ := r1.row11
 have q1 := p1.lt
 have t1 := r1.lt
 clear p0 r0 B0 g1
 go_wp2_with fail
 refine (E2.out _ B1).mono ?_
 rintro e w2 ⟨rfl, g2⟩
 have B2 : Below w.heap.size w w2 := via0 g2 B1
 go_wp2
 go_ret
 exact ⟨rfl, B2⟩
end Go.Proofs.YtkmkldjipihceaaGreat.Gen
