/-
  A world as it lies; what the laws' sz, to and eq functions of it do; the argument opened. No condition but the sizes of its lists.
-/
import Derived.Test.YtkmkldjipihceaaGreatKeepP
import Derived.Test.YtkmkldjipihceaaGreatHeL
import Derived.Test.YtkmkldjipihceaaGreatCmL
set_option linter.unusedVariables false
set_option linter.unusedSimpArgs false
set_option maxRecDepth 100000
set_option maxHeartbeats 8000000
set_option maxRecDepth 100000
set_option maxHeartbeats 8000000
namespace Go.Proofs.YtkmkldjipihceaaGreat.Gen
open ChangeShapes WideShapes ChangeAt RowKit Joins Deep Base
structure WC where
  ro : Int
  wi : Int
  le : Int
  ke : Int
  size : Int
  nA : Option Addr
  nc : Nat
  ns : List PC
  mA : Option Addr
  mc : Nat
  ms : List RpC
  sA : Option Addr
  sc : Nat
  ss : List Co
  fA : Option Addr
  fc : Nat
  fs : List Int
  hA : Option Addr
  hc : Nat
  hs : List He
  dA : Option Addr
  dc : Nat
  ds : List Co
def Qal (p : WC) : Array Value := (Qai p.ro p.wi p.le p.ke p.size p.nA p.ns.length p.nc p.mA p.ms.length p.mc p.sA p.ss.length p.sc p.fA p.fs.length p.fc p.hA p.hs.length p.hc p.dA p.ds.length p.dc)
structure WAt (w : World) (p : WC) : Prop where
  na : At w p.nA p.ns
  ne : EachN w p.ns
  ma : At w p.mA p.ms
  me : EachP w p.ms
  sa : At w p.sA p.ss
  fa : At w p.fA p.fs
  ha : At w p.hA p.hs
  da : At w p.dA p.ds
theorem WAt.below {w w' : World} {p : WC} (h : WAt w p) (g : Below w.heap.size w w') : WAt w' p := ⟨h.na.below g, h.ne.below g, h.ma.below g, h.me.below g, h.sa.below g, h.fa.below g, h.ha.below g, h.da.below g⟩
structure WRight (p : WC) : Prop where
  nl : p.ns.length <= 9223372036854775807
  nr : ∀ x ∈ p.ns, PRight x
  ml : p.ms.length <= 9223372036854775807
  mr : ∀ x ∈ p.ms, x.right
  sl : p.ss.length <= 9223372036854775807
  sr : ∀ x ∈ p.ss, x.fit
  fl : p.fs.length <= 9223372036854775807
  hl : p.hs.length <= 9223372036854775807
  hr : ∀ x ∈ p.hs, x.fit
  dl : p.ds.length <= 9223372036854775807
  dr : ∀ x ∈ p.ds, x.fit
structure WFit (p : WC) : Prop where
  nl : p.ns.length <= 1048576
  nf : ∀ x ∈ p.ns, PFit x
  ml : p.ms.length <= 1048576
  mi : ∀ x ∈ p.ms, x.l.length <= 1048576
  sl : p.ss.length <= 1048576
  fl : p.fs.length <= 1048576
  hl : p.hs.length <= 1048576
  dl : p.ds.length <= 1048576
structure SameW (q p : WC) : Prop where
  ro : q.ro = p.ro
  wi : q.wi = p.wi
  le : q.le = p.le
  ke : q.ke = p.ke
  size : q.size = p.size
  ns : SameN q.ns p.ns
  ms : q.ms.map RpC.p = p.ms.map RpC.p
  ss : q.ss = p.ss
  fs : q.fs = p.fs
  hs : q.hs = p.hs
  ds : q.ds = p.ds
structure WCol (W : World) (p : WC) (S : Nat -> Prop) (col : Nat -> Nat) : Prop where
  n : Own pcP W p.nA p.ns (fun b => S b /\ col b = 1)
  m : Own rpcP W p.mA p.ms (fun b => S b /\ col b = 2)
  s : Sub W p.sA p.ss (fun b => S b /\ col b = 3)
  f : Sub W p.fA p.fs (fun b => S b /\ col b = 4)
  h : Sub W p.hA p.hs (fun b => S b /\ col b = 5)
  d : Sub W p.dA p.ds (fun b => S b /\ col b = 6)
def WOwn (W : World) (p : WC) (S : Nat -> Prop) : Prop := ∃ col, WCol W p S col
theorem WOwn.at {W : World} {p : WC} {S : Nat -> Prop} (h : WOwn W p S) : WAt W p := by
 obtain ⟨_, h⟩ := h
 exact ⟨h.n.at, own_eachN h.n, h.m.at, Qgt h.m, h.s.at, h.f.at, h.h.at, h.d.at⟩
theorem WFit.same {q p : WC} (f : WFit p) (s : SameW q p) : WFit q :=
 ⟨by rw [s.ns.1]; exact f.nl, s.ns.all (fun q p k h => h.same k) f.nf, by rw [Qcd s.ms]; exact f.ml, Qf4 s.ms f.mi, s.ss ▸ f.sl, s.fs ▸ f.fl, s.hs ▸ f.hl, s.ds ▸ f.dl⟩
theorem infoW : (Tryz.prog.info? 39).map (·.size) = some 11 := by kernel_rfl
theorem cellsW_one (p : WC) : (Qal p).all (·.oneCell') = true := by simp [Qal, Value.oneCell']
theorem Qht (p : WC) (hr : WRight p) (w : World) (hp : WAt w p) :
 Calls Tryz.prog 5 #[.agg (Qai p.ro p.wi p.le p.ke p.size p.nA p.ns.length p.nc p.mA p.ms.length p.mc p.sA p.ss.length p.sc p.fA p.fs.length p.fc p.hA p.hs.length p.hc p.dA p.ds.length p.dc), .int .i64 1048576] w fun e w' => (∃ r : Int, e = .returned (.int .i64 r) /\ (r < 0 ∨ (0 <= r /\ WFit p))) /\ Below w.heap.size w w' := by
 have C1 : Hid (∀ (z : Int) (W : World), Below w.heap.size w W -> 0 <= z -> z <= 1048576 -> Calls Tryz.prog 12 #[.slice p.nA p.ns.length p.nc, .int .i64 z] W fun e w' => (∃ r : Int, e = .returned (.int .i64 r) /\ (r < 0 ∨ (0 <= r /\ r <= 1048576 /\ (p.ns.length <= 1048576 /\ ∀ x ∈ p.ns, PFit x)))) /\ Below W.heap.size W w') := fun z W g a b => (Qhu p.nA p.nc p.ns hr.nl hr.nr z a b W (hp.na.below g) (hp.ne.below g)).mono fun e w' h => by
  obtain ⟨⟨r, e1, h⟩, g⟩ := h
  exact ⟨⟨r, e1, h.imp id (fun h => ⟨h.1, by omega, h.2.2.1, h.2.2.2.1⟩)⟩, g⟩
 have C2 : Hid (∀ (z : Int) (W : World), Below w.heap.size w W -> 0 <= z -> z <= 1048576 -> Calls Tryz.prog 13 #[.slice p.mA p.ms.length p.mc, .int .i64 z] W fun e w' => (∃ r : Int, e = .returned (.int .i64 r) /\ (r < 0 ∨ (0 <= r /\ r <= 1048576 /\ (p.ms.length <= 1048576 /\ ∀ x ∈ p.ms, x.l.length <= 1048576)))) /\ Below W.heap.size W w') := fun z W g a b => (Qfe p.mA p.mc p.ms hr.ml hr.mr z a b W (hp.ma.below g) (hp.me.below g)).mono fun e w' h => by
  obtain ⟨⟨r, e1, e2⟩, g⟩ := h
  refine ⟨⟨r, e1, ?_⟩, g⟩
  rcases e2 with e2 | ⟨e2, e3⟩
  . exact .inl e2
  . refine .inr ⟨e2, by omega, by omega, fun y hy => ?_⟩
    have h1 := Qc2 szRP p.ms y hy
    simp only [szRP] at h1
    omega
 have C3 : Hid (∀ (z : Int) (W : World), Below w.heap.size w W -> 0 <= z -> z <= 1048576 -> Calls Tryz.prog 14 #[.slice p.sA p.ss.length p.sc, .int .i64 z] W fun e w' => (∃ r : Int, e = .returned (.int .i64 r) /\ (r < 0 ∨ (0 <= r /\ r <= 1048576 /\ p.ss.length <= 1048576))) /\ Below W.heap.size W w') := fun z W g a b => (Qfg p.sA p.sc p.ss hr.sl hr.sr z a b W (hp.sa.below g)).mono fun e w' h => by
  obtain ⟨⟨r, e1, e2⟩, g⟩ := h
  exact ⟨⟨r, e1, by omega⟩, g⟩
 have C4 : Hid (∀ (z : Int) (W : World), Below w.heap.size w W -> 0 <= z -> z <= 1048576 -> Calls Tryz.prog 15 #[.slice p.fA p.fs.length p.fc, .int .i64 z] W fun e w' => (∃ r : Int, e = .returned (.int .i64 r) /\ (r < 0 ∨ (0 <= r /\ r <= 1048576 /\ p.fs.length <= 1048576))) /\ Below W.heap.size W w') := fun z W g a b => (Qb5 p.fA p.fs.length p.fc hr.fl z a b W).mono fun e w' h => ⟨⟨_, h.1, by split<;>omega⟩, h.2 ▸ Below.refl _ _⟩
 have C5 : Hid (∀ (z : Int) (W : World), Below w.heap.size w W -> 0 <= z -> z <= 1048576 -> Calls Tryz.prog 16 #[.slice p.hA p.hs.length p.hc, .int .i64 z] W fun e w' => (∃ r : Int, e = .returned (.int .i64 r) /\ (r < 0 ∨ (0 <= r /\ r <= 1048576 /\ p.hs.length <= 1048576))) /\ Below W.heap.size W w') := fun z W g a b => (Qgn p.hA p.hc p.hs hr.hl hr.hr z a b W (hp.ha.below g)).mono fun e w' h => by
  obtain ⟨⟨r, e1, e2⟩, g⟩ := h
  exact ⟨⟨r, e1, by omega⟩, g⟩
 have C6 : Hid (∀ (z : Int) (W : World), Below w.heap.size w W -> 0 <= z -> z <= 1048576 -> Calls Tryz.prog 14 #[.slice p.dA p.ds.length p.dc, .int .i64 z] W fun e w' => (∃ r : Int, e = .returned (.int .i64 r) /\ (r < 0 ∨ (0 <= r /\ r <= 1048576 /\ p.ds.length <= 1048576))) /\ Below W.heap.size W w') := fun z W g a b => (Qfg p.dA p.dc p.ds hr.dl hr.dr z a b W (hp.da.below g)).mono fun e w' h => by
  obtain ⟨⟨r, e1, e2⟩, g⟩ := h
  exact ⟨⟨r, e1, by omega⟩, g⟩
 clear hr hp
 have P0 := hidP (Blk.new w 30 (Qai p.ro p.wi p.le p.ke p.size p.nA p.ns.length p.nc p.mA p.ms.length p.mc p.sA p.ss.length p.sc p.fA p.fs.length p.fc p.hA p.hs.length p.hc p.dA p.ds.length p.dc))
 have B0 := hidP (show Below w.heap.size w (w.alloc (.cells (Qai p.ro p.wi p.le p.ke p.size p.nA p.ns.length p.nc p.mA p.ms.length p.mc p.sA p.ss.length p.sc p.fA p.fs.length p.fc p.hA p.hs.length p.hc p.dA p.ds.length p.dc) 30)) from Qab (Below.refl _ _) _)
 go_enter Tryz.func5, Tryz.ntmps5
 have u1 := P0.out.cell (i := 5) rfl
 have q0 := P0.out.lt
 go_wp2_with fail
 refine (C1.out 1048576 _ B0.out (by omega) (by omega)).mono ?_
 rintro e w1 ⟨⟨r1, rfl, h1⟩, g⟩
 replace B0 := hidP (via0 g B0.out)
 replace P0 := hidP (P0.out.below g P0.out.lt)
 clear g u1 q0
 rcases h1 with h1 | ⟨i1, m1, c1⟩
 . go_wp2
   go_ret
   exact ⟨⟨-1, rfl, .inl (by omega)⟩, B0.out⟩
 have n1 : ¬ r1 < 0 := by omega
 have Q1 := hidP c1
 clear c1
 have u2 := P0.out.cell (i := 6) rfl
 have q0 := P0.out.lt
 go_wp2_with fail
 refine (C2.out r1 _ B0.out i1 m1).mono ?_
 rintro e w2 ⟨⟨r2, rfl, h2⟩, g⟩
 replace B0 := hidP (via0 g B0.out)
 replace P0 := hidP (P0.out.below g P0.out.lt)
 clear g u2 q0
 rcases h2 with h2 | ⟨i2, m2, c2⟩
 . go_wp2
   go_ret
   exact ⟨⟨-1, rfl, .inl (by omega)⟩, B0.out⟩
 have n2 : ¬ r2 < 0 := by omega
 have Q2 := hidP c2
 clear c2
 have u3 := P0.out.cell (i := 7) rfl
 have q0 := P0.out.lt
 go_wp2_with fail
 refine (C3.out r2 _ B0.out i2 m2).mono ?_
 rintro e w3 ⟨⟨r3, rfl, h3⟩, g⟩
 replace B0 := hidP (via0 g B0.out)
 replace P0 := hidP (P0.out.below g P0.out.lt)
 clear g u3 q0
 rcases h3 with h3 | ⟨i3, m3, c3⟩
 . go_wp2
   go_ret
   exact ⟨⟨-1, rfl, .inl (by omega)⟩, B0.out⟩
 have n3 : ¬ r3 < 0 := by omega
 have Q3 := hidP c3
 clear c3
 have u4 := P0.out.cell (i := 8) rfl
 have q0 := P0.out.lt
 go_wp2_with fail
 refine (C4.out r3 _ B0.out i3 m3).mono ?_
 rintro e w4 ⟨⟨r4, rfl, h4⟩, g⟩
 replace B0 := hidP (via0 g B0.out)
 replace P0 := hidP (P0.out.below g P0.out.lt)
 clear g u4 q0
 rcases h4 with h4 | ⟨i4, m4, c4⟩
 . go_wp2
   go_ret
   exact ⟨⟨-1, rfl, .inl (by omega)⟩, B0.out⟩
 have n4 : ¬ r4 < 0 := by omega
 have Q4 := hidP c4
 clear c4
 have u5 := P0.out.cell (i := 9) rfl
 have q0 := P0.out.lt
 go_wp2_with fail
 refine (C5.out r4 _ B0.out i4 m4).mono ?_
 rintro e w5 ⟨⟨r5, rfl, h5⟩, g⟩
 replace B0 := hidP (via0 g B0.out)
 replace P0 := hidP (P0.out.below g P0.out.lt)
 clear g u5 q0
 rcases h5 with h5 | ⟨i5, m5, c5⟩
 . go_wp2
   go_ret
   exact ⟨⟨-1, rfl, .inl (by omega)⟩, B0.out⟩
 have n5 : ¬ r5 < 0 := by omega
 have Q5 := hidP c5
 clear c5
 have u6 := P0.out.cell (i := 10) rfl
 have q0 := P0.out.lt
 go_wp2_with fail
 refine (C6.out r5 _ B0.out i5 m5).mono ?_
 rintro e w6 ⟨⟨r6, rfl, h6⟩, g⟩
 replace B0 := hidP (via0 g B0.out)
 replace P0 := hidP (P0.out.below g P0.out.lt)
 clear g u6 q0
 rcases h6 with h6 | ⟨i6, m6, c6⟩
 . go_wp2
   go_ret
   exact ⟨⟨-1, rfl, .inl (by omega)⟩, B0.out⟩
 have n6 : ¬ r6 < 0 := by omega
 have Q6 := hidP c6
 clear c6
 go_wp2
 go_ret
 exact ⟨⟨r6, rfl, .inr ⟨i6, ⟨Q1.out.1, Q1.out.2, Q2.out.1, Q2.out.2, Q3.out, Q4.out, Q5.out, Q6.out⟩⟩⟩, B0.out⟩
def NewW (w w' : World) (e : Ending) (p : WC) : Prop := ∃ q : WC, e = .returned (.agg (Qal q)) /\ SameW q p /\ WOwn w' q (fun z => w.heap.size <= z /\ z < w'.heap.size) /\ Below w.heap.size w w'
theorem Qhl (p : WC) (hf : WFit p) (w : World) (hp : WAt w p) :
 Calls Tryz.prog 7 #[.agg (Qai p.ro p.wi p.le p.ke p.size p.nA p.ns.length p.nc p.mA p.ms.length p.mc p.sA p.ss.length p.sc p.fA p.fs.length p.fc p.hA p.hs.length p.hc p.dA p.ds.length p.dc)] w fun e w' => NewW w w' e p := by
 have C1 : Hid (∀ W : World, Calls Tryz.prog 18 #[.agg (Qag p.ro p.wi p.le p.ke)] W fun e w' => e = .returned (.agg (Qag p.ro p.wi p.le p.ke)) /\ Below W.heap.size W w') := fun W => Qhm p.ro p.wi p.le p.ke W
 have C2 : Hid (∀ W : World, Below w.heap.size w W -> w.heap.size + 1 + 1 < W.heap.size -> Calls Tryz.prog 19 #[.slice p.nA p.ns.length p.nc] W fun e w' => ∃ (b : Nat) (qs : List PC), e = .returned (.slice (some ⟨b, 0, none⟩) p.ns.length p.ns.length) /\ Below W.heap.size W w' /\ SameN qs p.ns /\ ∀ V, Offp (fun z => z = w.heap.size + 1 ∨ z = w.heap.size + 1 + 1) w' V -> Own pcP V (some ⟨b, 0, none⟩) qs (fun z => W.heap.size <= z /\ z < w'.heap.size)) := fun W g lt => (Qhn p.nA p.nc p.ns hf.nl hf.nf W (hp.na.below g) (hp.ne.below g)).mono fun e w' h => by
  obtain ⟨he, h1, qs, h2, h3⟩ := h
  have o2 := h2.own
  exact ⟨_, qs, he, h1, h3, fun V o => o2.offp pcP_firm o (fun z hz hn => by omega)⟩
 have C3 : Hid (∀ W : World, Below w.heap.size w W -> w.heap.size + 1 + 1 < W.heap.size -> Calls Tryz.prog 20 #[.slice p.mA p.ms.length p.mc] W fun e w' => ∃ (b : Nat) (qs : List RpC), e = .returned (.slice (some ⟨b, 0, none⟩) p.ms.length p.ms.length) /\ Below W.heap.size W w' /\ qs.map RpC.p = p.ms.map RpC.p /\ ∀ V, Offp (fun z => z = w.heap.size + 1 ∨ z = w.heap.size + 1 + 1) w' V -> Own rpcP V (some ⟨b, 0, none⟩) qs (fun z => W.heap.size <= z /\ z < w'.heap.size)) := fun W g lt => (Qfa p.mA p.mc p.ms hf.ml hf.mi W (hp.ma.below g) (hp.me.below g)).mono fun e w' h => by
  obtain ⟨he, h1, qs, h2, h3⟩ := h
  have o2 := h2.own
  exact ⟨_, qs, he, h1, h3, fun V o => o2.offp Qdg o (fun z hz hn => by omega)⟩
 have C4 : Hid (∀ W : World, Below w.heap.size w W -> w.heap.size + 1 + 1 < W.heap.size -> Calls Tryz.prog 21 #[.slice p.sA p.ss.length p.sc] W fun e w' => ∃ b : Nat, e = .returned (.slice (some ⟨b, 0, none⟩) p.ss.length p.ss.length) /\ Below W.heap.size W w' /\ (W.heap.size <= b /\ b < w'.heap.size) /\ ∀ V, Offp (fun z => z = w.heap.size + 1 ∨ z = w.heap.size + 1 + 1) w' V -> Sub V (some ⟨b, 0, none⟩) p.ss (fun z => z = b)) := fun W g lt => (Qfc p.sA p.sc p.ss hf.sl W (hp.sa.below g)).mono fun e w' h => by
  obtain ⟨he, h1, h2, h3, h4⟩ := h
  exact ⟨_, he, h1, ⟨Nat.le_refl _, h2⟩, fun V o => Qb1 h3 h4 h2 (by omega) o⟩
 have C5 : Hid (∀ W : World, Below w.heap.size w W -> w.heap.size + 1 + 1 < W.heap.size -> Calls Tryz.prog 22 #[.slice p.fA p.fs.length p.fc] W fun e w' => ∃ b : Nat, e = .returned (.slice (some ⟨b, 0, none⟩) p.fs.length p.fs.length) /\ Below W.heap.size W w' /\ (W.heap.size <= b /\ b < w'.heap.size) /\ ∀ V, Offp (fun z => z = w.heap.size + 1 ∨ z = w.heap.size + 1 + 1) w' V -> Sub V (some ⟨b, 0, none⟩) p.fs (fun z => z = b)) := fun W g lt => (Qb4 p.fA p.fc p.fs hf.fl W (hp.fa.below g)).mono fun e w' h => by
  obtain ⟨he, h1, h2, h3, h4⟩ := h
  exact ⟨_, he, h1, ⟨Nat.le_refl _, h2⟩, fun V o => Qb1 h3 h4 h2 (by omega) o⟩
 have C6 : Hid (∀ W : World, Below w.heap.size w W -> w.heap.size + 1 + 1 < W.heap.size -> Calls Tryz.prog 23 #[.slice p.hA p.hs.length p.hc] W fun e w' => ∃ b : Nat, e = .returned (.slice (some ⟨b, 0, none⟩) p.hs.length p.hs.length) /\ Below W.heap.size W w' /\ (W.heap.size <= b /\ b < w'.heap.size) /\ ∀ V, Offp (fun z => z = w.heap.size + 1 ∨ z = w.heap.size + 1 + 1) w' V -> Sub V (some ⟨b, 0, none⟩) p.hs (fun z => z = b)) := fun W g lt => (Qgi p.hA p.hc p.hs hf.hl W (hp.ha.below g)).mono fun e w' h => by
  obtain ⟨he, h1, h2, h3, h4⟩ := h
  exact ⟨_, he, h1, ⟨Nat.le_refl _, h2⟩, fun V o => Qb1 h3 h4 h2 (by omega) o⟩
 have C7 : Hid (∀ W : World, Below w.heap.size w W -> w.heap.size + 1 + 1 < W.heap.size -> Calls Tryz.prog 21 #[.slice p.dA p.ds.length p.dc] W fun e w' => ∃ b : Nat, e = .returned (.slice (some ⟨b, 0, none⟩) p.ds.length p.ds.length) /\ Below W.heap.size W w' /\ (W.heap.size <= b /\ b < w'.heap.size) /\ ∀ V, Offp (fun z => z = w.heap.size + 1 ∨ z = w.heap.size + 1 + 1) w' V -> Sub V (some ⟨b, 0, none⟩) p.ds (fun z => z = b)) := fun W g lt => (Qfc p.dA p.dc p.ds hf.dl W (hp.da.below g)).mono fun e w' h => by
  obtain ⟨he, h1, h2, h3, h4⟩ := h
  exact ⟨_, he, h1, ⟨Nat.le_refl _, h2⟩, fun V o => Qb1 h3 h4 h2 (by omega) o⟩
 clear hp hf
 have M0 : Mk3 w (((w.alloc (.cells (Qai p.ro p.wi p.le p.ke p.size p.nA p.ns.length p.nc p.mA p.ms.length p.mc p.sA p.ss.length p.sc p.fA p.fs.length p.fc p.hA p.hs.length p.hc p.dA p.ds.length p.dc) 30)).alloc (.cells Qa1 39)).alloc (.cells Qa1 39)) 30 39 (Qai p.ro p.wi p.le p.ke p.size p.nA p.ns.length p.nc p.mA p.ms.length p.mc p.sA p.ss.length p.sc p.fA p.fs.length p.fc p.hA p.hs.length p.hc p.dA p.ds.length p.dc) Qa1 Qa1 := ⟨Qab (Qab (Qab (Below.refl _ _) _) _) _, ((Blk.new w _ _).alloc _).alloc _, by have := (Blk.new (w.alloc (.cells (Qai p.ro p.wi p.le p.ke p.size p.nA p.ns.length p.nc p.mA p.ms.length p.mc p.sA p.ss.length p.sc p.fA p.fs.length p.fc p.hA p.hs.length p.hc p.dA p.ds.length p.dc) 30)) 39 Qa1).alloc (.cells Qa1 39); rwa [World.size_alloc] at this, by have := Blk.new ((w.alloc (.cells (Qai p.ro p.wi p.le p.ke p.size p.nA p.ns.length p.nc p.mA p.ms.length p.mc p.sA p.ss.length p.sc p.fA p.fs.length p.fc p.hA p.hs.length p.hc p.dA p.ds.length p.dc) 30)).alloc (.cells Qa1 39)) 39 Qa1; rwa [World.size_alloc, World.size_alloc] at this⟩
 have HM := hidP M0
 clear M0
 go_enter Tryz.func7, Tryz.ntmps7
 go_wp2_with fail
 refine (C1.out _).mono ?_
 rintro e w1 ⟨rfl, g⟩
 replace HM := hidP (HM.out.below g)
 have z0 : w.heap.size + 1 + 1 < w1.heap.size := HM.out.p3.lt
 clear g
 have u4 := HM.out.p1.cell (i := 4) rfl
 have u5 := HM.out.p1.cell (i := 5) rfl
 have v0 := HM.out.p3.cell (i := 0) rfl
 have v1 := HM.out.p3.cell (i := 1) rfl
 have v2 := HM.out.p3.cell (i := 2) rfl
 have v3 := HM.out.p3.cell (i := 3) rfl
 have v4 := HM.out.p3.cell (i := 4) rfl
 have fv0 := HM.out.p3.thaw 0
 have fv1 := HM.out.p3.thaw 1
 have fv2 := HM.out.p3.thaw 2
 have fv3 := HM.out.p3.thaw 3
 have fv4 := HM.out.p3.thaw 4
 have q1 := HM.out.p1.lt
 have q3 := HM.out.p3.lt
 have M1 := (((((HM.out.set 0 (.int .i64 p.ro)).set 1 (.int .i64 p.wi)).set 2 (.int .i64 p.le)).set 3 (.int .i64 p.ke)).set 4 (.int .i64 p.size))
 simp only [List.setIfInBounds_toArray, List.set_cons_zero, List.set_cons_succ] at M1
 have O1 := Offp.set (Offp.set (Offp.set (Offp.set (Offp.set (Offp.refl (fun z => z = w.heap.size + 1 ∨ z = w.heap.size + 1 + 1) w1) (Or.inr rfl) 0 (.int .i64 p.ro)) (Or.inr rfl) 1 (.int .i64 p.wi)) (Or.inr rfl) 2 (.int .i64 p.le)) (Or.inr rfl) 3 (.int .i64 p.ke)) (Or.inr rfl) 4 (.int .i64 p.size)
 have HN := hidP M1
 have P1 := hidP O1
 clear M1 O1 HM
 go_wp2_with fail
 refine (C2.out _ HN.out.bl HN.out.p3.lt).mono ?_
 rintro e w2 ⟨b2, qn, rfl, g, X2, F2⟩
 have z2 : w1.heap.size <= w2.heap.size := by have h9 := g.size; simpa using h9
 try simp only [World.size_setCell] at F2
 have HM := hidP (HN.out.below g)
 replace P1 := hidP (P1.out.trans (Offp.of_below g))
 have G2 := hidP F2
 have Y2 := hidP X2
 clear X2
 clear g F2 HN q1 q3 u4 u5 v0 fv0 v1 fv1 v2 fv2 v3 fv3 v4 fv4
 have u6 := HM.out.p1.cell (i := 6) rfl
 have v5 := HM.out.p3.cell (i := 5) rfl
 have fv5 := HM.out.p3.thaw 5
 have q1 := HM.out.p1.lt
 have q3 := HM.out.p3.lt
 have M2 := (HM.out.set 5 (.slice (some ⟨b2, 0, none⟩) p.ns.length p.ns.length))
 simp only [List.setIfInBounds_toArray, List.set_cons_zero, List.set_cons_succ] at M2
 have O2 := Offp.set (Offp.refl (fun z => z = w.heap.size + 1 ∨ z = w.heap.size + 1 + 1) w2) (Or.inr rfl) 5 (.slice (some ⟨b2, 0, none⟩) p.ns.length p.ns.length)
 have HN := hidP M2
 have P2 := hidP O2
 clear M2 O2 HM
 go_wp2_with fail
 refine (C3.out _ HN.out.bl HN.out.p3.lt).mono ?_
 rintro e w3 ⟨b3, qm, rfl, g, X3, F3⟩
 have z3 : w2.heap.size <= w3.heap.size := by have h9 := g.size; simpa using h9
 try simp only [World.size_setCell] at F3
 have HM := hidP (HN.out.below g)
 replace P2 := hidP (P2.out.trans (Offp.of_below g))
 have G3 := hidP F3
 have Y3 := hidP X3
 clear X3
 clear g F3 HN q1 q3 u6 v5 fv5
 have u7 := HM.out.p1.cell (i := 7) rfl
 have v6 := HM.out.p3.cell (i := 6) rfl
 have fv6 := HM.out.p3.thaw 6
 have q1 := HM.out.p1.lt
 have q3 := HM.out.p3.lt
 have M3 := (HM.out.set 6 (.slice (some ⟨b3, 0, none⟩) p.ms.length p.ms.length))
 simp only [List.setIfInBounds_toArray, List.set_cons_zero, List.set_cons_succ] at M3
 have O3 := Offp.set (Offp.refl (fun z => z = w.heap.size + 1 ∨ z = w.heap.size + 1 + 1) w3) (Or.inr rfl) 6 (.slice (some ⟨b3, 0, none⟩) p.ms.length p.ms.length)
 have HN := hidP M3
 have P3 := hidP O3
 clear M3 O3 HM
 go_wp2_with fail
 refine (C4.out _ HN.out.bl HN.out.p3.lt).mono ?_
 rintro e w4 ⟨b4, rfl, g, hb4, F4⟩
 have z4 : w3.heap.size <= w4.heap.size := by have h9 := g.size; simpa using h9
 try simp only [World.size_setCell] at F4
 try simp only [World.size_setCell] at hb4
 have HM := hidP (HN.out.below g)
 replace P3 := hidP (P3.out.trans (Offp.of_below g))
 have G4 := hidP F4
 clear g F4 HN q1 q3 u7 v6 fv6
 have u8 := HM.out.p1.cell (i := 8) rfl
 have v7 := HM.out.p3.cell (i := 7) rfl
 have fv7 := HM.out.p3.thaw 7
 have q1 := HM.out.p1.lt
 have q3 := HM.out.p3.lt
 have M4 := (HM.out.set 7 (.slice (some ⟨b4, 0, none⟩) p.ss.length p.ss.length))
 simp only [List.setIfInBounds_toArray, List.set_cons_zero, List.set_cons_succ] at M4
 have O4 := Offp.set (Offp.refl (fun z => z = w.heap.size + 1 ∨ z = w.heap.size + 1 + 1) w4) (Or.inr rfl) 7 (.slice (some ⟨b4, 0, none⟩) p.ss.length p.ss.length)
 have HN := hidP M4
 have P4 := hidP O4
 clear M4 O4 HM
 go_wp2_with fail
 refine (C5.out _ HN.out.bl HN.out.p3.lt).mono ?_
 rintro e w5 ⟨b5, rfl, g, hb5, F5⟩
 have z5 : w4.heap.size <= w5.heap.size := by have h9 := g.size; simpa using h9
 try simp only [World.size_setCell] at F5
 try simp only [World.size_setCell] at hb5
 have HM := hidP (HN.out.below g)
 replace P4 := hidP (P4.out.trans (Offp.of_below g))
 have G5 := hidP F5
 clear g F5 HN q1 q3 u8 v7 fv7
 have u9 := HM.out.p1.cell (i := 9) rfl
 have v8 := HM.out.p3.cell (i := 8) rfl
 have fv8 := HM.out.p3.thaw 8
 have q1 := HM.out.p1.lt
 have q3 := HM.out.p3.lt
 have M5 := (HM.out.set 8 (.slice (some ⟨b5, 0, none⟩) p.fs.length p.fs.length))
 simp only [List.setIfInBounds_toArray, List.set_cons_zero, List.set_cons_succ] at M5
 have O5 := Offp.set (Offp.refl (fun z => z = w.heap.size + 1 ∨ z = w.heap.size + 1 + 1) w5) (Or.inr rfl) 8 (.slice (some ⟨b5, 0, none⟩) p.fs.length p.fs.length)
 have HN := hidP M5
 have P5 := hidP O5
 clear M5 O5 HM
 go_wp2_with fail
 refine (C6.out _ HN.out.bl HN.out.p3.lt).mono ?_
 rintro e w6 ⟨b6, rfl, g, hb6, F6⟩
 have z6 : w5.heap.size <= w6.heap.size := by have h9 := g.size; simpa using h9
 try simp only [World.size_setCell] at F6
 try simp only [World.size_setCell] at hb6
 have HM := hidP (HN.out.below g)
 replace P5 := hidP (P5.out.trans (Offp.of_below g))
 have G6 := hidP F6
 clear g F6 HN q1 q3 u9 v8 fv8
 have u10 := HM.out.p1.cell (i := 10) rfl
 have v9 := HM.out.p3.cell (i := 9) rfl
 have fv9 := HM.out.p3.thaw 9
 have q1 := HM.out.p1.lt
 have q3 := HM.out.p3.lt
 have M6 := (HM.out.set 9 (.slice (some ⟨b6, 0, none⟩) p.hs.length p.hs.length))
 simp only [List.setIfInBounds_toArray, List.set_cons_zero, List.set_cons_succ] at M6
 have O6 := Offp.set (Offp.refl (fun z => z = w.heap.size + 1 ∨ z = w.heap.size + 1 + 1) w6) (Or.inr rfl) 9 (.slice (some ⟨b6, 0, none⟩) p.hs.length p.hs.length)
 have HN := hidP M6
 have P6 := hidP O6
 clear M6 O6 HM
 go_wp2_with fail
 refine (C7.out _ HN.out.bl HN.out.p3.lt).mono ?_
 rintro e w7 ⟨b7, rfl, g, hb7, F7⟩
 have z7 : w6.heap.size <= w7.heap.size := by have h9 := g.size; simpa using h9
 try simp only [World.size_setCell] at F7
 try simp only [World.size_setCell] at hb7
 have HM := hidP (HN.out.below g)
 replace P6 := hidP (P6.out.trans (Offp.of_below g))
 have G7 := hidP F7
 clear g F7 HN q1 q3 u10 v9 fv9
 have v10 := HM.out.p3.cell (i := 10) rfl
 have fv10 := HM.out.p3.thaw 10
 have q1 := HM.out.p1.lt
 have q3 := HM.out.p3.lt
 have M7 := HM.out.set 10 (.slice (some ⟨b7, 0, none⟩) p.ds.length p.ds.length)
 simp only [List.setIfInBounds_toArray, List.set_cons_zero, List.set_cons_succ] at M7
 have HN := hidP M7
 clear M7
 have OO : Hid (∀ V : World, Offp (fun z => z = w.heap.size + 1 ∨ z = w.heap.size + 1 + 1) w7 V -> NewW w V (.returned (.agg (Qai p.ro p.wi p.le p.ke p.size (some ⟨b2, 0, none⟩) p.ns.length p.ns.length (some ⟨b3, 0, none⟩) p.ms.length p.ms.length (some ⟨b4, 0, none⟩) p.ss.length p.ss.length (some ⟨b5, 0, none⟩) p.fs.length p.fs.length (some ⟨b6, 0, none⟩) p.hs.length p.hs.length (some ⟨b7, 0, none⟩) p.ds.length p.ds.length))) p) := by
  intro V o
  have o6 := P6.out.trans o
  have o5 := P5.out.trans o6
  have o4 := P4.out.trans o5
  have o3 := P3.out.trans o4
  have o2 := P2.out.trans o3
  have hV := o.size
  refine ⟨{ p with nA := some ⟨b2, 0, none⟩, nc := p.ns.length, ns := qn, mA := some ⟨b3, 0, none⟩, mc := p.ms.length, ms := qm, sA := some ⟨b4, 0, none⟩, sc := p.ss.length, fA := some ⟨b5, 0, none⟩, fc := p.fs.length, hA := some ⟨b6, 0, none⟩, hc := p.hs.length, dA := some ⟨b7, 0, none⟩, dc := p.ds.length }, by simp only [Qal, Y2.out.1, Qcd Y3.out], ⟨rfl, rfl, rfl, rfl, rfl, Y2.out, Y3.out, rfl, rfl, rfl, rfl⟩, ⟨fun b => if b < w2.heap.size then 1 else if b < w3.heap.size then 2 else if b < w4.heap.size then 3 else if b < w5.heap.size then 4 else if b < w6.heap.size then 5 else 6, ?_, ?_, ?_, ?_, ?_, ?_⟩, HM.out.bl.trans (o.toBelow (fun z hz => by omega) HM.out.bl.size)⟩
  . exact (G2.out _ o2).mono (fun z hz => by have h1 := hz.1; have h2 := hz.2; exact ⟨⟨by omega, by omega⟩, by (repeat' split)<;>first | rfl | omega⟩)
  . exact (G3.out _ o3).mono (fun z hz => by have h1 := hz.1; have h2 := hz.2; exact ⟨⟨by omega, by omega⟩, by (repeat' split)<;>first | rfl | omega⟩)
  . exact (G4.out _ o4).mono (fun z hz => by subst hz; exact ⟨⟨by omega, by omega⟩, by (repeat' split)<;>first | rfl | omega⟩)
  . exact (G5.out _ o5).mono (fun z hz => by subst hz; exact ⟨⟨by omega, by omega⟩, by (repeat' split)<;>first | rfl | omega⟩)
  . exact (G6.out _ o6).mono (fun z hz => by subst hz; exact ⟨⟨by omega, by omega⟩, by (repeat' split)<;>first | rfl | omega⟩)
  . exact (G7.out _ o).mono (fun z hz => by subst hz; exact ⟨⟨by omega, by omega⟩, by (repeat' split)<;>first | rfl | omega⟩)
 have PP := hidP (show Offp (fun z => z = w.heap.size + 1 ∨ z = w.heap.size + 1 + 1) w7 ((w7.setCell ⟨w.heap.size + 1 + 1, 10, none⟩ (.slice (some ⟨b7, 0, none⟩) p.ds.length p.ds.length)).setRow (w.heap.size + 1) (Qai p.ro p.wi p.le p.ke p.size (some ⟨b2, 0, none⟩) p.ns.length p.ns.length (some ⟨b3, 0, none⟩) p.ms.length p.ms.length (some ⟨b4, 0, none⟩) p.ss.length p.ss.length (some ⟨b5, 0, none⟩) p.fs.length p.fs.length (some ⟨b6, 0, none⟩) p.hs.length p.hs.length (some ⟨b7, 0, none⟩) p.ds.length p.ds.length)) from ((Offp.refl _ w7).set (Or.inr rfl) 10 _).row (Or.inl rfl) _)
 clear HM P1 P2 P3 P4 P5 P6 G2 G3 G4 G5 G6 G7 Y2 Y3 C1 C2 C3 C4 C5 C6 C7
 go_upto_region 10 with fail
 refine wp_region_lit ?_
 refine Qau rfl 39 _ rfl (b := w.heap.size + 1 + 1) rfl HN.out.p3 Tryz.underlying39 (by kernel_rfl) ?_
 refine Qa2 rfl 39 _ _ rfl (g := w.heap.size + 1) (cells := (Qai p.ro p.wi p.le p.ke p.size (some ⟨b2, 0, none⟩) p.ns.length p.ns.length (some ⟨b3, 0, none⟩) p.ms.length p.ms.length (some ⟨b4, 0, none⟩) p.ss.length p.ss.length (some ⟨b5, 0, none⟩) p.fs.length p.fs.length (some ⟨b6, 0, none⟩) p.hs.length p.hs.length (some ⟨b7, 0, none⟩) p.ds.length p.ds.length)) rfl rfl HN.out.p2 (by kernel_rfl) rfl (by simp [Value.oneCell']) ?_
 refine wpList_nil ?_
 have HB := hidP (HN.out.p2.row (Qai p.ro p.wi p.le p.ke p.size (some ⟨b2, 0, none⟩) p.ns.length p.ns.length (some ⟨b3, 0, none⟩) p.ms.length p.ms.length (some ⟨b4, 0, none⟩) p.ss.length p.ss.length (some ⟨b5, 0, none⟩) p.fs.length p.fs.length (some ⟨b6, 0, none⟩) p.hs.length p.hs.length (some ⟨b7, 0, none⟩) p.ds.length p.ds.length))
 clear HN
 go_wp2
 exact bodyPost_ret (v := .agg (Qai p.ro p.wi p.le p.ke p.size (some ⟨b2, 0, none⟩) p.ns.length p.ns.length (some ⟨b3, 0, none⟩) p.ms.length p.ms.length (some ⟨b4, 0, none⟩) p.ss.length p.ss.length (some ⟨b5, 0, none⟩) p.fs.length p.fs.length (some ⟨b6, 0, none⟩) p.hs.length p.hs.length (some ⟨b7, 0, none⟩) p.ds.length p.ds.length)) (Qdb (by rfl) rfl HB.out Tryz.underlying39 (by kernel_rfl)) rfl (OO.out _ PP.out)
theorem Qg4 (ro wi le ke : Int) (w : World) : Calls Tryz.prog 26 #[.agg (Qag ro wi le ke), .agg (Qag ro wi le ke)] w fun e w' => e = .returned (.bool true) /\ Below w.heap.size w w' := by
 go_enter Tryz.func26, Tryz.ntmps26
 go_wp2
 go_ret
 exact ⟨rfl, by repeat (first | exact Below.refl _ _ | refine Below.drew ?_ | refine Qab ?_ _)⟩
theorem Qg3 {a b : WC} (hs : SameW a b) (hf : WFit b) (w : World) (ha : WAt w a) (hb : WAt w b) :
 Calls Tryz.prog 9 #[.agg (Qal a), .agg (Qal b)] w fun e w' => e = .returned (.bool true) /\ Below w.heap.size w w' := by
 obtain ⟨aro, awi, ale, ake, asize, anA, anc, ans, amA, amc, ams, asA, asc, ass, afA, afc, afs, ahA, ahc, ahs, adA, adc, ads⟩ := a
 obtain ⟨ro, wi, le, ke, size, nA, nc, ns, mA, mc, ms, sA, sc, ss, fA, fc, fs, hA, hc, hs0, dA, dc, ds⟩ := b
 obtain ⟨e1, e2, e3, e4, e5, en, em, e6, e7, e8, e9⟩ := hs
 simp only at e1 e2 e3 e4 e5 en em e6 e7 e8 e9
 subst e1 e2 e3 e4 e5 e6 e7 e8 e9
 have ln := en.1
 have lm := Qcd em
 simp only [Qal, ln, lm]
 have C1 : Hid (∀ W : World, Calls Tryz.prog 26 #[.agg (Qag aro awi ale ake), .agg (Qag aro awi ale ake)] W fun e w' => e = .returned (.bool true) /\ Below W.heap.size W w') := fun W => Qg4 aro awi ale ake W
 have C2 : Hid (∀ W : World, Below w.heap.size w W -> Calls Tryz.prog 27 #[.slice anA ns.length anc, .slice nA ns.length nc] W fun e w' => e = .returned (.bool true) /\ Below W.heap.size W w') := fun W g => Qg5 anA nA anc nc ans ns hf.nl en hf.nf W (ha.na.below g) (ha.ne.below g) (hb.na.below g) (hb.ne.below g)
 have C3 : Hid (∀ W : World, Below w.heap.size w W -> Calls Tryz.prog 28 #[.slice amA ms.length amc, .slice mA ms.length mc] W fun e w' => e = .returned (.bool true) /\ Below W.heap.size W w') := fun W g => by
  have h := Qel amA mA amc mc ams ms (by have := hf.ml; simp only at this; omega) (fun z hz => by have := Qf4 em hf.mi z hz; omega) em.symm W (ha.ma.below g) (ha.me.below g) (hb.ma.below g) (hb.me.below g)
  rw [lm] at h
  exact h
 have C4 : Hid (∀ W : World, Below w.heap.size w W -> Calls Tryz.prog 29 #[.slice asA ass.length asc, .slice sA ass.length sc] W fun e w' => e = .returned (.bool true) /\ Below W.heap.size W w') := fun W g => Qem asA sA asc sc ass (by have := hf.sl; simp only at this; omega) W (ha.sa.below g) (hb.sa.below g)
 have C5 : Hid (∀ W : World, Below w.heap.size w W -> Calls Tryz.prog 30 #[.slice afA afs.length afc, .slice fA afs.length fc] W fun e w' => e = .returned (.bool true) /\ Below W.heap.size W w') := fun W g => Qbv afA fA afc fc afs (by have := hf.fl; simp only at this; omega) W (ha.fa.below g) (hb.fa.below g)
 have C6 : Hid (∀ W : World, Below w.heap.size w W -> Calls Tryz.prog 31 #[.slice ahA ahs.length ahc, .slice hA ahs.length hc] W fun e w' => e = .returned (.bool true) /\ Below W.heap.size W w') := fun W g => Qf6 ahA hA ahc hc ahs (by have := hf.hl; simp only at this; omega) W (ha.ha.below g) (hb.ha.below g)
 have C7 : Hid (∀ W : World, Below w.heap.size w W -> Calls Tryz.prog 29 #[.slice adA ads.length adc, .slice dA ads.length dc] W fun e w' => e = .returned (.bool true) /\ Below W.heap.size W w') := fun W g => Qem adA dA adc dc ads (by have := hf.dl; simp only at this; omega) W (ha.da.below g) (hb.da.below g)
 clear hf ha hb en em ln lm
 have P0 := hidP (show Blk ((w.alloc (.cells (Qai aro awi ale ake asize anA ns.length anc amA ms.length amc asA ass.length asc afA afs.length afc ahA ahs.length ahc adA ads.length adc) 39)).alloc (.cells (Qai aro awi ale ake asize nA ns.length nc mA ms.length mc sA ass.length sc fA afs.length fc hA ahs.length hc dA ads.length dc) 39)) w.heap.size 39 (Qai aro awi ale ake asize anA ns.length anc amA ms.length amc asA ass.length asc afA afs.length afc ahA ahs.length ahc adA ads.length adc) from (Blk.new w _ _).alloc _)
 have P1 := hidP (show Blk ((w.alloc (.cells (Qai aro awi ale ake asize anA ns.length anc amA ms.length amc asA ass.length asc afA afs.length afc ahA ahs.length ahc adA ads.length adc) 39)).alloc (.cells (Qai aro awi ale ake asize nA ns.length nc mA ms.length mc sA ass.length sc fA afs.length fc hA ahs.length hc dA ads.length dc) 39)) (w.heap.size + 1) 39 (Qai aro awi ale ake asize nA ns.length nc mA ms.length mc sA ass.length sc fA afs.length fc hA ahs.length hc dA ads.length dc) by have := Blk.new (w.alloc (.cells (Qai aro awi ale ake asize anA ns.length anc amA ms.length amc asA ass.length asc afA afs.length afc ahA ahs.length ahc adA ads.length adc) 39)) 39 (Qai aro awi ale ake asize nA ns.length nc mA ms.length mc sA ass.length sc fA afs.length fc hA ahs.length hc dA ads.length dc); rwa [World.size_alloc] at this)
 have B0 := hidP (show Below w.heap.size w ((w.alloc (.cells (Qai aro awi ale ake asize anA ns.length anc amA ms.length amc asA ass.length asc afA afs.length afc ahA ahs.length ahc adA ads.length adc) 39)).alloc (.cells (Qai aro awi ale ake asize nA ns.length nc mA ms.length mc sA ass.length sc fA afs.length fc hA ahs.length hc dA ads.length dc) 39)) from Qab (Qab (Below.refl _ _) _) _)
 go_enter Tryz.func9, Tryz.ntmps9
 have u0 := P0.out.cell (i := 0) rfl
 have u1 := P0.out.cell (i := 1) rfl
 have u2 := P0.out.cell (i := 2) rfl
 have u3 := P0.out.cell (i := 3) rfl
 have x0 := P1.out.cell (i := 0) rfl
 have x1 := P1.out.cell (i := 1) rfl
 have x2 := P1.out.cell (i := 2) rfl
 have x3 := P1.out.cell (i := 3) rfl
 have q0 := P0.out.lt
 have q1 := P1.out.lt
 go_wp2_with fail
 refine (C1.out _).mono ?_
 rintro e w1 ⟨rfl, g⟩
 replace P0 := hidP (P0.out.below g P0.out.lt)
 replace P1 := hidP (P1.out.below g P1.out.lt)
 replace B0 := hidP (via0 g B0.out)
 clear g q0 q1 u0 x0 u1 x1 u2 x2 u3 x3
 have u4 := P0.out.cell (i := 4) rfl
 have u5 := P0.out.cell (i := 5) rfl
 have x4 := P1.out.cell (i := 4) rfl
 have x5 := P1.out.cell (i := 5) rfl
 have q0 := P0.out.lt
 have q1 := P1.out.lt
 go_wp2_with fail
 refine (C2.out _ B0.out).mono ?_
 rintro e w2 ⟨rfl, g⟩
 replace P0 := hidP (P0.out.below g P0.out.lt)
 replace P1 := hidP (P1.out.below g P1.out.lt)
 replace B0 := hidP (via0 g B0.out)
 clear g q0 q1 u4 x4 u5 x5
 have u6 := P0.out.cell (i := 6) rfl
 have x6 := P1.out.cell (i := 6) rfl
 have q0 := P0.out.lt
 have q1 := P1.out.lt
 go_wp2_with fail
 refine (C3.out _ B0.out).mono ?_
 rintro e w3 ⟨rfl, g⟩
 replace P0 := hidP (P0.out.below g P0.out.lt)
 replace P1 := hidP (P1.out.below g P1.out.lt)
 replace B0 := hidP (via0 g B0.out)
 clear g q0 q1 u6 x6
 have u7 := P0.out.cell (i := 7) rfl
 have x7 := P1.out.cell (i := 7) rfl
 have q0 := P0.out.lt
 have q1 := P1.out.lt
 go_wp2_with fail
 refine (C4.out _ B0.out).mono ?_
 rintro e w4 ⟨rfl, g⟩
 replace P0 := hidP (P0.out.below g P0.out.lt)
 replace P1 := hidP (P1.out.below g P1.out.lt)
 replace B0 := hidP (via0 g B0.out)
 clear g q0 q1 u7 x7
 have u8 := P0.out.cell (i := 8) rfl
 have x8 := P1.out.cell (i := 8) rfl
 have q0 := P0.out.lt
 have q1 := P1.out.lt
 go_wp2_with fail
 refine (C5.out _ B0.out).mono ?_
 rintro e w5 ⟨rfl, g⟩
 replace P0 := hidP (P0.out.below g P0.out.lt)
 replace P1 := hidP (P1.out.below g P1.out.lt)
 replace B0 := hidP (via0 g B0.out)
 clear g q0 q1 u8 x8
 have u9 := P0.out.cell (i := 9) rfl
 have x9 := P1.out.cell (i := 9) rfl
 have q0 := P0.out.lt
 have q1 := P1.out.lt
 go_wp2_with fail
 refine (C6.out _ B0.out).mono ?_
 rintro e w6 ⟨rfl, g⟩
 replace P0 := hidP (P0.out.below g P0.out.lt)
 replace P1 := hidP (P1.out.below g P1.out.lt)
 replace B0 := hidP (via0 g B0.out)
 clear g q0 q1 u9 x9
 have u10 := P0.out.cell (i := 10) rfl
 have x10 := P1.out.cell (i := 10) rfl
 have q0 := P0.out.lt
 have q1 := P1.out.lt
 go_wp2_with fail
 refine (C7.out _ B0.out).mono ?_
 rintro e w7 ⟨rfl, g⟩
 replace P0 := hidP (P0.out.below g P0.out.lt)
 replace P1 := hidP (P1.out.below g P1.out.lt)
 replace B0 := hidP (via0 g B0.out)
 clear g q0 q1 u10 x10
 go_wp2
 go_ret
 exact ⟨rfl, B0.out⟩
theorem openWorld {H : Type} {enc : TypeId × Value -> H} {W : World} {base0 b0 : Nat} {r : Reach} {spare : Nat -> Bool} {held : Bool} {v : Value} {d : DataW H} {q : List MemPlace}
 (hv : Value.okWide Tryz.prog W r b0 30 v) (h : DataW.Trod enc Tryz.prog W base0 spare held 30 v d q) :
 ∃ p : WC, v = .agg (Qai p.ro p.wi p.le p.ke p.size p.nA p.ns.length p.nc p.mA p.ms.length p.mc p.sA p.ss.length p.sc p.fA p.fs.length p.fc p.hA p.hs.length p.hc p.dA p.ds.length p.dc) /\ WRight p /\ WAt W p /\ I64 p.size := by
 obtain ⟨cs, rfl, hsz⟩ := okWide_struct Tryz.underlying30 hv
 rw [show Tryz.prog.cellsOf 30 = 11 by kernel_rfl] at hsz
 obtain ⟨c0, c1, c2, c3, c4, c5, c6, c7, c8, c9, c10, rfl⟩ : ∃ c0 c1 c2 c3 c4 c5 c6 c7 c8 c9 c10, cs = #[c0, c1, c2, c3, c4, c5, c6, c7, c8, c9, c10] := by
  obtain ⟨l⟩ := cs
  match l, hsz with
  | [c0, c1, c2, c3, c4, c5, c6, c7, c8, c9, c10], _ => exact ⟨c0, c1, c2, c3, c4, c5, c6, c7, c8, c9, c10, rfl⟩
 obtain ⟨fuel, hf0⟩ := h
 simp only [Value.cells] at hf0
 obtain ⟨n, hp⟩ := Qbx Tryz.underlying30 hf0
 obtain ⟨yg0, g0⟩ := hp 0 _ rfl
 simp only [zG] at g0
 rw [show Tryz.prog.cellsOf 23 = 4 by kernel_rfl] at g0
 simp only [List.drop_succ_cons, List.drop_zero, List.take_succ_cons, List.take_zero, List.take_nil] at g0
 obtain ⟨yg1, g1⟩ := hp 1 _ rfl
 simp only [zG] at g1
 rw [show Tryz.prog.cellsOf 3 = 1 by kernel_rfl] at g1
 simp only [List.drop_succ_cons, List.drop_zero, List.take_succ_cons, List.take_zero, List.take_nil] at g1
 obtain ⟨yg2, g2⟩ := hp 2 _ rfl
 simp only [zG] at g2
 rw [show Tryz.prog.cellsOf 24 = 1 by kernel_rfl] at g2
 simp only [List.drop_succ_cons, List.drop_zero, List.take_succ_cons, List.take_zero, List.take_nil] at g2
 obtain ⟨yg3, g3⟩ := hp 3 _ rfl
 simp only [zG] at g3
 rw [show Tryz.prog.cellsOf 25 = 1 by kernel_rfl] at g3
 simp only [List.drop_succ_cons, List.drop_zero, List.take_succ_cons, List.take_zero, List.take_nil] at g3
 obtain ⟨yg4, g4⟩ := hp 4 _ rfl
 simp only [zG] at g4
 rw [show Tryz.prog.cellsOf 26 = 1 by kernel_rfl] at g4
 simp only [List.drop_succ_cons, List.drop_zero, List.take_succ_cons, List.take_zero, List.take_nil] at g4
 obtain ⟨yg5, g5⟩ := hp 5 _ rfl
 simp only [zG] at g5
 rw [show Tryz.prog.cellsOf 27 = 1 by kernel_rfl] at g5
 simp only [List.drop_succ_cons, List.drop_zero, List.take_succ_cons, List.take_zero, List.take_nil] at g5
 obtain ⟨yg6, g6⟩ := hp 6 _ rfl
 simp only [zG] at g6
 rw [show Tryz.prog.cellsOf 28 = 1 by kernel_rfl] at g6
 simp only [List.drop_succ_cons, List.drop_zero, List.take_succ_cons, List.take_zero, List.take_nil] at g6
 obtain ⟨yg7, g7⟩ := hp 7 _ rfl
 simp only [zG] at g7
 rw [show Tryz.prog.cellsOf 26 = 1 by kernel_rfl] at g7
 simp only [List.drop_succ_cons, List.drop_zero, List.take_succ_cons, List.take_zero, List.take_nil] at g7
 obtain ⟨nt, hpt⟩ := Qbx Tryz.underlying23 g0
 obtain ⟨ygt0, gt0⟩ := hpt 0 _ rfl
 simp only [zG] at gt0
 rw [show Tryz.prog.cellsOf 3 = 1 by kernel_rfl] at gt0
 simp only [List.drop_succ_cons, List.drop_zero, List.take_succ_cons, List.take_zero, List.take_nil] at gt0
 obtain ⟨ygt1, gt1⟩ := hpt 1 _ rfl
 simp only [zG] at gt1
 rw [show Tryz.prog.cellsOf 3 = 1 by kernel_rfl] at gt1
 simp only [List.drop_succ_cons, List.drop_zero, List.take_succ_cons, List.take_zero, List.take_nil] at gt1
 obtain ⟨ygt2, gt2⟩ := hpt 2 _ rfl
 simp only [zG] at gt2
 rw [show Tryz.prog.cellsOf 3 = 1 by kernel_rfl] at gt2
 simp only [List.drop_succ_cons, List.drop_zero, List.take_succ_cons, List.take_zero, List.take_nil] at gt2
 obtain ⟨ygt3, gt3⟩ := hpt 3 _ rfl
 simp only [zG] at gt3
 rw [show Tryz.prog.cellsOf 3 = 1 by kernel_rfl] at gt3
 simp only [List.drop_succ_cons, List.drop_zero, List.take_succ_cons, List.take_zero, List.take_nil] at gt3
 obtain ⟨ro, e_ro, _, w_ro⟩ := DataW.trod_int Tryz.underlying3 gt0
 simp at e_ro
 subst e_ro
 obtain ⟨wi, e_wi, _, w_wi⟩ := DataW.trod_int Tryz.underlying3 gt1
 simp at e_wi
 subst e_wi
 obtain ⟨le, e_le, _, w_le⟩ := DataW.trod_int Tryz.underlying3 gt2
 simp at e_le
 subst e_le
 obtain ⟨ke, e_ke, _, w_ke⟩ := DataW.trod_int Tryz.underlying3 gt3
 simp at e_ke
 subst e_ke
 obtain ⟨size, e_size, _, w_size⟩ := DataW.trod_int Tryz.underlying3 g1
 simp at e_size
 subst e_size
 obtain ⟨nA, nc, ns, rfl, n1, n2, n3, n4⟩ := openPeerS g2
 obtain ⟨mA, mc, ms, rfl, m1, m2, m3, m4⟩ := openRpcS g3
 obtain ⟨sA, sc, ss, rfl, s1, s2, s3⟩ := openCmdS g4
 obtain ⟨fA, fc, fs, rfl, f1, _, f3⟩ := Qcc g5
 obtain ⟨hA, hc, hs, rfl, h1, h2, h3⟩ := openHeardS g6
 obtain ⟨dA, dc, ds, rfl, d1, d2, d3⟩ := openCmdS g7
 exact ⟨⟨ro, wi, le, ke, size, nA, nc, ns, mA, mc, ms, sA, sc, ss, fA, fc, fs, hA, hc, hs, dA, dc, ds⟩, rfl, ⟨n1, n2, m1, m2, s1, s2, f1, h1, h2, d1, d2⟩, ⟨n3, n4, m3, m4, s3, f3, h3, d3⟩, Qa8 w_size⟩
end Go.Proofs.YtkmkldjipihceaaGreat.Gen
