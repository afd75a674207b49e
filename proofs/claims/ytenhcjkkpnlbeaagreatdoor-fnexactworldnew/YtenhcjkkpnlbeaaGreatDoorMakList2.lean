/-
  Lists of makers in blocks of their own: made by the laws' toMakerS, marked and held. No condition but that there are at most 1048576.
-/
import Derived.Test.YtenhcjkkpnlbeaaGreatDoorDk8
set_option linter.unusedVariables false
set_option linter.unusedSimpArgs false
set_option maxRecDepth 100000
set_option maxHeartbeats 8000000
namespace Go.Proofs.YtenhcjkkpnlbeaaGreatDoor.Gen
open ChangeShapes WideShapes ChangeAt RowKit Joins Deep Base
def makP (w : World) (x : MC) (S : Nat -> Prop) : Prop := Sub w x.A x.ms S
theorem Qbs : Firm makP := fun w w' x S T h k hd => Sub.offp h k hd
theorem makP_each {S : Nat -> Prop} {w : World} {a : Option Addr} {l : List MC} (h : Own makP w a l S) : Each w l := h.each (fun x S hx => Sub.at hx)
def cM (x : MC) : Nat := 4 + x.ms.length * 2
def mM (x : MC) (z : Int) : MC := ⟨z, z + 1, z + 2, z + 3, x.A, x.cap, Qb3 x.ms.length (z + 4)⟩
theorem mark_marks (a : Option Addr) (cap : Nat) (l : List Mk) (S : Nat -> Prop) (k : Int) (hk : 1 <= k) (hk' : k <= 100000000) (hl : l.length <= 2000000) (w : World) (h : Sub w a l S) :
 Calls Tryz.prog 104 #[.slice a l.length cap, .int .i64 k] w fun e w' => e = .returned (.int .i64 (k + (l.length : Int) * 2)) /\ Offp S w w' /\ Sub w' a (Qb3 l.length k) S := by
 rcases h with rfl | ⟨b, o, rfl, hS, hb, hi, ht⟩
 . refine (Qla a cap k w).mono ?_
   rintro e w' ⟨rfl, rfl⟩
   exact ⟨by simp, Offp.refl _ _, .inl rfl⟩
 . refine (Qmr b o cap l.length k hk hk' hl w hb ht).mono ?_
   rintro e w' ⟨rfl, ko, hin, hth⟩
   exact ⟨rfl, (Offp.of_only ko).mono (fun x e => e ▸ hS), .inr ⟨b, o, rfl, hS, Nat.lt_of_lt_of_le hb ko.size, hin, by rw [Qb8]; exact hth⟩⟩
theorem Qh1 (b o cap : Nat) (l : List MC) (fp : Nat -> Nat -> Prop) (k : Int) (hk : 1 <= k) (hk' : k <= 50000000) (hc : Qak cM l <= 50000000) (hl : l.length <= 1048576) (hs : ∀ x ∈ l, x.ms.length <= 1048576) (w : World) (hO : OwnF makP w b o l fp) :
 Calls Tryz.prog 57 #[.slice (some ⟨b, o, none⟩) l.length cap, .int .i64 k] w fun e w' => e = .returned (.int .i64 (k + (Qak cM l : Int))) /\ Offp (fun x => x = b ∨ ∃ i, fp i x) w w' /\ OwnF makP w' b o (marked mM cM l k) fp := by
 have HO := hidP hO
 have Hs := hidP hs
 have Hc := hidP hc
 clear hO hs hc
 go_enter Tryz.func57, Tryz.ntmps57
 go_wp2
 go_loopw [1, 5] (fun kk i w' => ∃ (n : Nat) (z : Int), i = .int .i64 (n : Int) /\ kk = .int .i64 z /\ n <= l.length /\ 1 <= z /\ z <= 100000000 /\ Hid (z = k + (Qak cM (l.take n) : Int)) /\ Hid (Offp (fun x => x = b ∨ ∃ i, fp i x) w w') /\ Hid (OwnF makP w' b o (half mM cM l k n) fp)) (fun _ i _ => l.length - (intOf i).toNat)
 case atStart => exact ⟨0, k, rfl, rfl, by omega, hk, by omega, by simp [Hid, Qak], Offp.refl _ _, by rw [Qeo]; exact HO.out⟩
 case round =>
  obtain ⟨n, z, rfl, rfl, hn, hz1, hz2, hz, hoff, hown⟩ := hrel
  by_cases hlt : n < l.length
  . have hhl := Qdp mM cM l k n
    have hge := Qfn mM cM l k n hlt (by omega)
    have hit := Hs.out _ (List.getElem_mem hlt)
    obtain ⟨c0, c1, c2, c3, c4⟩ := hown.out.lst.getMC n (by omega)
    have hth := hown.out.th
    rw [hhl] at hth
    obtain ⟨_, f0⟩ := Qaq (f := 0) hth hlt (by decide)
    obtain ⟨_, f1⟩ := Qaq (f := 1) hth hlt (by decide)
    obtain ⟨_, f2⟩ := Qaq (f := 2) hth hlt (by decide)
    obtain ⟨_, f3⟩ := Qaq (f := 3) hth hlt (by decide)
    simp only [Nat.add_zero, show Cel.k MC = 5 from rfl] at f0 f1 f2 f3
    rw [hge] at c0 c1 c2 c3 c4
    have hsu := Qep mM cM l k n hlt
    rw [← hz.out] at hsu
    have hcn : Qak cM (l.take n) + cM l[n] <= 50000000 := by rw [← Qa5 cM l n hlt]; exact Nat.le_trans (Qda cM l (n + 1)) Hc.out
    have Hsn := hidP (Qa5 cM l n hlt)
    generalize hx : l[n] = x at c0 c1 c2 c3 c4 hit hsu hcn hge Hsn
    obtain ⟨xr, xw, xe, xl, xA, xc, xi⟩ := x
    simp only at c0 c1 c2 c3 c4 hit
    have O1 := hown.out.set1 Qbs n (by omega) ⟨z, xw, xe, xl, xA, xc, xi⟩ 0 (by decide) (.int .i64 z) (by rw [hge]; rfl) (fun W S h => by rw [hge] at h; exact h)
    have O2 := O1.set1 Qbs n (by simp; omega) ⟨z, z + 1, xe, xl, xA, xc, xi⟩ 1 (by decide) (.int .i64 (z + 1)) (by rw [List.getElem_set_self]; rfl) (fun W S h => by rw [List.getElem_set_self] at h; exact h)
    have O3 := O2.set1 Qbs n (by simp; omega) ⟨z, z + 1, z + 1 + 1, xl, xA, xc, xi⟩ 2 (by decide) (.int .i64 (z + 1 + 1)) (by rw [List.getElem_set_self]; rfl) (fun W S h => by rw [List.getElem_set_self] at h; exact h)
    have O4 := O3.set1 Qbs n (by simp; omega) ⟨z, z + 1, z + 1 + 1, z + 1 + 1 + 1, xA, xc, xi⟩ 3 (by decide) (.int .i64 (z + 1 + 1 + 1)) (by rw [List.getElem_set_self]; rfl) (fun W S h => by rw [List.getElem_set_self] at h; exact h)
    simp only [Nat.add_zero, show Cel.k MC = 5 from rfl, List.set_set] at O4
    have Hhl := hidP hhl
    have Hsu := hidP hsu
    have Hcn := hidP hcn
    have HO2 := hidP O4
    have hsub := O4.sub n (by simp; omega)
    rw [List.getElem_set_self] at hsub
    have Hsub := hidP hsub
    have hz' := hz.out
    have hzc : z + 4 <= 100000000 := by
     have h3 := Hcn.out; simp only [cM] at h3; omega
    clear hx hhl hsu hcn O1 O2 O3 O4 hsub hge hth hz'
    go_wp2_with fail
    refine (mark_marks xA xc xi (fp n) _ (by omega) (by omega) (by omega) _ Hsub.out).mono ?_
    rintro e w1 ⟨rfl, ko, hsb⟩
    have hlim : xi.length * 2 + 4 <= 50000000 := by have := Hcn.out; simp only [cM] at this; omega
    go_wp2
    have hz' := hz.out
    have e2 : z + 1 + 1 = z + 2 := by omega
    have e3 : z + 1 + 1 + 1 = z + 3 := by omega
    have e4 : z + 1 + 1 + 1 + 1 = z + 4 := by omega
    have hcs : Cel.cs (mM ⟨xr, xw, xe, xl, xA, xc, xi⟩ z) = Cel.cs (⟨z, z + 1, z + 1 + 1, z + 1 + 1 + 1, xA, xc, xi⟩ : MC) := by
     simp only [Cel.cs, mM, Qb8, e2, show z + 2 + 1 = z + 3 by omega]
    have hsb' : makP w1 (mM ⟨xr, xw, xe, xl, xA, xc, xi⟩ z) (fp n) := by
     rw [e4] at hsb
     exact hsb
    have O3 := HO2.out.turn Qbs n (by rw [List.length_set]; have := Hhl.out; omega) (mM ⟨xr, xw, xe, xl, xA, xc, xi⟩ z) (by rw [List.getElem_set_self]; exact hcs) ko hsb'
    rw [List.set_set, ← Hsu.out] at O3
    refine ⟨⟨n + 1, z + 1 + 1 + 1 + 1 + (xi.length : Int) * 2, by go_num, rfl, by omega, by omega, ?_, ?_, ?_, O3⟩, by simp [intOf]; omega⟩
    . have := Hcn.out; simp only [cM] at this; omega
    . show _ = _; rw [Hsn.out, hz']; simp only [cM]; omega
    . exact ((((hoff.out.set (.inl rfl) _ _).set (.inl rfl) _ _).set (.inl rfl) _ _).set (.inl rfl) _ _).trans (ko.mono (fun x hx => .inr ⟨n, hx⟩))
  . obtain rfl : n = l.length := by omega
    go_wp2
    go_ret
    have e := hz.out
    rw [Qcr cM l _ (Nat.le_refl _)] at e
    have hh := hown.out
    rw [Qfo mM cM l k _ (Nat.le_refl _)] at hh
    subst e
    exact ⟨rfl, hoff.out, hh⟩
theorem Qe3 (A : Option Addr) (cap : Nat) (l : List MC) (k : Int) (hk : 1 <= k) (hk' : k <= 50000000) (hc : Qak cM l <= 50000000) (hl : l.length <= 1048576) (hs : ∀ x ∈ l, x.ms.length <= 1048576) (w : World) (hA : At w A (marked mM cM l k)) (hE : Each w (marked mM cM l k)) :
 Calls Tryz.prog 65 #[.slice A l.length cap, .int .i64 k] w fun e w' => e = .returned (.int .i64 (k + (Qak cM l : Int))) /\ Below w.heap.size w w' := by
 have HA := hidP hA
 have HE := hidP hE
 have Hs := hidP hs
 have Hc := hidP hc
 clear hA hE hs hc
 have HML := hidP (Qa0 mM cM l k)
 go_enter Tryz.func65, Tryz.ntmps65
 go_wp2
 go_loopw [1, 5] (fun kk i w' => ∃ (n : Nat) (z : Int), i = .int .i64 (n : Int) /\ kk = .int .i64 z /\ n <= l.length /\ 1 <= z /\ z <= 100000000 /\ Hid (z = k + (Qak cM (l.take n) : Int)) /\ Below w.heap.size w w') (fun _ i _ => l.length - (intOf i).toNat)
 case atStart => exact ⟨0, k, rfl, rfl, by omega, hk, by omega, by simp [Hid, Qak], Below.refl _ _⟩
 case round =>
  obtain ⟨n, z, rfl, rfl, hn, hz1, hz2, hz, hbl⟩ := hrel
  by_cases hlt : n < l.length
  . have hml := HML.out
    obtain ⟨b, o, rfl, hbs, hin⟩ : ∃ b o, A = some ⟨b, o, none⟩ /\ b < w.heap.size /\ In w b o (marked mM cM l k) := by
     rcases HA.out with h | h
     . rw [h] at hml; simp at hml; omega
     . exact h
    have hmn : n < (marked mM cM l k).length := by omega
    have hge := Qd1 mM cM l n hlt k hmn
    rw [← hz.out] at hge
    obtain ⟨c0, c1, c2, c3, c4⟩ := (hin.below hbs hbl).getMC n hmn
    have hat := (HE.out _ (List.getElem_mem hmn)).below hbl
    rw [hge] at c0 c1 c2 c3 c4 hat
    have hit := Hs.out _ (List.getElem_mem hlt)
    have hcn : Qak cM (l.take n) + cM l[n] <= 50000000 := by rw [← Qa5 cM l n hlt]; exact Nat.le_trans (Qda cM l (n + 1)) Hc.out
    have Hsn := hidP (Qa5 cM l n hlt)
    generalize hx : l[n] = x at c0 c1 c2 c3 c4 hit hcn hat Hsn
    obtain ⟨xr, xw, xe, xl, xA, xc, xi⟩ := x
    simp only [mM, Qb8] at c0 c1 c2 c3 c4 hit hat
    have e3 : z + 3 = z + 1 + 1 + 1 := by omega
    have e2 : z + 2 = z + 1 + 1 := by omega
    rw [e3] at c3
    rw [e2] at c2
    clear e2 e3
    have HAt : Hid (xi.length = 0 ∨ ∃ b o, xA = some ⟨b, o, none⟩ /\ b < wr.heap.size /\ In wr b o (Qb3 xi.length (z + 1 + 1 + 1 + 1))) := by
     have e2 : z + 1 + 1 + 1 + 1 = z + 4 := by omega
     rw [e2]
     rcases hat with h | h
     . exact .inl (by have := congrArg List.length h; simpa [Qb8] using this)
     . exact .inr h
    have Hcn := hidP hcn
    have hzc : z + 4 <= 100000000 := by
     have h3 := hz.out; have h4 := Hcn.out; simp only [cM] at h4; omega
    have hlim : xi.length * 2 + 4 <= 50000000 := by have := Hcn.out; simp only [cM] at this; omega
    clear hml hge hx hcn hat
    have hneg : ¬ z + 1 + 1 + 1 + 1 + (xi.length : Int) * 2 < 0 := by omega
    go_wp2_with fail
    refine (Qmz xA xc xi.length (z + 1 + 1 + 1 + 1) (by omega) (by omega) (by omega) _ HAt.out).mono ?_
    rintro e w1 ⟨rfl, rfl⟩
    go_wp2
    have hz' := hz.out
    refine ⟨⟨n + 1, z + 1 + 1 + 1 + 1 + (xi.length : Int) * 2, by go_num, rfl, by omega, by omega, ?_, ?_, hbl⟩, by simp [intOf]; omega⟩
    . have := Hcn.out; simp only [cM] at this; omega
    . show _ = _; rw [Hsn.out, hz']; simp only [cM]; omega
  . obtain rfl : n = l.length := by omega
    go_wp2
    go_ret
    have e := hz.out
    rw [Qcr cM l _ (Nat.le_refl _)] at e
    subst e
    exact ⟨rfl, hbl⟩
end Go.Proofs.YtenhcjkkpnlbeaaGreatDoor.Gen
namespace Go.Proofs.YtenhcjkkpnlbeaaGreatDoor.Gen
open ChangeShapes WideShapes ChangeAt RowKit Joins Deep Base
theorem Blk.row6 {W : World} {B : Nat} {t : TypeId} {a b c d e f : Value} (h : Blk W B t #[a, b, c, d, e, f]) : W.cell? ⟨B, 0, none⟩ = some a /\ W.cell? ⟨B, 1, none⟩ = some b /\ W.cell? ⟨B, 2, none⟩ = some c /\ W.cell? ⟨B, 3, none⟩ = some d /\ W.cell? ⟨B, 4, none⟩ = some e /\ W.cell? ⟨B, 5, none⟩ = some f := ⟨h.cell (by rfl), h.cell (by rfl), h.cell (by rfl), h.cell (by rfl), h.cell (by rfl), h.cell (by rfl)⟩
structure KC where
  rA : Option Addr
  rc : Nat
  rs : List RC
  mA : Option Addr
  mc : Nat
  ms : List MC
  gA : Option Addr
  gc : Nat
  gs : List GC
  time : Int
  dA : Option Addr
  dc : Nat
  ds : List Int
  lA : Option Addr
  lc : Nat
  ls : List An
structure PK where
  rs : List PR
  ms : List PM
  gs : List PG
  time : Int
  ds : List Int
  ls : List An
def KC.p (x : KC) : PK := ⟨x.rs.map RC.p, x.ms.map MC.p, x.gs.map GC.p, x.time, x.ds, x.ls⟩
def KC.cells (x : KC) : Array Value := (Qah x.rA x.rs.length x.rc x.mA x.ms.length x.mc x.gA x.gs.length x.gc x.time x.dA x.ds.length x.dc x.lA x.ls.length x.lc)
theorem KC.p_len {x y : KC} (h : y.p = x.p) : y.rs.length = x.rs.length /\ y.ms.length = x.ms.length /\ y.gs.length = x.gs.length /\ y.time = x.time /\ y.ds = x.ds /\ y.ls = x.ls := by
 simp only [KC.p, PK.mk.injEq] at h
 obtain ⟨h1, h2, h3, h4, h5, h6⟩ := h
 exact ⟨by have := congrArg List.length h1; simpa using this, by have := congrArg List.length h2; simpa using this, by have := congrArg List.length h3; simpa using this, h4, h5, h6⟩
structure KAt (w : World) (x : KC) : Prop where
  ra : At w x.rA x.rs
  re : EachR w x.rs
  ma : At w x.mA x.ms
  me : Each w x.ms
  ga : At w x.gA x.gs
  ge : EachG w x.gs
  da : At w x.dA x.ds
  la : At w x.lA x.ls
theorem KAt.below {w w' : World} {x : KC} (h : KAt w x) (g : Below w.heap.size w w') : KAt w' x :=
 ⟨h.ra.below g, h.re.below g, h.ma.below g, h.me.below g, h.ga.below g, h.ge.below g, h.da.below g, h.la.below g⟩
structure KCol (w : World) (x : KC) (S : Nat -> Prop) (col : Nat -> Nat) : Prop where
  r : Own rowP w x.rA x.rs (fun b => S b /\ col b = 1)
  m : Own makP w x.mA x.ms (fun b => S b /\ col b = 2)
  g : Own grpP w x.gA x.gs (fun b => S b /\ col b = 3)
  d : Sub w x.dA x.ds (fun b => S b /\ col b = 4)
  l : Sub w x.lA x.ls (fun b => S b /\ col b = 5)
def KOwn (w : World) (x : KC) (S : Nat -> Prop) : Prop := ∃ col, KCol w x S col
theorem KCol.at {w : World} {x : KC} {S : Nat -> Prop} {col : Nat -> Nat} (h : KCol w x S col) : KAt w x := ⟨h.r.at, rowP_each h.r, h.m.at, makP_each h.m, h.g.at, grpP_each h.g, h.d.at, h.l.at⟩
theorem KOwn.at {w : World} {x : KC} {S : Nat -> Prop} (h : KOwn w x S) : KAt w x := by obtain ⟨_, h⟩ := h; exact h.at
theorem KCol.offp {w w' : World} {x : KC} {S T : Nat -> Prop} {col : Nat -> Nat} (h : KCol w x S col) (k : Offp T w w') (hd : ∀ b, S b -> ¬ T b) : KCol w' x S col :=
 ⟨h.r.offp Qb1 k (fun b hb => hd b hb.1), h.m.offp Qbs k (fun b hb => hd b hb.1), h.g.offp Qbd k (fun b hb => hd b hb.1), h.d.offp k (fun b hb => hd b hb.1), h.l.offp k (fun b hb => hd b hb.1)⟩
theorem KOwn.offp {w w' : World} {x : KC} {S T : Nat -> Prop} (h : KOwn w x S) (k : Offp T w w') (hd : ∀ b, S b -> ¬ T b) : KOwn w' x S := by obtain ⟨c, h⟩ := h; exact ⟨c, h.offp k hd⟩
theorem KOwn.below {w w' : World} {x : KC} {S : Nat -> Prop} (h : KOwn w x S) (k : Below w.heap.size w w') : KOwn w' x S := h.offp (Offp.of_below (S := fun _ => False) k) (fun _ _ e => e)
theorem KOwn.mono {w : World} {x : KC} {S T : Nat -> Prop} (h : KOwn w x S) (s : ∀ b, S b -> T b) : KOwn w x T := by
 obtain ⟨c, h⟩ := h
 exact ⟨c, h.r.mono (fun b hb => ⟨s b hb.1, hb.2⟩), h.m.mono (fun b hb => ⟨s b hb.1, hb.2⟩), h.g.mono (fun b hb => ⟨s b hb.1, hb.2⟩), h.d.mono (fun b hb => ⟨s b hb.1, hb.2⟩), h.l.mono (fun b hb => ⟨s b hb.1, hb.2⟩)⟩
structure KFit (x : KC) : Prop where
  rl : x.rs.length <= 1048576
  ml : x.ms.length <= 1048576
  gl : x.gs.length <= 1048576
  dl : x.ds.length <= 1048576
  ll : x.ls.length <= 1048576
  ri : ∀ y ∈ x.rs, y.its.length <= 1048576
  mi : ∀ y ∈ x.ms, y.ms.length <= 1048576
  gi : ∀ y ∈ x.gs, y.m.length <= 1048576 /\ y.b.length <= 1048576 /\ y.o.length <= 1048576
  rc : Qak cR x.rs <= 10000000
  mc : Qak cM x.ms <= 10000000
  gc : Qak cG x.gs <= 10000000
theorem Qm3 (x y : KC) (hf : KFit x) (hp : y.p = x.p) (w : World) (hx : KAt w x) (hy : KAt w y) :
 Calls Tryz.prog 99 #[.agg (Qah x.rA x.rs.length x.rc x.mA x.ms.length x.mc x.gA x.gs.length x.gc x.time x.dA x.ds.length x.dc x.lA x.ls.length x.lc), .agg (Qah y.rA x.rs.length y.rc y.mA x.ms.length y.mc y.gA x.gs.length y.gc x.time y.dA x.ds.length y.dc y.lA x.ls.length y.lc)] w fun e w' => e = .returned (.bool true) /\ Below w.heap.size w w' := by
 have hp' := KC.p_len hp
 have Hp := hidP hp
 have Hl := hidP hp'
 have Hf := hidP hf
 have HX := hidP hx
 have HY := hidP hy
 clear hp hp' hf hx hy
 have E1 : Hid (∀ W : World, Below w.heap.size w W -> Calls Tryz.prog 143 #[.slice x.rA x.rs.length x.rc, .slice y.rA x.rs.length y.rc] W fun e w' => e = .returned (.bool true) /\ Below W.heap.size W w') := fun W g =>
  Qm1 _ _ _ _ x.rs y.rs (by have := Hf.out.rl; omega) (fun z hz => by have := Hf.out.ri z hz; omega) (by have := Hp.out; simp only [KC.p, PK.mk.injEq] at this; exact this.1) W (HX.out.below g).ra (HX.out.below g).re (HY.out.below g).ra (HY.out.below g).re
 have E2 : Hid (∀ W : World, Below w.heap.size w W -> Calls Tryz.prog 144 #[.slice x.mA x.ms.length x.mc, .slice y.mA x.ms.length y.mc] W fun e w' => e = .returned (.bool true) /\ Below W.heap.size W w') := fun W g =>
  Qjk _ _ _ _ x.ms y.ms (by have := Hf.out.ml; omega) (fun z hz => by have := Hf.out.mi z hz; omega) (by have := Hp.out; simp only [KC.p, PK.mk.injEq] at this; exact this.2.1) W (HX.out.below g).ma (HX.out.below g).me (HY.out.below g).ma (HY.out.below g).me
 have E3 : Hid (∀ W : World, Below w.heap.size w W -> Calls Tryz.prog 145 #[.slice x.gA x.gs.length x.gc, .slice y.gA x.gs.length y.gc] W fun e w' => e = .returned (.bool true) /\ Below W.heap.size W w') := fun W g =>
  Qjm _ _ _ _ x.gs y.gs (by have := Hf.out.gl; omega) (fun z hz => by have := Hf.out.gi z hz; omega) (by have := Hp.out; simp only [KC.p, PK.mk.injEq] at this; exact this.2.2.1) W (HX.out.below g).ga (HX.out.below g).ge (HY.out.below g).ga (HY.out.below g).ge
 have E4 : Hid (∀ W : World, Below w.heap.size w W -> Calls Tryz.prog 19 #[.slice x.dA x.ds.length x.dc, .slice y.dA x.ds.length y.dc] W fun e w' => e = .returned (.bool true) /\ Below W.heap.size W w') := fun W g =>
  Qc5 _ _ _ _ x.ds (by have := Hf.out.dl; omega) W (HX.out.below g).da (by have h1 := (HY.out.below g).da; rw [Hl.out.2.2.2.2.1] at h1; exact h1)
 have E5 : Hid (∀ W : World, Below w.heap.size w W -> Calls Tryz.prog 146 #[.slice x.lA x.ls.length x.lc, .slice y.lA x.ls.length y.lc] W fun e w' => e = .returned (.bool true) /\ Below W.heap.size W w') := fun W g =>
  Qih _ _ _ _ x.ls (by have := Hf.out.ll; omega) W (HX.out.below g).la (by have h1 := (HY.out.below g).la; rw [Hl.out.2.2.2.2.2] at h1; exact h1)
 go_enter Tryz.func99, Tryz.ntmps99
 go_wp2_with fail
 have p0 : Blk ((w.alloc (.cells (Qah x.rA x.rs.length x.rc x.mA x.ms.length x.mc x.gA x.gs.length x.gc x.time x.dA x.ds.length x.dc x.lA x.ls.length x.lc) 48)).alloc (.cells (Qah y.rA x.rs.length y.rc y.mA x.ms.length y.mc y.gA x.gs.length y.gc x.time y.dA x.ds.length y.dc y.lA x.ls.length y.lc) 48)) w.heap.size 48 (Qah x.rA x.rs.length x.rc x.mA x.ms.length x.mc x.gA x.gs.length x.gc x.time x.dA x.ds.length x.dc x.lA x.ls.length x.lc) := (Blk.new w _ _).alloc _
 have r0 : Blk ((w.alloc (.cells (Qah x.rA x.rs.length x.rc x.mA x.ms.length x.mc x.gA x.gs.length x.gc x.time x.dA x.ds.length x.dc x.lA x.ls.length x.lc) 48)).alloc (.cells (Qah y.rA x.rs.length y.rc y.mA x.ms.length y.mc y.gA x.gs.length y.gc x.time y.dA x.ds.length y.dc y.lA x.ls.length y.lc) 48)) (w.heap.size + 1) 48 (Qah y.rA x.rs.length y.rc y.mA x.ms.length y.mc y.gA x.gs.length y.gc x.time y.dA x.ds.length y.dc y.lA x.ls.length y.lc) := by have := Blk.new (w.alloc (.cells (Qah x.rA x.rs.length x.rc x.mA x.ms.length x.mc x.gA x.gs.length x.gc x.time x.dA x.ds.length x.dc x.lA x.ls.length x.lc) 48)) 48 (Qah y.rA x.rs.length y.rc y.mA x.ms.length y.mc y.gA x.gs.length y.gc x.time y.dA x.ds.length y.dc y.lA x.ls.length y.lc); simpa using this
 have B0 : Below w.heap.size w ((w.alloc (.cells (Qah x.rA x.rs.length x.rc x.mA x.ms.length x.mc x.gA x.gs.length x.gc x.time x.dA x.ds.length x.dc x.lA x.ls.length x.lc) 48)).alloc (.cells (Qah y.rA x.rs.length y.rc y.mA x.ms.length y.mc y.gA x.gs.length y.gc x.time y.dA x.ds.length y.dc y.lA x.ls.length y.lc) 48)) := by repeat (first | exact Below.refl _ _ | assumption | refine via0 (by assumption) ?_ | refine Below.drew ?_ | refine Qab ?_ _)
 refine (E1.out _ B0).mono ?_
 rintro e w1 ⟨rfl, g1⟩
 have p1 := p0.below g1 p0.lt
 have r1 := r0.below g1 r0.lt
 have B1 : Below w.heap.size w w1 := via0 g1 B0
 obtain ⟨u0, u1, u2, u3, u4, u5⟩ := p1.row6
 obtain ⟨v0, v1, v2, v3, v4, v5⟩ := r1.row6
 have q1 := p1.lt
 have t1 := r1.lt
 clear p0 r0 B0 g1
 go_wp2_with fail
 refine (E2.out _ B1).mono ?_
 rintro e w2 ⟨rfl, g2⟩
 have p2 := p1.below g2 p1.lt
 have r2 := r1.below g2 r1.lt
 have B2 : Below w.heap.size w w2 := via0 g2 B1
 clear u0 u1 u2 u3 u4 u5 v0 v1 v2 v3 v4 v5 p1 r1 B1 g2 q1 t1
 obtain ⟨u0, u1, u2, u3, u4, u5⟩ := p2.row6
 obtain ⟨v0, v1, v2, v3, v4, v5⟩ := r2.row6
 have q1 := p2.lt
 have t1 := r2.lt
 go_wp2_with fail
 refine (E3.out _ B2).mono ?_
 rintro e w3 ⟨rfl, g3⟩
 have p3 := p2.below g3 p2.lt
 have r3 := r2.below g3 r2.lt
 have B3 : Below w.heap.size w w3 := via0 g3 B2
 clear u0 u1 u2 u3 u4 u5 v0 v1 v2 v3 v4 v5 p2 r2 B2 g3 q1 t1
 obtain ⟨u0, u1, u2, u3, u4, u5⟩ := p3.row6
 obtain ⟨v0, v1, v2, v3, v4, v5⟩ := r3.row6
 have q1 := p3.lt
 have t1 := r3.lt
 go_wp2_with fail
 refine (E4.out _ B3).mono ?_
 rintro e w4 ⟨rfl, g4⟩
 have p4 := p3.below g4 p3.lt
 have r4 := r3.below g4 r3.lt
 have B4 : Below w.heap.size w w4 := via0 g4 B3
 clear u0 u1 u2 u3 u4 u5 v0 v1 v2 v3 v4 v5 p3 r3 B3 g4 q1 t1
 obtain ⟨u0, u1, u2, u3, u4, u5⟩ := p4.row6
 obtain ⟨v0, v1, v2, v3, v4, v5⟩ := r4.row6
 have q1 := p4.lt
 have t1 := r4.lt
 go_wp2_with fail
 refine (E5.out _ B4).mono ?_
 rintro e w5 ⟨rfl, g5⟩
 have B5 : Below w.heap.size w w5 := via0 g5 B4
 go_wp2
 go_ret
 exact ⟨rfl, B5⟩
def kct (x : KC) : Nat := Qak cR x.rs + Qak cM x.ms + Qak cG x.gs + x.ds.length + x.ls.length * 4
def mK (x : KC) (k : Int) : KC :=
  { x with rs := marked mR cR x.rs k, ms := marked mM cM x.ms (k + Qak cR x.rs), gs := marked mG cG x.gs (k + Qak cR x.rs + Qak cM x.ms), ds := Qa2 x.ds.length (k + Qak cR x.rs + Qak cM x.ms + Qak cG x.gs), ls := Qb4 x.ls.length (k + Qak cR x.rs + Qak cM x.ms + Qak cG x.gs + x.ds.length) }
theorem Qk4 (a : Option Addr) (cap : Nat) (l : List RC) (S : Nat -> Prop) (k : Int) (hk : 1 <= k) (hk' : k <= 50000000) (hc : Qak cR l <= 50000000) (hl : l.length <= 1048576) (hs : ∀ x ∈ l, x.its.length <= 1048576) (w : World) (h : Own rowP w a l S) :
 Calls Tryz.prog 56 #[.slice a l.length cap, .int .i64 k] w fun e w' => e = .returned (.int .i64 (k + (Qak cR l : Int))) /\ Offp S w w' /\ Own rowP w' a (marked mR cR l k) S := by
 rcases h with rfl | ⟨b, o, fp, rfl, hS, hf, hO⟩
 . have : Calls Tryz.prog 56 #[.slice a 0 cap, .int .i64 k] w fun e w' => e = .returned (.int .i64 k) /\ w' = w := by
    go_enter Tryz.func56, Tryz.ntmps56
    go_wp2
    go_loopw [1, 5] (fun kk i w' => kk = .int .i64 k /\ i = .int .i64 0 /\ w' = w) (fun _ _ _ => 0)
    case atStart => exact ⟨rfl, rfl, rfl⟩
    case round =>
     obtain ⟨rfl, rfl, rfl⟩ := hrel
     go_wp2
     go_ret
     exact ⟨rfl, rfl⟩
   refine this.mono ?_
   rintro e w' ⟨rfl, rfl⟩
   exact ⟨by simp [Qak], Offp.refl _ _, .inl rfl⟩
 . refine (Qk8 b o cap l fp k hk hk' hc hl hs w hO).mono ?_
   rintro e w' ⟨rfl, ko, hO'⟩
   exact ⟨rfl, ko.mono (fun x hx => by rcases hx with rfl | ⟨i, hx⟩; exact hS; exact hf i x hx), .inr ⟨b, o, fp, rfl, hS, hf, hO'⟩⟩
theorem Qg2 (a : Option Addr) (cap : Nat) (l : List MC) (S : Nat -> Prop) (k : Int) (hk : 1 <= k) (hk' : k <= 50000000) (hc : Qak cM l <= 50000000) (hl : l.length <= 1048576) (hs : ∀ x ∈ l, x.ms.length <= 1048576) (w : World) (h : Own makP w a l S) :
 Calls Tryz.prog 57 #[.slice a l.length cap, .int .i64 k] w fun e w' => e = .returned (.int .i64 (k + (Qak cM l : Int))) /\ Offp S w w' /\ Own makP w' a (marked mM cM l k) S := by
 rcases h with rfl | ⟨b, o, fp, rfl, hS, hf, hO⟩
 . have : Calls Tryz.prog 57 #[.slice a 0 cap, .int .i64 k] w fun e w' => e = .returned (.int .i64 k) /\ w' = w := by
    go_enter Tryz.func57, Tryz.ntmps57
    go_wp2
    go_loopw [1, 5] (fun kk i w' => kk = .int .i64 k /\ i = .int .i64 0 /\ w' = w) (fun _ _ _ => 0)
    case atStart => exact ⟨rfl, rfl, rfl⟩
    case round =>
     obtain ⟨rfl, rfl, rfl⟩ := hrel
     go_wp2
     go_ret
     exact ⟨rfl, rfl⟩
   refine this.mono ?_
   rintro e w' ⟨rfl, rfl⟩
   exact ⟨by simp [Qak], Offp.refl _ _, .inl rfl⟩
 . refine (Qh1 b o cap l fp k hk hk' hc hl hs w hO).mono ?_
   rintro e w' ⟨rfl, ko, hO'⟩
   exact ⟨rfl, ko.mono (fun x hx => by rcases hx with rfl | ⟨i, hx⟩; exact hS; exact hf i x hx), .inr ⟨b, o, fp, rfl, hS, hf, hO'⟩⟩
theorem Qg3 (a : Option Addr) (cap : Nat) (l : List GC) (S : Nat -> Prop) (k : Int) (hk : 1 <= k) (hk' : k <= 50000000) (hc : Qak cG l <= 50000000) (hl : l.length <= 1048576) (hs : ∀ x ∈ l, x.m.length <= 1048576 /\ x.b.length <= 1048576 /\ x.o.length <= 1048576) (w : World) (h : Own grpP w a l S) :
 Calls Tryz.prog 58 #[.slice a l.length cap, .int .i64 k] w fun e w' => e = .returned (.int .i64 (k + (Qak cG l : Int))) /\ Offp S w w' /\ Own grpP w' a (marked mG cG l k) S := by
 rcases h with rfl | ⟨b, o, fp, rfl, hS, hf, hO⟩
 . have : Calls Tryz.prog 58 #[.slice a 0 cap, .int .i64 k] w fun e w' => e = .returned (.int .i64 k) /\ w' = w := by
    go_enter Tryz.func58, Tryz.ntmps58
    go_wp2
    go_loopw [1, 5] (fun kk i w' => kk = .int .i64 k /\ i = .int .i64 0 /\ w' = w) (fun _ _ _ => 0)
    case atStart => exact ⟨rfl, rfl, rfl⟩
    case round =>
     obtain ⟨rfl, rfl, rfl⟩ := hrel
     go_wp2
     go_ret
     exact ⟨rfl, rfl⟩
   refine this.mono ?_
   rintro e w' ⟨rfl, rfl⟩
   exact ⟨by simp [Qak], Offp.refl _ _, .inl rfl⟩
 . refine (Qh4 b o cap l fp k hk hk' hc hl hs w hO).mono ?_
   rintro e w' ⟨rfl, ko, hO'⟩
   exact ⟨rfl, ko.mono (fun x hx => by rcases hx with rfl | ⟨i, hx⟩; exact hS; exact hf i x hx), .inr ⟨b, o, fp, rfl, hS, hf, hO'⟩⟩
theorem Qgb (a : Option Addr) (cap : Nat) (l : List An) (S : Nat -> Prop) (k : Int) (hk : 1 <= k) (hk' : k <= 100000000) (hl : l.length <= 1048576) (w : World) (h : Sub w a l S) :
 Calls Tryz.prog 59 #[.slice a l.length cap, .int .i64 k] w fun e w' => e = .returned (.int .i64 (k + (l.length : Int) * 4)) /\ Offp S w w' /\ Sub w' a (Qb4 l.length k) S := by
 rcases h with rfl | ⟨b, o, rfl, hS, hb, hi, ht⟩
 . have : Calls Tryz.prog 59 #[.slice a 0 cap, .int .i64 k] w fun e w' => e = .returned (.int .i64 k) /\ w' = w := by
    go_enter Tryz.func59, Tryz.ntmps59
    go_wp2
    go_loopw [1, 5] (fun kk i w' => kk = .int .i64 k /\ i = .int .i64 0 /\ w' = w) (fun _ _ _ => 0)
    case atStart => exact ⟨rfl, rfl, rfl⟩
    case round =>
     obtain ⟨rfl, rfl, rfl⟩ := hrel
     go_wp2
     go_ret
     exact ⟨rfl, rfl⟩
   refine this.mono ?_
   rintro e w' ⟨rfl, rfl⟩
   exact ⟨by simp, Offp.refl _ _, .inl rfl⟩
 . refine (Qg4 b o cap l.length k hk hk' hl w hb ht).mono ?_
   rintro e w' ⟨rfl, ko, hin, hth⟩
   exact ⟨rfl, (Offp.of_only ko).mono (fun x e => e ▸ hS), .inr ⟨b, o, rfl, hS, Nat.lt_of_lt_of_le hb ko.size, hin, by rw [Qbq]; exact hth⟩⟩
end Go.Proofs.YtenhcjkkpnlbeaaGreatDoor.Gen
namespace Go.Proofs.YtenhcjkkpnlbeaaGreatDoor.Gen
open ChangeShapes WideShapes ChangeAt RowKit Joins Deep Base
theorem At.hid {α : Type} [Cel α] {w : World} {A : Option Addr} {l : List α} (hA : At w A l) : Hid (∀ W : World, Below w.heap.size w W -> At W A l) := fun W hW => hA.below hW
theorem eqLog_same (base bt : Int) (A A' : Option Addr) (cap cap' : Nat) (l : List En) (hl : l.length <= 9223372036854775807) (w : World) (hA : At w A l) (hA' : At w A' l) :
 Calls Tryz.prog 142 #[.agg (Qay base bt A l.length cap), .agg (Qay base bt A' l.length cap')] w fun e w' => e = .returned (.bool true) /\ Below w.heap.size w w' := by
 have HA := hA.hid
 have HA' := hA'.hid
 clear hA hA'
 go_enter Tryz.func142, Tryz.ntmps142
 go_wp2_with (go_at_call 101; refine (Qfr A A' cap cap' l hl _ (HA.out _ ?_) (HA'.out _ ?_)).mono ?_; (repeat (first | exact Below.refl _ _ | assumption | refine via0 (by assumption) ?_ | refine Below.drew ?_ | refine Qab ?_ _)); (repeat (first | exact Below.refl _ _ | assumption | refine via0 (by assumption) ?_ | refine Below.drew ?_ | refine Qab ?_ _)); rintro e w1 ⟨rfl, g1⟩)
 go_ret
 refine ⟨rfl, ?_⟩
 repeat (first | exact Below.refl _ _ | assumption | refine via0 (by assumption) ?_ | refine Below.drew ?_ | refine Qab ?_ _)
end Go.Proofs.YtenhcjkkpnlbeaaGreatDoor.Gen
namespace Go.Proofs.YtenhcjkkpnlbeaaGreatDoor.Gen
open ChangeShapes WideShapes ChangeAt RowKit Joins Deep Base
theorem Qk9 (a : Option Addr) (cap : Nat) (k : Int) (w : World) :
 Calls Tryz.prog 55 #[.slice a 0 cap, .int .i64 k] w fun e w' => e = .returned (.int .i64 k) /\ w' = w := by
 go_enter Tryz.func55, Tryz.ntmps55
 go_wp2
 go_loopw [1, 5] (fun kk i w' => kk = .int .i64 k /\ i = .int .i64 0 /\ w' = w) (fun _ _ _ => 0)
 case atStart => exact ⟨rfl, rfl, rfl⟩
 case round =>
  obtain ⟨rfl, rfl, rfl⟩ := hrel
  go_wp2
  go_ret
  exact ⟨rfl, rfl⟩
end Go.Proofs.YtenhcjkkpnlbeaaGreatDoor.Gen
namespace Go.Proofs.YtenhcjkkpnlbeaaGreatDoor.Gen
open ChangeShapes WideShapes ChangeAt RowKit Joins Deep Base
theorem Blk.row11 {W : World} {B : Nat} {t : TypeId} {a b c d e f g h i j k : Value} (p : Blk W B t #[a, b, c, d, e, f, g, h, i, j, k]) :
 W.cell? ⟨B, 0, none⟩ = some a /\ W.cell? ⟨B, 1, none⟩ = some b /\ W.cell? ⟨B, 2, none⟩ = some c /\ W.cell? ⟨B, 2 + 1, none⟩ = some d /\ W.cell? ⟨B, 2 + 2, none⟩ = some e /\ W.cell? ⟨B, 5, none⟩ = some f /\ W.cell? ⟨B, 5 + 1, none⟩ = some g /\ W.cell? ⟨B, 5 + 2, none⟩ = some h /\ W.cell? ⟨B, 5 + 3, none⟩ = some i /\ W.cell? ⟨B, 5 + 4, none⟩ = some j /\ W.cell? ⟨B, 5 + 5, none⟩ = some k :=
 ⟨p.cell (by rfl), p.cell (by rfl), p.cell (by rfl), p.cell (by rfl), p.cell (by rfl), p.cell (by rfl), p.cell (by rfl), p.cell (by rfl), p.cell (by rfl), p.cell (by rfl), p.cell (by rfl)⟩
theorem Qlv (x y : KC) (hf : KFit x) (hp : y.p = x.p) (w : World) (hx : KAt w x) (hy : KAt w y) :
 Calls Tryz.prog 99 #[.agg (Qah x.rA x.rs.length x.rc x.mA x.ms.length x.mc x.gA x.gs.length x.gc x.time x.dA x.ds.length x.dc x.lA x.ls.length x.lc), .agg (Qah y.rA y.rs.length y.rc y.mA y.ms.length y.mc y.gA y.gs.length y.gc y.time y.dA y.ds.length y.dc y.lA y.ls.length y.lc)] w fun e w' => e = .returned (.bool true) /\ Below w.heap.size w w' := by
 have h := Qm3 x y hf hp w hx hy
 obtain ⟨l1, l2, l3, l4, l5, l6⟩ := KC.p_len hp
 rw [← l1, ← l2, ← l3, ← l4] at h
 rw [l5, l6]
 rw [← l1, ← l2, ← l3, ← l4]
 exact h
theorem Qm5 (te vo base bt : Int) (A A' : Option Addr) (cap cap' : Nat) (l : List En) (hl : l.length <= 9223372036854775807) (x y : KC) (hf : KFit x) (hp : y.p = x.p) (w : World) (hA : At w A l) (hA' : At w A' l) (hx : KAt w x) (hy : KAt w y) :
 Calls Tryz.prog 97 #[.agg (Qaj te vo base bt A l.length cap x.rA x.rs.length x.rc x.mA x.ms.length x.mc x.gA x.gs.length x.gc x.time x.dA x.ds.length x.dc x.lA x.ls.length x.lc), .agg (Qaj te vo base bt A' l.length cap' y.rA y.rs.length y.rc y.mA y.ms.length y.mc y.gA y.gs.length y.gc y.time y.dA y.ds.length y.dc y.lA y.ls.length y.lc)] w fun e w' => e = .returned (.bool true) /\ Below w.heap.size w w' := by
 have E1 : Hid (∀ W : World, Below w.heap.size w W -> Calls Tryz.prog 142 #[.agg (Qay base bt A l.length cap), .agg (Qay base bt A' l.length cap')] W fun e w' => e = .returned (.bool true) /\ Below W.heap.size W w') := fun W g =>
  eqLog_same base bt A A' cap cap' l hl W (hA.below g) (hA'.below g)
 have E2 : Hid (∀ W : World, Below w.heap.size w W -> Calls Tryz.prog 99 #[.agg (Qah x.rA x.rs.length x.rc x.mA x.ms.length x.mc x.gA x.gs.length x.gc x.time x.dA x.ds.length x.dc x.lA x.ls.length x.lc), .agg (Qah y.rA y.rs.length y.rc y.mA y.ms.length y.mc y.gA y.gs.length y.gc y.time y.dA y.ds.length y.dc y.lA y.ls.length y.lc)] W fun e w' => e = .returned (.bool true) /\ Below W.heap.size W w') := fun W g =>
  Qlv x y hf hp W (hx.below g) (hy.below g)
 clear hA hA' hx hy hf hp
 go_enter Tryz.func97, Tryz.ntmps97
 go_wp2_with fail
 have p0 : Blk ((w.alloc (.cells (Qaj te vo base bt A l.length cap x.rA x.rs.length x.rc x.mA x.ms.length x.mc x.gA x.gs.length x.gc x.time x.dA x.ds.length x.dc x.lA x.ls.length x.lc) 50)).alloc (.cells (Qaj te vo base bt A' l.length cap' y.rA y.rs.length y.rc y.mA y.ms.length y.mc y.gA y.gs.length y.gc y.time y.dA y.ds.length y.dc y.lA y.ls.length y.lc) 50)) w.heap.size 50 (Qaj te vo base bt A l.length cap x.rA x.rs.length x.rc x.mA x.ms.length x.mc x.gA x.gs.length x.gc x.time x.dA x.ds.length x.dc x.lA x.ls.length x.lc) := (Blk.new w _ _).alloc _
 have r0 : Blk ((w.alloc (.cells (Qaj te vo base bt A l.length cap x.rA x.rs.length x.rc x.mA x.ms.length x.mc x.gA x.gs.length x.gc x.time x.dA x.ds.length x.dc x.lA x.ls.length x.lc) 50)).alloc (.cells (Qaj te vo base bt A' l.length cap' y.rA y.rs.length y.rc y.mA y.ms.length y.mc y.gA y.gs.length y.gc y.time y.dA y.ds.length y.dc y.lA y.ls.length y.lc) 50)) (w.heap.size + 1) 50 (Qaj te vo base bt A' l.length cap' y.rA y.rs.length y.rc y.mA y.ms.length y.mc y.gA y.gs.length y.gc y.time y.dA y.ds.length y.dc y.lA y.ls.length y.lc) := by have := Blk.new (w.alloc (.cells (Qaj te vo base bt A l.length cap x.rA x.rs.length x.rc x.mA x.ms.length x.mc x.gA x.gs.length x.gc x.time x.dA x.ds.length x.dc x.lA x.ls.length x.lc) 50)) 50 (Qaj te vo base bt A' l.length cap' y.rA y.rs.length y.rc y.mA y.ms.length y.mc y.gA y.gs.length y.gc y.time y.dA y.ds.length y.dc y.lA y.ls.length y.lc); simpa using this
 have B0 : Below w.heap.size w ((w.alloc (.cells (Qaj te vo base bt A l.length cap x.rA x.rs.length x.rc x.mA x.ms.length x.mc x.gA x.gs.length x.gc x.time x.dA x.ds.length x.dc x.lA x.ls.length x.lc) 50)).alloc (.cells (Qaj te vo base bt A' l.length cap' y.rA y.rs.length y.rc y.mA y.ms.length y.mc y.gA y.gs.length y.gc y.time y.dA y.ds.length y.dc y.lA y.ls.length y.lc) 50)) := by repeat (first | exact Below.refl _ _ | assumption | refine via0 (by assumption) ?_ | refine Below.drew ?_ | refine Qab ?_ _)
 refine (E1.out _ B0).mono ?_
 rintro e w1 ⟨rfl, g1⟩
 have p1 := p0.below g1 p0.lt
 have r1 := r0.below g1 r0.lt
 have B1 : Below w.heap.size w w1 := via0 g1 B0
 obtain ⟨u0, u1, u2, u3, u4, u5, u6, u7, u8, u9, u10⟩ := p1.row11
 obtain ⟨v0, v1, v2, v3, v4, v5, v6, v7, v8, v9, v10⟩ := r1.row11
 have q1 := p1.lt
 have t1 := r1.lt
 clear p0 r0 B0 g1
 go_wp2_with fail
 refine (E2.out _ B1).mono ?_
 rintro e w2 ⟨rfl, g2⟩
 have B2 : Below w.heap.size w w2 := via0 g2 B1
 go_wp2
 go_ret
 exact ⟨rfl, B2⟩
end Go.Proofs.YtenhcjkkpnlbeaaGreatDoor.Gen
namespace Go.Proofs.YtenhcjkkpnlbeaaGreatDoor.Gen
open ChangeShapes WideShapes ChangeAt RowKit Joins Deep Base
theorem Ql1 {α : Type} (c s : α -> Nat) (p q : Nat) : ∀ (l : List α), (∀ y ∈ l, c y <= p + q * s y) -> Qak c l <= p * l.length + q * Qak s l
 | [], _ => by simp [Qak]
 | a :: l, h => by
  have h1 := Ql1 c s p q l (fun y hy => h y (by simp [hy]))
  have h2 := h a (by simp)
  simp only [Qak, List.map_cons, List.sum_cons, List.length_cons, Nat.mul_add] at h1 ⊢
  omega
def NewK (w w' : World) (e : Ending) (c : PK) : Prop := ∃ y : KC, e = .returned (.agg y.cells) /\ y.p = c /\ KOwn w' y (fun b => w.heap.size <= b /\ b < w'.heap.size) /\ Below w.heap.size w w'
end Go.Proofs.YtenhcjkkpnlbeaaGreatDoor.Gen
namespace Go.Proofs.YtenhcjkkpnlbeaaGreatDoor.Gen
open ChangeShapes WideShapes ChangeAt RowKit Joins Deep Base
structure RpC where
  kind : Int
  frm : Int
  too : Int
  term : Int
  index : Int
  iterm : Int
  commit : Int
  A : Option Addr
  cap : Nat
  l : List En
  ok : Bool
  snap : ByteArray
structure RpP where
  kind : Int
  frm : Int
  too : Int
  term : Int
  index : Int
  iterm : Int
  commit : Int
  l : List En
  ok : Bool
  snap : ByteArray
instance : Inhabited RpC := ⟨⟨0, 0, 0, 0, 0, 0, 0, none, 0, [], false, ⟨#[]⟩⟩⟩
instance : Cel RpC where
  k := 10
  cs x := [Value.int .i64 x.kind, Value.int .i64 x.frm, Value.int .i64 x.too, Value.int .i64 x.term, Value.int .i64 x.index, Value.int .i64 x.iterm, Value.int .i64 x.commit, Value.slice x.A x.l.length x.cap, Value.bool x.ok, Value.string x.snap]
  len _ := rfl
  one x u hu := by simp at hu; rcases hu with rfl | rfl | rfl | rfl | rfl | rfl | rfl | rfl | rfl | rfl<;>rfl
def RpC.p (x : RpC) : RpP := ⟨x.kind, x.frm, x.too, x.term, x.index, x.iterm, x.commit, x.l, x.ok, x.snap⟩
def EachP (w : World) (l : List RpC) : Prop := ∀ x ∈ l, At w x.A x.l
theorem EachP.below {w w' : World} {l : List RpC} (h : EachP w l) (hw : Below w.heap.size w w') : EachP w' l := fun x hx => (h x hx).below hw
def rpcP (w : World) (x : RpC) (S : Nat -> Prop) : Prop := Sub w x.A x.l S
theorem Qaz : Firm rpcP := fun w w' x S T h k hd => Sub.offp h k hd
theorem Qka {S : Nat -> Prop} {w : World} {a : Option Addr} {l : List RpC} (h : Own rpcP w a l S) : EachP w l := h.each (fun x S hx => Sub.at hx)
theorem In.getRpC {w : World} {b o : Nat} {l : List RpC} (h : In w b o l) (i : Nat) (hi : i < l.length) :
 w.cell? ⟨b, o + i * 10, none⟩ = some (Value.int .i64 l[i].kind) /\ w.cell? ⟨b, o + i * 10 + 1, none⟩ = some (Value.int .i64 l[i].frm) /\ w.cell? ⟨b, o + i * 10 + 2, none⟩ = some (Value.int .i64 l[i].too) /\ w.cell? ⟨b, o + i * 10 + 3, none⟩ = some (Value.int .i64 l[i].term) /\ w.cell? ⟨b, o + i * 10 + 4, none⟩ = some (Value.int .i64 l[i].index) /\ w.cell? ⟨b, o + i * 10 + 5, none⟩ = some (Value.int .i64 l[i].iterm) /\ w.cell? ⟨b, o + i * 10 + 6, none⟩ = some (Value.int .i64 l[i].commit) /\ w.cell? ⟨b, o + i * 10 + 7, none⟩ = some (Value.slice l[i].A l[i].l.length l[i].cap) /\ w.cell? ⟨b, o + i * 10 + 8, none⟩ = some (Value.bool l[i].ok) /\ w.cell? ⟨b, o + i * 10 + 9, none⟩ = some (Value.string l[i].snap) :=
 ⟨h.cell i hi (f := 0) rfl, h.cell i hi (f := 1) rfl, h.cell i hi (f := 2) rfl, h.cell i hi (f := 3) rfl, h.cell i hi (f := 4) rfl, h.cell i hi (f := 5) rfl, h.cell i hi (f := 6) rfl, h.cell i hi (f := 7) rfl, h.cell i hi (f := 8) rfl, h.cell i hi (f := 9) rfl⟩
theorem Blk.row10 {W : World} {B : Nat} {t : TypeId} {a b c d e f g h i j : Value} (p : Blk W B t #[a, b, c, d, e, f, g, h, i, j]) : W.cell? ⟨B, 0, none⟩ = some a /\ W.cell? ⟨B, 1, none⟩ = some b /\ W.cell? ⟨B, 2, none⟩ = some c /\ W.cell? ⟨B, 3, none⟩ = some d /\ W.cell? ⟨B, 4, none⟩ = some e /\ W.cell? ⟨B, 5, none⟩ = some f /\ W.cell? ⟨B, 6, none⟩ = some g /\ W.cell? ⟨B, 7, none⟩ = some h /\ W.cell? ⟨B, 8, none⟩ = some i /\ W.cell? ⟨B, 9, none⟩ = some j :=
 ⟨p.cell (by rfl), p.cell (by rfl), p.cell (by rfl), p.cell (by rfl), p.cell (by rfl), p.cell (by rfl), p.cell (by rfl), p.cell (by rfl), p.cell (by rfl), p.cell (by rfl)⟩
theorem eqRpc_same (kind frm too term index iterm commit : Int) (ok : Bool) (snap : ByteArray) (A A' : Option Addr) (cap cap' : Nat) (l : List En) (hl : l.length <= 9223372036854775807) (w : World) (hA : At w A l) (hA' : At w A' l) :
 Calls Tryz.prog 52 #[.agg (Qan kind frm too term index iterm commit A l.length cap ok snap), .agg (Qan kind frm too term index iterm commit A' l.length cap' ok snap)] w fun e w' => e = .returned (.bool true) /\ Below w.heap.size w w' := by
 have HA : Hid (∀ W : World, Below w.heap.size w W -> At W A l) := fun W hW => hA.below hW
 have HA' : Hid (∀ W : World, Below w.heap.size w W -> At W A' l) := fun W hW => hA'.below hW
 clear hA hA'
 have p0 : Blk ((w.alloc (.cells (Qan kind frm too term index iterm commit A l.length cap ok snap) 83)).alloc (.cells (Qan kind frm too term index iterm commit A' l.length cap' ok snap) 83)) w.heap.size 83 (Qan kind frm too term index iterm commit A l.length cap ok snap) := (Blk.new w _ _).alloc _
 have r0 : Blk ((w.alloc (.cells (Qan kind frm too term index iterm commit A l.length cap ok snap) 83)).alloc (.cells (Qan kind frm too term index iterm commit A' l.length cap' ok snap) 83)) (w.heap.size + 1) 83 (Qan kind frm too term index iterm commit A' l.length cap' ok snap) := by
  have := Blk.new (w.alloc (.cells (Qan kind frm too term index iterm commit A l.length cap ok snap) 83)) 83 (Qan kind frm too term index iterm commit A' l.length cap' ok snap)
  rwa [World.size_alloc] at this
 cases ok
 all_goals
  go_enter Tryz.func52, Tryz.ntmps52
  go_wp2_with fail
  refine (Qfr A A' cap cap' l hl _ (HA.out _ (by repeat (first | exact Below.refl _ _ | assumption | refine via0 (by assumption) ?_ | refine Below.drew ?_ | refine Qab ?_ _))) (HA'.out _ (by repeat (first | exact Below.refl _ _ | assumption | refine via0 (by assumption) ?_ | refine Below.drew ?_ | refine Qab ?_ _)))).mono ?_
  rintro e w1 ⟨rfl, g1⟩
  have B1 : Below w.heap.size w w1 := by repeat (first | exact Below.refl _ _ | assumption | refine via0 (by assumption) ?_ | refine Below.drew ?_ | refine Qab ?_ _)
  have p1 := p0.below g1 p0.lt
  have r1 := r0.below g1 r0.lt
  obtain ⟨d0, d1, d2, d3, d4, d5, d6, d7, d8, d9⟩ := p1.row10
  obtain ⟨e0, e1, e2, e3, e4, e5, e6, e7, e8, e9⟩ := r1.row10
  have q1 := p1.lt
  have q2 := r1.lt
  clear g1
  go_wp2
  go_ret
  exact ⟨rfl, B1⟩
theorem Qhh (A A' : Option Addr) (cap cap' : Nat) (l l' : List RpC) (hl : l.length <= 9223372036854775807) (hr : ∀ x ∈ l, x.l.length <= 9223372036854775807) (hsame : l'.map RpC.p = l.map RpC.p) (w : World) (hA : At w A l) (hE : EachP w l) (hA' : At w A' l') (hE' : EachP w l') :
 Calls Tryz.prog 17 #[.slice A l.length cap, .slice A' l.length cap'] w fun e w' => e = .returned (.bool true) /\ Below w.heap.size w w' := by
 have HA := hidP hA
 have HE := hidP hE
 have HA' := hidP hA'
 have HE' := hidP hE'
 have Hr := hidP hr
 have HS := hidP hsame
 have HLL : Hid (l'.length = l.length) := by have := congrArg List.length hsame; show _ = _; simpa using this
 clear hA hE hA' hE' hr hsame
 go_enter Tryz.func17, Tryz.ntmps17
 go_wp2
 go_loopw [5] (fun i w' => ∃ (n : Nat), i = .int .i64 (n : Int) /\ n <= l.length /\ Below w.heap.size w w') (fun i _ => l.length - (intOf i).toNat)
 case atStart => exact ⟨0, rfl, by omega, Below.refl _ _⟩
 case round =>
  obtain ⟨n, rfl, hn, hbl⟩ := hrel
  by_cases hlt : n < l.length
  . have hll := HLL.out
    obtain ⟨b, o, rfl, hbs, hin⟩ : ∃ b o, A = some ⟨b, o, none⟩ /\ b < w.heap.size /\ In w b o l := by
     rcases HA.out with h | h
     . subst h; simp at hlt
     . exact h
    obtain ⟨b', o', rfl, hbs', hin'⟩ : ∃ b o, A' = some ⟨b, o, none⟩ /\ b < w.heap.size /\ In w b o l' := by
     rcases HA'.out with h | h
     . subst h; simp at hll; omega
     . exact h
    have hp : (l'[n]'(by omega)).p = l[n].p := by
     have h1 : (l'.map RpC.p)[n]'(by simp; omega) = (l.map RpC.p)[n]'(by simpa using hlt) := by simp only [HS.out]
     simpa using h1
    obtain ⟨c0, c1, c2, c3, c4, c5, c6, c7, c8, c9⟩ := (hin.below hbs hbl).getRpC n hlt
    obtain ⟨d0, d1, d2, d3, d4, d5, d6, d7, d8, d9⟩ := (hin'.below hbs' hbl).getRpC n (by omega)
    have hat := HE.out _ (List.getElem_mem hlt)
    have hat' := HE'.out _ (List.getElem_mem (show n < l'.length by omega))
    have hms := Hr.out _ (List.getElem_mem hlt)
    generalize l'[n]'(by omega) = y at hp d0 d1 d2 d3 d4 d5 d6 d7 d8 d9 hat'
    generalize l[n] = x at hp c0 c1 c2 c3 c4 c5 c6 c7 c8 c9 hat hms
    obtain ⟨y0, y1, y2, y3, y4, y5, y6, yA, yc, yi, yo, ys⟩ := y
    obtain ⟨x0, x1, x2, x3, x4, x5, x6, xA, xc, xi, xo, xs⟩ := x
    simp only [RpC.p, RpP.mk.injEq] at hp
    obtain ⟨rfl, rfl, rfl, rfl, rfl, rfl, rfl, rfl, rfl, rfl⟩ := hp
    simp only at c0 c1 c2 c3 c4 c5 c6 c7 c8 c9 d0 d1 d2 d3 d4 d5 d6 d7 d8 d9 hat hat' hms
    have Hat := hidP (hat.below hbl)
    have Hat' := hidP (hat'.below hbl)
    clear hat hat' hll
    have hb1 : b < wr.heap.size := Nat.lt_of_lt_of_le hbs hbl.size
    have hb2 : b' < wr.heap.size := Nat.lt_of_lt_of_le hbs' hbl.size
    have hi0 : (0 : Int) <= (n : Int) := by omega
    have hi1 : (n : Int) < (l.length : Int) := by omega
    go_wp2
    go_region_held3 (fun w' => w'.cell? ⟨b, o + n * 10, none⟩ = some (.int .i64 y0) /\ w'.cell? ⟨b, o + n * 10 + 1, none⟩ = some (.int .i64 y1) /\ w'.cell? ⟨b, o + n * 10 + 2, none⟩ = some (.int .i64 y2) /\ w'.cell? ⟨b, o + n * 10 + 3, none⟩ = some (.int .i64 y3) /\ w'.cell? ⟨b, o + n * 10 + 4, none⟩ = some (.int .i64 y4) /\ w'.cell? ⟨b, o + n * 10 + 5, none⟩ = some (.int .i64 y5) /\ w'.cell? ⟨b, o + n * 10 + 6, none⟩ = some (.int .i64 y6) /\ w'.cell? ⟨b, o + n * 10 + 7, none⟩ = some (.slice xA yi.length xc) /\ w'.cell? ⟨b, o + n * 10 + 8, none⟩ = some (.bool yo) /\ w'.cell? ⟨b, o + n * 10 + 9, none⟩ = some (.string ys) /\ w'.cell? ⟨b', o' + n * 10, none⟩ = some (.int .i64 y0) /\ w'.cell? ⟨b', o' + n * 10 + 1, none⟩ = some (.int .i64 y1) /\ w'.cell? ⟨b', o' + n * 10 + 2, none⟩ = some (.int .i64 y2) /\ w'.cell? ⟨b', o' + n * 10 + 3, none⟩ = some (.int .i64 y3) /\ w'.cell? ⟨b', o' + n * 10 + 4, none⟩ = some (.int .i64 y4) /\ w'.cell? ⟨b', o' + n * 10 + 5, none⟩ = some (.int .i64 y5) /\ w'.cell? ⟨b', o' + n * 10 + 6, none⟩ = some (.int .i64 y6) /\ w'.cell? ⟨b', o' + n * 10 + 7, none⟩ = some (.slice yA yi.length yc) /\ w'.cell? ⟨b', o' + n * 10 + 8, none⟩ = some (.bool yo) /\ w'.cell? ⟨b', o' + n * 10 + 9, none⟩ = some (.string ys) /\ wr.heap.size <= w'.heap.size)
     (first | (go_split_ands; refine ⟨?_, ?_, ?_, ?_, ?_, ?_, ?_, ?_, ?_, ?_, ?_, ?_, ?_, ?_, ?_, ?_, ?_, ?_, ?_, ?_, ?_⟩<;>first | assumption | exact (k1 _ _ hb1).trans (by assumption) | exact (k1 _ _ hb2).trans (by assumption) | exact s1 | (simp; done)) | go_keep)
     (first
      | (go_at_call 52; refine (eqRpc_same y0 y1 y2 y3 y4 y5 y6 yo ys _ _ _ _ yi hms _ (Hat.out.below (Below.drew (Below.refl _ _))) (Hat'.out.below (Below.drew (Below.refl _ _)))).mono ?_; rintro e w1 ⟨rfl, g1⟩; obtain ⟨k1, m1⟩ := Qax g1; have s1 := g1.size))
    all_goals
     go_wp2
     exact ⟨⟨n + 1, by go_num, by omega, via0 g1 hbl.drew⟩, by simp [intOf]; omega⟩
  . go_wp2
    go_ret
    exact ⟨rfl, hbl⟩
end Go.Proofs.YtenhcjkkpnlbeaaGreatDoor.Gen
