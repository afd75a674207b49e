/-
  A node as it lies, in one record; what the laws' sz function of it does; a node opened. No condition.
-/
import Derived.Test.YtenhcjkkpnlbeaaGreatDoorMakList2
import Derived.Deep.WholeRow
import Derived.Deep.Cut
set_option linter.unusedVariables false
set_option linter.unusedSimpArgs false
set_option maxRecDepth 100000
set_option maxHeartbeats 8000000
namespace Go.Proofs.YtenhcjkkpnlbeaaGreatDoor.Gen
open ChangeShapes WideShapes ChangeAt RowKit Joins Deep Base
structure PC where
  id : Int
  te : Int
  vo : Int
  base : Int
  bt : Int
  A : Option Addr
  cap : Nat
  l : List En
  x : KC
  role : Int
  vA : Option Addr
  vc : Nat
  vs : List Bool
  nA : Option Addr
  nc : Nat
  ns : List Int
  pA : Option Addr
  pc : Nat
  ps : List Int
  com : Int
  y : KC
  dA : Option Addr
  dc : Nat
  db : List UInt8
  su : Int
  hA : Option Addr
  hc : Nat
  hs : List RpC
structure PAt (w : World) (p : PC) : Prop where
  la : At w p.A p.l
  xa : KAt w p.x
  va : At w p.vA p.vs
  na : At w p.nA p.ns
  pa : At w p.pA p.ps
  ya : KAt w p.y
  da : At w p.dA p.db
  ha : At w p.hA p.hs
  he : EachP w p.hs
theorem PAt.below {w w' : World} {p : PC} (h : PAt w p) (g : Below w.heap.size w w') : PAt w' p := ⟨h.la.below g, h.xa.below g, h.va.below g, h.na.below g, h.pa.below g, h.ya.below g, h.da.below g, h.ha.below g, h.he.below g⟩
structure PFit (p : PC) : Prop where
  ll : p.l.length <= 1048576
  xf : KFit p.x
  vl : p.vs.length <= 1048576
  nl : p.ns.length <= 1048576
  pl : p.ps.length <= 1048576
  yf : KFit p.y
  dl : p.db.length <= 1048576
  hl : p.hs.length <= 1048576
  hi : ∀ z ∈ p.hs, z.l.length <= 1048576
  tot : (p.l.length : Int) * 9 + (kct p.x : Int) + (p.vs.length : Int) + (p.ns.length : Int) + (p.ps.length : Int) + (kct p.y : Int) + (p.db.length : Int) + 9 * ((p.hs.length : Int) + (Qak (fun z : RpC => z.l.length) p.hs : Int)) <= 9437999
end Go.Proofs.YtenhcjkkpnlbeaaGreatDoor.Gen
namespace Go.Proofs.YtenhcjkkpnlbeaaGreatDoor.Gen
open ChangeShapes WideShapes ChangeAt RowKit Joins Deep Base
theorem Blk.row {W : World} {B : Nat} {t : TypeId} {old : Array Value} (p : Blk W B t old) (vs : Array Value) : Blk (W.setRow B vs) B t vs := setRow_heap W B old vs t (0, 0) p
theorem Offp.row {S : Nat -> Prop} {w w1 : World} (h : Offp S w w1) {b : Nat} (hb : S b) (cs : Array Value) : Offp S w (w1.setRow b cs) :=
 ⟨h.os, h.tape, h.output, by rw [setRow_size]; exact h.size, fun k hk hn => (setRow_other w1 b k cs (fun e => hn (e ▸ hb))).trans (h.block k hk hn)⟩
theorem Qcf {B g : Nat} {w0 w : World} (h : Below B w0 w) (hg : B <= g) (cs : Array Value) : Below B w0 (w.setRow g cs) :=
 ⟨h.os, h.tape, h.output, by rw [setRow_size]; exact h.size, fun k hk => (setRow_other w g k cs (by omega)).trans (h.block k hk)⟩
section
variable {P : Program} {ops : Array Oper} {rest : List Oper} {op : Oper} {a : Act} {w : World} {Q : Go.Exit -> Act -> World -> Prop}
theorem Qar (hgd : op.guard = none) (ty : TypeId) (x : Operand) (ho : op.op = .load ty x) {b : Nat} (hx : a.eval x = .pointer (some ⟨b, 0, none⟩)) {t : TypeId} {vs : Array Value} (p : Blk w b t vs) {fs : Array Field} (hu : P.underlying ty = some (.struct fs)) (hi : (P.info? ty).map (·.size) = some vs.size)
 (h : wpList P ops Q rest (a.put op.dst (.agg vs)) w) : wpList P ops Q (op :: rest) a w :=
 wpList_plain hgd fun K hK => by
  unfold Oper.wp execOp
  simp only [ho, hx, Instr.loadAt, Instr.sureAddr, Sem.run_bind, Sem.run_pure, Result.andThen_ok, run_loadVar_row w b t ty vs (0, 0) (.struct fs) p hu rfl hi]
  exact hK _ _ h
theorem Qap (hgd : op.guard = none) (ty : TypeId) (x y : Operand) (ho : op.op = .store ty x y) {g : Nat} {cells : Array Value} (hx : a.eval x = .pointer (some ⟨g, 0, none⟩)) (hy : a.eval y = .agg cells) {t : TypeId} {old : Array Value} (p : Blk w g t old) (hi : (P.info? ty).map (·.size) = some cells.size) (hold : old.size = cells.size) (h1 : cells.all (·.oneCell') = true)
 (h : wpList P ops Q rest (a.put op.dst undef) (w.setRow g cells)) : wpList P ops Q (op :: rest) a w :=
 wpList_plain hgd fun _ hK => wp_store_row ty x y ho g cells hx hy t old p hi hold h1 (hK _ _ h)
end
theorem Qgi {P : Program} {a : Act} {op : Oper} {w : World} {ty : TypeId} {x : Operand} (ho : op.op = .load ty x) {b : Nat} (hx : a.eval x = .pointer (some ⟨b, 0, none⟩)) {t : TypeId} {vs : Array Value} (p : Blk w b t vs) {fs : Array Field} (hu : P.underlying ty = some (.struct fs)) (hi : (P.info? ty).map (·.size) = some vs.size) : (execOp a.eval op).run P w = .ok (.value (.agg vs)) w := by
 unfold execOp
 simp only [ho, hx, Instr.loadAt, Instr.sureAddr, Sem.run_bind, Sem.run_pure, Result.andThen_ok, run_loadVar_row w b t ty vs (0, 0) (.struct fs) p hu rfl hi]
theorem Qe9 {P : Program} {fn : Func} {p : Tmp} {ty : TypeId} (h : fn.results = #[.cell p ty]) {tmps : Array Value} {w : World} {b : Nat} (ht : tmps.getD p undef = .pointer (some ⟨b, 0, none⟩)) {t : TypeId} {vs : Array Value} (q : Blk w b t vs) {fs : Array Field} (hu : P.underlying ty = some (.struct fs)) (hi : (P.info? ty).map (·.size) = some vs.size) : (results fn tmps).run P w = .ok (.agg vs) w := by
 have ht2 : tmps[p]?.getD undef = .pointer (some ⟨b, 0, none⟩) := by rw [← Array.getD_eq_getD_getElem?]; exact ht
 have hl := run_loadVar_row (P := P) w b t ty vs (0, 0) (.struct fs) q hu rfl hi
 simp only [results, h]
 simp [ht2, asAddr, hl]
end Go.Proofs.YtenhcjkkpnlbeaaGreatDoor.Gen
namespace Go.Proofs.YtenhcjkkpnlbeaaGreatDoor.Gen
open ChangeShapes WideShapes ChangeAt RowKit Joins Deep Base
structure PCol (W : World) (p : PC) (S : Nat -> Prop) (col : Nat -> Nat) : Prop where
  l : Sub W p.A p.l (fun b => S b /\ col b = 1)
  x : KOwn W p.x (fun b => S b /\ col b = 2)
  v : Sub W p.vA p.vs (fun b => S b /\ col b = 3)
  n : Sub W p.nA p.ns (fun b => S b /\ col b = 4)
  q : Sub W p.pA p.ps (fun b => S b /\ col b = 5)
  y : KOwn W p.y (fun b => S b /\ col b = 6)
  d : Sub W p.dA p.db (fun b => S b /\ col b = 7)
  h : Own rpcP W p.hA p.hs (fun b => S b /\ col b = 8)
def POwn (W : World) (p : PC) (S : Nat -> Prop) : Prop := ∃ col, PCol W p S col
theorem POwn.at {W : World} {p : PC} {S : Nat -> Prop} (h : POwn W p S) : PAt W p := by
 obtain ⟨_, h⟩ := h
 exact ⟨h.l.at, h.x.at, h.v.at, h.n.at, h.q.at, h.y.at, h.d.at, h.h.at, Qka h.h⟩
theorem POwn.offp {W W' : World} {p : PC} {S T : Nat -> Prop} (h : POwn W p S) (k : Offp T W W') (hd : ∀ b, S b -> ¬ T b) : POwn W' p S := by
 obtain ⟨c, h⟩ := h
 exact ⟨c, h.l.offp k (fun b hb => hd b hb.1), h.x.offp k (fun b hb => hd b hb.1), h.v.offp k (fun b hb => hd b hb.1), h.n.offp k (fun b hb => hd b hb.1), h.q.offp k (fun b hb => hd b hb.1), h.y.offp k (fun b hb => hd b hb.1), h.d.offp k (fun b hb => hd b hb.1), h.h.offp Qaz k (fun b hb => hd b hb.1)⟩
theorem POwn.below {W W' : World} {p : PC} {S : Nat -> Prop} (h : POwn W p S) (g : Below W.heap.size W W') : POwn W' p S := h.offp (Offp.of_below (S := fun _ => False) g) (fun _ _ e => e)
end Go.Proofs.YtenhcjkkpnlbeaaGreatDoor.Gen
namespace Go.Proofs.YtenhcjkkpnlbeaaGreatDoor.Gen
open ChangeShapes WideShapes ChangeAt RowKit Joins Deep Base
def Qb7 (p : PC) (v : Value) : Array Value := #[.int .i64 p.id, .int .i64 p.te, .int .i64 p.vo, .int .i64 p.base, .int .i64 p.bt, .slice p.A p.l.length p.cap, .slice p.x.rA p.x.rs.length p.x.rc, .slice p.x.mA p.x.ms.length p.x.mc, .slice p.x.gA p.x.gs.length p.x.gc, .int .i64 p.x.time, .slice p.x.dA p.x.ds.length p.x.dc, .slice p.x.lA p.x.ls.length p.x.lc, .int .i64 p.role, .slice p.vA p.vs.length p.vc, .slice p.nA p.ns.length p.nc, .slice p.pA p.ps.length p.pc, .int .i64 p.com, .slice p.y.rA p.y.rs.length p.y.rc, .slice p.y.mA p.y.ms.length p.y.mc, .slice p.y.gA p.y.gs.length p.y.gc, .int .i64 p.y.time, .slice p.y.dA p.y.ds.length p.y.dc, .slice p.y.lA p.y.ls.length p.y.lc, .slice p.dA p.db.length p.dc, .int .i64 p.su, v]
def Qdg (p : PC) : Value := .slice p.hA p.hs.length p.hc
def Qam (p : PC) : Array Value := Qb7 p (Qdg p)
theorem Qc7 (p : PC) : (Qam p).all (·.oneCell') = true := by simp [Qam, Qb7, Qdg, Value.oneCell']
structure SameP (q p : PC) : Prop where
  id : q.id = p.id
  te : q.te = p.te
  vo : q.vo = p.vo
  base : q.base = p.base
  bt : q.bt = p.bt
  l : q.l = p.l
  x : q.x.p = p.x.p
  role : q.role = p.role
  vs : q.vs = p.vs
  ns : q.ns = p.ns
  ps : q.ps = p.ps
  com : q.com = p.com
  y : q.y.p = p.y.p
  db : q.db = p.db
  su : q.su = p.su
  hs : q.hs.map RpC.p = p.hs.map RpC.p
theorem SameP.refl (p : PC) : SameP p p := ⟨rfl, rfl, rfl, rfl, rfl, rfl, rfl, rfl, rfl, rfl, rfl, rfl, rfl, rfl, rfl, rfl⟩
theorem SameP.trans {a b c : PC} (h : SameP a b) (k : SameP b c) : SameP a c := ⟨h.id.trans k.id, h.te.trans k.te, h.vo.trans k.vo, h.base.trans k.base, h.bt.trans k.bt, h.l.trans k.l, h.x.trans k.x, h.role.trans k.role, h.vs.trans k.vs, h.ns.trans k.ns, h.ps.trans k.ps, h.com.trans k.com, h.y.trans k.y, h.db.trans k.db, h.su.trans k.su, h.hs.trans k.hs⟩
theorem SameP.symm {a b : PC} (h : SameP a b) : SameP b a := ⟨h.id.symm, h.te.symm, h.vo.symm, h.base.symm, h.bt.symm, h.l.symm, h.x.symm, h.role.symm, h.vs.symm, h.ns.symm, h.ps.symm, h.com.symm, h.y.symm, h.db.symm, h.su.symm, h.hs.symm⟩
end Go.Proofs.YtenhcjkkpnlbeaaGreatDoor.Gen
namespace Go.Proofs.YtenhcjkkpnlbeaaGreatDoor.Gen
open ChangeShapes WideShapes ChangeAt RowKit Joins Deep Base
def cP (x : RpC) : Nat := 9 + x.l.length * 9
def mP (x : RpC) (z : Int) : RpC := ⟨z, z + 1, z + 2, z + 3, z + 4, z + 5, z + 6, x.A, x.cap, Qbk x.l.length (z + 7), ((z + 7 + (x.l.length : Int) * 9) % 3 == 0), Items.markZ (z + 7 + (x.l.length : Int) * 9 + 1)⟩
theorem Qk5 (a : Option Addr) (cap : Nat) (l : List En) (S : Nat -> Prop) (k : Int) (hk : 1 <= k) (hk' : k <= 100000000) (hl : l.length <= 3000000) (w : World) (h : Sub w a l S) :
 Calls Tryz.prog 55 #[.slice a l.length cap, .int .i64 k] w fun e w' => e = .returned (.int .i64 (k + (l.length : Int) * 9)) /\ Offp S w w' /\ Sub w' a (Qbk l.length k) S := by
 rcases h with rfl | ⟨b, o, rfl, hS, hb, hi, ht⟩
 . refine (Qk9 a cap k w).mono ?_
   rintro e w' ⟨rfl, rfl⟩
   exact ⟨by simp, Offp.refl _ _, .inl rfl⟩
 . refine (Qh5 b o cap l.length k hk hk' hl w hb ht).mono ?_
   rintro e w' ⟨rfl, ko, hin, hth⟩
   exact ⟨rfl, (Offp.of_only ko).mono (fun x e => e ▸ hS), .inr ⟨b, o, rfl, hS, Nat.lt_of_lt_of_le hb ko.size, hin, by rw [Qbg]; exact hth⟩⟩
theorem Qk7 (b o cap : Nat) (l : List RpC) (fp : Nat -> Nat -> Prop) (k : Int) (hk : 1 <= k) (hk' : k <= 50000000) (hc : Qak cP l <= 50000000) (hl : l.length <= 1048576) (hs : ∀ x ∈ l, x.l.length <= 1048576) (w : World) (hO : OwnF rpcP w b o l fp) :
 Calls Tryz.prog 22 #[.slice (some ⟨b, o, none⟩) l.length cap, .int .i64 k] w fun e w' => e = .returned (.int .i64 (k + (Qak cP l : Int))) /\ Offp (fun x => x = b ∨ ∃ i, fp i x) w w' /\ OwnF rpcP w' b o (marked mP cP l k) fp := by
 have HO := hidP hO
 have Hs := hidP hs
 have Hc := hidP hc
 clear hO hs hc
 go_enter Tryz.func22, Tryz.ntmps22
 go_wp2
 go_loopw [1, 5] (fun kk i w' => ∃ (n : Nat) (z : Int), i = .int .i64 (n : Int) /\ kk = .int .i64 z /\ n <= l.length /\ 1 <= z /\ z <= 100000000 /\ Hid (z = k + (Qak cP (l.take n) : Int)) /\ Hid (Offp (fun x => x = b ∨ ∃ i, fp i x) w w') /\ Hid (OwnF rpcP w' b o (half mP cP l k n) fp)) (fun _ i _ => l.length - (intOf i).toNat)
 case atStart => exact ⟨0, k, rfl, rfl, by omega, hk, by omega, by simp [Hid, Qak], Offp.refl _ _, by rw [Qeo]; exact HO.out⟩
 case round =>
  obtain ⟨n, z, rfl, rfl, hn, hz1, hz2, hz, hoff, hown⟩ := hrel
  by_cases hlt : n < l.length
  . have hhl := Qdp mP cP l k n
    have hge := Qfn mP cP l k n hlt (by omega)
    have hit := Hs.out _ (List.getElem_mem hlt)
    obtain ⟨c0, c1, c2, c3, c4, c5, c6, c7, c8, c9⟩ := hown.out.lst.getRpC n (by omega)
    have hth := hown.out.th
    rw [hhl] at hth
    obtain ⟨_, f0⟩ := Qaq (f := 0) hth hlt (by decide)
    obtain ⟨_, f1⟩ := Qaq (f := 1) hth hlt (by decide)
    obtain ⟨_, f2⟩ := Qaq (f := 2) hth hlt (by decide)
    obtain ⟨_, f3⟩ := Qaq (f := 3) hth hlt (by decide)
    obtain ⟨_, f4⟩ := Qaq (f := 4) hth hlt (by decide)
    obtain ⟨_, f5⟩ := Qaq (f := 5) hth hlt (by decide)
    obtain ⟨_, f6⟩ := Qaq (f := 6) hth hlt (by decide)
    simp only [Nat.add_zero, show Cel.k RpC = 10 from rfl] at f0 f1 f2 f3 f4 f5 f6
    rw [hge] at c0 c1 c2 c3 c4 c5 c6 c7 c8 c9
    have hsu := Qep mP cP l k n hlt
    rw [← hz.out] at hsu
    have hcn : Qak cP (l.take n) + cP l[n] <= 50000000 := by rw [← Qa5 cP l n hlt]; exact Nat.le_trans (Qda cP l (n + 1)) Hc.out
    have Hsn := hidP (Qa5 cP l n hlt)
    generalize hx : l[n] = x at c0 c1 c2 c3 c4 c5 c6 c7 c8 c9 hit hsu hcn hge Hsn
    obtain ⟨k0, k1, k2, k3, k4, k5, k6, xA, xc, xi, ko, sn⟩ := x
    simp only at c0 c1 c2 c3 c4 c5 c6 c7 c8 c9 hit
    have O1 := hown.out.set1 Qaz n (by omega) ⟨z, k1, k2, k3, k4, k5, k6, xA, xc, xi, ko, sn⟩ 0 (by decide) (.int .i64 z) (by rw [hge]; rfl) (fun W S h => by rw [hge] at h; exact h)
    have O2 := O1.set1 Qaz n (by simp; omega) ⟨z, z + 1, k2, k3, k4, k5, k6, xA, xc, xi, ko, sn⟩ 1 (by decide) (.int .i64 (z + 1)) (by rw [List.getElem_set_self]; rfl) (fun W S h => by rw [List.getElem_set_self] at h; exact h)
    have O3 := O2.set1 Qaz n (by simp; omega) ⟨z, z + 1, z + 1 + 1, k3, k4, k5, k6, xA, xc, xi, ko, sn⟩ 2 (by decide) (.int .i64 (z + 1 + 1)) (by rw [List.getElem_set_self]; rfl) (fun W S h => by rw [List.getElem_set_self] at h; exact h)
    have O4 := O3.set1 Qaz n (by simp; omega) ⟨z, z + 1, z + 1 + 1, z + 1 + 1 + 1, k4, k5, k6, xA, xc, xi, ko, sn⟩ 3 (by decide) (.int .i64 (z + 1 + 1 + 1)) (by rw [List.getElem_set_self]; rfl) (fun W S h => by rw [List.getElem_set_self] at h; exact h)
    have O5 := O4.set1 Qaz n (by simp; omega) ⟨z, z + 1, z + 1 + 1, z + 1 + 1 + 1, z + 1 + 1 + 1 + 1, k5, k6, xA, xc, xi, ko, sn⟩ 4 (by decide) (.int .i64 (z + 1 + 1 + 1 + 1)) (by rw [List.getElem_set_self]; rfl) (fun W S h => by rw [List.getElem_set_self] at h; exact h)
    have O6 := O5.set1 Qaz n (by simp; omega) ⟨z, z + 1, z + 1 + 1, z + 1 + 1 + 1, z + 1 + 1 + 1 + 1, z + 1 + 1 + 1 + 1 + 1, k6, xA, xc, xi, ko, sn⟩ 5 (by decide) (.int .i64 (z + 1 + 1 + 1 + 1 + 1)) (by rw [List.getElem_set_self]; rfl) (fun W S h => by rw [List.getElem_set_self] at h; exact h)
    have O7 := O6.set1 Qaz n (by simp; omega) ⟨z, z + 1, z + 1 + 1, z + 1 + 1 + 1, z + 1 + 1 + 1 + 1, z + 1 + 1 + 1 + 1 + 1, z + 1 + 1 + 1 + 1 + 1 + 1, xA, xc, xi, ko, sn⟩ 6 (by decide) (.int .i64 (z + 1 + 1 + 1 + 1 + 1 + 1)) (by rw [List.getElem_set_self]; rfl) (fun W S h => by rw [List.getElem_set_self] at h; exact h)
    simp only [Nat.add_zero, show Cel.k RpC = 10 from rfl, List.set_set] at O1 O2 O3 O4 O5 O6 O7
    have Hhl := hidP hhl
    have Hsu := hidP hsu
    have Hcn := hidP hcn
    have HO4 := hidP O7
    have hsub := O7.sub n (by simp; omega)
    rw [List.getElem_set_self] at hsub
    have Hsub := hidP hsub
    have hz' := hz.out
    have hzc : z + 9 <= 100000000 := by
     have h3 := Hcn.out; simp only [cP] at h3; omega
    have hlim : xi.length * 9 + 9 <= 50000000 := by have := Hcn.out; simp only [cP] at this; omega
    clear hx hhl hsu hcn O1 O2 O3 O4 O5 O6 O7 hsub hge hth hz'
    go_wp2_with fail
    refine (Qk5 xA xc xi (fp n) _ (by omega) (by omega) (by omega) _ Hsub.out).mono ?_
    rintro e w1 ⟨rfl, ko1, hsb⟩
    have O5 := HO4.out.turn Qaz n (by rw [List.length_set]; have := Hhl.out; omega) ⟨z, z + 1, z + 1 + 1, z + 1 + 1 + 1, z + 1 + 1 + 1 + 1, z + 1 + 1 + 1 + 1 + 1, z + 1 + 1 + 1 + 1 + 1 + 1, xA, xc, Qbk xi.length (z + 1 + 1 + 1 + 1 + 1 + 1 + 1), ko, sn⟩ (by rw [List.getElem_set_self]; show [Value.int .i64 z, .int .i64 (z + 1), .int .i64 (z + 1 + 1), .int .i64 (z + 1 + 1 + 1), .int .i64 (z + 1 + 1 + 1 + 1), .int .i64 (z + 1 + 1 + 1 + 1 + 1), .int .i64 (z + 1 + 1 + 1 + 1 + 1 + 1), .slice xA (Qbk xi.length (z + 1 + 1 + 1 + 1 + 1 + 1 + 1)).length xc, .bool ko, .string sn] = _; rw [Qbg]; rfl) ko1 hsb
    rw [List.set_set] at O5
    have HO5 := hidP O5
    have hoff5 := hidP (((((((((hoff.out).set (.inl rfl) _ _).set (.inl rfl) _ _).set (.inl rfl) _ _).set (.inl rfl) _ _).set (.inl rfl) _ _).set (.inl rfl) _ _).set (.inl rfl) _ _).trans (ko1.mono (fun x hx => .inr ⟨n, hx⟩)))
    obtain ⟨Z, hZ⟩ : ∃ Z, z + 1 + 1 + 1 + 1 + 1 + 1 + 1 + (xi.length : Int) * 9 = Z := ⟨_, rfl⟩
    have HZ := hidP hZ
    rw [hZ]
    have hZ1 : 1 <= Z := by omega
    have hZ2 : Z <= 150000000 := by have h4 := Hcn.out; simp only [cP] at h4; have := hz.out; omega
    clear ko1 hsb O5 hZ c0 c1 c2 c3 c4 c5 c6 c7 c8 c9 f0 f1 f2 f3 f4 f5 f6
    have hlen5 : n < ((half mP cP l k n).set n ⟨z, z + 1, z + 1 + 1, z + 1 + 1 + 1, z + 1 + 1 + 1 + 1, z + 1 + 1 + 1 + 1 + 1, z + 1 + 1 + 1 + 1 + 1 + 1, xA, xc, Qbk xi.length (z + 1 + 1 + 1 + 1 + 1 + 1 + 1), ko, sn⟩).length := by rw [List.length_set]; have := Hhl.out; omega
    have q5 := HO5.out.lt
    have e8 : w1.cell? ⟨b, o + n * 10 + 8, none⟩ = some (.bool ko) := HO5.out.lst.cell n hlen5 (f := 8) (v := .bool ko) (by rw [List.getElem_set_self]; rfl)
    have f8 := (Qaq (f := 8) HO5.out.th hlen5 (by decide)).2
    simp only [show Cel.k RpC = 10 from rfl] at f8
    have O6 := HO5.out.set1 Qaz n hlen5 ⟨z, z + 1, z + 1 + 1, z + 1 + 1 + 1, z + 1 + 1 + 1 + 1, z + 1 + 1 + 1 + 1 + 1, z + 1 + 1 + 1 + 1 + 1 + 1, xA, xc, Qbk xi.length (z + 1 + 1 + 1 + 1 + 1 + 1 + 1), (Z % 3 == 0), sn⟩ 8 (by decide) (.bool (Z % 3 == 0)) (by rw [List.getElem_set_self]; rfl) (fun W S h => by rw [List.getElem_set_self] at h; exact h)
    simp only [show Cel.k RpC = 10 from rfl, List.set_set] at O6
    have HO6 := hidP O6
    have hoff6 := hidP (hoff5.out.set (b := b) (.inl rfl) (o + n * 10 + 8) (.bool (Z % 3 == 0)))
    have hlen6 : n < ((half mP cP l k n).set n ⟨z, z + 1, z + 1 + 1, z + 1 + 1 + 1, z + 1 + 1 + 1 + 1, z + 1 + 1 + 1 + 1 + 1, z + 1 + 1 + 1 + 1 + 1 + 1, xA, xc, Qbk xi.length (z + 1 + 1 + 1 + 1 + 1 + 1 + 1), (Z % 3 == 0), sn⟩).length := by rw [List.length_set]; have := Hhl.out; omega
    clear O6 HO5 hoff5 hlen5
    go_wp2_with fail
    refine (Items.markText_at (Z + 1) (by omega) (by omega) _).mono ?_
    rintro e w2 ⟨rfl, g2⟩
    have O7 := HO6.out.below Qaz g2
    have e9 : w2.cell? ⟨b, o + n * 10 + 9, none⟩ = some (.string sn) := O7.lst.cell n hlen6 (f := 9) (v := .string sn) (by rw [List.getElem_set_self]; rfl)
    have f9 := (Qaq (f := 9) O7.th hlen6 (by decide)).2
    simp only [show Cel.k RpC = 10 from rfl] at f9
    have qb := O7.lt
    have O8 := O7.set1 Qaz n hlen6 ⟨z, z + 1, z + 1 + 1, z + 1 + 1 + 1, z + 1 + 1 + 1 + 1, z + 1 + 1 + 1 + 1 + 1, z + 1 + 1 + 1 + 1 + 1 + 1, xA, xc, Qbk xi.length (z + 1 + 1 + 1 + 1 + 1 + 1 + 1), (Z % 3 == 0), Items.markZ (Z + 1)⟩ 9 (by decide) (.string (Items.markZ (Z + 1))) (by rw [List.getElem_set_self]; rfl) (fun W S h => by rw [List.getElem_set_self] at h; exact h)
    simp only [show Cel.k RpC = 10 from rfl, List.set_set] at O8
    have hmN : (⟨z, z + 1, z + 1 + 1, z + 1 + 1 + 1, z + 1 + 1 + 1 + 1, z + 1 + 1 + 1 + 1 + 1, z + 1 + 1 + 1 + 1 + 1 + 1, xA, xc, Qbk xi.length (z + 1 + 1 + 1 + 1 + 1 + 1 + 1), (Z % 3 == 0), Items.markZ (Z + 1)⟩ : RpC) = mP ⟨k0, k1, k2, k3, k4, k5, k6, xA, xc, xi, ko, sn⟩ z := by
     have a2 : z + 1 + 1 = z + 2 := by omega
     have a3 : z + 2 + 1 = z + 3 := by omega
     have a4 : z + 3 + 1 = z + 4 := by omega
     have a5 : z + 4 + 1 = z + 5 := by omega
     have a6 : z + 5 + 1 = z + 6 := by omega
     have a7 : z + 6 + 1 = z + 7 := by omega
     simp only [mP, a2, a3, a4, a5, a6, a7]
     rw [← HZ.out]
     simp only [a2, a3, a4, a5, a6, a7]
    rw [hmN, ← Hsu.out] at O8
    have HO8 := hidP O8
    have hoff7 := hidP ((hoff6.out.below g2).set (b := b) (.inl rfl) (o + n * 10 + 9) (.string (Items.markZ (Z + 1))))
    clear O7 O8 HO6 hoff6 g2 HO4 Hsub hmN hlen6 e8 f8 q5
    go_wp2
    have hz' := hz.out
    refine ⟨⟨n + 1, Z + 1 + 1, by go_num, rfl, by omega, by omega, ?_, ?_, hoff7, HO8⟩, by simp [intOf]; omega⟩
    . have h4 := Hcn.out; simp only [cP] at h4; have := HZ.out; have := hz.out; omega
    . show _ = _; rw [Hsn.out, ← HZ.out, hz']; simp only [cP]; omega
  . obtain rfl : n = l.length := by omega
    go_wp2
    go_ret
    have e := hz.out
    rw [Qcr cP l _ (Nat.le_refl _)] at e
    have hh := hown.out
    rw [Qfo mP cP l k _ (Nat.le_refl _)] at hh
    subst e
    exact ⟨rfl, hoff.out, hh⟩
end Go.Proofs.YtenhcjkkpnlbeaaGreatDoor.Gen
namespace Go.Proofs.YtenhcjkkpnlbeaaGreatDoor.Gen
open ChangeShapes WideShapes ChangeAt RowKit Joins Deep Base
theorem Qge (A : Option Addr) (cap : Nat) (l : List RpC) (k : Int) (hk : 1 <= k) (hk' : k <= 50000000) (hc : Qak cP l <= 50000000) (hl : l.length <= 1048576) (hs : ∀ x ∈ l, x.l.length <= 1048576) (w : World) (hA : At w A (marked mP cP l k)) (hE : EachP w (marked mP cP l k)) :
 Calls Tryz.prog 27 #[.slice A l.length cap, .int .i64 k] w fun e w' => e = .returned (.int .i64 (k + (Qak cP l : Int))) /\ Below w.heap.size w w' := by
 have HA := hidP hA
 have HE := hidP hE
 have Hs := hidP hs
 have Hc := hidP hc
 clear hA hE hs hc
 have HML := hidP (Qa0 mP cP l k)
 go_enter Tryz.func27, Tryz.ntmps27
 go_wp2
 go_loopw [1, 5] (fun kk i w' => ∃ (n : Nat) (z : Int), i = .int .i64 (n : Int) /\ kk = .int .i64 z /\ n <= l.length /\ 1 <= z /\ z <= 100000000 /\ Hid (z = k + (Qak cP (l.take n) : Int)) /\ Below w.heap.size w w') (fun _ i _ => l.length - (intOf i).toNat)
 case atStart => exact ⟨0, k, rfl, rfl, by omega, hk, by omega, by simp [Hid, Qak], Below.refl _ _⟩
 case round =>
  obtain ⟨n, z, rfl, rfl, hn, hz1, hz2, hz, hbl⟩ := hrel
  by_cases hlt : n < l.length
  . have hml := HML.out
    obtain ⟨b, o, rfl, hbs, hin⟩ : ∃ b o, A = some ⟨b, o, none⟩ /\ b < w.heap.size /\ In w b o (marked mP cP l k) := by
     rcases HA.out with h | h
     . rw [h] at hml; simp at hml; omega
     . exact h
    have hmn : n < (marked mP cP l k).length := by omega
    have hge := Qd1 mP cP l n hlt k hmn
    rw [← hz.out] at hge
    obtain ⟨c0, c1, c2, c3, c4, c5, c6, c7, c8, c9⟩ := (hin.below hbs hbl).getRpC n hmn
    have hat := (HE.out _ (List.getElem_mem hmn)).below hbl
    rw [hge] at c0 c1 c2 c3 c4 c5 c6 c7 c8 c9 hat
    have hit := Hs.out _ (List.getElem_mem hlt)
    have hcn : Qak cP (l.take n) + cP l[n] <= 50000000 := by rw [← Qa5 cP l n hlt]; exact Nat.le_trans (Qda cP l (n + 1)) Hc.out
    have Hsn := hidP (Qa5 cP l n hlt)
    generalize hx : l[n] = x at c0 c1 c2 c3 c4 c5 c6 c7 c8 c9 hit hcn hat Hsn
    obtain ⟨k0, k1, k2, k3, k4, k5, k6, xA, xc, xi, ko, sn⟩ := x
    simp only [mP, Qbg] at c0 c1 c2 c3 c4 c5 c6 c7 c8 c9 hit hat
    have a2 : z + 2 = z + 1 + 1 := by omega
    have a3 : z + 3 = z + 1 + 1 + 1 := by omega
    have a4 : z + 4 = z + 1 + 1 + 1 + 1 := by omega
    have a5 : z + 5 = z + 1 + 1 + 1 + 1 + 1 := by omega
    have a6 : z + 6 = z + 1 + 1 + 1 + 1 + 1 + 1 := by omega
    have a7 : z + 7 = z + 1 + 1 + 1 + 1 + 1 + 1 + 1 := by omega
    rw [a2] at c2
    rw [a3] at c3
    rw [a4] at c4
    rw [a5] at c5
    rw [a6] at c6
    rw [a7] at c8 c9 hat
    have HAt : Hid (xi.length = 0 ∨ ∃ b o, xA = some ⟨b, o, none⟩ /\ b < wr.heap.size /\ In wr b o (Qbk xi.length (z + 1 + 1 + 1 + 1 + 1 + 1 + 1))) := by
     rcases hat with h | h
     . exact .inl (by have := congrArg List.length h; simpa [Qbg] using this)
     . exact .inr h
    have Hcn := hidP hcn
    have hzc : z + 9 <= 100000000 := by
     have h3 := hz.out; have h4 := Hcn.out; simp only [cP] at h4; omega
    have hlim : xi.length * 9 + 9 <= 50000000 := by have := Hcn.out; simp only [cP] at this; omega
    clear hml hge hx hcn hat a2 a3 a4 a5 a6 a7
    have hb1 : b < wr.heap.size := Nat.lt_of_lt_of_le hbs hbl.size
    obtain ⟨Z, hZ⟩ : ∃ Z, z + 1 + 1 + 1 + 1 + 1 + 1 + 1 + (xi.length : Int) * 9 = Z := ⟨_, rfl⟩
    have hneg : ¬ Z < 0 := by omega
    have hZ1 : 1 <= Z := by omega
    have hZ2 : Z <= 150000000 := by have h4 := Hcn.out; simp only [cP] at h4; have := hz.out; omega
    have HZ := hidP hZ
    have HE9 := hidP (Qe5 xA xc xi.length (z + 1 + 1 + 1 + 1 + 1 + 1 + 1) (by omega) (by omega) (by omega) wr HAt.out)
    rw [hZ] at HE9 c8 c9
    clear hZ
    go_wp2_with fail
    refine HE9.out.mono ?_
    rintro e w1 ⟨rfl, g1⟩
    have e8 : w1.cell? ⟨b, o + n * 10 + 8, none⟩ = some (.bool (Z % 3 == 0)) := ((Qax g1).1 _ _ hb1).trans c8
    have e9 : w1.cell? ⟨b, o + n * 10 + 9, none⟩ = some (.string (Items.markZ (Z + 1))) := ((Qax g1).1 _ _ hb1).trans c9
    have hb2 : b < w1.heap.size := Nat.lt_of_lt_of_le hb1 g1.size
    clear c0 c1 c2 c3 c4 c5 c6 c7 c8 c9 HE9
    go_wp2_with fail
    go_region_held3 (fun w' => w'.cell? ⟨b, o + n * 10 + 9, none⟩ = some (.string (Items.markZ (Z + 1))))
     (first | (exact (k1' _ _ hb2).trans e9) | assumption | go_keep)
     (first | (go_at_call 62; refine (Items.markText_at (Z + 1) (by omega) (by omega) _).mono ?_; rintro e w2 ⟨rfl, g2⟩; obtain ⟨k1', m1'⟩ := Qax g2))
    all_goals
     go_wp2
     have hz' := hz.out
     refine ⟨⟨n + 1, Z + 1 + 1, by go_num, rfl, by omega, by omega, ?_, ?_, via0 g2 (Below.drew (via0 g1 hbl))⟩, by simp [intOf]; omega⟩
     . have h4 := Hcn.out; simp only [cP] at h4; have := HZ.out; have := hz.out; omega
     . show _ = _; rw [Hsn.out, ← HZ.out, hz']; simp only [cP]; omega
  . obtain rfl : n = l.length := by omega
    go_wp2
    go_ret
    have e := hz.out
    rw [Qcr cP l _ (Nat.le_refl _)] at e
    subst e
    exact ⟨rfl, hbl⟩
end Go.Proofs.YtenhcjkkpnlbeaaGreatDoor.Gen
namespace Go.Proofs.YtenhcjkkpnlbeaaGreatDoor.Gen
open ChangeShapes WideShapes ChangeAt RowKit Joins Deep Base
theorem sub_sl {α : Type} [Cel α] {w : World} {a : Option Addr} {l : List α} {S : Nat -> Prop} (h : Sub w a l S) : ∃ F, Sl w a l F /\ ∀ b ∈ F, S b := by
 rcases h with h | ⟨b, o, e, hS, hb, hi, ht⟩
 . exact ⟨[], .inl ⟨h, rfl⟩, by simp⟩
 . exact ⟨[b], .inr ⟨b, o, e, rfl, hb, hi, ht⟩, by simpa using hS⟩
theorem sl_sub {α : Type} [Cel α] {w : World} {a : Option Addr} {l : List α} {F : List Nat} {S : Nat -> Prop} (h : Sl w a l F) (hF : ∀ b ∈ F, S b) : Sub w a l S := by
 rcases h with ⟨h, _⟩ | ⟨b, o, e, rfl, hb, hi, ht⟩
 . exact .inl h
 . exact .inr ⟨b, o, e, hF b (by simp), hb, hi, ht⟩
theorem mark_bools (a : Option Addr) (cap : Nat) (l : List Bool) (S : Nat -> Prop) (k : Int) (hk : 1 <= k) (hk' : k <= 100000000) (hl : l.length <= 2000000) (w : World) (h : Sub w a l S) :
 Calls Tryz.prog 60 #[.slice a l.length cap, .int .i64 k] w fun e w' => e = .returned (.int .i64 (k + (l.length : Int))) /\ Offp S w w' /\ Sub w' a (Qbc l.length k) S := by
 rcases h with rfl | ⟨b, o, rfl, hS, hb, hi, ht⟩
 . refine (Qjb a cap k w).mono ?_
   rintro e w' ⟨rfl, rfl⟩
   exact ⟨by simp, Offp.refl _ _, .inl rfl⟩
 . refine (Qld b o cap l.length k hk hk' hl w hb ht).mono ?_
   rintro e w' ⟨rfl, ko, hin, hth⟩
   exact ⟨rfl, (Offp.of_only ko).mono (fun x e => e ▸ hS), .inr ⟨b, o, rfl, hS, Nat.lt_of_lt_of_le hb ko.size, hin, by rw [Qbx]; exact hth⟩⟩
theorem Qk3 (a : Option Addr) (cap : Nat) (l : List RpC) (S : Nat -> Prop) (k : Int) (hk : 1 <= k) (hk' : k <= 50000000) (hc : Qak cP l <= 50000000) (hl : l.length <= 1048576) (hs : ∀ x ∈ l, x.l.length <= 1048576) (w : World) (h : Own rpcP w a l S) :
 Calls Tryz.prog 22 #[.slice a l.length cap, .int .i64 k] w fun e w' => e = .returned (.int .i64 (k + (Qak cP l : Int))) /\ Offp S w w' /\ Own rpcP w' a (marked mP cP l k) S := by
 rcases h with rfl | ⟨b, o, fp, rfl, hS, hf, hO⟩
 . have : Calls Tryz.prog 22 #[.slice a 0 cap, .int .i64 k] w fun e w' => e = .returned (.int .i64 k) /\ w' = w := by
    go_enter Tryz.func22, Tryz.ntmps22
    go_wp2
    go_loopw [1, 5] (fun kk i w' => kk = .int .i64 k /\ i = .int .i64 0 /\ w' = w) (fun _ _ _ => 0)
    case atStart => exact ⟨rfl, rfl, rfl⟩
    case round =>
     obtain ⟨rfl, rfl, rfl⟩ := hrel
     go_wp2
     go_ret
     exact ⟨rfl, rfl⟩
   refine this.mono ?_
   rintro e w' ⟨rfl, rfl⟩
   exact ⟨by simp [Qak], Offp.refl _ _, .inl rfl⟩
 . refine (Qk7 b o cap l fp k hk hk' hc hl hs w hO).mono ?_
   rintro e w' ⟨rfl, ko, hO'⟩
   exact ⟨rfl, ko.mono (fun x hx => by rcases hx with rfl | ⟨i, hx⟩; exact hS; exact hf i x hx), .inr ⟨b, o, fp, rfl, hS, hf, hO'⟩⟩
end Go.Proofs.YtenhcjkkpnlbeaaGreatDoor.Gen
