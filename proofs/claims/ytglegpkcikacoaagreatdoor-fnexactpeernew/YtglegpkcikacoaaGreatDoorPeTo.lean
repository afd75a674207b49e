/-
  A node made anew: what the laws' toPeer answers, in memory of its own. No condition but the sizes of its lists.
-/
import Derived.Test.YtglegpkcikacoaaGreatDoorPeC
import Derived.Deep.Cut
set_option linter.unusedVariables false
set_option linter.unusedSimpArgs false
set_option maxRecDepth 100000
set_option maxHeartbeats 8000000
namespace Go.Proofs.YtglegpkcikacoaaGreatDoor.Gen
open ChangeShapes WideShapes ChangeAt RowKit Joins Deep Base
structure PCol (W : World) (p : PC) (S : Nat -> Prop) (col : Nat -> Nat) : Prop where
  l : Sub W p.A p.l (fun b => S b /\ col b = 1)
  x : KOwn W p.x (fun b => S b /\ col b = 2)
  v : Sub W p.vA p.vs (fun b => S b /\ col b = 3)
  n : Sub W p.nA p.ns (fun b => S b /\ col b = 4)
  q : Sub W p.pA p.ps (fun b => S b /\ col b = 5)
  y : KOwn W p.y (fun b => S b /\ col b = 6)
  d : Sub W p.dA p.db (fun b => S b /\ col b = 7)
  h : Own rpcP W p.hA p.hs (fun b => S b /\ col b = 8)
def POwn (W : World) (p : PC) (S : Nat -> Prop) : Prop := ∃ col, PCol W p S col
theorem POwn.at {W : World} {p : PC} {S : Nat -> Prop} (h : POwn W p S) : PAt W p := by
 obtain ⟨_, h⟩ := h
 exact ⟨h.l.at, h.x.at, h.v.at, h.n.at, h.q.at, h.y.at, h.d.at, h.h.at, rpcP_each h.h⟩
theorem POwn.offp {W W' : World} {p : PC} {S T : Nat -> Prop} (h : POwn W p S) (k : Offp T W W') (hd : ∀ b, S b -> ¬ T b) : POwn W' p S := by
 obtain ⟨c, h⟩ := h
 exact ⟨c, h.l.offp k (fun b hb => hd b hb.1), h.x.offp k (fun b hb => hd b hb.1), h.v.offp k (fun b hb => hd b hb.1), h.n.offp k (fun b hb => hd b hb.1), h.q.offp k (fun b hb => hd b hb.1), h.y.offp k (fun b hb => hd b hb.1), h.d.offp k (fun b hb => hd b hb.1), h.h.offp Qaq k (fun b hb => hd b hb.1)⟩
theorem POwn.below {W W' : World} {p : PC} {S : Nat -> Prop} (h : POwn W p S) (g : Below W.heap.size W W') : POwn W' p S := h.offp (Offp.of_below (S := fun _ => False) g) (fun _ _ e => e)
def Qgs (p : PC) (v : Value) : Array Value := #[.int .i64 p.id, .int .i64 p.te, .int .i64 p.vo, .int .i64 p.base, .int .i64 p.bt, .slice p.A p.l.length p.cap, .slice p.x.rA p.x.rs.length p.x.rc, .slice p.x.mA p.x.ms.length p.x.mc, .slice p.x.gA p.x.gs.length p.x.gc, .int .i64 p.x.time, .slice p.x.dA p.x.ds.length p.x.dc, .slice p.x.lA p.x.ls.length p.x.lc, .int .i64 p.role, .slice p.vA p.vs.length p.vc, .slice p.nA p.ns.length p.nc, .slice p.pA p.ps.length p.pc, .int .i64 p.com, .slice p.y.rA p.y.rs.length p.y.rc, .slice p.y.mA p.y.ms.length p.y.mc, .slice p.y.gA p.y.gs.length p.y.gc, .int .i64 p.y.time, .slice p.y.dA p.y.ds.length p.y.dc, .slice p.y.lA p.y.ls.length p.y.lc, .slice p.dA p.db.length p.dc, .int .i64 p.su, v]
def heldV (p : PC) : Value := .slice p.hA p.hs.length p.hc
def Qak (p : PC) : Array Value := Qgs p (heldV p)
theorem Qce (p : PC) : (Qak p).all (·.oneCell') = true := by simp [Qak, Qgs, heldV, Value.oneCell']
structure SameP (q p : PC) : Prop where
  id : q.id = p.id
  te : q.te = p.te
  vo : q.vo = p.vo
  base : q.base = p.base
  bt : q.bt = p.bt
  l : q.l = p.l
  x : q.x.p = p.x.p
  role : q.role = p.role
  vs : q.vs = p.vs
  ns : q.ns = p.ns
  ps : q.ps = p.ps
  com : q.com = p.com
  y : q.y.p = p.y.p
  db : q.db = p.db
  su : q.su = p.su
  hs : q.hs.map RpC.p = p.hs.map RpC.p
theorem SameP.refl (p : PC) : SameP p p := ⟨rfl, rfl, rfl, rfl, rfl, rfl, rfl, rfl, rfl, rfl, rfl, rfl, rfl, rfl, rfl, rfl⟩
theorem SameP.trans {a b c : PC} (h : SameP a b) (k : SameP b c) : SameP a c := ⟨h.id.trans k.id, h.te.trans k.te, h.vo.trans k.vo, h.base.trans k.base, h.bt.trans k.bt, h.l.trans k.l, h.x.trans k.x, h.role.trans k.role, h.vs.trans k.vs, h.ns.trans k.ns, h.ps.trans k.ps, h.com.trans k.com, h.y.trans k.y, h.db.trans k.db, h.su.trans k.su, h.hs.trans k.hs⟩
theorem SameP.symm {a b : PC} (h : SameP a b) : SameP b a := ⟨h.id.symm, h.te.symm, h.vo.symm, h.base.symm, h.bt.symm, h.l.symm, h.x.symm, h.role.symm, h.vs.symm, h.ns.symm, h.ps.symm, h.com.symm, h.y.symm, h.db.symm, h.su.symm, h.hs.symm⟩
def cP (x : RpC) : Nat := 9 + x.l.length * 9
def mP (x : RpC) (z : Int) : RpC := ⟨z, z + 1, z + 2, z + 3, z + 4, z + 5, z + 6, x.A, x.cap, Qal x.l.length (z + 7), ((z + 7 + (x.l.length : Int) * 9) % 3 == 0), Items.markZ (z + 7 + (x.l.length : Int) * 9 + 1)⟩
theorem mark_ents (a : Option Addr) (cap : Nat) (l : List En) (S : Nat -> Prop) (k : Int) (hk : 1 <= k) (hk' : k <= 100000000) (hl : l.length <= 3000000) (w : World) (h : Sub w a l S) :
 Calls Tryz.prog 69 #[.slice a l.length cap, .int .i64 k] w fun e w' => e = .returned (.int .i64 (k + (l.length : Int) * 9)) /\ Offp S w w' /\ Sub w' a (Qal l.length k) S := by
 rcases h with rfl | ⟨b, o, rfl, hS, hb, hi, ht⟩
 . refine (Qeg a cap k w).mono ?_
   rintro e w' ⟨rfl, rfl⟩
   exact ⟨by simp, Offp.refl _ _, .inl rfl⟩
 . refine (Qdk b o cap l.length k hk hk' hl w hb ht).mono ?_
   rintro e w' ⟨rfl, ko, hin, hth⟩
   exact ⟨rfl, (Offp.of_only ko).mono (fun x e => e ▸ hS), .inr ⟨b, o, rfl, hS, Nat.lt_of_lt_of_le hb ko.size, hin, by rw [Qax]; exact hth⟩⟩
theorem Qir (b o cap : Nat) (l : List RpC) (fp : Nat -> Nat -> Prop) (k : Int) (hk : 1 <= k) (hk' : k <= 50000000) (hc : Qac cP l <= 50000000) (hl : l.length <= 1048576) (hs : ∀ x ∈ l, x.l.length <= 1048576) (w : World) (hO : OwnF rpcP w b o l fp) :
 Calls Tryz.prog 31 #[.slice (some ⟨b, o, none⟩) l.length cap, .int .i64 k] w fun e w' => e = .returned (.int .i64 (k + (Qac cP l : Int))) /\ Offp (fun x => x = b ∨ ∃ i, fp i x) w w' /\ OwnF rpcP w' b o (marked mP cP l k) fp := by
 have HO := hidP hO
 have Hs := hidP hs
 have Hc := hidP hc
 clear hO hs hc
 go_enter Tryz.func31, Tryz.ntmps31
 go_wp2
 go_loopw [1, 5] (fun kk i w' => ∃ (n : Nat) (z : Int), i = .int .i64 (n : Int) /\ kk = .int .i64 z /\ n <= l.length /\ 1 <= z /\ z <= 100000000 /\ Hid (z = k + (Qac cP (l.take n) : Int)) /\ Hid (Offp (fun x => x = b ∨ ∃ i, fp i x) w w') /\ Hid (OwnF rpcP w' b o (half mP cP l k n) fp)) (fun _ i _ => l.length - (intOf i).toNat)
 case atStart => exact ⟨0, k, rfl, rfl, by omega, hk, by omega, by simp [Hid, Qac], Offp.refl _ _, by rw [Qdz]; exact HO.out⟩
 case round =>
  obtain ⟨n, z, rfl, rfl, hn, hz1, hz2, hz, hoff, hown⟩ := hrel
  by_cases hlt : n < l.length
  . have hhl := Qc3 mP cP l k n
    have hge := Qeu mP cP l k n hlt (by omega)
    have hit := Hs.out _ (List.getElem_mem hlt)
    obtain ⟨c0, c1, c2, c3, c4, c5, c6, c7, c8, c9⟩ := hown.out.lst.getRpC n (by omega)
    have hth := hown.out.th
    rw [hhl] at hth
    obtain ⟨_, f0⟩ := Qaf (f := 0) hth hlt (by decide)
    obtain ⟨_, f1⟩ := Qaf (f := 1) hth hlt (by decide)
    obtain ⟨_, f2⟩ := Qaf (f := 2) hth hlt (by decide)
    obtain ⟨_, f3⟩ := Qaf (f := 3) hth hlt (by decide)
    obtain ⟨_, f4⟩ := Qaf (f := 4) hth hlt (by decide)
    obtain ⟨_, f5⟩ := Qaf (f := 5) hth hlt (by decide)
    obtain ⟨_, f6⟩ := Qaf (f := 6) hth hlt (by decide)
    simp only [Nat.add_zero, show Cel.k RpC = 10 from rfl] at f0 f1 f2 f3 f4 f5 f6
    rw [hge] at c0 c1 c2 c3 c4 c5 c6 c7 c8 c9
    have hsu := Qd0 mP cP l k n hlt
    rw [← hz.out] at hsu
    have hcn : Qac cP (l.take n) + cP l[n] <= 50000000 := by rw [← Qas cP l n hlt]; exact Nat.le_trans (Qcl cP l (n + 1)) Hc.out
    have Hsn := hidP (Qas cP l n hlt)
    generalize hx : l[n] = x at c0 c1 c2 c3 c4 c5 c6 c7 c8 c9 hit hsu hcn hge Hsn
    obtain ⟨k0, k1, k2, k3, k4, k5, k6, xA, xc, xi, ko, sn⟩ := x
    simp only at c0 c1 c2 c3 c4 c5 c6 c7 c8 c9 hit
    have O1 := hown.out.set1 Qaq n (by omega) ⟨z, k1, k2, k3, k4, k5, k6, xA, xc, xi, ko, sn⟩ 0 (by decide) (.int .i64 z) (by rw [hge]; rfl) (fun W S h => by rw [hge] at h; exact h)
    have O2 := O1.set1 Qaq n (by simp; omega) ⟨z, z + 1, k2, k3, k4, k5, k6, xA, xc, xi, ko, sn⟩ 1 (by decide) (.int .i64 (z + 1)) (by rw [List.getElem_set_self]; rfl) (fun W S h => by rw [List.getElem_set_self] at h; exact h)
    have O3 := O2.set1 Qaq n (by simp; omega) ⟨z, z + 1, z + 1 + 1, k3, k4, k5, k6, xA, xc, xi, ko, sn⟩ 2 (by decide) (.int .i64 (z + 1 + 1)) (by rw [List.getElem_set_self]; rfl) (fun W S h => by rw [List.getElem_set_self] at h; exact h)
    have O4 := O3.set1 Qaq n (by simp; omega) ⟨z, z + 1, z + 1 + 1, z + 1 + 1 + 1, k4, k5, k6, xA, xc, xi, ko, sn⟩ 3 (by decide) (.int .i64 (z + 1 + 1 + 1)) (by rw [List.getElem_set_self]; rfl) (fun W S h => by rw [List.getElem_set_self] at h; exact h)
    have O5 := O4.set1 Qaq n (by simp; omega) ⟨z, z + 1, z + 1 + 1, z + 1 + 1 + 1, z + 1 + 1 + 1 + 1, k5, k6, xA, xc, xi, ko, sn⟩ 4 (by decide) (.int .i64 (z + 1 + 1 + 1 + 1)) (by rw [List.getElem_set_self]; rfl) (fun W S h => by rw [List.getElem_set_self] at h; exact h)
    have O6 := O5.set1 Qaq n (by simp; omega) ⟨z, z + 1, z + 1 + 1, z + 1 + 1 + 1, z + 1 + 1 + 1 + 1, z + 1 + 1 + 1 + 1 + 1, k6, xA, xc, xi, ko, sn⟩ 5 (by decide) (.int .i64 (z + 1 + 1 + 1 + 1 + 1)) (by rw [List.getElem_set_self]; rfl) (fun W S h => by rw [List.getElem_set_self] at h; exact h)
    have O7 := O6.set1 Qaq n (by simp; omega) ⟨z, z + 1, z + 1 + 1, z + 1 + 1 + 1, z + 1 + 1 + 1 + 1, z + 1 + 1 + 1 + 1 + 1, z + 1 + 1 + 1 + 1 + 1 + 1, xA, xc, xi, ko, sn⟩ 6 (by decide) (.int .i64 (z + 1 + 1 + 1 + 1 + 1 + 1)) (by rw [List.getElem_set_self]; rfl) (fun W S h => by rw [List.getElem_set_self] at h; exact h)
    simp only [Nat.add_zero, show Cel.k RpC = 10 from rfl, List.set_set] at O1 O2 O3 O4 O5 O6 O7
    have Hhl := hidP hhl
    have Hsu := hidP hsu
    have Hcn := hidP hcn
    have HO4 := hidP O7
    have hsub := O7.sub n (by simp; omega)
    rw [List.getElem_set_self] at hsub
    have Hsub := hidP hsub
    have hz' := hz.out
    have hzc : z + 9 <= 100000000 := by
     have h3 := Hcn.out; simp only [cP] at h3; omega
    have hlim : xi.length * 9 + 9 <= 50000000 := by have := Hcn.out; simp only [cP] at this; omega
    clear hx hhl hsu hcn O1 O2 O3 O4 O5 O6 O7 hsub hge hth hz'
    go_wp2_with fail
    refine (mark_ents xA xc xi (fp n) _ (by omega) (by omega) (by omega) _ Hsub.out).mono ?_
    rintro e w1 ⟨rfl, ko1, hsb⟩
    have O5 := HO4.out.turn Qaq n (by rw [List.length_set]; have := Hhl.out; omega) ⟨z, z + 1, z + 1 + 1, z + 1 + 1 + 1, z + 1 + 1 + 1 + 1, z + 1 + 1 + 1 + 1 + 1, z + 1 + 1 + 1 + 1 + 1 + 1, xA, xc, Qal xi.length (z + 1 + 1 + 1 + 1 + 1 + 1 + 1), ko, sn⟩ (by rw [List.getElem_set_self]; show [Value.int .i64 z, .int .i64 (z + 1), .int .i64 (z + 1 + 1), .int .i64 (z + 1 + 1 + 1), .int .i64 (z + 1 + 1 + 1 + 1), .int .i64 (z + 1 + 1 + 1 + 1 + 1), .int .i64 (z + 1 + 1 + 1 + 1 + 1 + 1), .slice xA (Qal xi.length (z + 1 + 1 + 1 + 1 + 1 + 1 + 1)).length xc, .bool ko, .string sn] = _; rw [Qax]; rfl) ko1 hsb
    rw [List.set_set] at O5
    have HO5 := hidP O5
    have hoff5 := hidP (((((((((hoff.out).set (.inl rfl) _ _).set (.inl rfl) _ _).set (.inl rfl) _ _).set (.inl rfl) _ _).set (.inl rfl) _ _).set (.inl rfl) _ _).set (.inl rfl) _ _).trans (ko1.mono (fun x hx => .inr ⟨n, hx⟩)))
    obtain ⟨Z, hZ⟩ : ∃ Z, z + 1 + 1 + 1 + 1 + 1 + 1 + 1 + (xi.length : Int) * 9 = Z := ⟨_, rfl⟩
    have HZ := hidP hZ
    rw [hZ]
    have hZ1 : 1 <= Z := by omega
    have hZ2 : Z <= 150000000 := by have h4 := Hcn.out; simp only [cP] at h4; have := hz.out; omega
    clear ko1 hsb O5 hZ c0 c1 c2 c3 c4 c5 c6 c7 c8 c9 f0 f1 f2 f3 f4 f5 f6
    have hlen5 : n < ((half mP cP l k n).set n ⟨z, z + 1, z + 1 + 1, z + 1 + 1 + 1, z + 1 + 1 + 1 + 1, z + 1 + 1 + 1 + 1 + 1, z + 1 + 1 + 1 + 1 + 1 + 1, xA, xc, Qal xi.length (z + 1 + 1 + 1 + 1 + 1 + 1 + 1), ko, sn⟩).length := by rw [List.length_set]; have := Hhl.out; omega
    have q5 := HO5.out.lt
    have e8 : w1.cell? ⟨b, o + n * 10 + 8, none⟩ = some (.bool ko) := HO5.out.lst.cell n hlen5 (f := 8) (v := .bool ko) (by rw [List.getElem_set_self]; rfl)
    have f8 := (Qaf (f := 8) HO5.out.th hlen5 (by decide)).2
    simp only [show Cel.k RpC = 10 from rfl] at f8
    have O6 := HO5.out.set1 Qaq n hlen5 ⟨z, z + 1, z + 1 + 1, z + 1 + 1 + 1, z + 1 + 1 + 1 + 1, z + 1 + 1 + 1 + 1 + 1, z + 1 + 1 + 1 + 1 + 1 + 1, xA, xc, Qal xi.length (z + 1 + 1 + 1 + 1 + 1 + 1 + 1), (Z % 3 == 0), sn⟩ 8 (by decide) (.bool (Z % 3 == 0)) (by rw [List.getElem_set_self]; rfl) (fun W S h => by rw [List.getElem_set_self] at h; exact h)
    simp only [show Cel.k RpC = 10 from rfl, List.set_set] at O6
    have HO6 := hidP O6
    have hoff6 := hidP (hoff5.out.set (b := b) (.inl rfl) (o + n * 10 + 8) (.bool (Z % 3 == 0)))
    have hlen6 : n < ((half mP cP l k n).set n ⟨z, z + 1, z + 1 + 1, z + 1 + 1 + 1, z + 1 + 1 + 1 + 1, z + 1 + 1 + 1 + 1 + 1, z + 1 + 1 + 1 + 1 + 1 + 1, xA, xc, Qal xi.length (z + 1 + 1 + 1 + 1 + 1 + 1 + 1), (Z % 3 == 0), sn⟩).length := by rw [List.length_set]; have := Hhl.out; omega
    clear O6 HO5 hoff5 hlen5
    go_wp2_with fail
    refine (Items.markText_at (Z + 1) (by omega) (by omega) _).mono ?_
    rintro e w2 ⟨rfl, g2⟩
    have O7 := HO6.out.below Qaq g2
    have e9 : w2.cell? ⟨b, o + n * 10 + 9, none⟩ = some (.string sn) := O7.lst.cell n hlen6 (f := 9) (v := .string sn) (by rw [List.getElem_set_self]; rfl)
    have f9 := (Qaf (f := 9) O7.th hlen6 (by decide)).2
    simp only [show Cel.k RpC = 10 from rfl] at f9
    have qb := O7.lt
    have O8 := O7.set1 Qaq n hlen6 ⟨z, z + 1, z + 1 + 1, z + 1 + 1 + 1, z + 1 + 1 + 1 + 1, z + 1 + 1 + 1 + 1 + 1, z + 1 + 1 + 1 + 1 + 1 + 1, xA, xc, Qal xi.length (z + 1 + 1 + 1 + 1 + 1 + 1 + 1), (Z % 3 == 0), Items.markZ (Z + 1)⟩ 9 (by decide) (.string (Items.markZ (Z + 1))) (by rw [List.getElem_set_self]; rfl) (fun W S h => by rw [List.getElem_set_self] at h; exact h)
    simp only [show Cel.k RpC = 10 from rfl, List.set_set] at O8
    have hmN : (⟨z, z + 1, z + 1 + 1, z + 1 + 1 + 1, z + 1 + 1 + 1 + 1, z + 1 + 1 + 1 + 1 + 1, z + 1 + 1 + 1 + 1 + 1 + 1, xA, xc, Qal xi.length (z + 1 + 1 + 1 + 1 + 1 + 1 + 1), (Z % 3 == 0), Items.markZ (Z + 1)⟩ : RpC) = mP ⟨k0, k1, k2, k3, k4, k5, k6, xA, xc, xi, ko, sn⟩ z := by
     have a2 : z + 1 + 1 = z + 2 := by omega
     have a3 : z + 2 + 1 = z + 3 := by omega
     have a4 : z + 3 + 1 = z + 4 := by omega
     have a5 : z + 4 + 1 = z + 5 := by omega
     have a6 : z + 5 + 1 = z + 6 := by omega
     have a7 : z + 6 + 1 = z + 7 := by omega
     simp only [mP, a2, a3, a4, a5, a6, a7]
     rw [← HZ.out]
     simp only [a2, a3, a4, a5, a6, a7]
    rw [hmN, ← Hsu.out] at O8
    have HO8 := hidP O8
    have hoff7 := hidP ((hoff6.out.below g2).set (b := b) (.inl rfl) (o + n * 10 + 9) (.string (Items.markZ (Z + 1))))
    clear O7 O8 HO6 hoff6 g2 HO4 Hsub hmN hlen6 e8 f8 q5
    go_wp2
    have hz' := hz.out
    refine ⟨⟨n + 1, Z + 1 + 1, by go_num, rfl, by omega, by omega, ?_, ?_, hoff7, HO8⟩, by simp [intOf]; omega⟩
    . have h4 := Hcn.out; simp only [cP] at h4; have := HZ.out; have := hz.out; omega
    . show _ = _; rw [Hsn.out, ← HZ.out, hz']; simp only [cP]; omega
  . obtain rfl : n = l.length := by omega
    go_wp2
    go_ret
    have e := hz.out
    rw [Qb6 cP l _ (Nat.le_refl _)] at e
    have hh := hown.out
    rw [Qev mP cP l k _ (Nat.le_refl _)] at hh
    subst e
    exact ⟨rfl, hoff.out, hh⟩
theorem Qi5 (A : Option Addr) (cap : Nat) (l : List RpC) (k : Int) (hk : 1 <= k) (hk' : k <= 50000000) (hc : Qac cP l <= 50000000) (hl : l.length <= 1048576) (hs : ∀ x ∈ l, x.l.length <= 1048576) (w : World) (hA : At w A (marked mP cP l k)) (hE : EachP w (marked mP cP l k)) :
 Calls Tryz.prog 37 #[.slice A l.length cap, .int .i64 k] w fun e w' => e = .returned (.int .i64 (k + (Qac cP l : Int))) /\ Below w.heap.size w w' := by
 have HA := hidP hA
 have HE := hidP hE
 have Hs := hidP hs
 have Hc := hidP hc
 clear hA hE hs hc
 have HML := hidP (Qa8 mP cP l k)
 go_enter Tryz.func37, Tryz.ntmps37
 go_wp2
 go_loopw [1, 5] (fun kk i w' => ∃ (n : Nat) (z : Int), i = .int .i64 (n : Int) /\ kk = .int .i64 z /\ n <= l.length /\ 1 <= z /\ z <= 100000000 /\ Hid (z = k + (Qac cP (l.take n) : Int)) /\ Below w.heap.size w w') (fun _ i _ => l.length - (intOf i).toNat)
 case atStart => exact ⟨0, k, rfl, rfl, by omega, hk, by omega, by simp [Hid, Qac], Below.refl _ _⟩
 case round =>
  obtain ⟨n, z, rfl, rfl, hn, hz1, hz2, hz, hbl⟩ := hrel
  by_cases hlt : n < l.length
  . have hml := HML.out
    obtain ⟨b, o, rfl, hbs, hin⟩ : ∃ b o, A = some ⟨b, o, none⟩ /\ b < w.heap.size /\ In w b o (marked mP cP l k) := by
     rcases HA.out with h | h
     . rw [h] at hml; simp at hml; omega
     . exact h
    have hmn : n < (marked mP cP l k).length := by omega
    have hge := Qdf mP cP l n hlt k hmn
    rw [← hz.out] at hge
    obtain ⟨c0, c1, c2, c3, c4, c5, c6, c7, c8, c9⟩ := (hin.below hbs hbl).getRpC n hmn
    have hat := (HE.out _ (List.getElem_mem hmn)).below hbl
    rw [hge] at c0 c1 c2 c3 c4 c5 c6 c7 c8 c9 hat
    have hit := Hs.out _ (List.getElem_mem hlt)
    have hcn : Qac cP (l.take n) + cP l[n] <= 50000000 := by rw [← Qas cP l n hlt]; exact Nat.le_trans (Qcl cP l (n + 1)) Hc.out
    have Hsn := hidP (Qas cP l n hlt)
    generalize hx : l[n] = x at c0 c1 c2 c3 c4 c5 c6 c7 c8 c9 hit hcn hat Hsn
    obtain ⟨k0, k1, k2, k3, k4, k5, k6, xA, xc, xi, ko, sn⟩ := x
    simp only [mP, Qax] at c0 c1 c2 c3 c4 c5 c6 c7 c8 c9 hit hat
    have a2 : z + 2 = z + 1 + 1 := by omega
    have a3 : z + 3 = z + 1 + 1 + 1 := by omega
    have a4 : z + 4 = z + 1 + 1 + 1 + 1 := by omega
    have a5 : z + 5 = z + 1 + 1 + 1 + 1 + 1 := by omega
    have a6 : z + 6 = z + 1 + 1 + 1 + 1 + 1 + 1 := by omega
    have a7 : z + 7 = z + 1 + 1 + 1 + 1 + 1 + 1 + 1 := by omega
    rw [a2] at c2
    rw [a3] at c3
    rw [a4] at c4
    rw [a5] at c5
    rw [a6] at c6
    rw [a7] at c8 c9 hat
    have HAt : Hid (xi.length = 0 ∨ ∃ b o, xA = some ⟨b, o, none⟩ /\ b < wr.heap.size /\ In wr b o (Qal xi.length (z + 1 + 1 + 1 + 1 + 1 + 1 + 1))) := by
     rcases hat with h | h
     . exact .inl (by have := congrArg List.length h; simpa [Qax] using this)
     . exact .inr h
    have Hcn := hidP hcn
    have hzc : z + 9 <= 100000000 := by
     have h3 := hz.out; have h4 := Hcn.out; simp only [cP] at h4; omega
    have hlim : xi.length * 9 + 9 <= 50000000 := by have := Hcn.out; simp only [cP] at this; omega
    clear hml hge hx hcn hat a2 a3 a4 a5 a6 a7
    have hb1 : b < wr.heap.size := Nat.lt_of_lt_of_le hbs hbl.size
    obtain ⟨Z, hZ⟩ : ∃ Z, z + 1 + 1 + 1 + 1 + 1 + 1 + 1 + (xi.length : Int) * 9 = Z := ⟨_, rfl⟩
    have hneg : ¬ Z < 0 := by omega
    have hZ1 : 1 <= Z := by omega
    have hZ2 : Z <= 150000000 := by have h4 := Hcn.out; simp only [cP] at h4; have := hz.out; omega
    have HZ := hidP hZ
    have HE9 := hidP (Qdo xA xc xi.length (z + 1 + 1 + 1 + 1 + 1 + 1 + 1) (by omega) (by omega) (by omega) wr HAt.out)
    rw [hZ] at HE9 c8 c9
    clear hZ
    go_wp2_with fail
    refine HE9.out.mono ?_
    rintro e w1 ⟨rfl, g1⟩
    have e8 : w1.cell? ⟨b, o + n * 10 + 8, none⟩ = some (.bool (Z % 3 == 0)) := ((Qaj g1).1 _ _ hb1).trans c8
    have e9 : w1.cell? ⟨b, o + n * 10 + 9, none⟩ = some (.string (Items.markZ (Z + 1))) := ((Qaj g1).1 _ _ hb1).trans c9
    have hb2 : b < w1.heap.size := Nat.lt_of_lt_of_le hb1 g1.size
    clear c0 c1 c2 c3 c4 c5 c6 c7 c8 c9 HE9
    go_wp2_with fail
    go_region_held3 (fun w' => w'.cell? ⟨b, o + n * 10 + 9, none⟩ = some (.string (Items.markZ (Z + 1))))
     (first | (exact (k1' _ _ hb2).trans e9) | assumption | go_keep)
     (first | (go_at_call 70; refine (Items.markText_at (Z + 1) (by omega) (by omega) _).mono ?_; rintro e w2 ⟨rfl, g2⟩; obtain ⟨k1', m1'⟩ := Qaj g2))
    all_goals
     go_wp2
     have hz' := hz.out
     refine ⟨⟨n + 1, Z + 1 + 1, by go_num, rfl, by omega, by omega, ?_, ?_, via0 g2 (Below.drew (via0 g1 hbl))⟩, by simp [intOf]; omega⟩
     . have h4 := Hcn.out; simp only [cP] at h4; have := HZ.out; have := hz.out; omega
     . show _ = _; rw [Hsn.out, ← HZ.out, hz']; simp only [cP]; omega
  . obtain rfl : n = l.length := by omega
    go_wp2
    go_ret
    have e := hz.out
    rw [Qb6 cP l _ (Nat.le_refl _)] at e
    subst e
    exact ⟨rfl, hbl⟩
theorem sub_sl {α : Type} [Cel α] {w : World} {a : Option Addr} {l : List α} {S : Nat -> Prop} (h : Sub w a l S) : ∃ F, Sl w a l F /\ ∀ b ∈ F, S b := by
 rcases h with h | ⟨b, o, e, hS, hb, hi, ht⟩
 . exact ⟨[], .inl ⟨h, rfl⟩, by simp⟩
 . exact ⟨[b], .inr ⟨b, o, e, rfl, hb, hi, ht⟩, by simpa using hS⟩
theorem sl_sub {α : Type} [Cel α] {w : World} {a : Option Addr} {l : List α} {F : List Nat} {S : Nat -> Prop} (h : Sl w a l F) (hF : ∀ b ∈ F, S b) : Sub w a l S := by
 rcases h with ⟨h, _⟩ | ⟨b, o, e, rfl, hb, hi, ht⟩
 . exact .inl h
 . exact .inr ⟨b, o, e, hF b (by simp), hb, hi, ht⟩
theorem Qeo {α : Type} [Cel α] {w : World} {a : Option Addr} {l : List α} {S : Nat -> Prop} {n : Nat} (h : Sub w a l S) (hn : l.length = n) : n = 0 ∨ ∃ b o, a = some ⟨b, o, none⟩ /\ b < w.heap.size /\ In w b o l := by
 rcases h with h | ⟨b, o, e, hS, hb, hi, ht⟩
 . left; rw [← hn, h]; rfl
 . exact .inr ⟨b, o, e, hb, hi⟩
theorem mark_bools (a : Option Addr) (cap : Nat) (l : List Bool) (S : Nat -> Prop) (k : Int) (hk : 1 <= k) (hk' : k <= 100000000) (hl : l.length <= 2000000) (w : World) (h : Sub w a l S) :
 Calls Tryz.prog 27 #[.slice a l.length cap, .int .i64 k] w fun e w' => e = .returned (.int .i64 (k + (l.length : Int))) /\ Offp S w w' /\ Sub w' a (Qao l.length k) S := by
 rcases h with rfl | ⟨b, o, rfl, hS, hb, hi, ht⟩
 . refine (Qg5 a cap k w).mono ?_
   rintro e w' ⟨rfl, rfl⟩
   exact ⟨by simp, Offp.refl _ _, .inl rfl⟩
 . refine (Qiy b o cap l.length k hk hk' hl w hb ht).mono ?_
   rintro e w' ⟨rfl, ko, hin, hth⟩
   exact ⟨rfl, (Offp.of_only ko).mono (fun x e => e ▸ hS), .inr ⟨b, o, rfl, hS, Nat.lt_of_lt_of_le hb ko.size, hin, by rw [Qbo]; exact hth⟩⟩
theorem mark_rpcs (a : Option Addr) (cap : Nat) (l : List RpC) (S : Nat -> Prop) (k : Int) (hk : 1 <= k) (hk' : k <= 50000000) (hc : Qac cP l <= 50000000) (hl : l.length <= 1048576) (hs : ∀ x ∈ l, x.l.length <= 1048576) (w : World) (h : Own rpcP w a l S) :
 Calls Tryz.prog 31 #[.slice a l.length cap, .int .i64 k] w fun e w' => e = .returned (.int .i64 (k + (Qac cP l : Int))) /\ Offp S w w' /\ Own rpcP w' a (marked mP cP l k) S := by
 rcases h with rfl | ⟨b, o, fp, rfl, hS, hf, hO⟩
 . have : Calls Tryz.prog 31 #[.slice a 0 cap, .int .i64 k] w fun e w' => e = .returned (.int .i64 k) /\ w' = w := by
    go_enter Tryz.func31, Tryz.ntmps31
    go_wp2
    go_loopw [1, 5] (fun kk i w' => kk = .int .i64 k /\ i = .int .i64 0 /\ w' = w) (fun _ _ _ => 0)
    case atStart => exact ⟨rfl, rfl, rfl⟩
    case round =>
     obtain ⟨rfl, rfl, rfl⟩ := hrel
     go_wp2
     go_ret
     exact ⟨rfl, rfl⟩
   refine this.mono ?_
   rintro e w' ⟨rfl, rfl⟩
   exact ⟨by simp [Qac], Offp.refl _ _, .inl rfl⟩
 . refine (Qir b o cap l fp k hk hk' hc hl hs w hO).mono ?_
   rintro e w' ⟨rfl, ko, hO'⟩
   exact ⟨rfl, ko.mono (fun x hx => by rcases hx with rfl | ⟨i, hx⟩; exact hS; exact hf i x hx), .inr ⟨b, o, fp, rfl, hS, hf, hO'⟩⟩
def pz1 (p : PC) : Int := 1 + (p.l.length : Int) * 9 + (kct p.x : Int)
def pz2 (p : PC) : Int := pz1 p + (p.vs.length : Int)
def pz3 (p : PC) : Int := pz2 p + (p.ns.length : Int)
def pz4 (p : PC) : Int := pz3 p + (p.ps.length : Int)
def pz5 (p : PC) : Int := pz4 p + (kct p.y : Int)
def pz6 (p : PC) : Int := pz5 p + (p.db.length : Int)
def pz7 (p : PC) : Int := pz6 p + (Qac cP p.hs : Int)
def mPe (p : PC) : PC := { p with l := Qal p.l.length 1, x := mK p.x (1 + (p.l.length : Int) * 9), vs := Qao p.vs.length (pz1 p), ns := Qae p.ns.length (pz2 p), ps := Qae p.ps.length (pz3 p), y := mK p.y (pz4 p), db := Qbg p.db.length (pz5 p), hs := marked mP cP p.hs (pz6 p) }
theorem cP_of (l : List RpC) : Qac cP l <= 9 * l.length + 9 * Qac (fun z : RpC => z.l.length) l := Qjm cP (fun z : RpC => z.l.length) 9 9 l (fun y _ => by simp only [cP]; omega)
theorem pz_le {p : PC} (hf : PFit p) : (1 <= pz1 p /\ pz1 p <= 10000000) /\ (1 <= pz2 p /\ pz2 p <= 10000000) /\ (1 <= pz3 p /\ pz3 p <= 10000000) /\ (1 <= pz4 p /\ pz4 p <= 10000000) /\ (1 <= pz5 p /\ pz5 p <= 10000000) /\ (1 <= pz6 p /\ pz6 p <= 10000000) /\ (1 <= pz7 p /\ pz7 p <= 10000000) /\ Qac cP p.hs <= 10000000 := by
 have h := hf.tot
 have c := cP_of p.hs
 unfold pz7 pz6 pz5 pz4 pz3 pz2 pz1
 refine ⟨⟨?_, ?_⟩, ⟨?_, ?_⟩, ⟨?_, ?_⟩, ⟨?_, ?_⟩, ⟨?_, ?_⟩, ⟨?_, ?_⟩, ⟨?_, ?_⟩, ?_⟩<;>omega
theorem Qit (p : PC) (hf : PFit p) (S : Nat -> Prop) (w : World) (hlt : ∀ b, S b -> b < w.heap.size) (h : POwn w p S) :
 Calls Tryz.prog 8 #[.agg #[.int .i64 p.id, .int .i64 p.te, .int .i64 p.vo, .int .i64 p.base, .int .i64 p.bt, .slice p.A p.l.length p.cap, .slice p.x.rA p.x.rs.length p.x.rc, .slice p.x.mA p.x.ms.length p.x.mc, .slice p.x.gA p.x.gs.length p.x.gc, .int .i64 p.x.time, .slice p.x.dA p.x.ds.length p.x.dc, .slice p.x.lA p.x.ls.length p.x.lc, .int .i64 p.role, .slice p.vA p.vs.length p.vc, .slice p.nA p.ns.length p.nc, .slice p.pA p.ps.length p.pc, .int .i64 p.com, .slice p.y.rA p.y.rs.length p.y.rc, .slice p.y.mA p.y.ms.length p.y.mc, .slice p.y.gA p.y.gs.length p.y.gc, .int .i64 p.y.time, .slice p.y.dA p.y.ds.length p.y.dc, .slice p.y.lA p.y.ls.length p.y.lc, .slice p.dA p.db.length p.dc, .int .i64 p.su, .slice p.hA p.hs.length p.hc], .int .i64 1] w fun e w' => e = .returned (.int .i64 (pz7 p)) /\ Offp S w w' /\ POwn w' (mPe p) S := by
 obtain ⟨col, h⟩ := h
 obtain ⟨y1, y2, y3, y4, y5, y6, y7, yc⟩ := pz_le hf
 have C1 : Hid (∀ W : World, (∀ b, S b -> b < W.heap.size) -> Sub W p.A p.l (fun b => S b /\ col b = 1) -> KOwn W p.x (fun b => S b /\ col b = 2) -> Calls Tryz.prog 26 #[.agg #[.int .i64 p.te, .int .i64 p.vo, .int .i64 p.base, .int .i64 p.bt, .slice p.A p.l.length p.cap, .slice p.x.rA p.x.rs.length p.x.rc, .slice p.x.mA p.x.ms.length p.x.mc, .slice p.x.gA p.x.gs.length p.x.gc, .int .i64 p.x.time, .slice p.x.dA p.x.ds.length p.x.dc, .slice p.x.lA p.x.ls.length p.x.lc], .int .i64 1] W fun e w' => e = .returned (.int .i64 (pz1 p)) /\ Offp (fun b => (fun b => S b /\ col b = 1) b ∨ (fun b => S b /\ col b = 2) b) W w' /\ Sub w' p.A (Qal p.l.length 1) (fun b => S b /\ col b = 1) /\ KOwn w' (mK p.x (1 + (p.l.length : Int) * 9)) (fun b => S b /\ col b = 2)) := fun W hW hl hx => by
  obtain ⟨F, hs, hF⟩ := sub_sl hl
  refine (Qiw p.te p.vo p.base p.bt p.A p.cap p.l hf.ll p.x hf.xf F (fun b => S b /\ col b = 2) (fun b hb hn => absurd ((hF b hb).2.symm.trans hn.2) (by decide)) 1 (by omega) (by omega) W (fun b hb => hW b hb.1) hs hx).mono ?_
  rintro e w' ⟨e1, k1, s1, t1⟩
  exact ⟨e1, k1.mono (fun b hb => hb.elim (fun hb => .inl (hF b hb)) .inr), sl_sub s1 hF, t1⟩
 have C2 : Hid (∀ W : World, Sub W p.vA p.vs (fun b => S b /\ col b = 3) -> Calls Tryz.prog 27 #[.slice p.vA p.vs.length p.vc, .int .i64 (pz1 p)] W fun e w' => e = .returned (.int .i64 (pz2 p)) /\ Offp (fun b => S b /\ col b = 3) W w' /\ Sub w' p.vA (Qao p.vs.length (pz1 p)) (fun b => S b /\ col b = 3)) := fun W hs => mark_bools p.vA p.vc p.vs _ (pz1 p) y1.1 (by omega) (by have := hf.vl; omega) W hs
 have C3 : Hid (∀ W : World, Sub W p.nA p.ns (fun b => S b /\ col b = 4) -> Calls Tryz.prog 28 #[.slice p.nA p.ns.length p.nc, .int .i64 (pz2 p)] W fun e w' => e = .returned (.int .i64 (pz3 p)) /\ Offp (fun b => S b /\ col b = 4) W w' /\ Sub w' p.nA (Qae p.ns.length (pz2 p)) (fun b => S b /\ col b = 4)) := fun W hs => Qcw p.nA p.nc p.ns _ (pz2 p) y2.1 (by omega) (by have := hf.nl; omega) W hs
 have C4 : Hid (∀ W : World, Sub W p.pA p.ps (fun b => S b /\ col b = 5) -> Calls Tryz.prog 28 #[.slice p.pA p.ps.length p.pc, .int .i64 (pz3 p)] W fun e w' => e = .returned (.int .i64 (pz4 p)) /\ Offp (fun b => S b /\ col b = 5) W w' /\ Sub w' p.pA (Qae p.ps.length (pz3 p)) (fun b => S b /\ col b = 5)) := fun W hs => Qcw p.pA p.pc p.ps _ (pz3 p) y3.1 (by omega) (by have := hf.pl; omega) W hs
 have C5 : Hid (∀ W : World, (∀ b, S b -> b < W.heap.size) -> KOwn W p.y (fun b => S b /\ col b = 6) -> Calls Tryz.prog 29 #[.agg #[.slice p.y.rA p.y.rs.length p.y.rc, .slice p.y.mA p.y.ms.length p.y.mc, .slice p.y.gA p.y.gs.length p.y.gc, .int .i64 p.y.time, .slice p.y.dA p.y.ds.length p.y.dc, .slice p.y.lA p.y.ls.length p.y.lc], .int .i64 (pz4 p)] W fun e w' => e = .returned (.int .i64 (pz5 p)) /\ Offp (fun b => S b /\ col b = 6) W w' /\ KOwn w' (mK p.y (pz4 p)) (fun b => S b /\ col b = 6)) := fun W hW hs => Qeh p.y hf.yf _ (pz4 p) y4.1 y4.2 W (fun b hb => hW b hb.1) hs
 have C6 : Hid (∀ W : World, Sub W p.dA p.db (fun b => S b /\ col b = 7) -> Calls Tryz.prog 30 #[.agg #[.slice p.dA p.db.length p.dc, .int .i64 p.su], .int .i64 (pz5 p)] W fun e w' => e = .returned (.int .i64 (pz6 p)) /\ Offp (fun b => S b /\ col b = 7) W w' /\ Sub w' p.dA (Qbg p.db.length (pz5 p)) (fun b => S b /\ col b = 7)) := fun W hs => by
  obtain ⟨F, hs, hF⟩ := sub_sl hs
  refine (Qix p.su p.dA p.dc p.db (by have := hf.dl; omega) (pz5 p) y5.1 (by omega) F W hs).mono ?_
  rintro e w' ⟨e1, k1, s1⟩
  exact ⟨e1, (Offp.of_off k1).mono hF, sl_sub s1 hF⟩
 have C7 : Hid (∀ W : World, Own rpcP W p.hA p.hs (fun b => S b /\ col b = 8) -> Calls Tryz.prog 31 #[.slice p.hA p.hs.length p.hc, .int .i64 (pz6 p)] W fun e w' => e = .returned (.int .i64 (pz7 p)) /\ Offp (fun b => S b /\ col b = 8) W w' /\ Own rpcP w' p.hA (marked mP cP p.hs (pz6 p)) (fun b => S b /\ col b = 8)) := fun W hs => mark_rpcs p.hA p.hc p.hs _ (pz6 p) y6.1 (by omega) (by omega) hf.hl hf.hi W hs
 have Hlt : Hid (∀ b, S b -> b < w.heap.size) := hlt
 have P := hidP (Blk.new w 42 #[.int .i64 p.id, .int .i64 p.te, .int .i64 p.vo, .int .i64 p.base, .int .i64 p.bt, .slice p.A p.l.length p.cap, .slice p.x.rA p.x.rs.length p.x.rc, .slice p.x.mA p.x.ms.length p.x.mc, .slice p.x.gA p.x.gs.length p.x.gc, .int .i64 p.x.time, .slice p.x.dA p.x.ds.length p.x.dc, .slice p.x.lA p.x.ls.length p.x.lc, .int .i64 p.role, .slice p.vA p.vs.length p.vc, .slice p.nA p.ns.length p.nc, .slice p.pA p.ps.length p.pc, .int .i64 p.com, .slice p.y.rA p.y.rs.length p.y.rc, .slice p.y.mA p.y.ms.length p.y.mc, .slice p.y.gA p.y.gs.length p.y.gc, .int .i64 p.y.time, .slice p.y.dA p.y.ds.length p.y.dc, .slice p.y.lA p.y.ls.length p.y.lc, .slice p.dA p.db.length p.dc, .int .i64 p.su, .slice p.hA p.hs.length p.hc])
 have O := hidP (show Offp S w (w.alloc (.cells #[.int .i64 p.id, .int .i64 p.te, .int .i64 p.vo, .int .i64 p.base, .int .i64 p.bt, .slice p.A p.l.length p.cap, .slice p.x.rA p.x.rs.length p.x.rc, .slice p.x.mA p.x.ms.length p.x.mc, .slice p.x.gA p.x.gs.length p.x.gc, .int .i64 p.x.time, .slice p.x.dA p.x.ds.length p.x.dc, .slice p.x.lA p.x.ls.length p.x.lc, .int .i64 p.role, .slice p.vA p.vs.length p.vc, .slice p.nA p.ns.length p.nc, .slice p.pA p.ps.length p.pc, .int .i64 p.com, .slice p.y.rA p.y.rs.length p.y.rc, .slice p.y.mA p.y.ms.length p.y.mc, .slice p.y.gA p.y.gs.length p.y.gc, .int .i64 p.y.time, .slice p.y.dA p.y.ds.length p.y.dc, .slice p.y.lA p.y.ls.length p.y.lc, .slice p.dA p.db.length p.dc, .int .i64 p.su, .slice p.hA p.hs.length p.hc] 42)) from Offp.of_below (Qaa (Below.refl _ _) _))
 have g0 : Below w.heap.size w (w.alloc (.cells #[.int .i64 p.id, .int .i64 p.te, .int .i64 p.vo, .int .i64 p.base, .int .i64 p.bt, .slice p.A p.l.length p.cap, .slice p.x.rA p.x.rs.length p.x.rc, .slice p.x.mA p.x.ms.length p.x.mc, .slice p.x.gA p.x.gs.length p.x.gc, .int .i64 p.x.time, .slice p.x.dA p.x.ds.length p.x.dc, .slice p.x.lA p.x.ls.length p.x.lc, .int .i64 p.role, .slice p.vA p.vs.length p.vc, .slice p.nA p.ns.length p.nc, .slice p.pA p.ps.length p.pc, .int .i64 p.com, .slice p.y.rA p.y.rs.length p.y.rc, .slice p.y.mA p.y.ms.length p.y.mc, .slice p.y.gA p.y.gs.length p.y.gc, .int .i64 p.y.time, .slice p.y.dA p.y.ds.length p.y.dc, .slice p.y.lA p.y.ls.length p.y.lc, .slice p.dA p.db.length p.dc, .int .i64 p.su, .slice p.hA p.hs.length p.hc] 42)) := Qaa (Below.refl _ _) _
 have f1 := hidP (h.l.below g0)
 have f2 := hidP (h.x.below g0)
 have f3 := hidP (h.v.below g0)
 have f4 := hidP (h.n.below g0)
 have f5 := hidP (h.q.below g0)
 have f6 := hidP (h.y.below g0)
 have f7 := hidP (h.d.below g0)
 have f8 := hidP (h.h.below Qaq g0)
 obtain ⟨a1, ha1⟩ : ∃ z, pz1 p = z := ⟨_, rfl⟩
 obtain ⟨a2, ha2⟩ : ∃ z, pz2 p = z := ⟨_, rfl⟩
 obtain ⟨a3, ha3⟩ : ∃ z, pz3 p = z := ⟨_, rfl⟩
 obtain ⟨a4, ha4⟩ : ∃ z, pz4 p = z := ⟨_, rfl⟩
 obtain ⟨a5, ha5⟩ : ∃ z, pz5 p = z := ⟨_, rfl⟩
 obtain ⟨a6, ha6⟩ : ∃ z, pz6 p = z := ⟨_, rfl⟩
 obtain ⟨a7, ha7⟩ : ∃ z, pz7 p = z := ⟨_, rfl⟩
 have HE : Hid (∀ W : World, Sub W p.A (Qal p.l.length 1) (fun b => S b /\ col b = 1) -> KOwn W (mK p.x (1 + (p.l.length : Int) * 9)) (fun b => S b /\ col b = 2) -> Sub W p.vA (Qao p.vs.length a1) (fun b => S b /\ col b = 3) -> Sub W p.nA (Qae p.ns.length a2) (fun b => S b /\ col b = 4) -> Sub W p.pA (Qae p.ps.length a3) (fun b => S b /\ col b = 5) -> KOwn W (mK p.y a4) (fun b => S b /\ col b = 6) -> Sub W p.dA (Qbg p.db.length a5) (fun b => S b /\ col b = 7) -> Own rpcP W p.hA (marked mP cP p.hs a6) (fun b => S b /\ col b = 8) -> POwn W (mPe p) S) := fun W q1 q2 q3 q4 q5 q6 q7 q8 => by subst ha1 ha2 ha3 ha4 ha5 ha6; exact ⟨col, q1, q2, q3, q4, q5, q6, q7, q8⟩
 rw [ha1] at C1
 rw [ha1, ha2] at C2
 rw [ha2, ha3] at C3
 rw [ha3, ha4] at C4
 rw [ha4, ha5] at C5
 rw [ha5, ha6] at C6
 rw [ha6, ha7] at C7
 rw [ha7]
 clear h hf hlt y1 y2 y3 y4 y5 y6 y7 yc ha1 ha2 ha3 ha4 ha5 ha6 ha7 g0
 go_enter Tryz.func8, Tryz.ntmps8
 have u1 := P.out.cell (i := 1) rfl
 have u2 := P.out.cell (i := 2) rfl
 have u2s := P.out.cell (i := 1 + 1) rfl
 have u3 := P.out.cell (i := 3) rfl
 have u3s := P.out.cell (i := 1 + 2) rfl
 have u4 := P.out.cell (i := 4) rfl
 have u4s := P.out.cell (i := 1 + 3) rfl
 have u5 := P.out.cell (i := 5) rfl
 have u5s := P.out.cell (i := 1 + 4) rfl
 have u6 := P.out.cell (i := 6) rfl
 have u6s := P.out.cell (i := 1 + 5) rfl
 have u7 := P.out.cell (i := 7) rfl
 have u7s := P.out.cell (i := 1 + 6) rfl
 have u8 := P.out.cell (i := 8) rfl
 have u8s := P.out.cell (i := 1 + 7) rfl
 have u9 := P.out.cell (i := 9) rfl
 have u9s := P.out.cell (i := 1 + 8) rfl
 have u10 := P.out.cell (i := 10) rfl
 have u10s := P.out.cell (i := 1 + 9) rfl
 have u11 := P.out.cell (i := 11) rfl
 have u11s := P.out.cell (i := 1 + 10) rfl
 have q0 := P.out.lt
 go_wp2_with fail
 refine (C1.out _ (fun b hb => Nat.lt_of_lt_of_le (Hlt.out b hb) O.out.size) f1.out f2.out).mono ?_
 rintro e w1 ⟨rfl, k, nf1, nf2⟩
 replace f1 := hidP nf1
 replace f2 := hidP nf2
 replace f3 := hidP (f3.out.offp k (fun b hb hn => hn.elim (fun hn => absurd (hb.2.symm.trans hn.2) (by decide)) (fun hn => absurd (hb.2.symm.trans hn.2) (by decide))))
 replace f4 := hidP (f4.out.offp k (fun b hb hn => hn.elim (fun hn => absurd (hb.2.symm.trans hn.2) (by decide)) (fun hn => absurd (hb.2.symm.trans hn.2) (by decide))))
 replace f5 := hidP (f5.out.offp k (fun b hb hn => hn.elim (fun hn => absurd (hb.2.symm.trans hn.2) (by decide)) (fun hn => absurd (hb.2.symm.trans hn.2) (by decide))))
 replace f6 := hidP (f6.out.offp k (fun b hb hn => hn.elim (fun hn => absurd (hb.2.symm.trans hn.2) (by decide)) (fun hn => absurd (hb.2.symm.trans hn.2) (by decide))))
 replace f7 := hidP (f7.out.offp k (fun b hb hn => hn.elim (fun hn => absurd (hb.2.symm.trans hn.2) (by decide)) (fun hn => absurd (hb.2.symm.trans hn.2) (by decide))))
 replace f8 := hidP (f8.out.offp Qaq k (fun b hb hn => hn.elim (fun hn => absurd (hb.2.symm.trans hn.2) (by decide)) (fun hn => absurd (hb.2.symm.trans hn.2) (by decide))))
 replace P := hidP (P.out.offp k (fun e => e.elim (fun e => Nat.lt_irrefl _ (Hlt.out _ e.1)) (fun e => Nat.lt_irrefl _ (Hlt.out _ e.1))))
 replace O := hidP (O.out.trans (k.mono (fun b hb => hb.elim (fun hb => hb.1) (fun hb => hb.1))))
 clear k q0 nf1 nf2 u1 u2 u2s u3 u3s u4 u4s u5 u5s u6 u6s u7 u7s u8 u8s u9 u9s u10 u10s u11 u11s
 have u13 := P.out.cell (i := 13) rfl
 have q0 := P.out.lt
 go_wp2_with fail
 refine (C2.out _ f3.out).mono ?_
 rintro e w2 ⟨rfl, k, nf3⟩
 replace f1 := hidP (f1.out.offp k (fun b hb hn => absurd (hb.2.symm.trans hn.2) (by decide)))
 replace f2 := hidP (f2.out.offp k (fun b hb hn => absurd (hb.2.symm.trans hn.2) (by decide)))
 replace f3 := hidP nf3
 replace f4 := hidP (f4.out.offp k (fun b hb hn => absurd (hb.2.symm.trans hn.2) (by decide)))
 replace f5 := hidP (f5.out.offp k (fun b hb hn => absurd (hb.2.symm.trans hn.2) (by decide)))
 replace f6 := hidP (f6.out.offp k (fun b hb hn => absurd (hb.2.symm.trans hn.2) (by decide)))
 replace f7 := hidP (f7.out.offp k (fun b hb hn => absurd (hb.2.symm.trans hn.2) (by decide)))
 replace f8 := hidP (f8.out.offp Qaq k (fun b hb hn => absurd (hb.2.symm.trans hn.2) (by decide)))
 replace P := hidP (P.out.offp k (fun e => Nat.lt_irrefl _ (Hlt.out _ e.1)))
 replace O := hidP (O.out.trans (k.mono (fun b hb => hb.1)))
 clear k q0 nf3 u13
 have u14 := P.out.cell (i := 14) rfl
 have q0 := P.out.lt
 go_wp2_with fail
 refine (C3.out _ f4.out).mono ?_
 rintro e w3 ⟨rfl, k, nf4⟩
 replace f1 := hidP (f1.out.offp k (fun b hb hn => absurd (hb.2.symm.trans hn.2) (by decide)))
 replace f2 := hidP (f2.out.offp k (fun b hb hn => absurd (hb.2.symm.trans hn.2) (by decide)))
 replace f3 := hidP (f3.out.offp k (fun b hb hn => absurd (hb.2.symm.trans hn.2) (by decide)))
 replace f4 := hidP nf4
 replace f5 := hidP (f5.out.offp k (fun b hb hn => absurd (hb.2.symm.trans hn.2) (by decide)))
 replace f6 := hidP (f6.out.offp k (fun b hb hn => absurd (hb.2.symm.trans hn.2) (by decide)))
 replace f7 := hidP (f7.out.offp k (fun b hb hn => absurd (hb.2.symm.trans hn.2) (by decide)))
 replace f8 := hidP (f8.out.offp Qaq k (fun b hb hn => absurd (hb.2.symm.trans hn.2) (by decide)))
 replace P := hidP (P.out.offp k (fun e => Nat.lt_irrefl _ (Hlt.out _ e.1)))
 replace O := hidP (O.out.trans (k.mono (fun b hb => hb.1)))
 clear k q0 nf4 u14
 have u15 := P.out.cell (i := 15) rfl
 have q0 := P.out.lt
 go_wp2_with fail
 refine (C4.out _ f5.out).mono ?_
 rintro e w4 ⟨rfl, k, nf5⟩
 replace f1 := hidP (f1.out.offp k (fun b hb hn => absurd (hb.2.symm.trans hn.2) (by decide)))
 replace f2 := hidP (f2.out.offp k (fun b hb hn => absurd (hb.2.symm.trans hn.2) (by decide)))
 replace f3 := hidP (f3.out.offp k (fun b hb hn => absurd (hb.2.symm.trans hn.2) (by decide)))
 replace f4 := hidP (f4.out.offp k (fun b hb hn => absurd (hb.2.symm.trans hn.2) (by decide)))
 replace f5 := hidP nf5
 replace f6 := hidP (f6.out.offp k (fun b hb hn => absurd (hb.2.symm.trans hn.2) (by decide)))
 replace f7 := hidP (f7.out.offp k (fun b hb hn => absurd (hb.2.symm.trans hn.2) (by decide)))
 replace f8 := hidP (f8.out.offp Qaq k (fun b hb hn => absurd (hb.2.symm.trans hn.2) (by decide)))
 replace P := hidP (P.out.offp k (fun e => Nat.lt_irrefl _ (Hlt.out _ e.1)))
 replace O := hidP (O.out.trans (k.mono (fun b hb => hb.1)))
 clear k q0 nf5 u15
 have u17 := P.out.cell (i := 17) rfl
 have u18 := P.out.cell (i := 18) rfl
 have u18s := P.out.cell (i := 17 + 1) rfl
 have u19 := P.out.cell (i := 19) rfl
 have u19s := P.out.cell (i := 17 + 2) rfl
 have u20 := P.out.cell (i := 20) rfl
 have u20s := P.out.cell (i := 17 + 3) rfl
 have u21 := P.out.cell (i := 21) rfl
 have u21s := P.out.cell (i := 17 + 4) rfl
 have u22 := P.out.cell (i := 22) rfl
 have u22s := P.out.cell (i := 17 + 5) rfl
 have q0 := P.out.lt
 go_wp2_with fail
 refine (C5.out _ (fun b hb => Nat.lt_of_lt_of_le (Hlt.out b hb) O.out.size) f6.out).mono ?_
 rintro e w5 ⟨rfl, k, nf6⟩
 replace f1 := hidP (f1.out.offp k (fun b hb hn => absurd (hb.2.symm.trans hn.2) (by decide)))
 replace f2 := hidP (f2.out.offp k (fun b hb hn => absurd (hb.2.symm.trans hn.2) (by decide)))
 replace f3 := hidP (f3.out.offp k (fun b hb hn => absurd (hb.2.symm.trans hn.2) (by decide)))
 replace f4 := hidP (f4.out.offp k (fun b hb hn => absurd (hb.2.symm.trans hn.2) (by decide)))
 replace f5 := hidP (f5.out.offp k (fun b hb hn => absurd (hb.2.symm.trans hn.2) (by decide)))
 replace f6 := hidP nf6
 replace f7 := hidP (f7.out.offp k (fun b hb hn => absurd (hb.2.symm.trans hn.2) (by decide)))
 replace f8 := hidP (f8.out.offp Qaq k (fun b hb hn => absurd (hb.2.symm.trans hn.2) (by decide)))
 replace P := hidP (P.out.offp k (fun e => Nat.lt_irrefl _ (Hlt.out _ e.1)))
 replace O := hidP (O.out.trans (k.mono (fun b hb => hb.1)))
 clear k q0 nf6 u17 u18 u18s u19 u19s u20 u20s u21 u21s u22 u22s
 have u23 := P.out.cell (i := 23) rfl
 have u24 := P.out.cell (i := 24) rfl
 have u24s := P.out.cell (i := 23 + 1) rfl
 have q0 := P.out.lt
 go_wp2_with fail
 refine (C6.out _ f7.out).mono ?_
 rintro e w6 ⟨rfl, k, nf7⟩
 replace f1 := hidP (f1.out.offp k (fun b hb hn => absurd (hb.2.symm.trans hn.2) (by decide)))
 replace f2 := hidP (f2.out.offp k (fun b hb hn => absurd (hb.2.symm.trans hn.2) (by decide)))
 replace f3 := hidP (f3.out.offp k (fun b hb hn => absurd (hb.2.symm.trans hn.2) (by decide)))
 replace f4 := hidP (f4.out.offp k (fun b hb hn => absurd (hb.2.symm.trans hn.2) (by decide)))
 replace f5 := hidP (f5.out.offp k (fun b hb hn => absurd (hb.2.symm.trans hn.2) (by decide)))
 replace f6 := hidP (f6.out.offp k (fun b hb hn => absurd (hb.2.symm.trans hn.2) (by decide)))
 replace f7 := hidP nf7
 replace f8 := hidP (f8.out.offp Qaq k (fun b hb hn => absurd (hb.2.symm.trans hn.2) (by decide)))
 replace P := hidP (P.out.offp k (fun e => Nat.lt_irrefl _ (Hlt.out _ e.1)))
 replace O := hidP (O.out.trans (k.mono (fun b hb => hb.1)))
 clear k q0 nf7 u23 u24 u24s
 have u25 := P.out.cell (i := 25) rfl
 have q0 := P.out.lt
 go_wp2_with fail
 refine (C7.out _ f8.out).mono ?_
 rintro e w7 ⟨rfl, k, nf8⟩
 replace f1 := hidP (f1.out.offp k (fun b hb hn => absurd (hb.2.symm.trans hn.2) (by decide)))
 replace f2 := hidP (f2.out.offp k (fun b hb hn => absurd (hb.2.symm.trans hn.2) (by decide)))
 replace f3 := hidP (f3.out.offp k (fun b hb hn => absurd (hb.2.symm.trans hn.2) (by decide)))
 replace f4 := hidP (f4.out.offp k (fun b hb hn => absurd (hb.2.symm.trans hn.2) (by decide)))
 replace f5 := hidP (f5.out.offp k (fun b hb hn => absurd (hb.2.symm.trans hn.2) (by decide)))
 replace f6 := hidP (f6.out.offp k (fun b hb hn => absurd (hb.2.symm.trans hn.2) (by decide)))
 replace f7 := hidP (f7.out.offp k (fun b hb hn => absurd (hb.2.symm.trans hn.2) (by decide)))
 replace f8 := hidP nf8
 replace P := hidP (P.out.offp k (fun e => Nat.lt_irrefl _ (Hlt.out _ e.1)))
 replace O := hidP (O.out.trans (k.mono (fun b hb => hb.1)))
 clear k q0 nf8 u25
 go_wp2
 go_ret
 exact ⟨rfl, O.out, HE.out _ f1.out f2.out f3.out f4.out f5.out f6.out f7.out f8.out⟩
theorem Qkl (su : Int) (a : Option Addr) (cap n : Nat) (k : Int) (hk : 1 <= k) (hk' : k <= 100000000) (hl : n <= 3000000) (w : World) (hs : n = 0 ∨ ∃ b o, a = some ⟨b, o, none⟩ /\ b < w.heap.size /\ In w b o (Qbg n k)) :
 Calls Tryz.prog 36 #[.agg #[.slice a n cap, .int .i64 su], .int .i64 k] w fun e w' => e = .returned (.int .i64 (k + (n : Int))) /\ Below w.heap.size w w' := by
 have HC : Hid (∀ ob : Obj, Calls Tryz.prog 76 #[.slice a n cap, .int .i64 k] (w.alloc ob) fun e w' => e = .returned (.int .i64 (k + (n : Int))) /\ Below (w.alloc ob).heap.size (w.alloc ob) w') := fun ob => heldB_any a cap n k hk hk' (by omega) _ (hs.imp id fun ⟨b, o, e, hb, hi⟩ => ⟨b, o, e, by simp; omega, hi.below hb (Qaa (Below.refl _ _) ob)⟩)
 clear hs
 have hp : ¬ k + (n : Int) < 0 := by omega
 generalize hz : k + (n : Int) = z at HC hp ⊢
 clear hz
 go_enter Tryz.func36, Tryz.ntmps36
 go_wp2_with fail
 refine (HC.out _).mono ?_
 rintro e w1 ⟨rfl, g1⟩
 go_wp2
 go_ret
 exact ⟨rfl, via0 g1 (Qaa (Below.refl _ _) _)⟩
theorem Qi7 (p : PC) (hf : PFit p) (S : Nat -> Prop) (w : World) (h : POwn w (mPe p) S) :
 Calls Tryz.prog 9 #[.agg #[.int .i64 p.id, .int .i64 p.te, .int .i64 p.vo, .int .i64 p.base, .int .i64 p.bt, .slice p.A p.l.length p.cap, .slice p.x.rA p.x.rs.length p.x.rc, .slice p.x.mA p.x.ms.length p.x.mc, .slice p.x.gA p.x.gs.length p.x.gc, .int .i64 p.x.time, .slice p.x.dA p.x.ds.length p.x.dc, .slice p.x.lA p.x.ls.length p.x.lc, .int .i64 p.role, .slice p.vA p.vs.length p.vc, .slice p.nA p.ns.length p.nc, .slice p.pA p.ps.length p.pc, .int .i64 p.com, .slice p.y.rA p.y.rs.length p.y.rc, .slice p.y.mA p.y.ms.length p.y.mc, .slice p.y.gA p.y.gs.length p.y.gc, .int .i64 p.y.time, .slice p.y.dA p.y.ds.length p.y.dc, .slice p.y.lA p.y.ls.length p.y.lc, .slice p.dA p.db.length p.dc, .int .i64 p.su, .slice p.hA p.hs.length p.hc], .int .i64 1] w fun e w' => e = .returned (.int .i64 (pz7 p)) /\ Below w.heap.size w w' := by
 have hat := h.at
 obtain ⟨col, h⟩ := h
 obtain ⟨y1, y2, y3, y4, y5, y6, y7, yc⟩ := pz_le hf
 have C1 : Hid (∀ W : World, Below w.heap.size w W -> Calls Tryz.prog 32 #[.agg #[.int .i64 p.te, .int .i64 p.vo, .int .i64 p.base, .int .i64 p.bt, .slice p.A p.l.length p.cap, .slice p.x.rA p.x.rs.length p.x.rc, .slice p.x.mA p.x.ms.length p.x.mc, .slice p.x.gA p.x.gs.length p.x.gc, .int .i64 p.x.time, .slice p.x.dA p.x.ds.length p.x.dc, .slice p.x.lA p.x.ls.length p.x.lc], .int .i64 1] W fun e w' => e = .returned (.int .i64 (pz1 p)) /\ Below W.heap.size W w') := fun W g => by
  obtain ⟨F, hs, hF⟩ := sub_sl (h.l.below g)
  exact Qi8 p.te p.vo p.base p.bt p.A p.cap p.l hf.ll p.x hf.xf F 1 (by omega) (by omega) W hs (hat.xa.below g)
 have C2 : Hid (∀ W : World, Below w.heap.size w W -> Calls Tryz.prog 33 #[.slice p.vA p.vs.length p.vc, .int .i64 (pz1 p)] W fun e w' => e = .returned (.int .i64 (pz2 p)) /\ Below W.heap.size W w') := fun W g => Qi9 p.vA p.vc p.vs.length (pz1 p) y1.1 (by omega) (by have := hf.vl; omega) W (Qeo (h.v.below g) (Qbo _ _))
 have C3 : Hid (∀ W : World, Below w.heap.size w W -> Calls Tryz.prog 34 #[.slice p.nA p.ns.length p.nc, .int .i64 (pz2 p)] W fun e w' => e = .returned (.int .i64 (pz3 p)) /\ Below W.heap.size W w') := fun W g => Qb3 p.nA p.nc p.ns.length (pz2 p) y2.1 (by omega) (by have := hf.nl; omega) W (Qeo (h.n.below g) (Qan _ _))
 have C4 : Hid (∀ W : World, Below w.heap.size w W -> Calls Tryz.prog 34 #[.slice p.pA p.ps.length p.pc, .int .i64 (pz3 p)] W fun e w' => e = .returned (.int .i64 (pz4 p)) /\ Below W.heap.size W w') := fun W g => Qb3 p.pA p.pc p.ps.length (pz3 p) y3.1 (by omega) (by have := hf.pl; omega) W (Qeo (h.q.below g) (Qan _ _))
 have C5 : Hid (∀ W : World, Below w.heap.size w W -> Calls Tryz.prog 35 #[.agg #[.slice p.y.rA p.y.rs.length p.y.rc, .slice p.y.mA p.y.ms.length p.y.mc, .slice p.y.gA p.y.gs.length p.y.gc, .int .i64 p.y.time, .slice p.y.dA p.y.ds.length p.y.dc, .slice p.y.lA p.y.ls.length p.y.lc], .int .i64 (pz4 p)] W fun e w' => e = .returned (.int .i64 (pz5 p)) /\ Below W.heap.size W w') := fun W g => Qel p.y hf.yf (pz4 p) y4.1 y4.2 W (hat.ya.below g)
 have C6 : Hid (∀ W : World, Below w.heap.size w W -> Calls Tryz.prog 36 #[.agg #[.slice p.dA p.db.length p.dc, .int .i64 p.su], .int .i64 (pz5 p)] W fun e w' => e = .returned (.int .i64 (pz6 p)) /\ Below W.heap.size W w') := fun W g => Qkl p.su p.dA p.dc p.db.length (pz5 p) y5.1 (by omega) (by have := hf.dl; omega) W (Qeo (h.d.below g) (Qb9 _ _))
 have C7 : Hid (∀ W : World, Below w.heap.size w W -> Calls Tryz.prog 37 #[.slice p.hA p.hs.length p.hc, .int .i64 (pz6 p)] W fun e w' => e = .returned (.int .i64 (pz7 p)) /\ Below W.heap.size W w') := fun W g => Qi5 p.hA p.hc p.hs (pz6 p) y6.1 (by omega) (by omega) hf.hl hf.hi W (hat.ha.below g) (hat.he.below g)
 have P := hidP (Blk.new w 42 #[.int .i64 p.id, .int .i64 p.te, .int .i64 p.vo, .int .i64 p.base, .int .i64 p.bt, .slice p.A p.l.length p.cap, .slice p.x.rA p.x.rs.length p.x.rc, .slice p.x.mA p.x.ms.length p.x.mc, .slice p.x.gA p.x.gs.length p.x.gc, .int .i64 p.x.time, .slice p.x.dA p.x.ds.length p.x.dc, .slice p.x.lA p.x.ls.length p.x.lc, .int .i64 p.role, .slice p.vA p.vs.length p.vc, .slice p.nA p.ns.length p.nc, .slice p.pA p.ps.length p.pc, .int .i64 p.com, .slice p.y.rA p.y.rs.length p.y.rc, .slice p.y.mA p.y.ms.length p.y.mc, .slice p.y.gA p.y.gs.length p.y.gc, .int .i64 p.y.time, .slice p.y.dA p.y.ds.length p.y.dc, .slice p.y.lA p.y.ls.length p.y.lc, .slice p.dA p.db.length p.dc, .int .i64 p.su, .slice p.hA p.hs.length p.hc])
 have B := hidP (show Below w.heap.size w (w.alloc (.cells #[.int .i64 p.id, .int .i64 p.te, .int .i64 p.vo, .int .i64 p.base, .int .i64 p.bt, .slice p.A p.l.length p.cap, .slice p.x.rA p.x.rs.length p.x.rc, .slice p.x.mA p.x.ms.length p.x.mc, .slice p.x.gA p.x.gs.length p.x.gc, .int .i64 p.x.time, .slice p.x.dA p.x.ds.length p.x.dc, .slice p.x.lA p.x.ls.length p.x.lc, .int .i64 p.role, .slice p.vA p.vs.length p.vc, .slice p.nA p.ns.length p.nc, .slice p.pA p.ps.length p.pc, .int .i64 p.com, .slice p.y.rA p.y.rs.length p.y.rc, .slice p.y.mA p.y.ms.length p.y.mc, .slice p.y.gA p.y.gs.length p.y.gc, .int .i64 p.y.time, .slice p.y.dA p.y.ds.length p.y.dc, .slice p.y.lA p.y.ls.length p.y.lc, .slice p.dA p.db.length p.dc, .int .i64 p.su, .slice p.hA p.hs.length p.hc] 42)) from Qaa (Below.refl _ _) _)
 have v1 : ¬ pz1 p < 0 := by omega
 have v2 : ¬ pz2 p < 0 := by omega
 have v3 : ¬ pz3 p < 0 := by omega
 have v4 : ¬ pz4 p < 0 := by omega
 have v5 : ¬ pz5 p < 0 := by omega
 have v6 : ¬ pz6 p < 0 := by omega
 have v7 : ¬ pz7 p < 0 := by omega
 generalize pz1 p = a1 at *
 generalize pz2 p = a2 at *
 generalize pz3 p = a3 at *
 generalize pz4 p = a4 at *
 generalize pz5 p = a5 at *
 generalize pz6 p = a6 at *
 generalize pz7 p = a7 at *
 clear h hat hf y1 y2 y3 y4 y5 y6 y7 yc
 go_enter Tryz.func9, Tryz.ntmps9
 have u1 := P.out.cell (i := 1) rfl
 have u2 := P.out.cell (i := 2) rfl
 have u2s := P.out.cell (i := 1 + 1) rfl
 have u3 := P.out.cell (i := 3) rfl
 have u3s := P.out.cell (i := 1 + 2) rfl
 have u4 := P.out.cell (i := 4) rfl
 have u4s := P.out.cell (i := 1 + 3) rfl
 have u5 := P.out.cell (i := 5) rfl
 have u5s := P.out.cell (i := 1 + 4) rfl
 have u6 := P.out.cell (i := 6) rfl
 have u6s := P.out.cell (i := 1 + 5) rfl
 have u7 := P.out.cell (i := 7) rfl
 have u7s := P.out.cell (i := 1 + 6) rfl
 have u8 := P.out.cell (i := 8) rfl
 have u8s := P.out.cell (i := 1 + 7) rfl
 have u9 := P.out.cell (i := 9) rfl
 have u9s := P.out.cell (i := 1 + 8) rfl
 have u10 := P.out.cell (i := 10) rfl
 have u10s := P.out.cell (i := 1 + 9) rfl
 have u11 := P.out.cell (i := 11) rfl
 have u11s := P.out.cell (i := 1 + 10) rfl
 have q0 := P.out.lt
 go_wp2_with fail
 refine (C1.out _ B.out).mono ?_
 rintro e w1 ⟨rfl, g⟩
 replace P := hidP (P.out.below g P.out.lt)
 replace B := hidP (via0 g B.out)
 clear g q0 u1 u2 u2s u3 u3s u4 u4s u5 u5s u6 u6s u7 u7s u8 u8s u9 u9s u10 u10s u11 u11s
 have u13 := P.out.cell (i := 13) rfl
 have q0 := P.out.lt
 go_wp2_with fail
 refine (C2.out _ B.out).mono ?_
 rintro e w2 ⟨rfl, g⟩
 replace P := hidP (P.out.below g P.out.lt)
 replace B := hidP (via0 g B.out)
 clear g q0 u13
 have u14 := P.out.cell (i := 14) rfl
 have q0 := P.out.lt
 go_wp2_with fail
 refine (C3.out _ B.out).mono ?_
 rintro e w3 ⟨rfl, g⟩
 replace P := hidP (P.out.below g P.out.lt)
 replace B := hidP (via0 g B.out)
 clear g q0 u14
 have u15 := P.out.cell (i := 15) rfl
 have q0 := P.out.lt
 go_wp2_with fail
 refine (C4.out _ B.out).mono ?_
 rintro e w4 ⟨rfl, g⟩
 replace P := hidP (P.out.below g P.out.lt)
 replace B := hidP (via0 g B.out)
 clear g q0 u15
 have u17 := P.out.cell (i := 17) rfl
 have u18 := P.out.cell (i := 18) rfl
 have u18s := P.out.cell (i := 17 + 1) rfl
 have u19 := P.out.cell (i := 19) rfl
 have u19s := P.out.cell (i := 17 + 2) rfl
 have u20 := P.out.cell (i := 20) rfl
 have u20s := P.out.cell (i := 17 + 3) rfl
 have u21 := P.out.cell (i := 21) rfl
 have u21s := P.out.cell (i := 17 + 4) rfl
 have u22 := P.out.cell (i := 22) rfl
 have u22s := P.out.cell (i := 17 + 5) rfl
 have q0 := P.out.lt
 go_wp2_with fail
 refine (C5.out _ B.out).mono ?_
 rintro e w5 ⟨rfl, g⟩
 replace P := hidP (P.out.below g P.out.lt)
 replace B := hidP (via0 g B.out)
 clear g q0 u17 u18 u18s u19 u19s u20 u20s u21 u21s u22 u22s
 have u23 := P.out.cell (i := 23) rfl
 have u24 := P.out.cell (i := 24) rfl
 have u24s := P.out.cell (i := 23 + 1) rfl
 have q0 := P.out.lt
 go_wp2_with fail
 refine (C6.out _ B.out).mono ?_
 rintro e w6 ⟨rfl, g⟩
 replace P := hidP (P.out.below g P.out.lt)
 replace B := hidP (via0 g B.out)
 clear g q0 u23 u24 u24s
 have u25 := P.out.cell (i := 25) rfl
 have q0 := P.out.lt
 go_wp2_with fail
 refine (C7.out _ B.out).mono ?_
 rintro e w7 ⟨rfl, g⟩
 replace P := hidP (P.out.below g P.out.lt)
 replace B := hidP (via0 g B.out)
 clear g q0 u25
 go_wp2
 go_ret
 exact ⟨rfl, B.out⟩
theorem Blk.row26 {W : World} {B : Nat} {t : TypeId} {v0 v1 v2 v3 v4 v5 v6 v7 v8 v9 v10 v11 v12 v13 v14 v15 v16 v17 v18 v19 v20 v21 v22 v23 v24 v25 : Value} (p : Blk W B t #[v0, v1, v2, v3, v4, v5, v6, v7, v8, v9, v10, v11, v12, v13, v14, v15, v16, v17, v18, v19, v20, v21, v22, v23, v24, v25]) :
 W.cell? ⟨B, 0, none⟩ = some v0 /\ W.cell? ⟨B, 1, none⟩ = some v1 /\ W.cell? ⟨B, 1 + 1, none⟩ = some v2 /\ W.cell? ⟨B, 1 + 2, none⟩ = some v3 /\ W.cell? ⟨B, 1 + 3, none⟩ = some v4 /\ W.cell? ⟨B, 1 + 4, none⟩ = some v5 /\ W.cell? ⟨B, 1 + 5, none⟩ = some v6 /\ W.cell? ⟨B, 1 + 6, none⟩ = some v7 /\ W.cell? ⟨B, 1 + 7, none⟩ = some v8 /\ W.cell? ⟨B, 1 + 8, none⟩ = some v9 /\ W.cell? ⟨B, 1 + 9, none⟩ = some v10 /\ W.cell? ⟨B, 1 + 10, none⟩ = some v11 /\ W.cell? ⟨B, 12, none⟩ = some v12 /\ W.cell? ⟨B, 13, none⟩ = some v13 /\ W.cell? ⟨B, 14, none⟩ = some v14 /\ W.cell? ⟨B, 15, none⟩ = some v15 /\ W.cell? ⟨B, 16, none⟩ = some v16 /\ W.cell? ⟨B, 17, none⟩ = some v17 /\ W.cell? ⟨B, 17 + 1, none⟩ = some v18 /\ W.cell? ⟨B, 17 + 2, none⟩ = some v19 /\ W.cell? ⟨B, 17 + 3, none⟩ = some v20 /\ W.cell? ⟨B, 17 + 4, none⟩ = some v21 /\ W.cell? ⟨B, 17 + 5, none⟩ = some v22 /\ W.cell? ⟨B, 23, none⟩ = some v23 /\ W.cell? ⟨B, 23 + 1, none⟩ = some v24 /\ W.cell? ⟨B, 25, none⟩ = some v25 :=
 ⟨p.cell (by rfl), p.cell (by rfl), p.cell (by rfl), p.cell (by rfl), p.cell (by rfl), p.cell (by rfl), p.cell (by rfl), p.cell (by rfl), p.cell (by rfl), p.cell (by rfl), p.cell (by rfl), p.cell (by rfl), p.cell (by rfl), p.cell (by rfl), p.cell (by rfl), p.cell (by rfl), p.cell (by rfl), p.cell (by rfl), p.cell (by rfl), p.cell (by rfl), p.cell (by rfl), p.cell (by rfl), p.cell (by rfl), p.cell (by rfl), p.cell (by rfl), p.cell (by rfl)⟩
theorem Qkp (id te vo base bt role com su : Int) (A A' vA vA' nA nA' pA pA' dA dA' hA0 hA0' : Option Addr) (cap cap' vc vc' nc nc' pc pc' dc dc' hc hc' : Nat) (l : List En) (vs : List Bool) (ns ps : List Int) (db : List UInt8) (hs hs' : List RpC) (x x' y y' : KC)
 (hl : l.length <= 9223372036854775807) (hvl : vs.length <= 9223372036854775807) (hnl : ns.length <= 9223372036854775807) (hpl : ps.length <= 9223372036854775807) (hdl : db.length <= 9223372036854775807) (hhl : hs.length <= 9223372036854775807) (hhr : ∀ z ∈ hs, z.l.length <= 9223372036854775807)
 (hfx : KFit x) (hpx : x'.p = x.p) (hfy : KFit y) (hpy : y'.p = y.p) (hhp : hs'.map RpC.p = hs.map RpC.p) (w : World)
 (hA : At w A l) (hA' : At w A' l) (hx : KAt w x) (hx' : KAt w x') (hV : At w vA vs) (hV' : At w vA' vs) (hN : At w nA ns) (hN' : At w nA' ns) (hP : At w pA ps) (hP' : At w pA' ps) (hy : KAt w y) (hy' : KAt w y') (hD : At w dA db) (hD' : At w dA' db) (hH : At w hA0 hs) (hE : EachP w hs) (hH' : At w hA0' hs') (hE' : EachP w hs') :
 Calls Tryz.prog 7 #[.agg #[.int .i64 id, .int .i64 te, .int .i64 vo, .int .i64 base, .int .i64 bt, .slice A l.length cap, .slice x.rA x.rs.length x.rc, .slice x.mA x.ms.length x.mc, .slice x.gA x.gs.length x.gc, .int .i64 x.time, .slice x.dA x.ds.length x.dc, .slice x.lA x.ls.length x.lc, .int .i64 role, .slice vA vs.length vc, .slice nA ns.length nc, .slice pA ps.length pc, .int .i64 com, .slice y.rA y.rs.length y.rc, .slice y.mA y.ms.length y.mc, .slice y.gA y.gs.length y.gc, .int .i64 y.time, .slice y.dA y.ds.length y.dc, .slice y.lA y.ls.length y.lc, .slice dA db.length dc, .int .i64 su, .slice hA0 hs.length hc], .agg #[.int .i64 id, .int .i64 te, .int .i64 vo, .int .i64 base, .int .i64 bt, .slice A' l.length cap', .slice x'.rA x'.rs.length x'.rc, .slice x'.mA x'.ms.length x'.mc, .slice x'.gA x'.gs.length x'.gc, .int .i64 x'.time, .slice x'.dA x'.ds.length x'.dc, .slice x'.lA x'.ls.length x'.lc, .int .i64 role, .slice vA' vs.length vc', .slice nA' ns.length nc', .slice pA' ps.length pc', .int .i64 com, .slice y'.rA y'.rs.length y'.rc, .slice y'.mA y'.ms.length y'.mc, .slice y'.gA y'.gs.length y'.gc, .int .i64 y'.time, .slice y'.dA y'.ds.length y'.dc, .slice y'.lA y'.ls.length y'.lc, .slice dA' db.length dc', .int .i64 su, .slice hA0' hs.length hc']] w fun e w' => e = .returned (.bool true) /\ Below w.heap.size w w' := by
 have E1 : Hid (∀ W : World, Below w.heap.size w W -> Calls Tryz.prog 20 #[.agg #[.int .i64 te, .int .i64 vo, .int .i64 base, .int .i64 bt, .slice A l.length cap, .slice x.rA x.rs.length x.rc, .slice x.mA x.ms.length x.mc, .slice x.gA x.gs.length x.gc, .int .i64 x.time, .slice x.dA x.ds.length x.dc, .slice x.lA x.ls.length x.lc], .agg #[.int .i64 te, .int .i64 vo, .int .i64 base, .int .i64 bt, .slice A' l.length cap', .slice x'.rA x'.rs.length x'.rc, .slice x'.mA x'.ms.length x'.mc, .slice x'.gA x'.gs.length x'.gc, .int .i64 x'.time, .slice x'.dA x'.ds.length x'.dc, .slice x'.lA x'.ls.length x'.lc]] W fun e w' => e = .returned (.bool true) /\ Below W.heap.size W w') := fun W g => Qks te vo base bt A A' cap cap' l hl x x' hfx hpx W (hA.below g) (hA'.below g) (hx.below g) (hx'.below g)
 have E2 : Hid (∀ W : World, Below w.heap.size w W -> Calls Tryz.prog 21 #[.slice vA vs.length vc, .slice vA' vs.length vc'] W fun e w' => e = .returned (.bool true) /\ Below W.heap.size W w') := fun W g => Qku vA vA' vc vc' vs hvl W (hV.below g) (hV'.below g)
 have E3 : Hid (∀ W : World, Below w.heap.size w W -> Calls Tryz.prog 22 #[.slice nA ns.length nc, .slice nA' ns.length nc'] W fun e w' => e = .returned (.bool true) /\ Below W.heap.size W w') := fun W g => Qcd nA nA' nc nc' ns hnl W (hN.below g) (hN'.below g)
 have E4 : Hid (∀ W : World, Below w.heap.size w W -> Calls Tryz.prog 22 #[.slice pA ps.length pc, .slice pA' ps.length pc'] W fun e w' => e = .returned (.bool true) /\ Below W.heap.size W w') := fun W g => Qcd pA pA' pc pc' ps hpl W (hP.below g) (hP'.below g)
 have E5 : Hid (∀ W : World, Below w.heap.size w W -> Calls Tryz.prog 23 #[.agg #[.slice y.rA y.rs.length y.rc, .slice y.mA y.ms.length y.mc, .slice y.gA y.gs.length y.gc, .int .i64 y.time, .slice y.dA y.ds.length y.dc, .slice y.lA y.ls.length y.lc], .agg #[.slice y'.rA y'.rs.length y'.rc, .slice y'.mA y'.ms.length y'.mc, .slice y'.gA y'.gs.length y'.gc, .int .i64 y'.time, .slice y'.dA y'.ds.length y'.dc, .slice y'.lA y'.ls.length y'.lc]] W fun e w' => e = .returned (.bool true) /\ Below W.heap.size W w') := fun W g => Qjh y y' hfy hpy W (hy.below g) (hy'.below g)
 have E6 : Hid (∀ W : World, Below w.heap.size w W -> Calls Tryz.prog 24 #[.agg #[.slice dA db.length dc, .int .i64 su], .agg #[.slice dA' db.length dc', .int .i64 su]] W fun e w' => e = .returned (.bool true) /\ Below W.heap.size W w') := fun W g => Qkt su dA dA' dc dc' db hdl W (hD.below g) (hD'.below g)
 have E7 : Hid (∀ W : World, Below w.heap.size w W -> Calls Tryz.prog 25 #[.slice hA0 hs.length hc, .slice hA0' hs.length hc'] W fun e w' => e = .returned (.bool true) /\ Below W.heap.size W w') := fun W g => Qkn hA0 hA0' hc hc' hs hs' hhl hhr hhp W (hH.below g) (hE.below g) (hH'.below g) (hE'.below g)
 clear hA hA' hx hx' hV hV' hN hN' hP hP' hy hy' hD hD' hH hE hH' hE' hl hvl hnl hpl hdl hhl hhr hfx hpx hfy hpy hhp
 have P0 : Blk ((w.alloc (.cells #[.int .i64 id, .int .i64 te, .int .i64 vo, .int .i64 base, .int .i64 bt, .slice A l.length cap, .slice x.rA x.rs.length x.rc, .slice x.mA x.ms.length x.mc, .slice x.gA x.gs.length x.gc, .int .i64 x.time, .slice x.dA x.ds.length x.dc, .slice x.lA x.ls.length x.lc, .int .i64 role, .slice vA vs.length vc, .slice nA ns.length nc, .slice pA ps.length pc, .int .i64 com, .slice y.rA y.rs.length y.rc, .slice y.mA y.ms.length y.mc, .slice y.gA y.gs.length y.gc, .int .i64 y.time, .slice y.dA y.ds.length y.dc, .slice y.lA y.ls.length y.lc, .slice dA db.length dc, .int .i64 su, .slice hA0 hs.length hc] 42)).alloc (.cells #[.int .i64 id, .int .i64 te, .int .i64 vo, .int .i64 base, .int .i64 bt, .slice A' l.length cap', .slice x'.rA x'.rs.length x'.rc, .slice x'.mA x'.ms.length x'.mc, .slice x'.gA x'.gs.length x'.gc, .int .i64 x'.time, .slice x'.dA x'.ds.length x'.dc, .slice x'.lA x'.ls.length x'.lc, .int .i64 role, .slice vA' vs.length vc', .slice nA' ns.length nc', .slice pA' ps.length pc', .int .i64 com, .slice y'.rA y'.rs.length y'.rc, .slice y'.mA y'.ms.length y'.mc, .slice y'.gA y'.gs.length y'.gc, .int .i64 y'.time, .slice y'.dA y'.ds.length y'.dc, .slice y'.lA y'.ls.length y'.lc, .slice dA' db.length dc', .int .i64 su, .slice hA0' hs.length hc'] 42)) w.heap.size 42 #[.int .i64 id, .int .i64 te, .int .i64 vo, .int .i64 base, .int .i64 bt, .slice A l.length cap, .slice x.rA x.rs.length x.rc, .slice x.mA x.ms.length x.mc, .slice x.gA x.gs.length x.gc, .int .i64 x.time, .slice x.dA x.ds.length x.dc, .slice x.lA x.ls.length x.lc, .int .i64 role, .slice vA vs.length vc, .slice nA ns.length nc, .slice pA ps.length pc, .int .i64 com, .slice y.rA y.rs.length y.rc, .slice y.mA y.ms.length y.mc, .slice y.gA y.gs.length y.gc, .int .i64 y.time, .slice y.dA y.ds.length y.dc, .slice y.lA y.ls.length y.lc, .slice dA db.length dc, .int .i64 su, .slice hA0 hs.length hc] := (Blk.new w _ _).alloc _
 have Q0 : Blk ((w.alloc (.cells #[.int .i64 id, .int .i64 te, .int .i64 vo, .int .i64 base, .int .i64 bt, .slice A l.length cap, .slice x.rA x.rs.length x.rc, .slice x.mA x.ms.length x.mc, .slice x.gA x.gs.length x.gc, .int .i64 x.time, .slice x.dA x.ds.length x.dc, .slice x.lA x.ls.length x.lc, .int .i64 role, .slice vA vs.length vc, .slice nA ns.length nc, .slice pA ps.length pc, .int .i64 com, .slice y.rA y.rs.length y.rc, .slice y.mA y.ms.length y.mc, .slice y.gA y.gs.length y.gc, .int .i64 y.time, .slice y.dA y.ds.length y.dc, .slice y.lA y.ls.length y.lc, .slice dA db.length dc, .int .i64 su, .slice hA0 hs.length hc] 42)).alloc (.cells #[.int .i64 id, .int .i64 te, .int .i64 vo, .int .i64 base, .int .i64 bt, .slice A' l.length cap', .slice x'.rA x'.rs.length x'.rc, .slice x'.mA x'.ms.length x'.mc, .slice x'.gA x'.gs.length x'.gc, .int .i64 x'.time, .slice x'.dA x'.ds.length x'.dc, .slice x'.lA x'.ls.length x'.lc, .int .i64 role, .slice vA' vs.length vc', .slice nA' ns.length nc', .slice pA' ps.length pc', .int .i64 com, .slice y'.rA y'.rs.length y'.rc, .slice y'.mA y'.ms.length y'.mc, .slice y'.gA y'.gs.length y'.gc, .int .i64 y'.time, .slice y'.dA y'.ds.length y'.dc, .slice y'.lA y'.ls.length y'.lc, .slice dA' db.length dc', .int .i64 su, .slice hA0' hs.length hc'] 42)) (w.heap.size + 1) 42 #[.int .i64 id, .int .i64 te, .int .i64 vo, .int .i64 base, .int .i64 bt, .slice A' l.length cap', .slice x'.rA x'.rs.length x'.rc, .slice x'.mA x'.ms.length x'.mc, .slice x'.gA x'.gs.length x'.gc, .int .i64 x'.time, .slice x'.dA x'.ds.length x'.dc, .slice x'.lA x'.ls.length x'.lc, .int .i64 role, .slice vA' vs.length vc', .slice nA' ns.length nc', .slice pA' ps.length pc', .int .i64 com, .slice y'.rA y'.rs.length y'.rc, .slice y'.mA y'.ms.length y'.mc, .slice y'.gA y'.gs.length y'.gc, .int .i64 y'.time, .slice y'.dA y'.ds.length y'.dc, .slice y'.lA y'.ls.length y'.lc, .slice dA' db.length dc', .int .i64 su, .slice hA0' hs.length hc'] := by have := Blk.new (w.alloc (.cells #[.int .i64 id, .int .i64 te, .int .i64 vo, .int .i64 base, .int .i64 bt, .slice A l.length cap, .slice x.rA x.rs.length x.rc, .slice x.mA x.ms.length x.mc, .slice x.gA x.gs.length x.gc, .int .i64 x.time, .slice x.dA x.ds.length x.dc, .slice x.lA x.ls.length x.lc, .int .i64 role, .slice vA vs.length vc, .slice nA ns.length nc, .slice pA ps.length pc, .int .i64 com, .slice y.rA y.rs.length y.rc, .slice y.mA y.ms.length y.mc, .slice y.gA y.gs.length y.gc, .int .i64 y.time, .slice y.dA y.ds.length y.dc, .slice y.lA y.ls.length y.lc, .slice dA db.length dc, .int .i64 su, .slice hA0 hs.length hc] 42)) 42 #[.int .i64 id, .int .i64 te, .int .i64 vo, .int .i64 base, .int .i64 bt, .slice A' l.length cap', .slice x'.rA x'.rs.length x'.rc, .slice x'.mA x'.ms.length x'.mc, .slice x'.gA x'.gs.length x'.gc, .int .i64 x'.time, .slice x'.dA x'.ds.length x'.dc, .slice x'.lA x'.ls.length x'.lc, .int .i64 role, .slice vA' vs.length vc', .slice nA' ns.length nc', .slice pA' ps.length pc', .int .i64 com, .slice y'.rA y'.rs.length y'.rc, .slice y'.mA y'.ms.length y'.mc, .slice y'.gA y'.gs.length y'.gc, .int .i64 y'.time, .slice y'.dA y'.ds.length y'.dc, .slice y'.lA y'.ls.length y'.lc, .slice dA' db.length dc', .int .i64 su, .slice hA0' hs.length hc']; rwa [World.size_alloc] at this
 have B0 : Below w.heap.size w ((w.alloc (.cells #[.int .i64 id, .int .i64 te, .int .i64 vo, .int .i64 base, .int .i64 bt, .slice A l.length cap, .slice x.rA x.rs.length x.rc, .slice x.mA x.ms.length x.mc, .slice x.gA x.gs.length x.gc, .int .i64 x.time, .slice x.dA x.ds.length x.dc, .slice x.lA x.ls.length x.lc, .int .i64 role, .slice vA vs.length vc, .slice nA ns.length nc, .slice pA ps.length pc, .int .i64 com, .slice y.rA y.rs.length y.rc, .slice y.mA y.ms.length y.mc, .slice y.gA y.gs.length y.gc, .int .i64 y.time, .slice y.dA y.ds.length y.dc, .slice y.lA y.ls.length y.lc, .slice dA db.length dc, .int .i64 su, .slice hA0 hs.length hc] 42)).alloc (.cells #[.int .i64 id, .int .i64 te, .int .i64 vo, .int .i64 base, .int .i64 bt, .slice A' l.length cap', .slice x'.rA x'.rs.length x'.rc, .slice x'.mA x'.ms.length x'.mc, .slice x'.gA x'.gs.length x'.gc, .int .i64 x'.time, .slice x'.dA x'.ds.length x'.dc, .slice x'.lA x'.ls.length x'.lc, .int .i64 role, .slice vA' vs.length vc', .slice nA' ns.length nc', .slice pA' ps.length pc', .int .i64 com, .slice y'.rA y'.rs.length y'.rc, .slice y'.mA y'.ms.length y'.mc, .slice y'.gA y'.gs.length y'.gc, .int .i64 y'.time, .slice y'.dA y'.ds.length y'.dc, .slice y'.lA y'.ls.length y'.lc, .slice dA' db.length dc', .int .i64 su, .slice hA0' hs.length hc'] 42)) := Qaa (Qaa (Below.refl _ w) _) _
 have H0 := hidP (And.intro B0 (And.intro P0 Q0))
 clear P0 Q0 B0
 go_enter Tryz.func7, Tryz.ntmps7
 go_wp2_with fail
 refine (E1.out _ H0.out.1).mono ?_
 rintro e w1 ⟨rfl, g1⟩
 have H1 := hidP (And.intro (via0 g1 H0.out.1) (And.intro (H0.out.2.1.below g1 H0.out.2.1.lt) (H0.out.2.2.below g1 H0.out.2.2.lt)))
 clear g1 H0 E1
 obtain ⟨-, -, -, -, -, -, -, -, -, -, -, -, c12, c13, -, -, -, -, -, -, -, -, -, -, -, -⟩ := H1.out.2.1.row26
 obtain ⟨-, -, -, -, -, -, -, -, -, -, -, -, d12, d13, -, -, -, -, -, -, -, -, -, -, -, -⟩ := H1.out.2.2.row26
 have q0 := H1.out.2.1.lt
 have q1 := H1.out.2.2.lt
 go_wp2_with fail
 refine (E2.out _ H1.out.1).mono ?_
 rintro e w2 ⟨rfl, g2⟩
 have H2 := hidP (And.intro (via0 g2 H1.out.1) (And.intro (H1.out.2.1.below g2 H1.out.2.1.lt) (H1.out.2.2.below g2 H1.out.2.2.lt)))
 clear q0 q1 c12 c13 d12 d13
 clear g2 H1 E2
 obtain ⟨-, -, -, -, -, -, -, -, -, -, -, -, -, -, c14, -, -, -, -, -, -, -, -, -, -, -⟩ := H2.out.2.1.row26
 obtain ⟨-, -, -, -, -, -, -, -, -, -, -, -, -, -, d14, -, -, -, -, -, -, -, -, -, -, -⟩ := H2.out.2.2.row26
 have q0 := H2.out.2.1.lt
 have q1 := H2.out.2.2.lt
 go_wp2_with fail
 refine (E3.out _ H2.out.1).mono ?_
 rintro e w3 ⟨rfl, g3⟩
 have H3 := hidP (And.intro (via0 g3 H2.out.1) (And.intro (H2.out.2.1.below g3 H2.out.2.1.lt) (H2.out.2.2.below g3 H2.out.2.2.lt)))
 clear q0 q1 c14 d14
 clear g3 H2 E3
 obtain ⟨-, -, -, -, -, -, -, -, -, -, -, -, -, -, -, c15, -, -, -, -, -, -, -, -, -, -⟩ := H3.out.2.1.row26
 obtain ⟨-, -, -, -, -, -, -, -, -, -, -, -, -, -, -, d15, -, -, -, -, -, -, -, -, -, -⟩ := H3.out.2.2.row26
 have q0 := H3.out.2.1.lt
 have q1 := H3.out.2.2.lt
 go_wp2_with fail
 refine (E4.out _ H3.out.1).mono ?_
 rintro e w4 ⟨rfl, g4⟩
 have H4 := hidP (And.intro (via0 g4 H3.out.1) (And.intro (H3.out.2.1.below g4 H3.out.2.1.lt) (H3.out.2.2.below g4 H3.out.2.2.lt)))
 clear q0 q1 c15 d15
 clear g4 H3 E4
 obtain ⟨-, -, -, -, -, -, -, -, -, -, -, -, -, -, -, -, c16, c17, c18, c19, c20, c21, c22, -, -, -⟩ := H4.out.2.1.row26
 obtain ⟨-, -, -, -, -, -, -, -, -, -, -, -, -, -, -, -, d16, d17, d18, d19, d20, d21, d22, -, -, -⟩ := H4.out.2.2.row26
 have q0 := H4.out.2.1.lt
 have q1 := H4.out.2.2.lt
 go_wp2_with fail
 refine (E5.out _ H4.out.1).mono ?_
 rintro e w5 ⟨rfl, g5⟩
 have H5 := hidP (And.intro (via0 g5 H4.out.1) (And.intro (H4.out.2.1.below g5 H4.out.2.1.lt) (H4.out.2.2.below g5 H4.out.2.2.lt)))
 clear q0 q1 c16 c17 c18 c19 c20 c21 c22 d16 d17 d18 d19 d20 d21 d22
 clear g5 H4 E5
 obtain ⟨-, -, -, -, -, -, -, -, -, -, -, -, -, -, -, -, -, -, -, -, -, -, -, c23, c24, -⟩ := H5.out.2.1.row26
 obtain ⟨-, -, -, -, -, -, -, -, -, -, -, -, -, -, -, -, -, -, -, -, -, -, -, d23, d24, -⟩ := H5.out.2.2.row26
 have q0 := H5.out.2.1.lt
 have q1 := H5.out.2.2.lt
 go_wp2_with fail
 refine (E6.out _ H5.out.1).mono ?_
 rintro e w6 ⟨rfl, g6⟩
 have H6 := hidP (And.intro (via0 g6 H5.out.1) (And.intro (H5.out.2.1.below g6 H5.out.2.1.lt) (H5.out.2.2.below g6 H5.out.2.2.lt)))
 clear q0 q1 c23 c24 d23 d24
 clear g6 H5 E6
 obtain ⟨-, -, -, -, -, -, -, -, -, -, -, -, -, -, -, -, -, -, -, -, -, -, -, -, -, c25⟩ := H6.out.2.1.row26
 obtain ⟨-, -, -, -, -, -, -, -, -, -, -, -, -, -, -, -, -, -, -, -, -, -, -, -, -, d25⟩ := H6.out.2.2.row26
 have q0 := H6.out.2.1.lt
 have q1 := H6.out.2.2.lt
 go_wp2_with fail
 refine (E7.out _ H6.out.1).mono ?_
 rintro e w7 ⟨rfl, g7⟩
 have H7 := hidP (And.intro (via0 g7 H6.out.1) (And.intro (H6.out.2.1.below g7 H6.out.2.1.lt) (H6.out.2.2.below g7 H6.out.2.2.lt)))
 clear q0 q1 c25 d25
 clear g7 H6 E7
 go_wp2
 go_ret
 exact ⟨rfl, H7.out.1⟩
section
variable {P : Program} {ops : Array Oper} {Q : Exit -> Act -> World -> Prop} {md : Region.Mode} {S : World -> Prop} {z : Nat}
def Qbz (md : Region.Mode) (ops : Array Oper) (z : Nat) : Bool :=
  match ops[z]? with
  | none => false
  | some o => (List.range ops.size).all fun j => j == z || o.after.any fun e => Region.binds md e && e.on == j
theorem not_last {i : Nat} {L : Array Bool} (hz : Qbz md ops z = true) (hi : i ∈ Region.ready md ops L) (hne : i ≠ z) : z ∉ Region.ready md ops L := fun h => by
 obtain ⟨hu, oi, hoi, _⟩ := mem_ready.1 hi
 obtain ⟨_, oz, hoz, hall⟩ := mem_ready.1 h
 have hlt : i < ops.size := (Array.getElem?_eq_some_iff.1 hoi).1
 simp only [Qbz, hoz, List.all_eq_true, List.mem_range, Bool.or_eq_true, beq_iff_eq] at hz
 have h1 := (hz i hlt).resolve_left hne
 obtain ⟨e, he, hb⟩ := Array.any_eq_true'.1 h1
 simp only [Bool.and_eq_true, beq_iff_eq] at hb
 have h2 := hall e he hb.1
 rw [hb.2] at h2
 rcases Nat.lt_or_ge i L.size with h' | h'
 . simp [h'] at hu h2
   rw [hu] at h2; cases h2
 . simp [Array.getElem?_eq_none h'] at h2
def Qbn (P : Program) (md : Region.Mode) (ops : Array Oper) (Q : Exit -> Act -> World -> Prop) (S : World -> Prop) (z : Nat) : Nat -> Array Bool -> Act -> World -> Prop
  | 0, L, a, w => Region.ready md ops L = [] /\ Q .normal a w
  | n + 1, L, a, w => (Region.ready md ops L = [] -> Q .normal a w) /\
    ∀ i ∈ Region.ready md ops L, wpOp P ops Q i (fun a' w' => (i = z ∨ S w') /\ Qbn P md ops Q S z n (L.setIfInBounds i true) a' w') a w
theorem Qk0 (n : Nat) : ∀ (L : Array Bool) (a : Act) (w : World), Qbn P md ops Q S z n L a w -> wpAny P md ops Q n L a w := by
 induction n with
 | zero => exact fun _ _ _ h => h
 | succ n ih => exact fun L a w h => ⟨h.1, fun i hi => wpOp_mono (fun a' w' g => ih _ a' w' g.2) (h.2 i hi)⟩
theorem upTo_take {i : Nat} {oi : Oper} {v : Value} (hz : Qbz md ops z = true) (hi : ops[i]? = some oi) (hs : Region.noSelect ops = true) (hQ : ∀ c a w, Q (.panic c) (a.put oi.dst v) w -> Q (.panic c) a w) (hiz : i ≠ z) (n : Nat) :
 ∀ (L : Array Bool) (a : Act) (w : World), Region.free md ops L i = true -> i ∈ Region.ready md ops L -> YieldsIf P ops S oi v a -> S w ->
  Qbn P md ops Q S z n (L.setIfInBounds i true) (a.put oi.dst v) w -> Qbn P md ops Q S z (n + 1) L a w := by
 have sel : ∀ (j : Nat) (o : Oper) cs b, ops[j]? = some o -> o.op ≠ .select cs b := Region.noSelect_spec hs
 suffices key : ∀ (L : Array Bool) (a : Act) (w : World), (∀ j oj, ops[j]? = some oj -> j ≠ i -> L.getD j true = false -> (∀ e ∈ oj.after, Region.binds md e = true -> e.on ≠ i) -> oi.apart ops oj = true) ->
  i ∈ Region.ready md ops L -> YieldsIf P ops S oi v a -> S w -> Qbn P md ops Q S z n (L.setIfInBounds i true) (a.put oi.dst v) w -> Qbn P md ops Q S z (n + 1) L a w from
  fun L a w hf hr hy hS H => key L a w (Region.free_spec hi hf) hr hy hS H
 induction n with
 | zero =>
  intro L a w _ hr hy hS H
  constructor
  . intro h; rw [h] at hr; exact absurd hr (List.not_mem_nil)
  . intro j hj
    rcases Decidable.em (j = i) with e | e
    . subst e; exact hy.wpOp hi hS ⟨.inr hS, H⟩
    . have g := ready_mono hj e
      rw [H.1] at g
      exact absurd g (List.not_mem_nil)
 | succ n ih =>
  intro L a w hfr hr hy hS H
  constructor
  . intro h; rw [h] at hr; exact absurd hr (List.not_mem_nil)
  . intro j hj
    rcases Decidable.em (j = i) with e | e
    . subst e; exact hy.wpOp hi hS ⟨.inr hS, H⟩
    . obtain ⟨hun, oj, hoj, hwait⟩ := mem_ready.1 hj
      have hjz : j ≠ z := fun h => by subst h; exact not_last hz hr hiz hj
      have iun := (mem_ready.1 hr).1
      have hno : ∀ d ∈ oj.after, Region.binds md d = true -> d.on ≠ i := fun d hd hb q => by
       have g := hwait d hd hb
       rw [q] at g
       rcases Nat.lt_or_ge i L.size with k | k
       . simp [k] at iun g
         rw [iun] at g; cases g
       . simp [Array.getElem?_eq_none k] at g
      have step := wpOp_putIf hoj (hfr j oj hoj e hun hno) (fun cs b => sel i oi cs b hi) (fun cs b => sel j oj cs b hoj) hQ hy (H.2 j (ready_mono hj e))
      refine wpOp_mono (fun a' w' g => ?_) step
      have hS' : S w' := g.2.1.resolve_left hjz
      refine ⟨.inr hS', ih _ a' w' (fun k ok hk hki hu hn => ?_) (ready_mono hr (Ne.symm e)) g.1 hS' ?_⟩
      . refine hfr k ok hk hki ?_ hn
        rcases Decidable.em (j = k) with q | q
        . subst q; exact hun
        . rwa [getD_set_ne true q] at hu
      . have := g.2.2
        rwa [Array.setIfInBounds_comm _ _ (Ne.symm e)] at this
theorem Qgi {i : Nat} {oi : Oper} {v : Value} {n : Nat} {L : Array Bool} {a : Act} {w : World} (hz : Qbz md ops z = true) (hi : ops[i]? = some oi) (hs : Region.noSelect ops = true) (hiz : i ≠ z)
 (hf : Region.free md ops L i = true) (hr : (Region.ready md ops L).contains i = true) (hQ : ∀ c a w, Q (.panic c) (a.put oi.dst v) w -> Q (.panic c) a w) (hy : YieldsIf P ops S oi v a) (hS : S w)
 (h : Qbn P md ops Q S z n (L.setIfInBounds i true) (a.put oi.dst v) w) : Qbn P md ops Q S z (n + 1) L a w :=
 upTo_take hz hi hs hQ hiz n L a w hf (by simpa using hr) hy hS h
theorem Qaw {i : Nat} {o : Oper} {n : Nat} {L : Array Bool} {a : Act} {w : World} (hr : Region.ready md ops L = [i]) (ho : ops[i]? = some o)
 (h : ∀ K' : Act -> World -> Prop, Shut (∀ a w, (i = z ∨ S w) -> Qbn P md ops Q S z n (L.setIfInBounds i true) a w -> K' a w) -> if Region.wanted o (yielded ops a.tmps) = true then Oper.wp P o a w K' Q else K' (a.put o.dst undef) w) :
 Qbn P md ops Q S z (n + 1) L a w := by
 refine ⟨fun h0 => (by rw [hr] at h0; cases h0), fun j hj => ?_⟩
 rw [hr] at hj
 obtain rfl : j = i := by simpa using hj
 exact wpOp_step ho (fun K' hK => h K' (fun a w h1 h2 => hK a w ⟨h1, h2⟩))
theorem Qdu {L : Array Bool} {a : Act} {w : World} (hr : Region.ready md ops L = []) (h : Q .normal a w) : ∀ n, Qbn P md ops Q S z n L a w
 | 0 => ⟨hr, h⟩
 | _ + 1 => ⟨fun _ => h, by rw [hr]; simp⟩
theorem Qcy {id : Nat} {a : Act} {w : World} (z : Nat) (S : World -> Prop) (hm : P.follows .mixedOrders = true) (h : Qbn P .any ops Q S z ops.size (Array.replicate ops.size false) a w.drew) : (Code.region id ops true).wp P Q a w :=
 wp_region_any hm (Qk0 _ _ _ _ h)
end
end Go.Proofs.YtglegpkcikacoaaGreatDoor.Gen
namespace Go.Proofs.YtglegpkcikacoaaGreatDoor
open Gen
theorem zG {α : Type} : (∀ (l : List α) (i : Nat) (h : i < l.toArray.size), l.toArray[i] = l[i]'(by simpa using h)) /\ (∀ (a : α) (l : List α) (i : Nat) (h : i + 1 < (a :: l).length), (a :: l)[i + 1] = l[i]'(by simpa using h)) /\ (∀ (a : α) (l : List α) (h : 0 < (a :: l).length), (a :: l)[0] = a) := ⟨fun _ _ _ => rfl, fun _ _ _ _ => rfl, fun _ _ _ => rfl⟩
theorem zY {α : Type} : (∀ (l : List α) (i : Nat) (h : i < l.toArray.size), l.toArray[i] = l[i]'(by simpa using h)) /\ (∀ (a : α) (l : List α) (i : Nat) (h : i + 1 < (a :: l).length), (a :: l)[i + 1] = l[i]'(by simpa using h)) /\ (∀ (a : α) (l : List α) (h : 0 < (a :: l).length), (a :: l)[0] = a) /\ (∀ (l : List α) (i : Nat) (v : α), l.toArray.setIfInBounds i v = (l.set i v).toArray) /\ (∀ (a v : α) (l : List α), (a :: l).set 0 v = v :: l) /\ (∀ (a v : α) (l : List α) (i : Nat), (a :: l).set (i + 1) v = a :: l.set i v) := ⟨fun _ _ _ => rfl, fun _ _ _ _ => rfl, fun _ _ _ => rfl, fun _ _ _ => by simp, fun _ _ _ => rfl, fun _ _ _ _ => rfl⟩
theorem zX : (∀ (a : Act) (v : Value), a.put none v = a) /\ (∀ (a : Act) (t : Tmp) (v : Value), a.put (some t) v = { a with tmps := a.tmps.setIfInBounds t v }) := ⟨fun _ _ => rfl, fun _ _ _ => rfl⟩
section
variable {P : Program} {md : Region.Mode} {ops : Array Oper} {Q : Go.Exit -> Act -> World -> Prop} {S : World -> Prop} {fuel : Nat} {listed : Array Bool} {a : Act} {w : World}
def ZTk (_ : List Nat) (P : Program) (md : Region.Mode) (ops : Array Oper) (Q : Go.Exit -> Act -> World -> Prop) (S : World -> Prop) (fuel : Nat) (listed : Array Bool) (a : Act) (w : World) : Prop := wpAnyH P md ops Q S fuel listed a w
theorem ztk (is : List Nat) (h : ZTk is P md ops Q S fuel listed a w) : wpAnyH P md ops Q S fuel listed a w := h
theorem zt1 (i : Nat) (h : ZTk [i] P md ops Q S fuel listed a w) : wpAnyH P md ops Q S fuel listed a w := h
theorem zte (h : wpAnyH P md ops Q S fuel listed a w) : ZTk [] P md ops Q S fuel listed a w := h
theorem ztn {i : Nat} {is : List Nat} {oi : Oper} {v : Value} (hi : ops[i]? = some oi := by rfl) (hw : Region.wanted oi (yielded ops a.tmps) = true := by rfl) (hy : ∀ w, S w -> (execOp a.eval oi).run P w = .ok (.value v) w := by (intro w hSw; (try dsimp only at hSw); go_simp<;>with_reducible rfl)) (hS : S w := by assumption) (hs : Region.noSelect ops = true := by kernel_rfl) (hf : Region.free md ops listed i = true := by kernel_rfl) (hr : (Region.ready md ops listed).contains i = true := by kernel_rfl)
 (hQ : ∀ c a w, Q (.panic c) (a.put oi.dst v) w -> Q (.panic c) a w := by exact fun _ _ _ h => h) (h : ZTk is P md ops Q S fuel (listed.setIfInBounds i true) (a.put oi.dst v) w) : ZTk (i :: is) P md ops Q S (fuel + 1) listed a w := wpAnyH_take hi hs hf hr hQ (.inl ⟨hw, hy⟩) hS h
theorem ztu {i : Nat} {is : List Nat} {oi : Oper} (hi : ops[i]? = some oi := by rfl) (hw : Region.wanted oi (yielded ops a.tmps) = false := by rfl) (hS : S w := by assumption) (hs : Region.noSelect ops = true := by kernel_rfl) (hf : Region.free md ops listed i = true := by kernel_rfl) (hr : (Region.ready md ops listed).contains i = true := by kernel_rfl)
 (hQ : ∀ c a w, Q (.panic c) (a.put oi.dst undef) w -> Q (.panic c) a w := by exact fun _ _ _ h => h) (h : ZTk is P md ops Q S fuel (listed.setIfInBounds i true) (a.put oi.dst undef) w) : ZTk (i :: is) P md ops Q S (fuel + 1) listed a w := wpAnyH_take hi hs hf hr hQ (.inr ⟨hw, rfl⟩) hS h
theorem zR1 (i : Nat) {o : Oper} (h : ∀ K' : Act -> World -> Prop, Shut (∀ a w, S w -> (S w -> wpAnyH P md ops Q S fuel (listed.setIfInBounds i true) a w) -> K' a w) -> if Region.wanted o (yielded ops a.tmps) = true then Oper.wp P o a w K' Q else K' (a.put o.dst undef) w) (ho : ops[i]? = some o := by rfl) (hr : Region.ready md ops listed = [i] := by kernel_rfl) : wpAnyH P md ops Q S (fuel + 1) listed a w := wpAnyH_ready hr (by simp) (.cons ho h .nil)
theorem zR2 (i j : Nat) {o o2 : Oper} (h : ∀ K' : Act -> World -> Prop, Shut (∀ a w, S w -> (S w -> wpAnyH P md ops Q S fuel (listed.setIfInBounds i true) a w) -> K' a w) -> if Region.wanted o (yielded ops a.tmps) = true then Oper.wp P o a w K' Q else K' (a.put o.dst undef) w) (h2 : ∀ K' : Act -> World -> Prop, Shut (∀ a w, S w -> (S w -> wpAnyH P md ops Q S fuel (listed.setIfInBounds j true) a w) -> K' a w) -> if Region.wanted o2 (yielded ops a.tmps) = true then Oper.wp P o2 a w K' Q else K' (a.put o2.dst undef) w)
 (ho : ops[i]? = some o := by rfl) (ho2 : ops[j]? = some o2 := by rfl) (hr : Region.ready md ops listed = [i, j] := by kernel_rfl) : wpAnyH P md ops Q S (fuel + 1) listed a w := wpAnyH_ready hr (by simp) (.cons ho h (.cons ho2 h2 .nil))
theorem zR3 (i j k : Nat) {o o2 o3 : Oper} (h : ∀ K' : Act -> World -> Prop, Shut (∀ a w, S w -> (S w -> wpAnyH P md ops Q S fuel (listed.setIfInBounds i true) a w) -> K' a w) -> if Region.wanted o (yielded ops a.tmps) = true then Oper.wp P o a w K' Q else K' (a.put o.dst undef) w) (h2 : ∀ K' : Act -> World -> Prop, Shut (∀ a w, S w -> (S w -> wpAnyH P md ops Q S fuel (listed.setIfInBounds j true) a w) -> K' a w) -> if Region.wanted o2 (yielded ops a.tmps) = true then Oper.wp P o2 a w K' Q else K' (a.put o2.dst undef) w)
 (h3 : ∀ K' : Act -> World -> Prop, Shut (∀ a w, S w -> (S w -> wpAnyH P md ops Q S fuel (listed.setIfInBounds k true) a w) -> K' a w) -> if Region.wanted o3 (yielded ops a.tmps) = true then Oper.wp P o3 a w K' Q else K' (a.put o3.dst undef) w)
 (ho : ops[i]? = some o := by rfl) (ho2 : ops[j]? = some o2 := by rfl) (ho3 : ops[k]? = some o3 := by rfl) (hr : Region.ready md ops listed = [i, j, k] := by kernel_rfl) : wpAnyH P md ops Q S (fuel + 1) listed a w := wpAnyH_ready hr (by simp) (.cons ho h (.cons ho2 h2 (.cons ho3 h3 .nil)))
theorem zdn (h : Q .normal a w) (hr : Region.ready md ops listed = [] := by kernel_rfl) : wpAnyH P md ops (NoPanic Q) S fuel listed a w := wpAnyH_done hr (NoPanic.normal h) _
end
section
variable {P : Program} {md : Region.Mode} {ops : Array Oper} {Q : Go.Exit -> Act -> World -> Prop} {S : World -> Prop} {z fuel : Nat} {listed : Array Bool} {a : Act} {w : World}
def ZPk (_ : List Nat) (P : Program) (md : Region.Mode) (ops : Array Oper) (Q : Go.Exit -> Act -> World -> Prop) (S : World -> Prop) (z fuel : Nat) (listed : Array Bool) (a : Act) (w : World) : Prop := Qbn P md ops Q S z fuel listed a w
theorem zpk (is : List Nat) (h : ZPk is P md ops Q S z fuel listed a w) : Qbn P md ops Q S z fuel listed a w := h
theorem zp1 (i : Nat) (h : ZPk [i] P md ops Q S z fuel listed a w) : Qbn P md ops Q S z fuel listed a w := h
theorem zpe (h : Qbn P md ops Q S z fuel listed a w) : ZPk [] P md ops Q S z fuel listed a w := h
theorem zpn {i : Nat} {is : List Nat} {oi : Oper} {v : Value} (hi : ops[i]? = some oi := by rfl) (hw : Region.wanted oi (yielded ops a.tmps) = true := by rfl) (hy : ∀ w, S w -> (execOp a.eval oi).run P w = .ok (.value v) w := by (intro w hSw; (try dsimp only at hSw); go_simp<;>with_reducible rfl)) (hS : S w := by assumption) (hz : Qbz md ops z = true := by kernel_rfl) (hs : Region.noSelect ops = true := by kernel_rfl) (hiz : i ≠ z := by decide) (hf : Region.free md ops listed i = true := by kernel_rfl) (hr : (Region.ready md ops listed).contains i = true := by kernel_rfl)
 (hQ : ∀ c a w, Q (.panic c) (a.put oi.dst v) w -> Q (.panic c) a w := by exact fun _ _ _ h => h) (h : ZPk is P md ops Q S z fuel (listed.setIfInBounds i true) (a.put oi.dst v) w) : ZPk (i :: is) P md ops Q S z (fuel + 1) listed a w := Qgi hz hi hs hiz hf hr hQ (.inl ⟨hw, hy⟩) hS h
theorem zpu {i : Nat} {is : List Nat} {oi : Oper} (hi : ops[i]? = some oi := by rfl) (hw : Region.wanted oi (yielded ops a.tmps) = false := by rfl) (hS : S w := by assumption) (hz : Qbz md ops z = true := by kernel_rfl) (hs : Region.noSelect ops = true := by kernel_rfl) (hiz : i ≠ z := by decide) (hf : Region.free md ops listed i = true := by kernel_rfl) (hr : (Region.ready md ops listed).contains i = true := by kernel_rfl)
 (hQ : ∀ c a w, Q (.panic c) (a.put oi.dst undef) w -> Q (.panic c) a w := by exact fun _ _ _ h => h) (h : ZPk is P md ops Q S z fuel (listed.setIfInBounds i true) (a.put oi.dst undef) w) : ZPk (i :: is) P md ops Q S z (fuel + 1) listed a w := Qgi hz hi hs hiz hf hr hQ (.inr ⟨hw, rfl⟩) hS h
end
end Go.Proofs.YtglegpkcikacoaaGreatDoor
