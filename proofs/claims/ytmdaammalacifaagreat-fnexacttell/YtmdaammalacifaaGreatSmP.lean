/-
  A node as one record of cells; two of the same content; one made anew. No condition.
-/
import Derived.Test.YtmdaammalacifaaGreatPeTo
set_option linter.unusedVariables false
set_option linter.unusedSimpArgs false
set_option maxRecDepth 100000
set_option maxHeartbeats 8000000
namespace Go.Proofs.YtmdaammalacifaaGreat.Gen
open ChangeShapes WideShapes ChangeAt RowKit Joins Deep Base
def Qcr (p : PC) (v : Value) : Array Value := #[.int .i64 p.id, .int .i64 p.te, .int .i64 p.vo, .int .i64 p.base, .int .i64 p.bt, .slice p.A p.l.length p.cap, .slice p.x.rA p.x.rs.length p.x.rc, .slice p.x.mA p.x.ms.length p.x.mc, .slice p.x.gA p.x.gs.length p.x.gc, .int .i64 p.x.time, .slice p.x.dA p.x.ds.length p.x.dc, .slice p.x.lA p.x.ls.length p.x.lc, .int .i64 p.role, .slice p.vA p.vs.length p.vc, .slice p.nA p.ns.length p.nc, .slice p.pA p.ps.length p.pc, .int .i64 p.com, .slice p.y.rA p.y.rs.length p.y.rc, .slice p.y.mA p.y.ms.length p.y.mc, .slice p.y.gA p.y.gs.length p.y.gc, .int .i64 p.y.time, .slice p.y.dA p.y.ds.length p.y.dc, .slice p.y.lA p.y.ls.length p.y.lc, .slice p.dA p.db.length p.dc, .int .i64 p.su, v]
def Qbp (p : PC) : Value := .slice p.hA p.hs.length p.hc
def Qaf (p : PC) : Array Value := Qcr p (Qbp p)
def Qbs (p : PC) (size : Int) (v : Value) : Array Value := #[.int .i64 p.te, .int .i64 p.vo, .int .i64 p.base, .int .i64 p.bt, .slice p.A p.l.length p.cap, .slice p.x.rA p.x.rs.length p.x.rc, .slice p.x.mA p.x.ms.length p.x.mc, .slice p.x.gA p.x.gs.length p.x.gc, .int .i64 p.x.time, .slice p.x.dA p.x.ds.length p.x.dc, .slice p.x.lA p.x.ls.length p.x.lc, .int .i64 0, .int .i64 0, .int .i64 0, .int .i64 0, .int .i64 size, .int .i64 p.id, .int .i64 p.role, .slice p.vA p.vs.length p.vc, .slice p.nA p.ns.length p.nc, .slice p.pA p.ps.length p.pc, .int .i64 p.com, .slice p.y.rA p.y.rs.length p.y.rc, .slice p.y.mA p.y.ms.length p.y.mc, .slice p.y.gA p.y.gs.length p.y.gc, .int .i64 p.y.time, .slice p.y.dA p.y.ds.length p.y.dc, .slice p.y.lA p.y.ls.length p.y.lc, .slice p.dA p.db.length p.dc, .int .i64 p.su, v]
theorem Qa6 (p : PC) (size : Int) (v : Value) (hv : v.oneCell' = true) : (Qbs p size v).all (·.oneCell') = true := by simp [Qbs, Value.oneCell', hv]; exact hv
theorem nodeC_held (p : PC) (size : Int) (v : Value) : (Qbs p size v)[30]? = some v := rfl
theorem nodeC_set (p : PC) (size : Int) (v u : Value) : (Qbs p size v).setIfInBounds 30 u = Qbs p size u := rfl
theorem Qa5 (p : PC) : (Qaf p).all (·.oneCell') = true := by simp [Qaf, Qcr, Qbp, Value.oneCell']
structure SameP (q p : PC) : Prop where
  id : q.id = p.id
  te : q.te = p.te
  vo : q.vo = p.vo
  base : q.base = p.base
  bt : q.bt = p.bt
  l : q.l = p.l
  x : q.x.p = p.x.p
  role : q.role = p.role
  vs : q.vs = p.vs
  ns : q.ns = p.ns
  ps : q.ps = p.ps
  com : q.com = p.com
  y : q.y.p = p.y.p
  db : q.db = p.db
  su : q.su = p.su
  hs : q.hs.map RpC.p = p.hs.map RpC.p
theorem SameP.trans {a b c : PC} (h : SameP a b) (k : SameP b c) : SameP a c := ⟨h.id.trans k.id, h.te.trans k.te, h.vo.trans k.vo, h.base.trans k.base, h.bt.trans k.bt, h.l.trans k.l, h.x.trans k.x, h.role.trans k.role, h.vs.trans k.vs, h.ns.trans k.ns, h.ps.trans k.ps, h.com.trans k.com, h.y.trans k.y, h.db.trans k.db, h.su.trans k.su, h.hs.trans k.hs⟩
theorem SameP.symm {a b : PC} (h : SameP a b) : SameP b a := ⟨h.id.symm, h.te.symm, h.vo.symm, h.base.symm, h.bt.symm, h.l.symm, h.x.symm, h.role.symm, h.vs.symm, h.ns.symm, h.ps.symm, h.com.symm, h.y.symm, h.db.symm, h.su.symm, h.hs.symm⟩
def NewQ (w w' : World) (v : Value) (p : PC) : Prop := ∃ q : PC, v = .agg (Qaf q) /\ SameP q p /\ POwn w' q (fun z => w.heap.size <= z /\ z < w'.heap.size)
end Go.Proofs.YtmdaammalacifaaGreat.Gen
namespace Go.Proofs.YtmdaammalacifaaGreat.Gen
open ChangeShapes WideShapes ChangeAt RowKit Joins Deep Base
def cP (x : RpC) : Nat := 9 + x.l.length * 9
def mP (x : RpC) (z : Int) : RpC := ⟨z, z + 1, z + 2, z + 3, z + 4, z + 5, z + 6, x.A, x.cap, Qat x.l.length (z + 7), ((z + 7 + (x.l.length : Int) * 9) % 3 == 0), Items.markZ (z + 7 + (x.l.length : Int) * 9 + 1)⟩
theorem mark_ents (a : Option Addr) (cap : Nat) (l : List En) (S : Nat -> Prop) (k : Int) (hk : 1 <= k) (hk' : k <= 100000000) (hl : l.length <= 3000000) (w : World) (h : Sub w a l S) :
 Calls Tryz.prog 48 #[.slice a l.length cap, .int .i64 k] w fun e w' => e = .returned (.int .i64 (k + (l.length : Int) * 9)) /\ Offp S w w' /\ Sub w' a (Qat l.length k) S := by
 rcases h with rfl | ⟨b, o, rfl, hS, hb, hi, ht⟩
 . refine (Qdh a cap k w).mono ?_
   rintro e w' ⟨rfl, rfl⟩
   exact ⟨by simp, Offp.refl _ _, .inl rfl⟩
 . refine (Qcz b o cap l.length k hk hk' hl w hb ht).mono ?_
   rintro e w' ⟨rfl, ko, hin, hth⟩
   exact ⟨rfl, (Offp.of_only ko).mono (fun x e => e ▸ hS), .inr ⟨b, o, rfl, hS, Nat.lt_of_lt_of_le hb ko.size, hin, by rw [Qa7]; exact hth⟩⟩
theorem Qfw (b o cap : Nat) (l : List RpC) (fp : Nat -> Nat -> Prop) (k : Int) (hk : 1 <= k) (hk' : k <= 50000000) (hc : Qae cP l <= 50000000) (hl : l.length <= 1048576) (hs : ∀ x ∈ l, x.l.length <= 1048576) (w : World) (hO : OwnF rpcP w b o l fp) :
 Calls Tryz.prog 47 #[.slice (some ⟨b, o, none⟩) l.length cap, .int .i64 k] w fun e w' => e = .returned (.int .i64 (k + (Qae cP l : Int))) /\ Offp (fun x => x = b ∨ ∃ i, fp i x) w w' /\ OwnF rpcP w' b o (marked mP cP l k) fp := by
 have HO := hidP hO
 have Hs := hidP hs
 have Hc := hidP hc
 clear hO hs hc
 go_enter Tryz.func47, Tryz.ntmps47
 go_wp2
 go_loopw [1, 5] (fun kk i w' => ∃ (n : Nat) (z : Int), i = .int .i64 (n : Int) /\ kk = .int .i64 z /\ n <= l.length /\ 1 <= z /\ z <= 100000000 /\ Hid (z = k + (Qae cP (l.take n) : Int)) /\ Hid (Offp (fun x => x = b ∨ ∃ i, fp i x) w w') /\ Hid (OwnF rpcP w' b o (half mP cP l k n) fp)) (fun _ i _ => l.length - (intOf i).toNat)
 case atStart => exact ⟨0, k, rfl, rfl, by omega, hk, by omega, by simp [Hid, Qae], Offp.refl _ _, by rw [Qc8]; exact HO.out⟩
 case round =>
  obtain ⟨n, z, rfl, rfl, hn, hz1, hz2, hz, hoff, hown⟩ := hrel
  by_cases hlt : n < l.length
  . have hhl := Qcm mP cP l k n
    have hge := Qdr mP cP l k n hlt (by omega)
    have hit := Hs.out _ (List.getElem_mem hlt)
    obtain ⟨c0, c1, c2, c3, c4, c5, c6, c7, c8, c9⟩ := hown.out.lst.getRpC n (by omega)
    have hth := hown.out.th
    rw [hhl] at hth
    obtain ⟨_, f0⟩ := Qad (f := 0) hth hlt (by decide)
    obtain ⟨_, f1⟩ := Qad (f := 1) hth hlt (by decide)
    obtain ⟨_, f2⟩ := Qad (f := 2) hth hlt (by decide)
    obtain ⟨_, f3⟩ := Qad (f := 3) hth hlt (by decide)
    obtain ⟨_, f4⟩ := Qad (f := 4) hth hlt (by decide)
    obtain ⟨_, f5⟩ := Qad (f := 5) hth hlt (by decide)
    obtain ⟨_, f6⟩ := Qad (f := 6) hth hlt (by decide)
    simp only [Nat.add_zero, show Cel.k RpC = 10 from rfl] at f0 f1 f2 f3 f4 f5 f6
    rw [hge] at c0 c1 c2 c3 c4 c5 c6 c7 c8 c9
    have hsu := Qc9 mP cP l k n hlt
    rw [← hz.out] at hsu
    have hcn : Qae cP (l.take n) + cP l[n] <= 50000000 := by rw [← Qas cP l n hlt]; exact Nat.le_trans (Qcb cP l (n + 1)) Hc.out
    have Hsn := hidP (Qas cP l n hlt)
    generalize hx : l[n] = x at c0 c1 c2 c3 c4 c5 c6 c7 c8 c9 hit hsu hcn hge Hsn
    obtain ⟨k0, k1, k2, k3, k4, k5, k6, xA, xc, xi, ko, sn⟩ := x
    simp only at c0 c1 c2 c3 c4 c5 c6 c7 c8 c9 hit
    have O1 := hown.out.set1 Qan n (by omega) ⟨z, k1, k2, k3, k4, k5, k6, xA, xc, xi, ko, sn⟩ 0 (by decide) (.int .i64 z) (by rw [hge]; rfl) (fun W S h => by rw [hge] at h; exact h)
    have O2 := O1.set1 Qan n (by simp; omega) ⟨z, z + 1, k2, k3, k4, k5, k6, xA, xc, xi, ko, sn⟩ 1 (by decide) (.int .i64 (z + 1)) (by rw [List.getElem_set_self]; rfl) (fun W S h => by rw [List.getElem_set_self] at h; exact h)
    have O3 := O2.set1 Qan n (by simp; omega) ⟨z, z + 1, z + 1 + 1, k3, k4, k5, k6, xA, xc, xi, ko, sn⟩ 2 (by decide) (.int .i64 (z + 1 + 1)) (by rw [List.getElem_set_self]; rfl) (fun W S h => by rw [List.getElem_set_self] at h; exact h)
    have O4 := O3.set1 Qan n (by simp; omega) ⟨z, z + 1, z + 1 + 1, z + 1 + 1 + 1, k4, k5, k6, xA, xc, xi, ko, sn⟩ 3 (by decide) (.int .i64 (z + 1 + 1 + 1)) (by rw [List.getElem_set_self]; rfl) (fun W S h => by rw [List.getElem_set_self] at h; exact h)
    have O5 := O4.set1 Qan n (by simp; omega) ⟨z, z + 1, z + 1 + 1, z + 1 + 1 + 1, z + 1 + 1 + 1 + 1, k5, k6, xA, xc, xi, ko, sn⟩ 4 (by decide) (.int .i64 (z + 1 + 1 + 1 + 1)) (by rw [List.getElem_set_self]; rfl) (fun W S h => by rw [List.getElem_set_self] at h; exact h)
    have O6 := O5.set1 Qan n (by simp; omega) ⟨z, z + 1, z + 1 + 1, z + 1 + 1 + 1, z + 1 + 1 + 1 + 1, z + 1 + 1 + 1 + 1 + 1, k6, xA, xc, xi, ko, sn⟩ 5 (by decide) (.int .i64 (z + 1 + 1 + 1 + 1 + 1)) (by rw [List.getElem_set_self]; rfl) (fun W S h => by rw [List.getElem_set_self] at h; exact h)
    have O7 := O6.set1 Qan n (by simp; omega) ⟨z, z + 1, z + 1 + 1, z + 1 + 1 + 1, z + 1 + 1 + 1 + 1, z + 1 + 1 + 1 + 1 + 1, z + 1 + 1 + 1 + 1 + 1 + 1, xA, xc, xi, ko, sn⟩ 6 (by decide) (.int .i64 (z + 1 + 1 + 1 + 1 + 1 + 1)) (by rw [List.getElem_set_self]; rfl) (fun W S h => by rw [List.getElem_set_self] at h; exact h)
    simp only [Nat.add_zero, show Cel.k RpC = 10 from rfl, List.set_set] at O1 O2 O3 O4 O5 O6 O7
    have Hhl := hidP hhl
    have Hsu := hidP hsu
    have Hcn := hidP hcn
    have HO4 := hidP O7
    have hsub := O7.sub n (by simp; omega)
    rw [List.getElem_set_self] at hsub
    have Hsub := hidP hsub
    have hz' := hz.out
    have hzc : z + 9 <= 100000000 := by
     have h3 := Hcn.out; simp only [cP] at h3; omega
    have hlim : xi.length * 9 + 9 <= 50000000 := by have := Hcn.out; simp only [cP] at this; omega
    clear hx hhl hsu hcn O1 O2 O3 O4 O5 O6 O7 hsub hge hth hz'
    go_wp2_with fail
    refine (mark_ents xA xc xi (fp n) _ (by omega) (by omega) (by omega) _ Hsub.out).mono ?_
    rintro e w1 ⟨rfl, ko1, hsb⟩
    have O5 := HO4.out.turn Qan n (by rw [List.length_set]; have := Hhl.out; omega) ⟨z, z + 1, z + 1 + 1, z + 1 + 1 + 1, z + 1 + 1 + 1 + 1, z + 1 + 1 + 1 + 1 + 1, z + 1 + 1 + 1 + 1 + 1 + 1, xA, xc, Qat xi.length (z + 1 + 1 + 1 + 1 + 1 + 1 + 1), ko, sn⟩ (by rw [List.getElem_set_self]; show [Value.int .i64 z, .int .i64 (z + 1), .int .i64 (z + 1 + 1), .int .i64 (z + 1 + 1 + 1), .int .i64 (z + 1 + 1 + 1 + 1), .int .i64 (z + 1 + 1 + 1 + 1 + 1), .int .i64 (z + 1 + 1 + 1 + 1 + 1 + 1), .slice xA (Qat xi.length (z + 1 + 1 + 1 + 1 + 1 + 1 + 1)).length xc, .bool ko, .string sn] = _; rw [Qa7]; rfl) ko1 hsb
    rw [List.set_set] at O5
    have HO5 := hidP O5
    have hoff5 := hidP (((((((((hoff.out).set (.inl rfl) _ _).set (.inl rfl) _ _).set (.inl rfl) _ _).set (.inl rfl) _ _).set (.inl rfl) _ _).set (.inl rfl) _ _).set (.inl rfl) _ _).trans (ko1.mono (fun x hx => .inr ⟨n, hx⟩)))
    obtain ⟨Z, hZ⟩ : ∃ Z, z + 1 + 1 + 1 + 1 + 1 + 1 + 1 + (xi.length : Int) * 9 = Z := ⟨_, rfl⟩
    have HZ := hidP hZ
    rw [hZ]
    have hZ1 : 1 <= Z := by omega
    have hZ2 : Z <= 150000000 := by have h4 := Hcn.out; simp only [cP] at h4; have := hz.out; omega
    clear ko1 hsb O5 hZ c0 c1 c2 c3 c4 c5 c6 c7 c8 c9 f0 f1 f2 f3 f4 f5 f6
    have hlen5 : n < ((half mP cP l k n).set n ⟨z, z + 1, z + 1 + 1, z + 1 + 1 + 1, z + 1 + 1 + 1 + 1, z + 1 + 1 + 1 + 1 + 1, z + 1 + 1 + 1 + 1 + 1 + 1, xA, xc, Qat xi.length (z + 1 + 1 + 1 + 1 + 1 + 1 + 1), ko, sn⟩).length := by rw [List.length_set]; have := Hhl.out; omega
    have q5 := HO5.out.lt
    have e8 : w1.cell? ⟨b, o + n * 10 + 8, none⟩ = some (.bool ko) := HO5.out.lst.cell n hlen5 (f := 8) (v := .bool ko) (by rw [List.getElem_set_self]; rfl)
    have f8 := (Qad (f := 8) HO5.out.th hlen5 (by decide)).2
    simp only [show Cel.k RpC = 10 from rfl] at f8
    have O6 := HO5.out.set1 Qan n hlen5 ⟨z, z + 1, z + 1 + 1, z + 1 + 1 + 1, z + 1 + 1 + 1 + 1, z + 1 + 1 + 1 + 1 + 1, z + 1 + 1 + 1 + 1 + 1 + 1, xA, xc, Qat xi.length (z + 1 + 1 + 1 + 1 + 1 + 1 + 1), (Z % 3 == 0), sn⟩ 8 (by decide) (.bool (Z % 3 == 0)) (by rw [List.getElem_set_self]; rfl) (fun W S h => by rw [List.getElem_set_self] at h; exact h)
    simp only [show Cel.k RpC = 10 from rfl, List.set_set] at O6
    have HO6 := hidP O6
    have hoff6 := hidP (hoff5.out.set (b := b) (.inl rfl) (o + n * 10 + 8) (.bool (Z % 3 == 0)))
    have hlen6 : n < ((half mP cP l k n).set n ⟨z, z + 1, z + 1 + 1, z + 1 + 1 + 1, z + 1 + 1 + 1 + 1, z + 1 + 1 + 1 + 1 + 1, z + 1 + 1 + 1 + 1 + 1 + 1, xA, xc, Qat xi.length (z + 1 + 1 + 1 + 1 + 1 + 1 + 1), (Z % 3 == 0), sn⟩).length := by rw [List.length_set]; have := Hhl.out; omega
    clear O6 HO5 hoff5 hlen5
    go_wp2_with fail
    refine (Items.markText_at (Z + 1) (by omega) (by omega) _).mono ?_
    rintro e w2 ⟨rfl, g2⟩
    have O7 := HO6.out.below Qan g2
    have e9 : w2.cell? ⟨b, o + n * 10 + 9, none⟩ = some (.string sn) := O7.lst.cell n hlen6 (f := 9) (v := .string sn) (by rw [List.getElem_set_self]; rfl)
    have f9 := (Qad (f := 9) O7.th hlen6 (by decide)).2
    simp only [show Cel.k RpC = 10 from rfl] at f9
    have qb := O7.lt
    have O8 := O7.set1 Qan n hlen6 ⟨z, z + 1, z + 1 + 1, z + 1 + 1 + 1, z + 1 + 1 + 1 + 1, z + 1 + 1 + 1 + 1 + 1, z + 1 + 1 + 1 + 1 + 1 + 1, xA, xc, Qat xi.length (z + 1 + 1 + 1 + 1 + 1 + 1 + 1), (Z % 3 == 0), Items.markZ (Z + 1)⟩ 9 (by decide) (.string (Items.markZ (Z + 1))) (by rw [List.getElem_set_self]; rfl) (fun W S h => by rw [List.getElem_set_self] at h; exact h)
    simp only [show Cel.k RpC = 10 from rfl, List.set_set] at O8
    have hmN : (⟨z, z + 1, z + 1 + 1, z + 1 + 1 + 1, z + 1 + 1 + 1 + 1, z + 1 + 1 + 1 + 1 + 1, z + 1 + 1 + 1 + 1 + 1 + 1, xA, xc, Qat xi.length (z + 1 + 1 + 1 + 1 + 1 + 1 + 1), (Z % 3 == 0), Items.markZ (Z + 1)⟩ : RpC) = mP ⟨k0, k1, k2, k3, k4, k5, k6, xA, xc, xi, ko, sn⟩ z := by
     have a2 : z + 1 + 1 = z + 2 := by omega
     have a3 : z + 2 + 1 = z + 3 := by omega
     have a4 : z + 3 + 1 = z + 4 := by omega
     have a5 : z + 4 + 1 = z + 5 := by omega
     have a6 : z + 5 + 1 = z + 6 := by omega
     have a7 : z + 6 + 1 = z + 7 := by omega
     simp only [mP, a2, a3, a4, a5, a6, a7]
     rw [← HZ.out]
     simp only [a2, a3, a4, a5, a6, a7]
    rw [hmN, ← Hsu.out] at O8
    have HO8 := hidP O8
    have hoff7 := hidP ((hoff6.out.below g2).set (b := b) (.inl rfl) (o + n * 10 + 9) (.string (Items.markZ (Z + 1))))
    clear O7 O8 HO6 hoff6 g2 HO4 Hsub hmN hlen6 e8 f8 q5
    go_wp2
    have hz' := hz.out
    refine ⟨⟨n + 1, Z + 1 + 1, by go_num, rfl, by omega, by omega, ?_, ?_, hoff7, HO8⟩, by simp [intOf]; omega⟩
    . have h4 := Hcn.out; simp only [cP] at h4; have := HZ.out; have := hz.out; omega
    . show _ = _; rw [Hsn.out, ← HZ.out, hz']; simp only [cP]; omega
  . obtain rfl : n = l.length := by omega
    go_wp2
    go_ret
    have e := hz.out
    rw [Qb4 cP l _ (Nat.le_refl _)] at e
    have hh := hown.out
    rw [Qds mP cP l k _ (Nat.le_refl _)] at hh
    subst e
    exact ⟨rfl, hoff.out, hh⟩
end Go.Proofs.YtmdaammalacifaaGreat.Gen
namespace Go.Proofs.YtmdaammalacifaaGreat.Gen
open ChangeShapes WideShapes ChangeAt RowKit Joins Deep Base
theorem Qf7 (A : Option Addr) (cap : Nat) (l : List RpC) (k : Int) (hk : 1 <= k) (hk' : k <= 50000000) (hc : Qae cP l <= 50000000) (hl : l.length <= 1048576) (hs : ∀ x ∈ l, x.l.length <= 1048576) (w : World) (hA : At w A (marked mP cP l k)) (hE : EachP w (marked mP cP l k)) :
 Calls Tryz.prog 54 #[.slice A l.length cap, .int .i64 k] w fun e w' => e = .returned (.int .i64 (k + (Qae cP l : Int))) /\ Below w.heap.size w w' := by
 have HA := hidP hA
 have HE := hidP hE
 have Hs := hidP hs
 have Hc := hidP hc
 clear hA hE hs hc
 have HML := hidP (Qbd mP cP l k)
 go_enter Tryz.func54, Tryz.ntmps54
 go_wp2
 go_loopw [1, 5] (fun kk i w' => ∃ (n : Nat) (z : Int), i = .int .i64 (n : Int) /\ kk = .int .i64 z /\ n <= l.length /\ 1 <= z /\ z <= 100000000 /\ Hid (z = k + (Qae cP (l.take n) : Int)) /\ Below w.heap.size w w') (fun _ i _ => l.length - (intOf i).toNat)
 case atStart => exact ⟨0, k, rfl, rfl, by omega, hk, by omega, by simp [Hid, Qae], Below.refl _ _⟩
 case round =>
  obtain ⟨n, z, rfl, rfl, hn, hz1, hz2, hz, hbl⟩ := hrel
  by_cases hlt : n < l.length
  . have hml := HML.out
    obtain ⟨b, o, rfl, hbs, hin⟩ : ∃ b o, A = some ⟨b, o, none⟩ /\ b < w.heap.size /\ In w b o (marked mP cP l k) := by
     rcases HA.out with h | h
     . rw [h] at hml; simp at hml; omega
     . exact h
    have hmn : n < (marked mP cP l k).length := by omega
    have hge := Qcw mP cP l n hlt k hmn
    rw [← hz.out] at hge
    obtain ⟨c0, c1, c2, c3, c4, c5, c6, c7, c8, c9⟩ := (hin.below hbs hbl).getRpC n hmn
    have hat := (HE.out _ (List.getElem_mem hmn)).below hbl
    rw [hge] at c0 c1 c2 c3 c4 c5 c6 c7 c8 c9 hat
    have hit := Hs.out _ (List.getElem_mem hlt)
    have hcn : Qae cP (l.take n) + cP l[n] <= 50000000 := by rw [← Qas cP l n hlt]; exact Nat.le_trans (Qcb cP l (n + 1)) Hc.out
    have Hsn := hidP (Qas cP l n hlt)
    generalize hx : l[n] = x at c0 c1 c2 c3 c4 c5 c6 c7 c8 c9 hit hcn hat Hsn
    obtain ⟨k0, k1, k2, k3, k4, k5, k6, xA, xc, xi, ko, sn⟩ := x
    simp only [mP, Qa7] at c0 c1 c2 c3 c4 c5 c6 c7 c8 c9 hit hat
    have a2 : z + 2 = z + 1 + 1 := by omega
    have a3 : z + 3 = z + 1 + 1 + 1 := by omega
    have a4 : z + 4 = z + 1 + 1 + 1 + 1 := by omega
    have a5 : z + 5 = z + 1 + 1 + 1 + 1 + 1 := by omega
    have a6 : z + 6 = z + 1 + 1 + 1 + 1 + 1 + 1 := by omega
    have a7 : z + 7 = z + 1 + 1 + 1 + 1 + 1 + 1 + 1 := by omega
    rw [a2] at c2
    rw [a3] at c3
    rw [a4] at c4
    rw [a5] at c5
    rw [a6] at c6
    rw [a7] at c8 c9 hat
    have HAt : Hid (xi.length = 0 ∨ ∃ b o, xA = some ⟨b, o, none⟩ /\ b < wr.heap.size /\ In wr b o (Qat xi.length (z + 1 + 1 + 1 + 1 + 1 + 1 + 1))) := by
     rcases hat with h | h
     . exact .inl (by have := congrArg List.length h; simpa [Qa7] using this)
     . exact .inr h
    have Hcn := hidP hcn
    have hzc : z + 9 <= 100000000 := by
     have h3 := hz.out; have h4 := Hcn.out; simp only [cP] at h4; omega
    have hlim : xi.length * 9 + 9 <= 50000000 := by have := Hcn.out; simp only [cP] at this; omega
    clear hml hge hx hcn hat a2 a3 a4 a5 a6 a7
    have hb1 : b < wr.heap.size := Nat.lt_of_lt_of_le hbs hbl.size
    obtain ⟨Z, hZ⟩ : ∃ Z, z + 1 + 1 + 1 + 1 + 1 + 1 + 1 + (xi.length : Int) * 9 = Z := ⟨_, rfl⟩
    have hneg : ¬ Z < 0 := by omega
    have hZ1 : 1 <= Z := by omega
    have hZ2 : Z <= 150000000 := by have h4 := Hcn.out; simp only [cP] at h4; have := hz.out; omega
    have HZ := hidP hZ
    have HE9 := hidP (Qc1 xA xc xi.length (z + 1 + 1 + 1 + 1 + 1 + 1 + 1) (by omega) (by omega) (by omega) wr HAt.out)
    rw [hZ] at HE9 c8 c9
    clear hZ
    go_wp2_with fail
    refine HE9.out.mono ?_
    rintro e w1 ⟨rfl, g1⟩
    have e8 : w1.cell? ⟨b, o + n * 10 + 8, none⟩ = some (.bool (Z % 3 == 0)) := ((Qbf g1).1 _ _ hb1).trans c8
    have e9 : w1.cell? ⟨b, o + n * 10 + 9, none⟩ = some (.string (Items.markZ (Z + 1))) := ((Qbf g1).1 _ _ hb1).trans c9
    have hb2 : b < w1.heap.size := Nat.lt_of_lt_of_le hb1 g1.size
    clear c0 c1 c2 c3 c4 c5 c6 c7 c8 c9 HE9
    go_wp2_with fail
    go_region_held3 (fun w' => w'.cell? ⟨b, o + n * 10 + 9, none⟩ = some (.string (Items.markZ (Z + 1))))
     (first | (exact (k1' _ _ hb2).trans e9) | assumption | go_keep)
     (first | (go_at_call 93; refine (Items.markText_at (Z + 1) (by omega) (by omega) _).mono ?_; rintro e w2 ⟨rfl, g2⟩; obtain ⟨k1', m1'⟩ := Qbf g2))
    all_goals
     go_wp2
     have hz' := hz.out
     refine ⟨⟨n + 1, Z + 1 + 1, by go_num, rfl, by omega, by omega, ?_, ?_, via0 g2 (Below.drew (via0 g1 hbl))⟩, by simp [intOf]; omega⟩
     . have h4 := Hcn.out; simp only [cP] at h4; have := HZ.out; have := hz.out; omega
     . show _ = _; rw [Hsn.out, ← HZ.out, hz']; simp only [cP]; omega
  . obtain rfl : n = l.length := by omega
    go_wp2
    go_ret
    have e := hz.out
    rw [Qb4 cP l _ (Nat.le_refl _)] at e
    subst e
    exact ⟨rfl, hbl⟩
end Go.Proofs.YtmdaammalacifaaGreat.Gen
