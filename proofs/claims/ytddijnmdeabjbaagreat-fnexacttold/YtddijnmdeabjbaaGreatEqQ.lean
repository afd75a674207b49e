/-
  Nodes as wholes: eq, mark and held of the laws. No condition.
-/
import Derived.Test.YtddijnmdeabjbaaGreatSmP
import Derived.Test.YtddijnmdeabjbaaGreatPeV
import Derived.Test.YtddijnmdeabjbaaGreatKeepP
set_option linter.unusedVariables false
set_option linter.unusedSimpArgs false
set_option maxRecDepth 100000
set_option maxHeartbeats 8000000
namespace Go.Proofs.YtddijnmdeabjbaaGreat.Gen
open ChangeShapes WideShapes ChangeAt RowKit Joins Deep Base
theorem Qbc {a b : List RpC} (h : a.map RpC.p = b.map RpC.p) : a.length = b.length := by have := congrArg List.length h; simpa using this
theorem Qci {a b : List RpC} {N : Nat} (h : a.map RpC.p = b.map RpC.p) (hb : ∀ z ∈ b, z.l.length <= N) : ∀ z ∈ a, z.l.length <= N := by
 intro z hz
 have h1 : z.p ∈ b.map RpC.p := h ▸ List.mem_map_of_mem hz
 obtain ⟨y, hy, e⟩ := List.mem_map.1 h1
 have : y.l = z.l := congrArg RpP.l e
 rw [← this]; exact hb y hy
theorem kct_p {x y : KC} (h : y.p = x.p) : kct y = kct x := by
 obtain ⟨l1, l2, l3, l4, l5, l6⟩ := KC.p_len h
 simp only [KC.p, PK.mk.injEq] at h
 obtain ⟨h1, h2, h3, _, _, _⟩ := h
 have c1 : Qad cR y.rs = Qad cR x.rs := (Qas RC.p (fun p => 2 + p.its.length * 5) y.rs).trans (by rw [h1]; exact (Qas RC.p (fun p => 2 + p.its.length * 5) x.rs).symm)
 have c2 : Qad cM y.ms = Qad cM x.ms := (Qas MC.p (fun p => 4 + p.ms.length * 2) y.ms).trans (by rw [h2]; exact (Qas MC.p (fun p => 4 + p.ms.length * 2) x.ms).symm)
 have c3 : Qad cG y.gs = Qad cG x.gs := (Qas GC.p (fun p => 1 + p.m.length + p.b.length + p.o.length) y.gs).trans (by rw [h3]; exact (Qas GC.p (fun p => 1 + p.m.length + p.b.length + p.o.length) x.gs).symm)
 unfold kct
 rw [c1, c2, c3, l5, l6]
theorem cnt_p {a b : List RpC} (h : a.map RpC.p = b.map RpC.p) : Qad (fun z : RpC => z.l.length) a = Qad (fun z : RpC => z.l.length) b :=
 (Qas RpC.p (fun p => p.l.length) a).trans (by rw [h]; exact (Qas RpC.p (fun p => p.l.length) b).symm)
theorem PFit.same {q p : PC} (f : PFit p) (s : SameP q p) : PFit q :=
 ⟨s.l ▸ f.ll, fit_p s.x f.xf, s.vs ▸ f.vl, s.ns ▸ f.nl, s.ps ▸ f.pl, fit_p s.y f.yf, s.db ▸ f.dl, by rw [Qbc s.hs]; exact f.hl, Qci s.hs f.hi, by rw [s.l, kct_p s.x, s.vs, s.ns, s.ps, kct_p s.y, s.db, Qbc s.hs, cnt_p s.hs]; exact f.tot⟩
theorem eqQ {a b p : PC} (hf : PFit p) (sa : SameP a p) (sb : SameP b p) {W : World} (ha : PAt W a) (hb : PAt W b) : Calls Tryz.prog 76 #[.agg (Qa3 a), .agg (Qa3 b)] W fun e w' => e = .returned (.bool true) /\ Below W.heap.size W w' := by
 have fa := hf.same sa
 have s := sb.trans sa.symm
 have h := Qdn a.id a.te a.vo a.base a.bt a.role a.com a.su a.A b.A a.vA b.vA a.nA b.nA a.pA b.pA a.dA b.dA a.hA b.hA a.cap b.cap a.vc b.vc a.nc b.nc a.pc b.pc a.dc b.dc a.hc b.hc a.l a.vs a.ns a.ps a.db a.hs b.hs a.x b.x a.y b.y
  (by have := fa.ll; omega) (by have := fa.vl; omega) (by have := fa.nl; omega) (by have := fa.pl; omega) (by have := fa.dl; omega) (by have := fa.hl; omega) (fun z hz => by have := fa.hi z hz; omega)
  fa.xf s.x fa.yf s.y s.hs W ha.la (s.l ▸ hb.la) ha.xa hb.xa ha.va (s.vs ▸ hb.va) ha.na (s.ns ▸ hb.na) ha.pa (s.ps ▸ hb.pa) ha.ya hb.ya ha.da (s.db ▸ hb.da) ha.ha ha.he hb.ha hb.he
 have e : Qa3 b = Qa3 { b with id := a.id, te := a.te, vo := a.vo, base := a.base, bt := a.bt, l := a.l, role := a.role, vs := a.vs, ns := a.ns, ps := a.ps, com := a.com, db := a.db, su := a.su } := by
  simp only [Qa3, Qc6, heldV, s.id, s.te, s.vo, s.base, s.bt, s.l, s.role, s.vs, s.ns, s.ps, s.com, s.db, s.su]
 rw [e]
 have hl := Qbc s.hs
 simp only [Qa3, Qc6, heldV, hl]
 exact h
end Go.Proofs.YtddijnmdeabjbaaGreat.Gen
