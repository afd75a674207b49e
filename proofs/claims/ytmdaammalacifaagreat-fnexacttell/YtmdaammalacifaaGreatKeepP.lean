/-
  What is asked of a keeper hangs on its content alone, not on where it lies. No condition.
-/
import Derived.Test.YtmdaammalacifaaGreatPeM
import Derived.Test.YtmdaammalacifaaGreatPeV
set_option linter.unusedVariables false
set_option linter.unusedSimpArgs false
set_option maxRecDepth 100000
set_option maxHeartbeats 8000000
namespace Go.Proofs.YtmdaammalacifaaGreat.Gen
open ChangeShapes WideShapes ChangeAt RowKit Joins Deep Base
theorem Qbu {α β : Type} (p : α -> β) (c : β -> Nat) (l : List α) : Qae (fun x => c (p x)) l = Qae c (l.map p) := by simp [Qae, List.map_map, Function.comp_def]
theorem mem_p {α β : Type} {p : α -> β} {Q : β -> Prop} {l m : List α} (h : m.map p = l.map p) (hl : ∀ x ∈ l, Q (p x)) : ∀ x ∈ m, Q (p x) := fun x hx => by
 have : p x ∈ l.map p := h ▸ List.mem_map_of_mem hx
 obtain ⟨y, hy, e⟩ := List.mem_map.1 this
 rw [← e]; exact hl y hy
theorem fit_p {x y : KC} (h : y.p = x.p) (f : KFit x) : KFit y := by
 obtain ⟨l1, l2, l3, l4, l5, l6⟩ := KC.p_len h
 simp only [KC.p, PK.mk.injEq] at h
 obtain ⟨h1, h2, h3, _, _, _⟩ := h
 have c1 : Qae cR y.rs = Qae cR x.rs := (Qbu RC.p (fun p => 2 + p.its.length * 5) y.rs).trans (by rw [h1]; exact (Qbu RC.p (fun p => 2 + p.its.length * 5) x.rs).symm)
 have c2 : Qae cM y.ms = Qae cM x.ms := (Qbu MC.p (fun p => 4 + p.ms.length * 2) y.ms).trans (by rw [h2]; exact (Qbu MC.p (fun p => 4 + p.ms.length * 2) x.ms).symm)
 have c3 : Qae cG y.gs = Qae cG x.gs := (Qbu GC.p (fun p => 1 + p.m.length + p.b.length + p.o.length) y.gs).trans (by rw [h3]; exact (Qbu GC.p (fun p => 1 + p.m.length + p.b.length + p.o.length) x.gs).symm)
 exact ⟨l1 ▸ f.rl, l2 ▸ f.ml, l3 ▸ f.gl, l5 ▸ f.dl, l6 ▸ f.ll, mem_p (p := RC.p) (Q := fun p => p.its.length <= 1048576) h1 f.ri, mem_p (p := MC.p) (Q := fun p => p.ms.length <= 1048576) h2 f.mi, mem_p (p := GC.p) (Q := fun p => p.m.length <= 1048576 /\ p.b.length <= 1048576 /\ p.o.length <= 1048576) h3 f.gi, c1 ▸ f.rc, c2 ▸ f.mc, c3 ▸ f.gc⟩
end Go.Proofs.YtmdaammalacifaaGreat.Gen
namespace Go.Proofs.YtmdaammalacifaaGreat.Gen
open ChangeShapes WideShapes ChangeAt RowKit Joins Deep Base
theorem POwn.mono {W : World} {p : PC} {S T : Nat -> Prop} (h : POwn W p S) (s : ∀ b, S b -> T b) : POwn W p T := by
 obtain ⟨c, h⟩ := h
 exact ⟨c, h.l.mono (fun b hb => ⟨s b hb.1, hb.2⟩), h.x.mono (fun b hb => ⟨s b hb.1, hb.2⟩), h.v.mono (fun b hb => ⟨s b hb.1, hb.2⟩), h.n.mono (fun b hb => ⟨s b hb.1, hb.2⟩), h.q.mono (fun b hb => ⟨s b hb.1, hb.2⟩), h.y.mono (fun b hb => ⟨s b hb.1, hb.2⟩), h.d.mono (fun b hb => ⟨s b hb.1, hb.2⟩), h.h.mono (fun b hb => ⟨s b hb.1, hb.2⟩)⟩
theorem Qb3 {a b : List RpC} (h : a.map RpC.p = b.map RpC.p) : a.length = b.length := by have := congrArg List.length h; simpa using this
theorem held_fit {a b : List RpC} {N : Nat} (h : a.map RpC.p = b.map RpC.p) (hb : ∀ z ∈ b, z.l.length <= N) : ∀ z ∈ a, z.l.length <= N := by
 intro z hz
 have h1 : z.p ∈ b.map RpC.p := h ▸ List.mem_map_of_mem hz
 obtain ⟨y, hy, e⟩ := List.mem_map.1 h1
 have : y.l = z.l := congrArg RpP.l e
 rw [← this]; exact hb y hy
theorem kct_p {x y : KC} (h : y.p = x.p) : kct y = kct x := by
 obtain ⟨l1, l2, l3, l4, l5, l6⟩ := KC.p_len h
 simp only [KC.p, PK.mk.injEq] at h
 obtain ⟨h1, h2, h3, _, _, _⟩ := h
 have c1 : Qae cR y.rs = Qae cR x.rs := (Qbu RC.p (fun p => 2 + p.its.length * 5) y.rs).trans (by rw [h1]; exact (Qbu RC.p (fun p => 2 + p.its.length * 5) x.rs).symm)
 have c2 : Qae cM y.ms = Qae cM x.ms := (Qbu MC.p (fun p => 4 + p.ms.length * 2) y.ms).trans (by rw [h2]; exact (Qbu MC.p (fun p => 4 + p.ms.length * 2) x.ms).symm)
 have c3 : Qae cG y.gs = Qae cG x.gs := (Qbu GC.p (fun p => 1 + p.m.length + p.b.length + p.o.length) y.gs).trans (by rw [h3]; exact (Qbu GC.p (fun p => 1 + p.m.length + p.b.length + p.o.length) x.gs).symm)
 unfold kct
 rw [c1, c2, c3, l5, l6]
theorem cnt_p {a b : List RpC} (h : a.map RpC.p = b.map RpC.p) : Qae (fun z : RpC => z.l.length) a = Qae (fun z : RpC => z.l.length) b :=
 (Qbu RpC.p (fun p => p.l.length) a).trans (by rw [h]; exact (Qbu RpC.p (fun p => p.l.length) b).symm)
theorem PFit.same {q p : PC} (f : PFit p) (s : SameP q p) : PFit q :=
 ⟨s.l ▸ f.ll, fit_p s.x f.xf, s.vs ▸ f.vl, s.ns ▸ f.nl, s.ps ▸ f.pl, fit_p s.y f.yf, s.db ▸ f.dl, by rw [Qb3 s.hs]; exact f.hl, held_fit s.hs f.hi, by rw [s.l, kct_p s.x, s.vs, s.ns, s.ps, kct_p s.y, s.db, Qb3 s.hs, cnt_p s.hs]; exact f.tot⟩
theorem eqQ {a b p : PC} (hf : PFit p) (sa : SameP a p) (sb : SameP b p) {W : World} (ha : PAt W a) (hb : PAt W b) : Calls Tryz.prog 10 #[.agg (Qaf a), .agg (Qaf b)] W fun e w' => e = .returned (.bool true) /\ Below W.heap.size W w' := by
 have fa := hf.same sa
 have s := sb.trans sa.symm
 have h := Qhc a.id a.te a.vo a.base a.bt a.role a.com a.su a.A b.A a.vA b.vA a.nA b.nA a.pA b.pA a.dA b.dA a.hA b.hA a.cap b.cap a.vc b.vc a.nc b.nc a.pc b.pc a.dc b.dc a.hc b.hc a.l a.vs a.ns a.ps a.db a.hs b.hs a.x b.x a.y b.y
  (by have := fa.ll; omega) (by have := fa.vl; omega) (by have := fa.nl; omega) (by have := fa.pl; omega) (by have := fa.dl; omega) (by have := fa.hl; omega) (fun z hz => by have := fa.hi z hz; omega)
  fa.xf s.x fa.yf s.y s.hs W ha.la (s.l ▸ hb.la) ha.xa hb.xa ha.va (s.vs ▸ hb.va) ha.na (s.ns ▸ hb.na) ha.pa (s.ps ▸ hb.pa) ha.ya hb.ya ha.da (s.db ▸ hb.da) ha.ha ha.he hb.ha hb.he
 have e : Qaf b = Qaf { b with id := a.id, te := a.te, vo := a.vo, base := a.base, bt := a.bt, l := a.l, role := a.role, vs := a.vs, ns := a.ns, ps := a.ps, com := a.com, db := a.db, su := a.su } := by
  simp only [Qaf, Qcr, Qbp, s.id, s.te, s.vo, s.base, s.bt, s.l, s.role, s.vs, s.ns, s.ps, s.com, s.db, s.su]
 rw [e]
 have hl := Qb3 s.hs
 simp only [Qaf, Qcr, Qbp, hl]
 exact h
theorem markQ {q : PC} (hf : PFit q) {S : Nat -> Prop} {W : World} (hS : ∀ z, S z -> z < W.heap.size) (h : POwn W q S) : Calls Tryz.prog 12 #[.agg (Qaf q), .int .i64 1] W fun e w' => e = .returned (.int .i64 (pz7 q)) /\ Offp S W w' /\ POwn w' (mPe q) S := Qfy q hf S W hS h
theorem heldQ {q : PC} (hf : PFit q) {S : Nat -> Prop} {W : World} (h : POwn W (mPe q) S) : Calls Tryz.prog 14 #[.agg (Qaf q), .int .i64 1] W fun e w' => e = .returned (.int .i64 (pz7 q)) /\ Below W.heap.size W w' := Qf9 q hf S W h
end Go.Proofs.YtmdaammalacifaaGreat.Gen
namespace Go.Proofs.YtmdaammalacifaaGreat.Gen
open ChangeShapes WideShapes ChangeAt RowKit Joins Deep Base
theorem Qbk {α : Type} [Cel α] {B : Nat} {W : World} {t : TypeId} {a : Option Addr} {c : Nat} {xs : List α} (h : W.ownsRow B t (Cel.k α) (.slice a xs.length c) xs.length (flat xs)) : Sub W a xs (fun b => B <= b /\ b < W.heap.size) := by
 obtain ⟨a', c', e, _, hs⟩ := Qcx h
 cases e
 exact hs.imp id fun ⟨b, o, e, hB, hb, hi, ht⟩ => ⟨b, o, e, ⟨hB, hb⟩, hb, hi, ht⟩
end Go.Proofs.YtmdaammalacifaaGreat.Gen
