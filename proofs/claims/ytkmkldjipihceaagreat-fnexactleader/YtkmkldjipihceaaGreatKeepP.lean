/-
  What is asked of a keeper hangs on its content alone, not on where it lies. No condition.
-/
import Derived.Test.YtkmkldjipihceaaGreatKOk
import Derived.Test.YtkmkldjipihceaaGreatSmP
set_option linter.unusedVariables false
set_option linter.unusedSimpArgs false
set_option maxRecDepth 100000
set_option maxHeartbeats 8000000
set_option maxRecDepth 100000
set_option maxHeartbeats 8000000
namespace Go.Proofs.YtkmkldjipihceaaGreat.Gen
open ChangeShapes WideShapes ChangeAt RowKit Joins Deep Base
def rowFp (p : PR) : Bool := Items.rowB p.start p.next p.its
def makFp (ro wi : Int) (p : PM) : Bool := okB p.row p.who p.epoch p.last wi p.ms && decide (p.row < ro)
def grpFp (ro : Int) (p : PG) : Bool := gokB p.gen ro p.m p.b p.o
def behP (a b : PM) : Bool := decide (a.row < b.row) || (decide (a.row = b.row) && decide (a.who < b.who))
def ordP (l : List PM) (i : Nat) : Bool := decide (i = 0) || behP (l.getD (i - 1) (default : MC).p) (l.getD i (default : MC).p)
theorem all_p {α β : Type} (p : α -> β) (f : β -> Bool) (l : List α) : l.all (fun x => f (p x)) = (l.map p).all f := by rw [List.all_map]; rfl
theorem getD_p {α β : Type} (p : α -> β) (l : List α) (i : Nat) (d : α) : p (l.getD i d) = (l.map p).getD i (p d) := by
 simp only [List.getD_eq_getElem?_getD, List.getElem?_map]
 cases l[i]?<;>rfl
theorem ordTo_p (l : List MC) (n : Nat) : Qbo l n = (List.range n).all (ordP (l.map MC.p)) := by
 unfold Qbo
 congr 1
 funext i
 simp only [Qew, ordP, ← getD_p]
 rfl
theorem Qbs {α β : Type} (p : α -> β) (c : β -> Nat) (l : List α) : Qas (fun x => c (p x)) l = Qas c (l.map p) := by simp [Qas, List.map_map, Function.comp_def]
theorem mem_p {α β : Type} {p : α -> β} {Q : β -> Prop} {l m : List α} (h : m.map p = l.map p) (hl : ∀ x ∈ l, Q (p x)) : ∀ x ∈ m, Q (p x) := fun x hx => by
 have : p x ∈ l.map p := h ▸ List.mem_map_of_mem hx
 obtain ⟨y, hy, e⟩ := List.mem_map.1 this
 rw [← e]; exact hl y hy
theorem keepB_p {x y : KC} (h : y.p = x.p) (ro wi le ke : Int) : Qbp ro wi le ke y = Qbp ro wi le ke x := by
 obtain ⟨l1, l2, l3, l4, l5, l6⟩ := KC.p_len h
 simp only [KC.p, PK.mk.injEq] at h
 obtain ⟨h1, h2, h3, _, _, _⟩ := h
 have e1 : y.rs.all rowF = x.rs.all rowF := (all_p RC.p rowFp y.rs).trans (by rw [h1]; exact (all_p RC.p rowFp x.rs).symm)
 have e2 : y.ms.all (makF ro wi) = x.ms.all (makF ro wi) := (all_p MC.p (makFp ro wi) y.ms).trans (by rw [h2]; exact (all_p MC.p (makFp ro wi) x.ms).symm)
 have e3 : y.gs.all (grpF ro) = x.gs.all (grpF ro) := (all_p GC.p (grpFp ro) y.gs).trans (by rw [h3]; exact (all_p GC.p (grpFp ro) x.gs).symm)
 have e4 : Qbo y.ms y.ms.length = Qbo x.ms x.ms.length := by rw [ordTo_p, ordTo_p, l2, h2]
 unfold Qbp
 rw [e1, e2, e3, e4, l1, l3, l4, l5, l6]
theorem fit_p {x y : KC} (h : y.p = x.p) (f : KFit x) : KFit y := by
 obtain ⟨l1, l2, l3, l4, l5, l6⟩ := KC.p_len h
 simp only [KC.p, PK.mk.injEq] at h
 obtain ⟨h1, h2, h3, _, _, _⟩ := h
 have c1 : Qas cR y.rs = Qas cR x.rs := (Qbs RC.p (fun p => 2 + p.its.length * 5) y.rs).trans (by rw [h1]; exact (Qbs RC.p (fun p => 2 + p.its.length * 5) x.rs).symm)
 have c2 : Qas cM y.ms = Qas cM x.ms := (Qbs MC.p (fun p => 4 + p.ms.length * 2) y.ms).trans (by rw [h2]; exact (Qbs MC.p (fun p => 4 + p.ms.length * 2) x.ms).symm)
 have c3 : Qas cG y.gs = Qas cG x.gs := (Qbs GC.p (fun p => 1 + p.m.length + p.b.length + p.o.length) y.gs).trans (by rw [h3]; exact (Qbs GC.p (fun p => 1 + p.m.length + p.b.length + p.o.length) x.gs).symm)
 exact ⟨l1 ▸ f.rl, l2 ▸ f.ml, l3 ▸ f.gl, l5 ▸ f.dl, l6 ▸ f.ll, mem_p (p := RC.p) (Q := fun p => p.its.length <= 1048576) h1 f.ri, mem_p (p := MC.p) (Q := fun p => p.ms.length <= 1048576) h2 f.mi, mem_p (p := GC.p) (Q := fun p => p.m.length <= 1048576 /\ p.b.length <= 1048576 /\ p.o.length <= 1048576) h3 f.gi, c1 ▸ f.rc, c2 ▸ f.mc, c3 ▸ f.gc⟩
theorem ask_p {x y : KC} (h : y.p = x.p) (f : KAsk x) : KAsk y := by
 have l6 := (KC.p_len h).2.2.2.2.2
 have h1 : y.rs.map RC.p = x.rs.map RC.p := by simp only [KC.p, PK.mk.injEq] at h; exact h.1
 exact ⟨fit_p h f.fit, mem_p (p := RC.p) (Q := fun p => I64 p.start /\ I64 p.next /\ p.its.length <= 9223372036854775807 /\ ∀ y ∈ p.its, y.right) h1 f.rr, l6 ▸ f.lr⟩
theorem Qce {a b : List RpC} (h : a.map RpC.p = b.map RpC.p) : a.length = b.length := by have := congrArg List.length h; simpa using this
theorem Qf3 {a b : List RpC} {N : Nat} (h : a.map RpC.p = b.map RpC.p) (hb : ∀ z ∈ b, z.l.length <= N) : ∀ z ∈ a, z.l.length <= N := by
 intro z hz
 have h1 : z.p ∈ b.map RpC.p := h ▸ List.mem_map_of_mem hz
 obtain ⟨y, hy, e⟩ := List.mem_map.1 h1
 have : y.l = z.l := congrArg RpP.l e
 rw [← this]; exact hb y hy
theorem kct_p {x y : KC} (h : y.p = x.p) : kct y = kct x := by
 obtain ⟨l1, l2, l3, l4, l5, l6⟩ := KC.p_len h
 simp only [KC.p, PK.mk.injEq] at h
 obtain ⟨h1, h2, h3, _, _, _⟩ := h
 have c1 : Qas cR y.rs = Qas cR x.rs := (Qbs RC.p (fun p => 2 + p.its.length * 5) y.rs).trans (by rw [h1]; exact (Qbs RC.p (fun p => 2 + p.its.length * 5) x.rs).symm)
 have c2 : Qas cM y.ms = Qas cM x.ms := (Qbs MC.p (fun p => 4 + p.ms.length * 2) y.ms).trans (by rw [h2]; exact (Qbs MC.p (fun p => 4 + p.ms.length * 2) x.ms).symm)
 have c3 : Qas cG y.gs = Qas cG x.gs := (Qbs GC.p (fun p => 1 + p.m.length + p.b.length + p.o.length) y.gs).trans (by rw [h3]; exact (Qbs GC.p (fun p => 1 + p.m.length + p.b.length + p.o.length) x.gs).symm)
 unfold kct
 rw [c1, c2, c3, l5, l6]
theorem cnt_p {a b : List RpC} (h : a.map RpC.p = b.map RpC.p) : Qas (fun z : RpC => z.l.length) a = Qas (fun z : RpC => z.l.length) b :=
 (Qbs RpC.p (fun p => p.l.length) a).trans (by rw [h]; exact (Qbs RpC.p (fun p => p.l.length) b).symm)
theorem PFit.same {q p : PC} (f : PFit p) (s : SameP q p) : PFit q :=
 ⟨s.l ▸ f.ll, fit_p s.x f.xf, s.vs ▸ f.vl, s.ns ▸ f.nl, s.ps ▸ f.pl, fit_p s.y f.yf, s.db ▸ f.dl, by rw [Qce s.hs]; exact f.hl, Qf3 s.hs f.hi, by rw [s.l, kct_p s.x, s.vs, s.ns, s.ps, kct_p s.y, s.db, Qce s.hs, cnt_p s.hs]; exact f.tot⟩
theorem eqQ {a b p : PC} (hf : PFit p) (sa : SameP a p) (sb : SameP b p) {W : World} (ha : PAt W a) (hb : PAt W b) : Calls Tryz.prog 62 #[.agg (Qa5 a), .agg (Qa5 b)] W fun e w' => e = .returned (.bool true) /\ Below W.heap.size W w' := by
 have fa := hf.same sa
 have s := sb.trans sa.symm
 have h := Qh7 a.id a.te a.vo a.base a.bt a.role a.com a.su a.A b.A a.vA b.vA a.nA b.nA a.pA b.pA a.dA b.dA a.hA b.hA a.cap b.cap a.vc b.vc a.nc b.nc a.pc b.pc a.dc b.dc a.hc b.hc a.l a.vs a.ns a.ps a.db a.hs b.hs a.x b.x a.y b.y
  (by have := fa.ll; omega) (by have := fa.vl; omega) (by have := fa.nl; omega) (by have := fa.pl; omega) (by have := fa.dl; omega) (by have := fa.hl; omega) (fun z hz => by have := fa.hi z hz; omega)
  fa.xf s.x fa.yf s.y s.hs W ha.la (s.l ▸ hb.la) ha.xa hb.xa ha.va (s.vs ▸ hb.va) ha.na (s.ns ▸ hb.na) ha.pa (s.ps ▸ hb.pa) ha.ya hb.ya ha.da (s.db ▸ hb.da) ha.ha ha.he hb.ha hb.he
 have e : Qa5 b = Qa5 { b with id := a.id, te := a.te, vo := a.vo, base := a.base, bt := a.bt, l := a.l, role := a.role, vs := a.vs, ns := a.ns, ps := a.ps, com := a.com, db := a.db, su := a.su } := by
  simp only [Qa5, Qhb, heldV, s.id, s.te, s.vo, s.base, s.bt, s.l, s.role, s.vs, s.ns, s.ps, s.com, s.db, s.su]
 rw [e]
 have hl := Qce s.hs
 simp only [Qa5, Qhb, heldV, hl]
 exact h
end Go.Proofs.YtkmkldjipihceaaGreat.Gen
