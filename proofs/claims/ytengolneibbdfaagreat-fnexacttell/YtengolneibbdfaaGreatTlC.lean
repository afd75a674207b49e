/-
  What the law of Tell wants of its parts, with nodes and messages as wholes. No condition but that they fit.
-/
import Derived.Test.YtengolneibbdfaaGreatTellS
import Derived.Test.YtengolneibbdfaaGreatPeTo
import Derived.Test.YtengolneibbdfaaGreatHardV
import Derived.Test.YtengolneibbdfaaGreatKeepV
import Derived.Test.YtengolneibbdfaaGreatAnsList
import Derived.Test.YtengolneibbdfaaGreatImplRight
import Derived.Deep.RegionHeld3
import Derived.Test.YtengolneibbdfaaGreatAns
import Derived.BigQuiet
import Derived.WalkSmall
import Derived.Test.YtengolneibbdfaaGreatPeV
import Derived.Test.YtengolneibbdfaaGreatWhl
import Derived.Test.YtengolneibbdfaaGreatPeN
import Derived.Deep.Cut
import Derived.Test.YtengolneibbdfaaGreatKeepP
import Derived.Test.YtengolneibbdfaaGreatKCi
namespace Go.Proofs.YtengolneibbdfaaGreat.Gen
open Go.ChangeShapes Go.WideShapes Go.ChangeAt Go.RowKit Go.Joins Go.Deep Base
set_option linter.unusedVariables false
set_option linter.unusedSimpArgs false
theorem kct_p {x y : KC} (h : y.p = x.p) : kct y = kct x := by
  obtain ⟨l1, l2, l3, l4, l5, l6⟩ := KC.p_len h
  simp only [KC.p, PK.mk.injEq] at h
  obtain ⟨h1, h2, h3, _, _, _⟩ := h
  have c1 : count cR y.rs = count cR x.rs := (count_p RC.p (fun p => 2 + p.its.length * 5) y.rs).trans (by rw [h1]; exact (count_p RC.p (fun p => 2 + p.its.length * 5) x.rs).symm)
  have c2 : count cM y.ms = count cM x.ms := (count_p MC.p (fun p => 4 + p.ms.length * 2) y.ms).trans (by rw [h2]; exact (count_p MC.p (fun p => 4 + p.ms.length * 2) x.ms).symm)
  have c3 : count cG y.gs = count cG x.gs := (count_p GC.p (fun p => 1 + p.m.length + p.b.length + p.o.length) y.gs).trans (by rw [h3]; exact (count_p GC.p (fun p => 1 + p.m.length + p.b.length + p.o.length) x.gs).symm)
  unfold kct
  rw [c1, c2, c3, l5, l6]
theorem cnt_p {a b : List RpC} (h : a.map RpC.p = b.map RpC.p) : count (fun z : RpC => z.l.length) a = count (fun z : RpC => z.l.length) b :=
  (count_p RpC.p (fun p => p.l.length) a).trans (by rw [h]; exact (count_p RpC.p (fun p => p.l.length) b).symm)
theorem PFit.same {q p : PC} (f : PFit p) (s : SameP q p) : PFit q :=
  ⟨s.l ▸ f.ll, fit_p s.x f.xf, s.vs ▸ f.vl, s.ns ▸ f.nl, s.ps ▸ f.pl, fit_p s.y f.yf, s.db ▸ f.dl, by rw [held_len s.hs]; exact f.hl, held_fit s.hs f.hi, by rw [s.l, kct_p s.x, s.vs, s.ns, s.ps, kct_p s.y, s.db, held_len s.hs, cnt_p s.hs]; exact f.tot⟩
theorem PFit.tell {p : PC} {r : RpC} {z : Int} (f : PFit p) (hz : (p.l.length : Int) * 9 + (kct p.x : Int) + (p.vs.length : Int) + (p.ns.length : Int) + (p.ps.length : Int) + (kct p.y : Int) + (p.db.length : Int) + 9 * ((p.hs.length : Int) + (count (fun z : RpC => z.l.length) p.hs : Int)) <= 9 * (1048576 - z)) (hr : (r.l.length : Int) <= z) (h1 : z <= 1048576) : PFit (tellP p r) := by
  unfold tellP
  by_cases h : 40 <= p.hs.length
  . rw [if_pos h]; exact f
  . rw [if_neg h]
    refine ⟨f.ll, f.xf, f.vl, f.nl, f.pl, f.yf, f.dl, by simp; omega, fun y hy => ?_, ?_⟩
    . rcases List.mem_append.1 hy with h | h
      . exact f.hi y h
      . simp at h; subst h; omega
    . have hc : count (fun z : RpC => z.l.length) (p.hs ++ [r]) = count (fun z : RpC => z.l.length) p.hs + r.l.length := by simp [count]
      simp only [hc, List.length_append, List.length_cons, List.length_nil]
      omega
theorem SameP.tell {q p : PC} {a r : RpC} (s : SameP q p) (h : a.p = r.p) : SameP (tellP q a) (tellP p r) := by
  have hl := held_len s.hs
  unfold tellP
  by_cases h4 : 40 <= p.hs.length
  . rw [if_pos (by omega), if_pos h4]; exact s
  . rw [if_neg (by omega), if_neg h4]
    exact ⟨s.id, s.te, s.vo, s.base, s.bt, s.l, s.x, s.role, s.vs, s.ns, s.ps, s.com, s.y, s.db, s.su, by show (q.hs ++ [a]).map RpC.p = (p.hs ++ [r]).map RpC.p; rw [List.map_append, List.map_append, s.hs]; simp [h]⟩
theorem toQ {p : PC} (hf : PFit p) {w : World} (hp : PAt w p) : Calls Tryz.prog 8 #[.agg (cellsP p)] w fun e w' => ∃ v, e = .returned v /\ NewQ w w' v p /\ Below w.heap.size w w' :=
  (show Calls Tryz.prog 8 #[.agg (cellsP p)] w fun e w' => NewP w w' e p from toPeer_any p hf w hp).mono fun e w' h => by
    obtain ⟨b1, b2, b3, b4, b6, b7, x', y', hs', he, hx, hy, hh, hl, ho, g⟩ := h
    refine ⟨_, he, ⟨_, ?_, ?_, ho⟩, g⟩
    . simp only [cellsP, cellsV, heldV, hl]
    . exact ⟨rfl, rfl, rfl, rfl, rfl, rfl, hx, rfl, rfl, rfl, rfl, rfl, hy, rfl, rfl, hh⟩
def NewR (w w' : World) (v : Value) (r : RpC) : Prop := ∃ a : RpC, v = .agg (rpcC a) /\ a.p = r.p /\ Sub w' a.A a.l (fun z => w.heap.size <= z /\ z < w'.heap.size)
theorem toR {r : RpC} (hr : r.l.length <= 1048576) {w : World} (ha : At w r.A r.l) : Calls Tryz.prog 13 #[.agg (rpcC r)] w fun e w' => ∃ v, e = .returned v /\ NewR w w' v r /\ Below w.heap.size w w' :=
  (toRpc_any r.kind r.frm r.too r.term r.index r.iterm r.commit r.ok r.snap r.A r.cap r.l hr w ha).mono fun e w' h => by
    obtain ⟨b, he, g, h1, h2, h3, h4⟩ := h
    exact ⟨_, he, ⟨⟨r.kind, r.frm, r.too, r.term, r.index, r.iterm, r.commit, some ⟨b, 0, none⟩, r.l.length, r.l, r.ok, r.snap⟩, rfl, rfl, .inr ⟨b, 0, rfl, ⟨h1, h2⟩, h2, h3, h4⟩⟩, g⟩
theorem eqQ {a b p : PC} (hf : PFit p) (sa : SameP a p) (sb : SameP b p) {W : World} (ha : PAt W a) (hb : PAt W b) : Calls Tryz.prog 10 #[.agg (cellsP a), .agg (cellsP b)] W fun e w' => e = .returned (.bool true) /\ Below W.heap.size W w' := by
  have fa := hf.same sa
  have s := sb.trans sa.symm
  have h := eqPeer_same a.id a.te a.vo a.base a.bt a.role a.com a.su a.A b.A a.vA b.vA a.nA b.nA a.pA b.pA a.dA b.dA a.hA b.hA a.cap b.cap a.vc b.vc a.nc b.nc a.pc b.pc a.dc b.dc a.hc b.hc a.l a.vs a.ns a.ps a.db a.hs b.hs a.x b.x a.y b.y
    (by have := fa.ll; omega) (by have := fa.vl; omega) (by have := fa.nl; omega) (by have := fa.pl; omega) (by have := fa.dl; omega) (by have := fa.hl; omega) (fun z hz => by have := fa.hi z hz; omega)
    fa.xf s.x fa.yf s.y s.hs W ha.la (s.l ▸ hb.la) ha.xa hb.xa ha.va (s.vs ▸ hb.va) ha.na (s.ns ▸ hb.na) ha.pa (s.ps ▸ hb.pa) ha.ya hb.ya ha.da (s.db ▸ hb.da) ha.ha ha.he hb.ha hb.he
  have e : cellsP b = cellsP { b with id := a.id, te := a.te, vo := a.vo, base := a.base, bt := a.bt, l := a.l, role := a.role, vs := a.vs, ns := a.ns, ps := a.ps, com := a.com, db := a.db, su := a.su } := by
    simp only [cellsP, cellsV, heldV, s.id, s.te, s.vo, s.base, s.bt, s.l, s.role, s.vs, s.ns, s.ps, s.com, s.db, s.su]
  rw [e]
  have hl := held_len s.hs
  simp only [cellsP, cellsV, heldV, hl]
  exact h
theorem eqR {a b r : RpC} (hr : r.l.length <= 1048576) (sa : a.p = r.p) (sb : b.p = r.p) {W : World} (ha : At W a.A a.l) (hb : At W b.A b.l) : Calls Tryz.prog 15 #[.agg (rpcC a), .agg (rpcC b)] W fun e w' => e = .returned (.bool true) /\ Below W.heap.size W w' := by
  obtain ⟨k1, f1, t1, m1, i1, j1, c1, A1, p1, l1, o1, s1⟩ := a
  obtain ⟨k2, f2, t2, m2, i2, j2, c2, A2, p2, l2, o2, s2⟩ := b
  have e : (⟨k2, f2, t2, m2, i2, j2, c2, l2, o2, s2⟩ : RpP) = ⟨k1, f1, t1, m1, i1, j1, c1, l1, o1, s1⟩ := sb.trans sa.symm
  cases e
  have hl : l1.length <= 1048576 := by have := congrArg RpP.l sa; simp only [RpC.p] at this; rw [this]; exact hr
  exact eqRpc_same k1 f1 t1 m1 i1 j1 c1 o1 s1 A1 A2 p1 p2 l1 (by omega) W ha hb
theorem markQ {q : PC} (hf : PFit q) {S : Nat -> Prop} {W : World} (hS : ∀ z, S z -> z < W.heap.size) (h : POwn W q S) : Calls Tryz.prog 16 #[.agg (cellsP q), .int .i64 1] W fun e w' => e = .returned (.int .i64 (pz7 q)) /\ Offp S W w' /\ POwn w' (mPe q) S := markPeer_any q hf S W hS h
theorem heldQ {q : PC} (hf : PFit q) {S : Nat -> Prop} {W : World} (h : POwn W (mPe q) S) : Calls Tryz.prog 18 #[.agg (cellsP q), .int .i64 1] W fun e w' => e = .returned (.int .i64 (pz7 q)) /\ Below W.heap.size W w' := heldPeer_any q hf S W h
set_option maxRecDepth 100000 in
theorem markR {a : RpC} (hr : a.l.length <= 1048576) {S : Nat -> Prop} {W : World} (k : Int) (hk : 1 <= k) (hk' : k <= 20000000) (h : Sub W a.A a.l S) : Calls Tryz.prog 17 #[.agg (rpcC a), .int .i64 k] W fun e w' => e = .returned (.int .i64 (k + (a.l.length : Int) * 9)) /\ Offp S W w' := by
  obtain ⟨F, hs, hF⟩ := sub_sl h
  have CM : Hid (∀ V : World, Below W.heap.size W V -> Calls Tryz.prog 59 #[.slice a.A a.l.length a.cap, .int .i64 k] V fun e w' => e = .returned (.int .i64 (k + (a.l.length : Int) * 9)) /\ Offp S V w') := fun V g => (markE_any a.A a.cap a.l (by omega) k hk (by omega) F V (hs.off (Off.of_below g) (by simp))).mono fun e w' h => ⟨h.1, (Offp.of_off h.2.1).mono hF⟩
  have u7 := (Blk.new W 71 (rpcC a)).cell (i := 7) (v := .slice a.A a.l.length a.cap) rfl
  have hl9 : (a.l.length : Int) * 9 <= 9437184 := by omega
  clear hs h
  go_enter Tryz.func17, Tryz.ntmps17
  go_wp2_with fail
  refine (CM.out _ (alloc0 (Below.refl _ _) _)).mono ?_
  rintro e w1 ⟨rfl, k1⟩
  clear u7
  have K1 := hidP ((Offp.of_below (S := S) (alloc0 (Below.refl _ W) (.cells (rpcC a) 71))).trans k1)
  clear k1
  go_wp2
  go_ret
  exact ⟨rfl, K1.out⟩
end Go.Proofs.YtengolneibbdfaaGreat.Gen
