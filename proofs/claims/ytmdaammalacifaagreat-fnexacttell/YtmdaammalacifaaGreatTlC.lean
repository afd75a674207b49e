/-
  What the law of Tell wants of its parts, with nodes and messages as wholes. No condition but that they fit.
-/
import Derived.Test.YtmdaammalacifaaGreatTellS
set_option linter.unusedVariables false
set_option linter.unusedSimpArgs false
set_option maxRecDepth 100000
set_option maxHeartbeats 8000000
namespace Go.Proofs.YtmdaammalacifaaGreat.Gen
open ChangeShapes WideShapes ChangeAt RowKit Joins Deep Base
theorem PFit.tell {p : PC} {r : RpC} {z : Int} (f : PFit p) (hz : (p.l.length : Int) * 9 + (kct p.x : Int) + (p.vs.length : Int) + (p.ns.length : Int) + (p.ps.length : Int) + (kct p.y : Int) + (p.db.length : Int) + 9 * ((p.hs.length : Int) + (Qae (fun z : RpC => z.l.length) p.hs : Int)) <= 9 * (1048576 - z)) (hr : (r.l.length : Int) <= z) (h1 : z <= 1048576) : PFit (Qco p r) := by
 unfold Qco
 by_cases h : 40 <= p.hs.length
 . rw [if_pos h]; exact f
 . rw [if_neg h]
   refine ⟨f.ll, f.xf, f.vl, f.nl, f.pl, f.yf, f.dl, by simp; omega, fun y hy => ?_, ?_⟩
   . rcases List.mem_append.1 hy with h | h
     . exact f.hi y h
     . simp at h; subst h; omega
   . have hc : Qae (fun z : RpC => z.l.length) (p.hs ++ [r]) = Qae (fun z : RpC => z.l.length) p.hs + r.l.length := by simp [Qae]
     simp only [hc, List.length_append, List.length_cons, List.length_nil]
     omega
theorem SameP.tell {q p : PC} {a r : RpC} (s : SameP q p) (h : a.p = r.p) : SameP (Qco q a) (Qco p r) := by
 have hl := Qb3 s.hs
 unfold Qco
 by_cases h4 : 40 <= p.hs.length
 . rw [if_pos (by omega), if_pos h4]; exact s
 . rw [if_neg (by omega), if_neg h4]
   exact ⟨s.id, s.te, s.vo, s.base, s.bt, s.l, s.x, s.role, s.vs, s.ns, s.ps, s.com, s.y, s.db, s.su, by show (q.hs ++ [a]).map RpC.p = (p.hs ++ [r]).map RpC.p; rw [List.map_append, List.map_append, s.hs]; simp [h]⟩
theorem toQ {p : PC} (hf : PFit p) {w : World} (hp : PAt w p) : Calls Tryz.prog 7 #[.agg (Qaf p)] w fun e w' => ∃ v, e = .returned v /\ NewQ w w' v p /\ Below w.heap.size w w' :=
 (show Calls Tryz.prog 7 #[.agg (Qaf p)] w fun e w' => NewP w w' e p from toPeer_any p hf w hp).mono fun e w' h => by
  obtain ⟨b1, b2, b3, b4, b6, b7, x', y', hs', he, hx, hy, hh, hl, ho, g⟩ := h
  refine ⟨_, he, ⟨_, ?_, ?_, ho⟩, g⟩
  . simp only [Qaf, Qcr, Qbp, hl]
  . exact ⟨rfl, rfl, rfl, rfl, rfl, rfl, hx, rfl, rfl, rfl, rfl, rfl, hy, rfl, rfl, hh⟩
def NewR (w w' : World) (v : Value) (r : RpC) : Prop := ∃ a : RpC, v = .agg (rpcC a) /\ a.p = r.p /\ Sub w' a.A a.l (fun z => w.heap.size <= z /\ z < w'.heap.size)
theorem toR {r : RpC} (hr : r.l.length <= 1048576) {w : World} (ha : At w r.A r.l) : Calls Tryz.prog 8 #[.agg (rpcC r)] w fun e w' => ∃ v, e = .returned v /\ NewR w w' v r /\ Below w.heap.size w w' :=
 (Qe9 r.kind r.frm r.too r.term r.index r.iterm r.commit r.ok r.snap r.A r.cap r.l hr w ha).mono fun e w' h => by
  obtain ⟨b, he, g, h1, h2, h3, h4⟩ := h
  exact ⟨_, he, ⟨⟨r.kind, r.frm, r.too, r.term, r.index, r.iterm, r.commit, some ⟨b, 0, none⟩, r.l.length, r.l, r.ok, r.snap⟩, rfl, rfl, .inr ⟨b, 0, rfl, ⟨h1, h2⟩, h2, h3, h4⟩⟩, g⟩
theorem eqR {a b r : RpC} (hr : r.l.length <= 1048576) (sa : a.p = r.p) (sb : b.p = r.p) {W : World} (ha : At W a.A a.l) (hb : At W b.A b.l) : Calls Tryz.prog 11 #[.agg (rpcC a), .agg (rpcC b)] W fun e w' => e = .returned (.bool true) /\ Below W.heap.size W w' := by
 obtain ⟨k1, f1, t1, m1, i1, j1, c1, A1, p1, l1, o1, s1⟩ := a
 obtain ⟨k2, f2, t2, m2, i2, j2, c2, A2, p2, l2, o2, s2⟩ := b
 have e : (⟨k2, f2, t2, m2, i2, j2, c2, l2, o2, s2⟩ : RpP) = ⟨k1, f1, t1, m1, i1, j1, c1, l1, o1, s1⟩ := sb.trans sa.symm
 cases e
 have hl : l1.length <= 1048576 := by have := congrArg RpP.l sa; simp only [RpC.p] at this; rw [this]; exact hr
 exact Qep k1 f1 t1 m1 i1 j1 c1 o1 s1 A1 A2 p1 p2 l1 (by omega) W ha hb
theorem markR {a : RpC} (hr : a.l.length <= 1048576) {S : Nat -> Prop} {W : World} (k : Int) (hk : 1 <= k) (hk' : k <= 20000000) (h : Sub W a.A a.l S) : Calls Tryz.prog 13 #[.agg (rpcC a), .int .i64 k] W fun e w' => e = .returned (.int .i64 (k + (a.l.length : Int) * 9)) /\ Offp S W w' := by
 obtain ⟨F, hs, hF⟩ := sub_sl h
 have CM : Hid (∀ V : World, Below W.heap.size W V -> Calls Tryz.prog 48 #[.slice a.A a.l.length a.cap, .int .i64 k] V fun e w' => e = .returned (.int .i64 (k + (a.l.length : Int) * 9)) /\ Offp S V w') := fun V g => (Qf2 a.A a.cap a.l (by omega) k hk (by omega) F V (hs.off (Off.of_below g) (by simp))).mono fun e w' h => ⟨h.1, (Offp.of_off h.2.1).mono hF⟩
 have u7 := (Blk.new W 64 (rpcC a)).cell (i := 7) (v := .slice a.A a.l.length a.cap) rfl
 have hl9 : (a.l.length : Int) * 9 <= 9437184 := by omega
 clear hs h
 go_enter Tryz.func13, Tryz.ntmps13
 go_wp2_with fail
 refine (CM.out _ (Qab (Below.refl _ _) _)).mono ?_
 rintro e w1 ⟨rfl, k1⟩
 clear u7
 have K1 := hidP ((Offp.of_below (S := S) (Qab (Below.refl _ W) (.cells (rpcC a) 64))).trans k1)
 clear k1
 go_wp2
 go_ret
 exact ⟨rfl, K1.out⟩
end Go.Proofs.YtmdaammalacifaaGreat.Gen
