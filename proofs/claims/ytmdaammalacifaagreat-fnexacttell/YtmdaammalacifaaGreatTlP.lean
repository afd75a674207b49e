/-
  What Tell's two sides share. No condition.
-/
import Derived.Test.YtmdaammalacifaaGreatHld
import Derived.Test.YtmdaammalacifaaGreatPeCp
set_option linter.unusedVariables false
set_option linter.unusedSimpArgs false
set_option maxRecDepth 100000
set_option maxHeartbeats 8000000
namespace Go.Proofs.YtmdaammalacifaaGreat.Gen
open ChangeShapes WideShapes ChangeAt RowKit Joins Deep Base
theorem toldP_new {w w' : World} {e : Ending} {p : PC} (h : ToldP w w' e p) : ∃ v, e = .returned v /\ NewQ w w' v p /\ Below w.heap.size w w' := by
 obtain ⟨a1, c1, x', a2, c2, a3, c3, a4, c4, y', a6, c6, a7, c7, hs', he, hx, hy, hh, hl, ho, g⟩ := h
 refine ⟨_, he, ⟨_, ?_, ?_, ho⟩, g⟩
 . simp only [Qaf, Qcr, Qbp, hl]
 . exact ⟨rfl, rfl, rfl, rfl, rfl, rfl, hx, rfl, rfl, rfl, rfl, rfl, hy, rfl, rfl, hh⟩
theorem peerCp_any (p : PC) (hf : PFit p) (w : World) (h : PAt w p) : Calls Tryz.prog 32 #[.agg (Qaf p)] w fun e w' => ∃ v, e = .returned v /\ NewQ w w' v p /\ Below w.heap.size w w' := by
 refine (show Calls Tryz.prog 32 #[.agg (Qaf p)] w fun e w' => ToldP w w' e p from
  Qd7 p w (fun W g => Qef p.te p.vo p.base p.bt p.A p.cap p.l (by have := hf.ll; omega) p.x hf.xf.rl hf.xf.ml hf.xf.gl hf.xf.dl hf.xf.ll hf.xf.ri hf.xf.mi hf.xf.gi W (h.la.below g) (h.xa.below g))
   (fun W g => cpBools p.vA p.vc p.vs hf.vl W (h.va.below g)) (fun W g => Qgj p.nA p.nc p.ns hf.nl W (h.na.below g)) (fun W g => Qgj p.pA p.pc p.ps hf.pl W (h.pa.below g))
   (fun W g => (Qc0 p.y.rA p.y.rc p.y.rs p.y.mA p.y.mc p.y.ms p.y.gA p.y.gc p.y.gs p.y.time p.y.dA p.y.dc p.y.ds p.y.lA p.y.lc p.y.ls hf.yf.rl hf.yf.ml hf.yf.gl hf.yf.dl hf.yf.ll hf.yf.ri hf.yf.mi hf.yf.gi W (h.ya.below g)).mono fun e w' ⟨y', he, hp, ho, g'⟩ => ⟨y', he, g', hp, ho⟩)
   (fun W g => Qeh p.su p.dA p.dc p.db (by have := hf.dl; omega) W (h.da.below g)) (fun W g => cpHeld p.hA p.hc p.hs hf.hl hf.hi W (h.ha.below g) (h.he.below g))).mono fun e w' h => toldP_new h
theorem Qb9 (p : PC) (size : Int) (w : World) : Calls Tryz.prog 31 #[.agg #[.int .i64 0, .int .i64 0, .int .i64 0, .int .i64 0], .agg (Qaf p), .int .i64 size] w fun e w' => e = .returned (.agg (Qbs p size (Qbp p))) /\ Below w.heap.size w w' :=
 nodeOf_any 0 0 0 0 p.id p.te p.vo p.base p.bt p.role p.com p.su size p.A p.vA p.nA p.pA p.dA p.hA p.cap p.vs.length p.vc p.ns.length p.nc p.ps.length p.pc p.dc p.hc p.l p.db p.hs p.x p.y w
theorem toldOfP (p : PC) (size : Int) (w : World) : Calls Tryz.prog 34 #[.agg (Qbs p size (Qbp p))] w fun e w' => e = .returned (.agg (Qaf p)) /\ Below w.heap.size w w' :=
 told_node 0 0 0 0 p.id p.te p.vo p.base p.bt p.role p.com p.su size p.A p.vA p.nA p.pA p.dA p.hA p.cap p.vs.length p.vc p.ns.length p.nc p.ps.length p.pc p.dc p.hc p.l p.db p.hs p.x p.y w
def Qco (p : PC) (r : RpC) : PC := if 40 <= p.hs.length then p else { p with hs := p.hs ++ [r] }
def ToldT (w w' : World) (e : Ending) (p : PC) (r : RpC) : Prop := ∃ v, e = .returned (.tuple #[v, .bool (decide (p.hs.length < 40))]) /\ NewQ w w' v (Qco p r) /\ Below w.heap.size w w'
end Go.Proofs.YtmdaammalacifaaGreat.Gen
namespace Go.Proofs.YtmdaammalacifaaGreat.Gen
open ChangeShapes WideShapes ChangeAt RowKit Joins Deep Base
def rpcC (r : RpC) : Array Value := #[.int .i64 r.kind, .int .i64 r.frm, .int .i64 r.too, .int .i64 r.term, .int .i64 r.index, .int .i64 r.iterm, .int .i64 r.commit, .slice r.A r.l.length r.cap, .bool r.ok, .string r.snap]
theorem rpcC_one (r : RpC) : (rpcC r).all (·.oneCell') = true := by simp [rpcC, Value.oneCell']
theorem at_one {W : World} {B : Nat} {t : TypeId} {r : RpC} (h : Blk W B t (rpcC r)) : At W (some ⟨B, 0, none⟩) [r] := by
 refine .inr ⟨_, 0, rfl, h.lt, fun j u hu => ?_⟩
 rw [Qbe] at hu
 rw [Nat.zero_add]
 exact h.cell (by rw [← Array.getElem?_toList]; exact hu)
def Okb (w : World) (P : Nat) (W : World) (z : Nat) : Prop := w.heap.size + 2 < z /\ z < W.heap.size /\ z ≠ P
theorem POwn.hold {W w' : World} {q : PC} {S T : Nat -> Prop} {a : Option Addr} {c : Nat} {hs' : List RpC} (h : POwn W q S) (hS : ∀ z, S z -> z < W.heap.size) (hST : ∀ z, S z -> T z) (g : Below W.heap.size W w') (ho : Own rpcP w' a hs' (fun z => W.heap.size <= z /\ z < w'.heap.size)) (hT : ∀ z, W.heap.size <= z -> z < w'.heap.size -> T z) :
 POwn w' ({ q with hA := a, hc := c, hs := hs' } : PC) T := by
 obtain ⟨col, h⟩ := h
 have m : ∀ i z, S z /\ col z = i -> T z /\ (if z < W.heap.size then col z else 8) = i := fun i z hz => ⟨hST z hz.1, by rw [if_pos (hS z hz.1)]; exact hz.2⟩
 exact ⟨fun z => if z < W.heap.size then col z else 8, (h.l.below g).mono (m 1), (h.x.below g).mono (m 2), (h.v.below g).mono (m 3), (h.n.below g).mono (m 4), (h.q.below g).mono (m 5), (h.y.below g).mono (m 6), (h.d.below g).mono (m 7), ho.mono (fun z hz => ⟨hT z hz.1 hz.2, by rw [if_neg (by have := hz.1; omega)]⟩)⟩
theorem Qc3 (w : World) (p q : PC) (r : RpC) (P B : Nat) (t : TypeId) (size : Int) (hf : PFit p) (hr : r.l.length <= 1048576) (W : World) (sq : SameP q p) (oq : POwn W q (Okb w P W)) (hP : P < W.heap.size) (hw : w.heap.size + 2 < W.heap.size) (hB : Blk W B t (rpcC r)) (ha : At W r.A r.l) :
 Calls Tryz.prog 33 #[.agg (Qbs q size (Qbp q)), .slice (some ⟨B, 0, none⟩) 1 1] W fun e w' => ∃ q' : PC, e = .returned (.tuple #[.agg (Qbs q' size (Qbp q')), .bool (decide (p.hs.length < 40))]) /\ SameP q' (Qco p r) /\ POwn w' q' (Okb w P w') /\ Below W.heap.size W w' := by
 have hl := Qb3 sq.hs
 have hfh := hf.hl
 refine (Qg6 (Qbs q size (Qbp q)) rfl (Qa6 _ _ _ rfl) q.hA (some ⟨B, 0, none⟩) q.hc 1 q.hs [r] (nodeC_held _ _ _) (by omega) (by simp) (by simp) (fun x hx => ?_) W oq.at.ha (at_one hB) (fun x hx => ?_)).mono ?_
 . rcases List.mem_append.1 hx with h | h
   . exact held_fit sq.hs hf.hi x h
   . simp at h; subst h; exact hr
 . rcases List.mem_append.1 hx with h | h
   . exact oq.at.he x h
   . simp at h; subst h; exact ha
 . rintro e w' h
   unfold ToldHo at h
   by_cases hgt : 40 < (q.hs ++ [r]).length
   . rw [if_pos hgt] at h
     obtain ⟨rfl, g⟩ := h
     have h40 : 40 <= p.hs.length := by simp at hgt; omega
     refine ⟨q, by rw [decide_eq_false (by omega)], ?_, (oq.below g).mono (fun z hz => ⟨hz.1, Nat.lt_of_lt_of_le hz.2.1 g.size, hz.2.2⟩), g⟩
     unfold Qco
     rw [if_pos h40]
     exact sq
   . rw [if_neg hgt] at h
     obtain ⟨a, c, hs', rfl, g, hp, ho⟩ := h
     have h40 : ¬ 40 <= p.hs.length := by simp at hgt; omega
     have hl' := Qb3 hp
     refine ⟨{ q with hA := a, hc := c, hs := hs' }, ?_, ?_, oq.hold (fun z hz => hz.2.1) (fun z hz => ⟨hz.1, Nat.lt_of_lt_of_le hz.2.1 g.size, hz.2.2⟩) g ho (fun z h1 h2 => ⟨by omega, h2, by omega⟩), g⟩
     . rw [decide_eq_true (by omega), nodeC_set, ← hl']
       rfl
     . unfold Qco
       rw [if_neg h40]
       exact ⟨sq.id, sq.te, sq.vo, sq.base, sq.bt, sq.l, sq.x, sq.role, sq.vs, sq.ns, sq.ps, sq.com, sq.y, sq.db, sq.su, by show hs'.map RpC.p = (p.hs ++ [r]).map RpC.p; rw [hp, List.map_append, List.map_append, sq.hs]⟩
end Go.Proofs.YtmdaammalacifaaGreat.Gen
