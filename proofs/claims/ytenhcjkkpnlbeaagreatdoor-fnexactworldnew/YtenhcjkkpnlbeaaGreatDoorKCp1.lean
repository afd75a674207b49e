/-
  For the specification's copy of a keeper: its box and what is made of it, list by list. No condition.
-/
import Derived.Test.YtenhcjkkpnlbeaaGreatDoorHOk
set_option linter.unusedVariables false
set_option linter.unusedSimpArgs false
set_option maxRecDepth 100000
set_option maxHeartbeats 8000000
namespace Go.Proofs.YtenhcjkkpnlbeaaGreatDoor.Gen
open ChangeShapes WideShapes ChangeAt RowKit Joins Deep Base
structure Kd (w W : World) (kc : Array Value) : Prop where
  bl : Below w.heap.size w W
  k : Blk W w.heap.size 48 kc
  r : Blk W (w.heap.size + 1) 48 Qa9
theorem Kd.below {w W W' : World} {kc : Array Value} (h : Kd w W kc) (g : Below W.heap.size W W') : Kd w W' kc := ⟨via0 g h.bl, h.k.below g h.k.lt, h.r.below g h.r.lt⟩
theorem Kd.alloc {w W : World} {kc : Array Value} (h : Kd w W kc) (ob : Obj) : Kd w (W.alloc ob) kc := h.below (Qab (Below.refl _ _) _)
theorem Kd.kept {w W W' : World} {kc : Array Value} (h : Kd w W kc) (k : ∀ p vs, Blk W p 48 vs -> Blk W' p 48 vs) (hb : Below (w.heap.size + 2) W W') : Kd w W' kc :=
 ⟨h.bl.trans ⟨hb.os, hb.tape, hb.output, hb.size, fun i hi => hb.block i (by omega)⟩, k _ _ h.k, k _ _ h.r⟩
theorem Kd.offp {w W W' : World} {kc : Array Value} {T : Nat -> Prop} (h : Kd w W kc) (k : Offp T W W') (hp : ∀ x, T x -> w.heap.size + 1 < x) : Kd w W' kc :=
 ⟨h.bl.trans (k.toBelow (fun x hx => by have := hp x hx; omega) h.bl.size), h.k.offp k (fun e => by have := hp _ e; omega), h.r.offp k (fun e => by have := hp _ e; omega)⟩
structure Du (q : Nat) (W : World) (v1 v2 : Value) (l1 : List Int) (l2 : List An) : Prop where
  o1 : W.ownsRow q 3 1 v1 l1.length (flat l1)
  o2 : W.ownsRow q 89 4 v2 l2.length (flat l2)
  q : q <= W.heap.size
section
variable {q : Nat} {W : World} {v1 v2 : Value} {l1 : List Int} {l2 : List An}
theorem Du.nil (q : Nat) (W : World) (hq : q <= W.heap.size) : Du q W (.slice none 0 0) (.slice none 0 0) [] [] := ⟨World.ownsRow_nil _ _ _ _, World.ownsRow_nil _ _ _ _, hq⟩
theorem Du.alloc (h : Du q W v1 v2 l1 l2) (ob : Obj) : Du q (W.alloc ob) v1 v2 l1 l2 := ⟨Qdi h.o1 _, Qdi h.o2 _, by have := h.q; simp; omega⟩
theorem Du.out {g : Nat} (h : Du q W v1 v2 l1 l2) (hg : W.heap.size = g) : Blk (W.alloc (.cells Qa9 48)) g 48 Qa9 := by subst hg; exact Blk.new W _ _
theorem Du.app2 {A : Option Addr} {cap : Nat} {m : List An} (h : Du q W v1 v2 l1 []) (hA : At W A m) (hm : m.length <= 1048576) :
 ∃ a c w', (Builtin.append_ #[46, 46] 46 #[v2, .slice A m.length cap]).run Tryz.prog W = .ok (.slice a m.length c) w' /\ Du q w' v1 (.slice a m.length c) l1 m /\ (∀ p vs, Blk W p 48 vs -> Blk w' p 48 vs) /\ Below q W w' := by
 obtain ⟨v, w1, hr, hown, hgrow, hat⟩ := Qco (P := Tryz.prog) Tryz.underlying46 infoAn rfl (by decide) (by decide) q v2 ([] : List An) m A cap W h.q h.o2 hA (by simp; omega)
 simp only [List.length_nil, Nat.zero_add, List.nil_append] at hown
 obtain ⟨a, c, rfl, _⟩ := Qb2 hown
 refine ⟨a, c, w1, hr, ⟨owns_grown h.o1 hgrow (fun x hx e => ?_), hown, Nat.le_trans h.q hgrow.size⟩, fun p vs hp => hp.kept hgrow (fun e => Qfa h.o2 hp (by decide) p e.symm rfl), (Below.refl _ W).grown hgrow h.q (fun k e => (h.o2.lt k e).1)⟩
 rcases h.o1.2 with ⟨rfl, _⟩ | ⟨g, c', cur, rfl, _, hg, _⟩
 . cases hx
 . have e1 : g = x := by simpa [Value.ownBlock] using hx
   subst e1
   exact Qfa h.o2 (show Blk W g 3 cur from hg) (by decide) g e.symm rfl
end
abbrev putK (Y : World) (p : Nat) (v0 v1 v2 v3 v4 v5 : Value) : World := (((((Y.setCell ⟨p, 0, none⟩ v0).setCell ⟨p, 1, none⟩ v1).setCell ⟨p, 2, none⟩ v2).setCell ⟨p, 3, none⟩ v3).setCell ⟨p, 4, none⟩ v4).setCell ⟨p, 5, none⟩ v5
theorem Qej (Y : World) (p : Nat) (v0 v1 v2 v3 v4 v5 : Value) : Only p Y (putK Y p v0 v1 v2 v3 v4 v5) := (((((((Only.refl p Y).set 0 v0).set 1 v1).set 2 v2).set 3 v3).set 4 v4).set 5 v5)
theorem blk_putK {Y : World} {p : Nat} {t : TypeId} {x0 x1 x2 x3 x4 x5 : Value} (h : Blk Y p t #[x0, x1, x2, x3, x4, x5]) (v0 v1 v2 v3 v4 v5 : Value) : Blk (putK Y p v0 v1 v2 v3 v4 v5) p t #[v0, v1, v2, v3, v4, v5] := (((((h.setAt 0 v0).setAt 1 v1).setAt 2 v2).setAt 3 v3).setAt 4 v4).setAt 5 v5
theorem putK_cells {W : World} {p : Nat} {t : TypeId} {x0 x1 x2 x3 x4 x5 : Value} (h : Blk W p t #[x0, x1, x2, x3, x4, x5]) (v0 v1 v2 v3 v4 v5 : Value) :
 (W.setCell ⟨p, 0, none⟩ v0).cell? ⟨p, 0, none⟩ = some v0 /\ ((W.setCell ⟨p, 0, none⟩ v0).setCell ⟨p, 1, none⟩ v1).cell? ⟨p, 1, none⟩ = some v1 /\ (((W.setCell ⟨p, 0, none⟩ v0).setCell ⟨p, 1, none⟩ v1).setCell ⟨p, 2, none⟩ v2).cell? ⟨p, 2, none⟩ = some v2 /\
  ((((W.setCell ⟨p, 0, none⟩ v0).setCell ⟨p, 1, none⟩ v1).setCell ⟨p, 2, none⟩ v2).setCell ⟨p, 3, none⟩ v3).cell? ⟨p, 3, none⟩ = some v3 /\ (((((W.setCell ⟨p, 0, none⟩ v0).setCell ⟨p, 1, none⟩ v1).setCell ⟨p, 2, none⟩ v2).setCell ⟨p, 3, none⟩ v3).setCell ⟨p, 4, none⟩ v4).cell? ⟨p, 4, none⟩ = some v4 /\
  (putK W p v0 v1 v2 v3 v4 v5).cell? ⟨p, 5, none⟩ = some v5 :=
 ⟨(h.setAt 0 v0).cell (by rfl), ((h.setAt 0 v0).setAt 1 v1).cell (by rfl), (((h.setAt 0 v0).setAt 1 v1).setAt 2 v2).cell (by rfl), ((((h.setAt 0 v0).setAt 1 v1).setAt 2 v2).setAt 3 v3).cell (by rfl), (((((h.setAt 0 v0).setAt 1 v1).setAt 2 v2).setAt 3 v3).setAt 4 v4).cell (by rfl), (blk_putK h v0 v1 v2 v3 v4 v5).cell (by rfl)⟩
structure KP {α : Type} [Cel α] (Pr : World -> α -> (Nat -> Prop) -> Prop) (t : TypeId) (Pk : World -> Prop) (B : Nat) (w W : World) (kc : Array Value) (P : Nat) (vs : Array Value) (a : Option Addr) (cp : Nat) (xs : List α) : Prop where
  kd : Kd w W kc
  box : Blk W P 48 vs
  hp : w.heap.size + 1 < P
  pb : P < B
  gu : GU Pr t B B W a cp xs
  pk : Pk W
  stay : Stay2 P B Pk
section
variable {α : Type} [Cel α] {Pr : World -> α -> (Nat -> Prop) -> Prop} {t : TypeId} {Pk : World -> Prop} {B : Nat} {w W W1 : World} {kc vs : Array Value} {P : Nat} {a : Option Addr} {cp : Nat} {xs : List α}
theorem KP.drew (hP : Firm Pr) (h : KP Pr t Pk B w W kc P vs a cp xs) : KP Pr t Pk B w W.drew kc P vs a cp xs :=
 ⟨h.kd.below (Below.refl _ _).drew, h.box.drew, h.hp, h.pb, h.gu.offp hP (Offp.of_below (S := fun _ => False) (Below.refl _ _).drew) (fun _ e => e.elim), h.stay _ _ (fun _ => False) h.pk (Offp.of_below (Below.refl _ _).drew) (fun _ e => e.elim), h.stay⟩
theorem KP.below (hP : Firm Pr) (h : KP Pr t Pk B w W kc P vs a cp xs) (k : Below W.heap.size W W1) : KP Pr t Pk B w W1 kc P vs a cp xs :=
 ⟨h.kd.below k, h.box.below k h.box.lt, h.hp, h.pb, h.gu.offp hP (Offp.of_below (S := fun _ => False) k) (fun _ e => e.elim), h.stay _ _ (fun _ => False) h.pk (Offp.of_below k) (fun _ e => e.elim), h.stay⟩
theorem KP.round (hP : Firm Pr) {pg : Program} {ts : TypeId} {z : Value} {bytes : Nat} (hu : pg.underlying ts = some (.slice t)) (hinfo : (pg.info? t).map (fun i => (i.zero, i.size, i.bytes)) = some (some z, Cel.k α, bytes)) (hz : z.cells.size = Cel.k α) (hk : 0 < Cel.k α) (hby : bytes <= 1000)
 (h : KP Pr t Pk B w W kc P vs a cp xs) (k : Below W.heap.size W W1) (x : α) (hy : Pr W1 x (fun b => W.heap.size <= b /\ b < W1.heap.size)) (cs : Array Value) (hcs : cs.toList = Cel.cs x) (hx : xs.length <= 2000000) (f : Nat) :
 ∃ a2 c2 W2, (Builtin.append_ #[ts, ts] ts #[.slice a xs.length cp, .slice (some ⟨W1.heap.size, 0, none⟩) 1 1]).run pg (W1.alloc (.cells cs t)) = .ok (.slice a2 (xs.length + 1) c2) W2 /\ Blk W2 P 48 vs /\ Kd w W2 kc /\
  KP Pr t Pk B w (W2.setCell ⟨P, f, none⟩ (.slice a2 (xs.length + 1) c2)) kc P (vs.setIfInBounds f (.slice a2 (xs.length + 1) c2)) a2 c2 (xs ++ [x]) := by
 have h1 := h.below hP k
 have hPl := h.pb
 obtain ⟨a2, c2, W2, hr, hg, ko⟩ := h.gu.app hP hu hinfo hz hk hby (Offp.of_below (S := fun _ => False) k) (fun _ e => e.elim) x hy (fun y hy => hy) cs hcs hx
 have kb := Qab (Below.refl _ W1) (.cells cs t)
 have h2 := h1.kd.below kb
 have b2 : Blk W2 P 48 vs := (h1.box.below kb h1.box.lt).offp ko (by omega)
 have d2 : Kd w W2 kc := h2.offp ko (fun x hx => by have := h.hp; omega)
 have kc' := Offp.of_only ((Only.refl P W2).set f (.slice a2 (xs.length + 1) c2))
 refine ⟨a2, c2, W2, hr, b2, d2, ⟨d2.offp kc' (fun x hx => by subst hx; exact h.hp), b2.setAt f _, h.hp, h.pb, hg.offp hP kc' (fun y e => by subst e; exact h.pb), ?_, h.stay⟩⟩
 exact h.stay _ _ _ (h.stay _ _ _ (h.stay _ _ _ h1.pk (Offp.of_below (S := fun _ => False) kb) (fun _ e => e.elim)) ko (fun y e => .inr e)) kc' (fun y e => .inl e)
theorem KP.next {β : Type} [Cel β] {Q : World -> β -> (Nat -> Prop) -> Prop} {u : TypeId} (hP : Firm Pr) (h : KP Pr t Pk B w W kc P vs a cp xs) : KP (α := β) Q u (fun V => Pk V /\ Own Pr V a xs (fun b => B <= b /\ b < W.heap.size)) W.heap.size w W kc P vs none 0 [] := by
 have hB := h.gu.hB
 refine ⟨h.kd, h.box, h.hp, by have := h.pb; omega, GU.start (Nat.le_refl _) (Nat.le_refl _), ⟨h.pk, h.gu.toOwn⟩, ?_⟩
 rintro V V' T ⟨p1, p2⟩ k hT
 refine ⟨h.stay _ _ _ p1 k (fun x hx => (hT x hx).imp id (fun e => by omega)), p2.offp hP k (fun x hx e => ?_)⟩
 rcases hT x e with e1 | e1
 . have := h.pb; omega
 . omega
end
end Go.Proofs.YtenhcjkkpnlbeaaGreatDoor.Gen
namespace Go.Proofs.YtenhcjkkpnlbeaaGreatDoor.Gen
open ChangeShapes WideShapes ChangeAt RowKit Joins Deep Base
open Items (It)
theorem Du.putK {q P : Nat} {W : World} {v1 v2 : Value} {l1 : List Int} {l2 : List An} {vs : Array Value} (h : Du q W v1 v2 l1 l2) (o : Blk W P 48 vs) (u0 u1 u2 u3 u4 u5 : Value) : Du q (putK W P u0 u1 u2 u3 u4 u5) v1 v2 l1 l2 := by
 have k := Offp.of_only (Qej W P u0 u1 u2 u3 u4 u5)
 exact ⟨Qdy h.o1 k (fun x hx e => Qfa h.o1 o (by decide) x hx e), Qdy h.o2 k (fun x hx e => Qfa h.o2 o (by decide) x hx e), Nat.le_trans h.q k.size⟩
theorem du_stay {q P : Nat} {W : World} {a1 a2 : Option Addr} {c1 c2 : Nat} {l1 : List Int} {l2 : List An} {vs : Array Value} (h : Du q W (.slice a1 l1.length c1) (.slice a2 l2.length c2) l1 l2) (o : Blk W P 48 vs) : Stay2 P W.heap.size (fun V => Du q V (.slice a1 l1.length c1) (.slice a2 l2.length c2) l1 l2) := by
 intro V V' T p k hT
 refine ⟨Qdy p.o1 k (fun x hx e => ?_), Qdy p.o2 k (fun x hx e => ?_), Nat.le_trans p.q k.size⟩
 . rcases hT x e with rfl | e1
   . exact Qfa h.o1 o (by decide) x hx rfl
   . have := (h.o1.lt x hx).2; omega
 . rcases hT x e with rfl | e1
   . exact Qfa h.o2 o (by decide) x hx rfl
   . have := (h.o2.lt x hx).2; omega
theorem sub_own {α : Type} [Cel α] {B : Nat} {W : World} {t : TypeId} {a : Option Addr} {c : Nat} {xs : List α} (h : W.ownsRow B t (Cel.k α) (.slice a xs.length c) xs.length (flat xs)) : Sub W a xs (fun b => (Value.slice a xs.length c).ownBlock = some b /\ B <= b) := by
 by_cases hl : 0 < xs.length
 . obtain ⟨b, h1, h2, h3⟩ := Pl.of_own h hl
   exact .inr ⟨b, 0, h1.a, ⟨h3, h2⟩, h1.lt, h1.i, h1.th⟩
 . exact .inl (List.length_eq_zero_iff.1 (by omega))
theorem toldO_of {w W : World} {P s0 s1 s2 : Nat} {pA qA a zA vA : Option Addr} {pc qc cp zc vc : Nat} {ps rs : List RC} {qs ms : List MC} {xs gs : List GC} {time : Int} {ds : List Int} {ls : List An} {kc : Array Value}
 (K : KP (α := GC) grpP 110 (fun V => ((fun V => Du (w.heap.size + 2) V (.slice zA ds.length zc) (.slice vA ls.length vc) ds ls) V /\ Own rowP V pA ps (fun b => s0 <= b /\ b < s1)) /\ Own makP V qA qs (fun b => s1 <= b /\ b < s2)) s2 w W kc P (Qah pA (List.length ps) pc qA (List.length qs) qc a (List.length xs) cp time zA ds.length zc vA ls.length vc) a cp xs)
 (h0 : P < s0 /\ w.heap.size + 2 <= s0) (h1 : s0 <= s1) (h2 : s1 <= s2) (z0 : (∀ x, (Value.slice zA ds.length zc).ownBlock = some x -> x < s0) /\ ∀ x, (Value.slice vA ls.length vc).ownBlock = some x -> x < s0)
 (m1 : ps.map RC.p = rs.map RC.p) (m2 : qs.map MC.p = ms.map MC.p) (m3 : xs.map GC.p = gs.map GC.p)
 (rA : Option Addr) (rc : Nat) (mA : Option Addr) (mc : Nat) (gA : Option Addr) (gc : Nat) (dA : Option Addr) (dc : Nat) (lA : Option Addr) (lc : Nat) :
 NewK w (putK W (w.heap.size + 1) (.slice pA (List.length ps) pc) (.slice qA (List.length qs) qc) (.slice a (List.length xs) cp) (.int .i64 time) (.slice zA ds.length zc) (.slice vA ls.length vc)) (.returned (.agg (Qah pA (List.length ps) pc qA (List.length qs) qc a (List.length xs) cp time zA ds.length zc vA ls.length vc))) (⟨rA, rc, rs, mA, mc, ms, gA, gc, gs, time, dA, dc, ds, lA, lc, ls⟩ : KC).p := by
 obtain ⟨⟨hDu, hR⟩, hM⟩ := K.pk
 have hG := K.gu.toOwn
 have hsW := K.gu.hB
 have hD := sub_own hDu.o1
 have hL := sub_own hDu.o2
 have hne : ∀ x y, (Value.slice zA ds.length zc).ownBlock = some x -> (Value.slice vA ls.length vc).ownBlock = some y -> x ≠ y := fun x y hx hy => by
  rcases hDu.o2.2 with ⟨e, h3⟩ | ⟨g, c', cur, e, _, hg, _⟩
  . rw [e] at hy; simp [Value.ownBlock] at hy
  . cases e
    have : y = g := by simpa [Value.ownBlock] using hy.symm
    subst this
    exact Qfa hDu.o1 (show Blk W y 89 cur from hg) (by decide) x hx
 have k := Offp.of_only (Qej W (w.heap.size + 1) (.slice pA (List.length ps) pc) (.slice qA (List.length qs) qc) (.slice a (List.length xs) cp) (.int .i64 time) (.slice zA ds.length zc) (.slice vA ls.length vc))
 have KO : KOwn W (⟨pA, pc, ps, qA, qc, qs, a, cp, xs, time, zA, zc, ds, vA, vc, ls⟩ : KC) (fun b => w.heap.size + 2 <= b /\ b < W.heap.size) := by
  refine ⟨fun b => if b < s0 then (if (Value.slice zA ds.length zc).ownBlock = some b then 4 else 5) else if b < s1 then 1 else if b < s2 then 2 else 3, ?_, ?_, ?_, ?_, ?_⟩
  . exact hR.mono (fun z hz => by have h3 := hz.1; have h4 := hz.2; exact ⟨⟨by omega, by omega⟩, by rw [if_neg (by omega), if_pos h4]⟩)
  . exact hM.mono (fun z hz => by have h3 := hz.1; have h4 := hz.2; exact ⟨⟨by omega, by omega⟩, by rw [if_neg (by omega), if_neg (by omega), if_pos h4]⟩)
  . exact hG.mono (fun z hz => by have h3 := hz.1; have h4 := hz.2; exact ⟨⟨by omega, by omega⟩, by rw [if_neg (by omega), if_neg (by omega), if_neg (by omega)]⟩)
  . exact hD.mono (fun z hz => by have h3 := z0.1 z hz.1; have h4 := hz.2; exact ⟨⟨by omega, by omega⟩, by rw [if_pos h3, if_pos hz.1]⟩)
  . exact hL.mono (fun z hz => by have h3 := z0.2 z hz.1; have h4 := hz.2; exact ⟨⟨by omega, by omega⟩, by rw [if_pos h3, if_neg (fun e => hne z z e hz.1 rfl)]⟩)
 refine ⟨⟨pA, pc, ps, qA, qc, qs, a, cp, xs, time, zA, zc, ds, vA, vc, ls⟩, rfl, by simp only [KC.p, m1, m2, m3], (KO.offp k (fun b hb e => by have h3 := hb.1; omega)).mono (fun b hb => ⟨by have h3 := hb.1; omega, Nat.lt_of_lt_of_le hb.2 k.size⟩), K.kd.bl.trans (k.toBelow (fun x hx => by omega) K.kd.bl.size)⟩
end Go.Proofs.YtenhcjkkpnlbeaaGreatDoor.Gen
namespace Go.Proofs.YtenhcjkkpnlbeaaGreatDoor.Gen
open ChangeShapes WideShapes ChangeAt RowKit Joins Deep Base
theorem app_mk (B : Nat) (v : Value) (l m : List Mk) (A : Option Addr) (cap : Nat) (w : World) (hB : B <= w.heap.size) (hv : w.ownsRow B 190 2 v l.length (flat l)) (hA : At w A m) (hlen : l.length + m.length <= 3000000) :
 ∃ v' w', (Builtin.append_ #[141, 141] 141 #[v, .slice A m.length cap]).run Tryz.prog w = .ok v' w' /\ w'.ownsRow B 190 2 v' (l.length + m.length) (flat (l ++ m)) /\ w.grownBy w' v.ownBlock /\ (v'.ownBlock = v.ownBlock ∨ v'.ownBlock = some w.heap.size) :=
 Qco (α := Mk) (P := Tryz.prog) Tryz.underlying141 infoMk rfl (by decide) (by omega) B v l m A cap w hB hv hA hlen
theorem Qib (row who epoch last : Int) (A : Option Addr) (cap : Nat) (l : List Mk) (hl : l.length <= 1048576) (w : World) (hA : At w A l) :
 Calls Tryz.prog 119 #[.agg (Qbb row who epoch last A l.length cap)] w fun e w' => ∃ v, e = .returned (.agg #[.int .i64 row, .int .i64 who, .int .i64 epoch, .int .i64 last, v]) /\ w'.ownsRow w.heap.size 190 2 v l.length (flat l) /\ Below w.heap.size w w' := by
 have B0 : Below w.heap.size w ((w.alloc (.cells (Qbb row who epoch last A l.length cap) 143)).alloc (.cells Qfb 143)) := Qab (Qab (Below.refl _ _) _) _
 obtain ⟨v, w1, hr, hown, hgrow, hat⟩ := app_mk w.heap.size (.slice none 0 0) [] l A cap ((w.alloc (.cells (Qbb row who epoch last A l.length cap) 143)).alloc (.cells Qfb 143)) B0.size (World.ownsRow_nil _ _ _ _) (hA.below B0) (by simp; omega)
 simp only [List.length_nil, Nat.zero_add, List.nil_append] at hown
 have p0 := ((Blk.new w 143 (Qbb row who epoch last A l.length cap)).alloc (.cells Qfb 143)).kept hgrow (by simp [Value.ownBlock])
 have p1 := (Blk.new (w.alloc (.cells (Qbb row who epoch last A l.length cap) 143)) 143 Qfb).kept hgrow (by simp [Value.ownBlock])
 rw [World.size_alloc] at p1
 have B1 : Below w.heap.size w w1 := B0.grown hgrow B0.size (by simp [Value.ownBlock])
 obtain ⟨c0, c1, c2, c3, c4⟩ := p0.row5
 obtain ⟨d0, d1, d2, d3, d4⟩ := p1.row5
 have f4 := p0.thaw 4
 have g0 := p1.thaw 0
 have g1 := p1.thaw 1
 have g2 := p1.thaw 2
 have g3 := p1.thaw 3
 have g4 := p1.thaw 4
 obtain ⟨a, c, rfl, hc⟩ := Qb2 hown
 have hn0 : some w.heap.size ≠ (Value.slice a l.length c).ownBlock := by
  rcases hat with e | e
  . rw [e]; simp [Value.ownBlock]
  . rw [e]; intro h; have := Option.some.inj h; simp only [World.size_alloc] at this; omega
 have hn1 : some (w.heap.size + 1) ≠ (Value.slice a l.length c).ownBlock := by
  rcases hat with e | e
  . rw [e]; simp [Value.ownBlock]
  . rw [e]; intro h; have := Option.some.inj h; simp only [World.size_alloc] at this; omega
 have Hn0 := hidP hn0
 have Hn1 := hidP hn1
 have Hown := hidP hown
 clear hgrow hA hat hown hn0 hn1
 go_enter Tryz.func119, Tryz.ntmps119
 go_wp2_with (at_builtin; refine Qa8 rfl _ _ _ rfl _ _ _ rfl rfl hr ?_)
 have p2 : Blk _ (w.heap.size + 1) 143 (Qbb row who epoch last a l.length c) := (((((p1.other (B' := w.heap.size) (by omega) 4 (.slice a l.length c)).setAt 0 (.int .i64 row)).setAt 1 (.int .i64 who)).setAt 2 (.int .i64 epoch)).setAt 3 (.int .i64 last)).setAt 4 (.slice a l.length c)
 obtain ⟨e0, e1, e2, e3, e4⟩ := p2.row5
 exact bodyPost_ret (v := .agg (Qbb row who epoch last a l.length c)) (by simp [results, Tryz.results119, go_sem, e0, e1, e2, e3, e4]) rfl
  ⟨_, rfl, Qcd (Qcd (Qcd (Qcd (Qcd (Qcd Hown.out Hn0.out) Hn1.out) Hn1.out) Hn1.out) Hn1.out) Hn1.out, Qa7 (Qa7 (Qa7 (Qa7 (Qa7 (Qa7 B1 (Nat.le_refl _) _) (by omega) _) (by omega) _) (by omega) _) (by omega) _) (by omega) _⟩
end Go.Proofs.YtenhcjkkpnlbeaaGreatDoor.Gen
