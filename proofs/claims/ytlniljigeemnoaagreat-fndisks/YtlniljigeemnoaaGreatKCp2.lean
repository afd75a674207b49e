/-
  The specification's copy of a keeper, at this seat. No condition but that its lists have at most 1048576 records.
-/
import Derived.Test.YtlniljigeemnoaaGreatKQs
import Derived.Deep.CutBlock
set_option linter.unusedVariables false
set_option linter.unusedSimpArgs false
set_option maxRecDepth 100000
set_option maxHeartbeats 8000000
namespace Go.Proofs.YtlniljigeemnoaaGreat.Gen
open ChangeShapes WideShapes ChangeAt RowKit Joins Deep Base
open Items (It)
theorem Du.putK {q P : Nat} {W : World} {v1 v2 : Value} {l1 : List Int} {l2 : List An} {vs : Array Value} (h : Du q W v1 v2 l1 l2) (o : Blk W P 90 vs) (u0 u1 u2 u3 u4 u5 : Value) : Du q (putK W P u0 u1 u2 u3 u4 u5) v1 v2 l1 l2 := by
 have k := Offp.of_only (Qac W P u0 u1 u2 u3 u4 u5)
 exact ⟨Qa9 h.o1 k (fun x hx e => Qch h.o1 o (by decide) x hx e), Qa9 h.o2 k (fun x hx e => Qch h.o2 o (by decide) x hx e), Nat.le_trans h.q k.size⟩
def ToldQ (w w' : World) (e : Ending) (x : KC) : Prop := ∃ y br bg bd bl, e = .returned (.agg y.cells) /\ y.p = x.p /\ KQ w' y (fun b => w.heap.size <= b /\ b < w'.heap.size) br bg bd bl /\ (∀ g ∈ y.gs, (g.m.length <= g.c1 /\ g.c1 <= 9223372036854775807) /\ (g.b.length <= g.c2 /\ g.c2 <= 9223372036854775807)) /\ Below w.heap.size w w'
theorem gp_own {W : World} {a1 a2 a3 : Option Addr} {m b o : List Int} {F : List Nat} {lo : Nat} (h : Gp W a1 a2 a3 m b o F) (hF : ∀ x ∈ F, lo <= x) (gen : Int) (c1 c2 c3 : Nat) : grpP W (⟨gen, a1, c1, m, a2, c2, b, a3, c3, o⟩ : GC) (fun x => lo <= x /\ x < W.heap.size) := by
 have hlt := h.lt
 obtain ⟨F1, F2, F3, rfl, s1, s2, s3, hnd⟩ := h
 simp only [List.nodup_append] at hnd
 have sub : ∀ {l : List Int} {a : Option Addr} {G : List Nat}, Sl W a l G -> Sub W a l (fun x => x ∈ G) := fun hs => by
  rcases hs with ⟨e, _⟩ | ⟨b, o, e, rfl, hb, hi, ht⟩
  . exact .inl e
  . exact .inr ⟨b, o, e, by simp, hb, hi, ht⟩
 exact ⟨fun x => x ∈ F1, fun x => x ∈ F2, fun x => x ∈ F3, fun y hy => ⟨hF y (by simp [hy]), hlt y (by simp [hy])⟩, fun y hy => ⟨hF y (by simp [hy]), hlt y (by simp [hy])⟩, fun y hy => ⟨hF y (by simp [hy]), hlt y (by simp [hy])⟩,
  fun y h1 h2 => hnd.2.2 y h1 y (by simp [h2]) rfl, fun y h1 h2 => hnd.2.2 y h1 y (by simp [h2]) rfl, fun y h1 h2 => hnd.2.1.2.2 y h1 y h2 rfl, sub s1, sub s2, sub s3⟩
theorem du_stay {q P : Nat} {W : World} {a1 a2 : Option Addr} {c1 c2 : Nat} {l1 : List Int} {l2 : List An} {vs : Array Value} (h : Du q W (.slice a1 l1.length c1) (.slice a2 l2.length c2) l1 l2) (o : Blk W P 90 vs) : Stay2 P W.heap.size (fun V => Du q V (.slice a1 l1.length c1) (.slice a2 l2.length c2) l1 l2) := by
 intro V V' T p k hT
 refine ⟨Qa9 p.o1 k (fun x hx e => ?_), Qa9 p.o2 k (fun x hx e => ?_), Nat.le_trans p.q k.size⟩
 . rcases hT x e with rfl | e1
   . exact Qch h.o1 o (by decide) x hx rfl
   . have := (h.o1.lt x hx).2; omega
 . rcases hT x e with rfl | e1
   . exact Qch h.o2 o (by decide) x hx rfl
   . have := (h.o2.lt x hx).2; omega
theorem Qfn {α : Type} [Cel α] {B : Nat} {W : World} {t : TypeId} {a : Option Addr} {c : Nat} {xs : List α} (h : W.ownsRow B t (Cel.k α) (.slice a xs.length c) xs.length (flat xs)) : xs = [] ∨ ∃ b, a = some ⟨b, 0, none⟩ := by
 rcases h.2 with ⟨_, h0⟩ | ⟨g, c', cur, e, _⟩
 . exact .inl (List.length_eq_zero_iff.1 h0)
 . cases e; exact .inr ⟨g, rfl⟩
theorem toldQ_of {w W : World} {P s0 s1 s2 : Nat} {pA qA a zA vA : Option Addr} {pc qc cp zc vc : Nat} {ps rs : List RC} {qs ms : List MC} {xs gs : List GC} {time : Int} {ds : List Int} {ls : List An} {kc : Array Value}
 (K : KP (α := GC) grpP 128 (fun V => ((fun V => Du (w.heap.size + 2) V (.slice zA ds.length zc) (.slice vA ls.length vc) ds ls) V /\ Own rowP V pA ps (fun b => s0 <= b /\ b < s1)) /\ Own makP V qA qs (fun b => s1 <= b /\ b < s2)) s2 w W kc P (Qaa pA (List.length ps) pc qA (List.length qs) qc a (List.length xs) cp time zA ds.length zc vA ls.length vc) a cp xs)
 (h0 : P < s0 /\ w.heap.size + 2 <= s0) (h1 : s0 <= s1) (h2 : s1 <= s2) (z0 : (∀ x, (Value.slice zA ds.length zc).ownBlock = some x -> x < s0) /\ ∀ x, (Value.slice vA ls.length vc).ownBlock = some x -> x < s0) (z1 : ps = [] ∨ ∃ b, pA = some ⟨b, 0, none⟩)
 (m1 : ps.map RC.p = rs.map RC.p) (m2 : qs.map MC.p = ms.map MC.p) (m3 : xs.map GC.p = gs.map GC.p)
 (hc : ∀ g ∈ xs, (g.m.length <= g.c1 /\ g.c1 <= 9223372036854775807) /\ (g.b.length <= g.c2 /\ g.c2 <= 9223372036854775807)) (hr0 : 0 < rs.length) (hg0 : 0 < gs.length) (hd0 : 0 < ds.length) (hl0 : 0 < ls.length)
 (rA : Option Addr) (rc : Nat) (mA : Option Addr) (mc : Nat) (gA : Option Addr) (gc : Nat) (dA : Option Addr) (dc : Nat) (lA : Option Addr) (lc : Nat) :
 ToldQ w (putK W (w.heap.size + 1) (.slice pA (List.length ps) pc) (.slice qA (List.length qs) qc) (.slice a (List.length xs) cp) (.int .i64 time) (.slice zA ds.length zc) (.slice vA ls.length vc)) (.returned (.agg (Qaa pA (List.length ps) pc qA (List.length qs) qc a (List.length xs) cp time zA ds.length zc vA ls.length vc))) (⟨rA, rc, rs, mA, mc, ms, gA, gc, gs, time, dA, dc, ds, lA, lc, ls⟩ : KC) := by
 obtain ⟨⟨hDu, hR⟩, hM⟩ := K.pk
 have hG := K.gu.toOwn
 have hGz := Qfn K.gu.own
 have hsW := K.gu.hB
 have np : 0 < ps.length := by have := congrArg List.length m1; simp at this; omega
 have nx : 0 < xs.length := by have := congrArg List.length m3; simp at this; omega
 obtain ⟨bd, hd, ld, ed⟩ := Pl.of_own hDu.o1 hd0
 obtain ⟨bl, hl, ll, el⟩ := Pl.of_own hDu.o2 hl0
 have ud := z0.1 bd ed
 have ul := z0.2 bl el
 have hdl : bd ≠ bl := by
  rcases hDu.o2.2 with ⟨e, h3⟩ | ⟨g, c', cur, e, _, hg, _⟩
  . omega
  . cases e
    have : bl = g := by simpa [Value.ownBlock] using el.symm
    subst this
    exact Qch hDu.o1 (show Blk W bl 130 cur from hg) (by decide) bd ed
 obtain ⟨br, o1, fp, e1, hs1, hf1, hO1⟩ := hR.resolve_left (fun e => by subst e; simp at np)
 obtain ⟨bg, o3, fg, e3, hs3, hf3, hO3⟩ := hG.resolve_left (fun e => by subst e; simp at nx)
 have eo1 : o1 = 0 := by
  rcases z1 with e | ⟨b, e⟩
  . subst e; simp at np
  . rw [e] at e1; cases e1; rfl
 have eo3 : o3 = 0 := by
  rcases hGz with e | ⟨b, e⟩
  . subst e; simp at nx
  . rw [e] at e3; cases e3; rfl
 subst eo1 eo3
 have KQ0 : KQ W (⟨pA, pc, ps, qA, qc, qs, a, cp, xs, time, zA, zc, ds, vA, vc, ls⟩ : KC) (fun b => w.heap.size + 2 <= b) br bg bd bl := by
  refine ⟨⟨e1, hO1.lt, hO1.lst, hO1.th⟩, ⟨e3, hO3.lt, hO3.lst, hO3.th⟩, hd, hl, ?_, ?_, ?_, ?_, ⟨by omega, by omega, ld, ll⟩, ⟨by omega, by omega, by omega, by omega, by omega, hdl⟩⟩
  . exact hM.imp id fun ⟨b, o, fp, e, hs, _, hO⟩ => ⟨b, o, e, hO.lt, hO.lst, by omega, by omega, by omega, by omega, by omega⟩
  . intro y hy
    obtain ⟨i, hi, rfl⟩ := List.getElem_of_mem hy
    exact Av.of_sub (hO1.sub i hi) (fun x hx => by have := hf1 i x hx; exact ⟨by omega, fun e => hO1.nb i (e ▸ hx), by omega, by omega, by omega⟩)
  . intro y hy
    rcases hM with e | ⟨b, o, fm, e, hs, hf, hO⟩
    . simp only at hy; rw [e] at hy; simp at hy
    . obtain ⟨i, hi, rfl⟩ := List.getElem_of_mem hy
      exact Av.of_sub (hO.sub i hi) (fun x hx => by have := hf i x hx; exact ⟨by omega, by omega, by omega, by omega, by omega⟩)
  . intro y hy
    obtain ⟨i, hi, rfl⟩ := List.getElem_of_mem hy
    obtain ⟨S1, S2, S3, i1, i2, i3, _, _, _, t1, t2, t3⟩ := hO3.sub i hi
    have hin : ∀ x, fg i x -> w.heap.size + 2 <= x /\ x ≠ br /\ x ≠ bg /\ x ≠ bd /\ x ≠ bl := fun x hx => by have := hf3 i x hx; exact ⟨by omega, by omega, fun e => hO3.nb i (e ▸ hx), by omega, by omega⟩
    exact ⟨Av.of_sub t1 (fun x hx => hin x (i1 x hx)), Av.of_sub t2 (fun x hx => hin x (i2 x hx)), Av.of_sub t3 (fun x hx => hin x (i3 x hx))⟩
 have k := Offp.of_only (Qac W (w.heap.size + 1) (.slice pA (List.length ps) pc) (.slice qA (List.length qs) qc) (.slice a (List.length xs) cp) (.int .i64 time) (.slice zA ds.length zc) (.slice vA ls.length vc))
 exact ⟨_, br, bg, bd, bl, rfl, by simp only [KC.p, m1, m2, m3], (KQ0.offp k (fun b hb e => by omega)).mono (fun b hb hs => ⟨by omega, hb⟩), hc, K.kd.bl.trans (k.toBelow (fun x hx => by omega) K.kd.bl.size)⟩
theorem l6Copy_any (rA : Option Addr) (rc : Nat) (rs : List RC) (mA : Option Addr) (mc : Nat) (ms : List MC) (gA : Option Addr) (gc : Nat) (gs : List GC) (time : Int) (dA : Option Addr) (dc : Nat) (ds : List Int) (lA : Option Addr) (lc : Nat) (ls : List An) (hrl : rs.length <= 1048576) (hml : ms.length <= 1048576) (hgl : gs.length <= 1048576) (hdl : ds.length <= 1048576) (hll : ls.length <= 1048576)
 (hri : ∀ y ∈ rs, y.its.length <= 1048576) (hmi : ∀ y ∈ ms, y.ms.length <= 1048576) (hgi : ∀ y ∈ gs, y.m.length <= 1048576 /\ y.b.length <= 1048576 /\ y.o.length <= 1048576) (hr0 : 0 < rs.length) (hg0 : 0 < gs.length) (hd0 : 0 < ds.length) (hl0 : 0 < ls.length) (w : World) (hx : KAt w (⟨rA, rc, rs, mA, mc, ms, gA, gc, gs, time, dA, dc, ds, lA, lc, ls⟩ : KC)) :
 Calls Tryz.prog 85 #[.agg (Qaa rA rs.length rc mA ms.length mc gA gs.length gc time dA ds.length dc lA ls.length lc)] w fun e w' => ToldQ w w' e (⟨rA, rc, rs, mA, mc, ms, gA, gc, gs, time, dA, dc, ds, lA, lc, ls⟩ : KC) := by
 have HX := hidP hx
 have HD : Hid (At w dA ds) := hx.da
 have HL : Hid (At w lA ls) := hx.la
 have Hri := hidP hri
 have Hmi := hidP hmi
 have Hgi := hidP hgi
 clear hx hri hmi hgi
 have I : Kd w ((w.alloc (.cells (Qaa rA rs.length rc mA ms.length mc gA gs.length gc time dA ds.length dc lA ls.length lc) 90)).alloc (.cells Qab 90)).drew (Qaa rA rs.length rc mA ms.length mc gA gs.length gc time dA ds.length dc lA ls.length lc) := ⟨by repeat (first | exact Below.refl _ _ | assumption | refine via0 (by assumption) ?_ | refine Below.drew ?_ | refine Qaf ?_ _), (Blk.new w 90 (Qaa rA rs.length rc mA ms.length mc gA gs.length gc time dA ds.length dc lA ls.length lc)).alloc _, by have := Blk.new (w.alloc (.cells (Qaa rA rs.length rc mA ms.length mc gA gs.length gc time dA ds.length dc lA ls.length lc) 90)) 90 Qab; rw [World.size_alloc] at this; exact this⟩
 have T := Du.nil (w.heap.size + 2) ((w.alloc (.cells (Qaa rA rs.length rc mA ms.length mc gA gs.length gc time dA ds.length dc lA ls.length lc) 90)).alloc (.cells Qab 90)).drew (by simp)
 go_enter Tryz.func85, Tryz.ntmps85
 go_upto_region 1 with fail
 go_cut [3] from 7 to 17 (fun s wx => ∃ (P : Nat) (x1 x2 : Option Addr) (y1 y2 : Nat), s = .pointer (some ⟨P, 0, none⟩) /\ Kd w wx (Qaa rA rs.length rc mA ms.length mc gA gs.length gc time dA ds.length dc lA ls.length lc) /\ Blk wx P 90 (Qaa none 0 0 none 0 0 none 0 0 time x1 ds.length y1 x2 ls.length y2) /\ Du (w.heap.size + 2) wx (.slice x1 ds.length y1) (.slice x2 ls.length y2) ds ls /\ w.heap.size + 1 < P)
 case first =>
  refine wp_region_noPanic ?_
  refine wp_region_held_drew (S := fun (w' : World) => w'.cell? ⟨w.heap.size, 3, none⟩ = some (.int .i64 time) /\ w'.cell? ⟨w.heap.size, 4, none⟩ = some (.slice dA ds.length dc) /\ w'.cell? ⟨w.heap.size, 5, none⟩ = some (.slice lA ls.length lc)) (by kernel_rfl) ?_ (fun hH => ?_)
  . exact ⟨I.k.row6.2.2.2.1, I.k.row6.2.2.2.2.1, I.k.row6.2.2.2.2.2⟩
  refine ztk [0,1,3,4,7,8] ?_; repeat (refine ztn (h := ?_); try simp only [zX,zY])
  refine zte ?_
  refine zR3 2 6 11 (fun K hK => ?_) (fun K hK => ?_) (fun K hK => ?_)
  focus
   simp only [zG]
   go_simp
   have T := T.new1 (g := w.heap.size + 1 + 1) (by simp); have I := I.alloc (.cells #[] 3)
   refine hK.out _ _ ⟨I.k.row6.2.2.2.1, I.k.row6.2.2.2.2.1, I.k.row6.2.2.2.2.2⟩ fun hH => ?_; clear hK K; try simp only [zX,zY]
   refine zR3 5 6 11 (fun K hK => ?_) (fun K hK => ?_) (fun K hK => ?_)
   focus
    simp only [zG]
    obtain ⟨x1, y1, w1, hr1, T', hk1, hb1⟩ := T.app1 (cap := dc) (HD.out.below I.bl) hdl; have T := T'; clear T'; rw [if_pos (by rfl)]; refine Qag _ _ _ (by rfl) _ _ _ (by rfl) (by rfl) hr1 ?_; have I := I.kept hk1 hb1; clear hr1 hk1 hb1
    refine hK.out _ _ ⟨I.k.row6.2.2.2.1, I.k.row6.2.2.2.2.1, I.k.row6.2.2.2.2.2⟩ fun hH => ?_; clear hK K; try simp only [zX,zY]
    refine zR2 6 11 (fun K hK => ?_) (fun K hK => ?_)
    focus
     simp only [zG]
     go_simp
     have T := T.new2 (g := w1.heap.size) (by simp); have I := I.alloc (.cells #[] 130)
     refine hK.out _ _ ⟨I.k.row6.2.2.2.1, I.k.row6.2.2.2.2.1, I.k.row6.2.2.2.2.2⟩ fun hH => ?_; clear hK K; try simp only [zX,zY]
     refine zR2 9 11 (fun K hK => ?_) (fun K hK => ?_)
     focus
      simp only [zG]
      obtain ⟨x2, y2, w2, hr2, T', hk2, hb2⟩ := T.app2 (cap := lc) (HL.out.below I.bl) hll; have T := T'; clear T'; rw [if_pos (by rfl)]; refine Qag _ _ _ (by rfl) _ _ _ (by rfl) (by rfl) hr2 ?_; have I := I.kept hk2 hb2; clear hr2 hk2 hb2
      refine hK.out _ _ ⟨I.k.row6.2.2.2.1, I.k.row6.2.2.2.2.1, I.k.row6.2.2.2.2.2⟩ fun hH => ?_; clear hK K; try simp only [zX,zY]
      refine zt1 10 ?_; refine ztn (h := ?_); try simp only [zX,zY]
      refine zte ?_
      refine zR1 11 (fun K hK => ?_)
      simp only [zG]
      go_simp
      have hq0 := T.q; have O := T.out (g := w2.heap.size) (by simp); have T := T.alloc (.cells Qab 90); have I := I.alloc (.cells Qab 90)
      refine hK.out _ _ ⟨I.k.row6.2.2.2.1, I.k.row6.2.2.2.2.1, I.k.row6.2.2.2.2.2⟩ fun hH => ?_; clear hK K; try simp only [zX,zY]
      have HPl : Hid (w.heap.size + 1 < w2.heap.size) := by show _ < _; first | omega | (have h9 := hq0; simp at h9; omega)
      generalize w2.alloc (.cells Qab 90) = w3 at *
      generalize w2.heap.size = P3 at *
      obtain ⟨z0, z1, z2, z3, z4, z5⟩ := O.row6
      have f0 := O.thaw 0; have f1 := O.thaw 1; have f2 := O.thaw 2; have f3 := O.thaw 3; have f4 := O.thaw 4; have f5 := O.thaw 5
      have I9 := I.offp (Offp.of_only (Qac w3 (P3) (.slice none 0 0) (.slice none 0 0) (.slice none 0 0) (.int .i64 time) (.slice x1 ds.length y1) (.slice x2 ls.length y2))) (fun x hx => by subst hx; exact HPl.out)
     rotate_left
     focus
      simp only [zG]
      go_simp
      have hq0 := T.q; have O := T.out (g := w1.heap.size + 1) (by simp); have T := T.alloc (.cells Qab 90); have I := I.alloc (.cells Qab 90)
      refine hK.out _ _ ⟨I.k.row6.2.2.2.1, I.k.row6.2.2.2.2.1, I.k.row6.2.2.2.2.2⟩ fun hH => ?_; clear hK K; try simp only [zX,zY]
      have HPl : Hid (w.heap.size + 1 < w1.heap.size + 1) := by show _ < _; first | omega | (have h9 := hq0; simp at h9; omega)
      refine zR1 9 (fun K hK => ?_)
      simp only [zG]
      obtain ⟨x2, y2, w2, hr2, T', hk2, hb2⟩ := T.app2 (cap := lc) (HL.out.below I.bl) hll; have T := T'; clear T'; rw [if_pos (by rfl)]; refine Qag _ _ _ (by rfl) _ _ _ (by rfl) (by rfl) hr2 ?_; have I := I.kept hk2 hb2; have O := hk2 _ _ O; clear hr2 hk2 hb2
      refine hK.out _ _ ⟨I.k.row6.2.2.2.1, I.k.row6.2.2.2.2.1, I.k.row6.2.2.2.2.2⟩ fun hH => ?_; clear hK K; try simp only [zX,zY]
      refine zt1 10 ?_; refine ztn (h := ?_); try simp only [zX,zY]
      refine zte ?_
      obtain ⟨z0, z1, z2, z3, z4, z5⟩ := O.row6
      have f0 := O.thaw 0; have f1 := O.thaw 1; have f2 := O.thaw 2; have f3 := O.thaw 3; have f4 := O.thaw 4; have f5 := O.thaw 5
      have I9 := I.offp (Offp.of_only (Qac w2 (w1.heap.size + 1) (.slice none 0 0) (.slice none 0 0) (.slice none 0 0) (.int .i64 time) (.slice x1 ds.length y1) (.slice x2 ls.length y2))) (fun x hx => by subst hx; exact HPl.out)
    rotate_left 2
    focus
     simp only [zG]
     go_simp
     have hq0 := T.q; have O := T.out (g := w1.heap.size) (by simp); have T := T.alloc (.cells Qab 90); have I := I.alloc (.cells Qab 90)
     refine hK.out _ _ ⟨I.k.row6.2.2.2.1, I.k.row6.2.2.2.2.1, I.k.row6.2.2.2.2.2⟩ fun hH => ?_; clear hK K; try simp only [zX,zY]
     have HPl : Hid (w.heap.size + 1 < w1.heap.size) := by show _ < _; first | omega | (have h9 := hq0; simp at h9; omega)
     refine zR1 6 (fun K hK => ?_)
     simp only [zG]
     go_simp
     have T := T.new2 (g := w1.heap.size + 1) (by simp); have I := I.alloc (.cells #[] 130); have O := O.alloc (.cells #[] 130)
     refine hK.out _ _ ⟨I.k.row6.2.2.2.1, I.k.row6.2.2.2.2.1, I.k.row6.2.2.2.2.2⟩ fun hH => ?_; clear hK K; try simp only [zX,zY]
     refine zR1 9 (fun K hK => ?_)
     simp only [zG]
     obtain ⟨x2, y2, w2, hr2, T', hk2, hb2⟩ := T.app2 (cap := lc) (HL.out.below I.bl) hll; have T := T'; clear T'; rw [if_pos (by rfl)]; refine Qag _ _ _ (by rfl) _ _ _ (by rfl) (by rfl) hr2 ?_; have I := I.kept hk2 hb2; have O := hk2 _ _ O; clear hr2 hk2 hb2
     refine hK.out _ _ ⟨I.k.row6.2.2.2.1, I.k.row6.2.2.2.2.1, I.k.row6.2.2.2.2.2⟩ fun hH => ?_; clear hK K; try simp only [zX,zY]
     refine zt1 10 ?_; refine ztn (h := ?_); try simp only [zX,zY]
     refine zte ?_
     obtain ⟨z0, z1, z2, z3, z4, z5⟩ := O.row6
     have f0 := O.thaw 0; have f1 := O.thaw 1; have f2 := O.thaw 2; have f3 := O.thaw 3; have f4 := O.thaw 4; have f5 := O.thaw 5
     have I9 := I.offp (Offp.of_only (Qac w2 (w1.heap.size) (.slice none 0 0) (.slice none 0 0) (.slice none 0 0) (.int .i64 time) (.slice x1 ds.length y1) (.slice x2 ls.length y2))) (fun x hx => by subst hx; exact HPl.out)
   rotate_left 3
   focus
    simp only [zG]
    go_simp
    have T := T.new2 (g := w.heap.size + 1 + 1 + 1) (by simp); have I := I.alloc (.cells #[] 130)
    refine hK.out _ _ ⟨I.k.row6.2.2.2.1, I.k.row6.2.2.2.2.1, I.k.row6.2.2.2.2.2⟩ fun hH => ?_; clear hK K; try simp only [zX,zY]
    refine zR2 5 11 (fun K hK => ?_) (fun K hK => ?_)
    focus
     simp only [zG]
     obtain ⟨x1, y1, w1, hr1, T', hk1, hb1⟩ := T.app1 (cap := dc) (HD.out.below I.bl) hdl; have T := T'; clear T'; rw [if_pos (by rfl)]; refine Qag _ _ _ (by rfl) _ _ _ (by rfl) (by rfl) hr1 ?_; have I := I.kept hk1 hb1; clear hr1 hk1 hb1
     refine hK.out _ _ ⟨I.k.row6.2.2.2.1, I.k.row6.2.2.2.2.1, I.k.row6.2.2.2.2.2⟩ fun hH => ?_; clear hK K; try simp only [zX,zY]
     refine zR2 9 11 (fun K hK => ?_) (fun K hK => ?_)
     focus
      simp only [zG]
      obtain ⟨x2, y2, w2, hr2, T', hk2, hb2⟩ := T.app2 (cap := lc) (HL.out.below I.bl) hll; have T := T'; clear T'; rw [if_pos (by rfl)]; refine Qag _ _ _ (by rfl) _ _ _ (by rfl) (by rfl) hr2 ?_; have I := I.kept hk2 hb2; clear hr2 hk2 hb2
      refine hK.out _ _ ⟨I.k.row6.2.2.2.1, I.k.row6.2.2.2.2.1, I.k.row6.2.2.2.2.2⟩ fun hH => ?_; clear hK K; try simp only [zX,zY]
      refine zt1 10 ?_; refine ztn (h := ?_); try simp only [zX,zY]
      refine zte ?_
      refine zR1 11 (fun K hK => ?_)
      simp only [zG]
      go_simp
      have hq0 := T.q; have O := T.out (g := w2.heap.size) (by simp); have T := T.alloc (.cells Qab 90); have I := I.alloc (.cells Qab 90)
      refine hK.out _ _ ⟨I.k.row6.2.2.2.1, I.k.row6.2.2.2.2.1, I.k.row6.2.2.2.2.2⟩ fun hH => ?_; clear hK K; try simp only [zX,zY]
      have HPl : Hid (w.heap.size + 1 < w2.heap.size) := by show _ < _; first | omega | (have h9 := hq0; simp at h9; omega)
      generalize w2.alloc (.cells Qab 90) = w3 at *
      generalize w2.heap.size = P3 at *
      obtain ⟨z0, z1, z2, z3, z4, z5⟩ := O.row6
      have f0 := O.thaw 0; have f1 := O.thaw 1; have f2 := O.thaw 2; have f3 := O.thaw 3; have f4 := O.thaw 4; have f5 := O.thaw 5
      have I9 := I.offp (Offp.of_only (Qac w3 (P3) (.slice none 0 0) (.slice none 0 0) (.slice none 0 0) (.int .i64 time) (.slice x1 ds.length y1) (.slice x2 ls.length y2))) (fun x hx => by subst hx; exact HPl.out)
     rotate_left
     focus
      simp only [zG]
      go_simp
      have hq0 := T.q; have O := T.out (g := w1.heap.size) (by simp); have T := T.alloc (.cells Qab 90); have I := I.alloc (.cells Qab 90)
      refine hK.out _ _ ⟨I.k.row6.2.2.2.1, I.k.row6.2.2.2.2.1, I.k.row6.2.2.2.2.2⟩ fun hH => ?_; clear hK K; try simp only [zX,zY]
      have HPl : Hid (w.heap.size + 1 < w1.heap.size) := by show _ < _; first | omega | (have h9 := hq0; simp at h9; omega)
      refine zR1 9 (fun K hK => ?_)
      simp only [zG]
      obtain ⟨x2, y2, w2, hr2, T', hk2, hb2⟩ := T.app2 (cap := lc) (HL.out.below I.bl) hll; have T := T'; clear T'; rw [if_pos (by rfl)]; refine Qag _ _ _ (by rfl) _ _ _ (by rfl) (by rfl) hr2 ?_; have I := I.kept hk2 hb2; have O := hk2 _ _ O; clear hr2 hk2 hb2
      refine hK.out _ _ ⟨I.k.row6.2.2.2.1, I.k.row6.2.2.2.2.1, I.k.row6.2.2.2.2.2⟩ fun hH => ?_; clear hK K; try simp only [zX,zY]
      refine zt1 10 ?_; refine ztn (h := ?_); try simp only [zX,zY]
      refine zte ?_
      obtain ⟨z0, z1, z2, z3, z4, z5⟩ := O.row6
      have f0 := O.thaw 0; have f1 := O.thaw 1; have f2 := O.thaw 2; have f3 := O.thaw 3; have f4 := O.thaw 4; have f5 := O.thaw 5
      have I9 := I.offp (Offp.of_only (Qac w2 (w1.heap.size) (.slice none 0 0) (.slice none 0 0) (.slice none 0 0) (.int .i64 time) (.slice x1 ds.length y1) (.slice x2 ls.length y2))) (fun x hx => by subst hx; exact HPl.out)
    rotate_left 2
    focus
     simp only [zG]
     go_simp
     have hq0 := T.q; have O := T.out (g := w.heap.size + 1 + 1 + 1 + 1) (by simp); have T := T.alloc (.cells Qab 90); have I := I.alloc (.cells Qab 90)
     refine hK.out _ _ ⟨I.k.row6.2.2.2.1, I.k.row6.2.2.2.2.1, I.k.row6.2.2.2.2.2⟩ fun hH => ?_; clear hK K; try simp only [zX,zY]
     have HPl : Hid (w.heap.size + 1 < w.heap.size + 1 + 1 + 1 + 1) := by show _ < _; first | omega | (have h9 := hq0; simp at h9; omega)
     refine zR1 5 (fun K hK => ?_)
     simp only [zG]
     obtain ⟨x1, y1, w1, hr1, T', hk1, hb1⟩ := T.app1 (cap := dc) (HD.out.below I.bl) hdl; have T := T'; clear T'; rw [if_pos (by rfl)]; refine Qag _ _ _ (by rfl) _ _ _ (by rfl) (by rfl) hr1 ?_; have I := I.kept hk1 hb1; have O := hk1 _ _ O; clear hr1 hk1 hb1
     refine hK.out _ _ ⟨I.k.row6.2.2.2.1, I.k.row6.2.2.2.2.1, I.k.row6.2.2.2.2.2⟩ fun hH => ?_; clear hK K; try simp only [zX,zY]
     refine zR1 9 (fun K hK => ?_)
     simp only [zG]
     obtain ⟨x2, y2, w2, hr2, T', hk2, hb2⟩ := T.app2 (cap := lc) (HL.out.below I.bl) hll; have T := T'; clear T'; rw [if_pos (by rfl)]; refine Qag _ _ _ (by rfl) _ _ _ (by rfl) (by rfl) hr2 ?_; have I := I.kept hk2 hb2; have O := hk2 _ _ O; clear hr2 hk2 hb2
     refine hK.out _ _ ⟨I.k.row6.2.2.2.1, I.k.row6.2.2.2.2.1, I.k.row6.2.2.2.2.2⟩ fun hH => ?_; clear hK K; try simp only [zX,zY]
     refine zt1 10 ?_; refine ztn (h := ?_); try simp only [zX,zY]
     refine zte ?_
     obtain ⟨z0, z1, z2, z3, z4, z5⟩ := O.row6
     have f0 := O.thaw 0; have f1 := O.thaw 1; have f2 := O.thaw 2; have f3 := O.thaw 3; have f4 := O.thaw 4; have f5 := O.thaw 5
     have I9 := I.offp (Offp.of_only (Qac w2 (w.heap.size + 1 + 1 + 1 + 1) (.slice none 0 0) (.slice none 0 0) (.slice none 0 0) (.int .i64 time) (.slice x1 ds.length y1) (.slice x2 ls.length y2))) (fun x hx => by subst hx; exact HPl.out)
   rotate_left 3
   focus
    simp only [zG]
    go_simp
    have hq0 := T.q; have O := T.out (g := w.heap.size + 1 + 1 + 1) (by simp); have T := T.alloc (.cells Qab 90); have I := I.alloc (.cells Qab 90)
    refine hK.out _ _ ⟨I.k.row6.2.2.2.1, I.k.row6.2.2.2.2.1, I.k.row6.2.2.2.2.2⟩ fun hH => ?_; clear hK K; try simp only [zX,zY]
    have HPl : Hid (w.heap.size + 1 < w.heap.size + 1 + 1 + 1) := by show _ < _; first | omega | (have h9 := hq0; simp at h9; omega)
    refine zR2 5 6 (fun K hK => ?_) (fun K hK => ?_)
    focus
     simp only [zG]
     obtain ⟨x1, y1, w1, hr1, T', hk1, hb1⟩ := T.app1 (cap := dc) (HD.out.below I.bl) hdl; have T := T'; clear T'; rw [if_pos (by rfl)]; refine Qag _ _ _ (by rfl) _ _ _ (by rfl) (by rfl) hr1 ?_; have I := I.kept hk1 hb1; have O := hk1 _ _ O; clear hr1 hk1 hb1
     refine hK.out _ _ ⟨I.k.row6.2.2.2.1, I.k.row6.2.2.2.2.1, I.k.row6.2.2.2.2.2⟩ fun hH => ?_; clear hK K; try simp only [zX,zY]
     refine zR1 6 (fun K hK => ?_)
     simp only [zG]
     go_simp
     have T := T.new2 (g := w1.heap.size) (by simp); have I := I.alloc (.cells #[] 130); have O := O.alloc (.cells #[] 130)
     refine hK.out _ _ ⟨I.k.row6.2.2.2.1, I.k.row6.2.2.2.2.1, I.k.row6.2.2.2.2.2⟩ fun hH => ?_; clear hK K; try simp only [zX,zY]
     refine zR1 9 (fun K hK => ?_)
     simp only [zG]
     obtain ⟨x2, y2, w2, hr2, T', hk2, hb2⟩ := T.app2 (cap := lc) (HL.out.below I.bl) hll; have T := T'; clear T'; rw [if_pos (by rfl)]; refine Qag _ _ _ (by rfl) _ _ _ (by rfl) (by rfl) hr2 ?_; have I := I.kept hk2 hb2; have O := hk2 _ _ O; clear hr2 hk2 hb2
     refine hK.out _ _ ⟨I.k.row6.2.2.2.1, I.k.row6.2.2.2.2.1, I.k.row6.2.2.2.2.2⟩ fun hH => ?_; clear hK K; try simp only [zX,zY]
     refine zt1 10 ?_; refine ztn (h := ?_); try simp only [zX,zY]
     refine zte ?_
     obtain ⟨z0, z1, z2, z3, z4, z5⟩ := O.row6
     have f0 := O.thaw 0; have f1 := O.thaw 1; have f2 := O.thaw 2; have f3 := O.thaw 3; have f4 := O.thaw 4; have f5 := O.thaw 5
     have I9 := I.offp (Offp.of_only (Qac w2 (w.heap.size + 1 + 1 + 1) (.slice none 0 0) (.slice none 0 0) (.slice none 0 0) (.int .i64 time) (.slice x1 ds.length y1) (.slice x2 ls.length y2))) (fun x hx => by subst hx; exact HPl.out)
    rotate_left
    focus
     simp only [zG]
     go_simp
     have T := T.new2 (g := w.heap.size + 1 + 1 + 1 + 1) (by simp); have I := I.alloc (.cells #[] 130); have O := O.alloc (.cells #[] 130)
     refine hK.out _ _ ⟨I.k.row6.2.2.2.1, I.k.row6.2.2.2.2.1, I.k.row6.2.2.2.2.2⟩ fun hH => ?_; clear hK K; try simp only [zX,zY]
     refine zR1 5 (fun K hK => ?_)
     simp only [zG]
     obtain ⟨x1, y1, w1, hr1, T', hk1, hb1⟩ := T.app1 (cap := dc) (HD.out.below I.bl) hdl; have T := T'; clear T'; rw [if_pos (by rfl)]; refine Qag _ _ _ (by rfl) _ _ _ (by rfl) (by rfl) hr1 ?_; have I := I.kept hk1 hb1; have O := hk1 _ _ O; clear hr1 hk1 hb1
     refine hK.out _ _ ⟨I.k.row6.2.2.2.1, I.k.row6.2.2.2.2.1, I.k.row6.2.2.2.2.2⟩ fun hH => ?_; clear hK K; try simp only [zX,zY]
     refine zR1 9 (fun K hK => ?_)
     simp only [zG]
     obtain ⟨x2, y2, w2, hr2, T', hk2, hb2⟩ := T.app2 (cap := lc) (HL.out.below I.bl) hll; have T := T'; clear T'; rw [if_pos (by rfl)]; refine Qag _ _ _ (by rfl) _ _ _ (by rfl) (by rfl) hr2 ?_; have I := I.kept hk2 hb2; have O := hk2 _ _ O; clear hr2 hk2 hb2
     refine hK.out _ _ ⟨I.k.row6.2.2.2.1, I.k.row6.2.2.2.2.1, I.k.row6.2.2.2.2.2⟩ fun hH => ?_; clear hK K; try simp only [zX,zY]
     refine zt1 10 ?_; refine ztn (h := ?_); try simp only [zX,zY]
     refine zte ?_
     obtain ⟨z0, z1, z2, z3, z4, z5⟩ := O.row6
     have f0 := O.thaw 0; have f1 := O.thaw 1; have f2 := O.thaw 2; have f3 := O.thaw 3; have f4 := O.thaw 4; have f5 := O.thaw 5
     have I9 := I.offp (Offp.of_only (Qac w2 (w.heap.size + 1 + 1 + 1) (.slice none 0 0) (.slice none 0 0) (.slice none 0 0) (.int .i64 time) (.slice x1 ds.length y1) (.slice x2 ls.length y2))) (fun x hx => by subst hx; exact HPl.out)
  rotate_left 8
  focus
   simp only [zG]
   go_simp
   have T := T.new2 (g := w.heap.size + 1 + 1) (by simp); have I := I.alloc (.cells #[] 130)
   refine hK.out _ _ ⟨I.k.row6.2.2.2.1, I.k.row6.2.2.2.2.1, I.k.row6.2.2.2.2.2⟩ fun hH => ?_; clear hK K; try simp only [zX,zY]
   refine zR2 2 11 (fun K hK => ?_) (fun K hK => ?_)
   focus
    simp only [zG]
    go_simp
    have T := T.new1 (g := w.heap.size + 1 + 1 + 1) (by simp); have I := I.alloc (.cells #[] 3)
    refine hK.out _ _ ⟨I.k.row6.2.2.2.1, I.k.row6.2.2.2.2.1, I.k.row6.2.2.2.2.2⟩ fun hH => ?_; clear hK K; try simp only [zX,zY]
    refine zR2 5 11 (fun K hK => ?_) (fun K hK => ?_)
    focus
     simp only [zG]
     obtain ⟨x1, y1, w1, hr1, T', hk1, hb1⟩ := T.app1 (cap := dc) (HD.out.below I.bl) hdl; have T := T'; clear T'; rw [if_pos (by rfl)]; refine Qag _ _ _ (by rfl) _ _ _ (by rfl) (by rfl) hr1 ?_; have I := I.kept hk1 hb1; clear hr1 hk1 hb1
     refine hK.out _ _ ⟨I.k.row6.2.2.2.1, I.k.row6.2.2.2.2.1, I.k.row6.2.2.2.2.2⟩ fun hH => ?_; clear hK K; try simp only [zX,zY]
     refine zR2 9 11 (fun K hK => ?_) (fun K hK => ?_)
     focus
      simp only [zG]
      obtain ⟨x2, y2, w2, hr2, T', hk2, hb2⟩ := T.app2 (cap := lc) (HL.out.below I.bl) hll; have T := T'; clear T'; rw [if_pos (by rfl)]; refine Qag _ _ _ (by rfl) _ _ _ (by rfl) (by rfl) hr2 ?_; have I := I.kept hk2 hb2; clear hr2 hk2 hb2
      refine hK.out _ _ ⟨I.k.row6.2.2.2.1, I.k.row6.2.2.2.2.1, I.k.row6.2.2.2.2.2⟩ fun hH => ?_; clear hK K; try simp only [zX,zY]
      refine zt1 10 ?_; refine ztn (h := ?_); try simp only [zX,zY]
      refine zte ?_
      refine zR1 11 (fun K hK => ?_)
      simp only [zG]
      go_simp
      have hq0 := T.q; have O := T.out (g := w2.heap.size) (by simp); have T := T.alloc (.cells Qab 90); have I := I.alloc (.cells Qab 90)
      refine hK.out _ _ ⟨I.k.row6.2.2.2.1, I.k.row6.2.2.2.2.1, I.k.row6.2.2.2.2.2⟩ fun hH => ?_; clear hK K; try simp only [zX,zY]
      have HPl : Hid (w.heap.size + 1 < w2.heap.size) := by show _ < _; first | omega | (have h9 := hq0; simp at h9; omega)
      generalize w2.alloc (.cells Qab 90) = w3 at *
      generalize w2.heap.size = P3 at *
      obtain ⟨z0, z1, z2, z3, z4, z5⟩ := O.row6
      have f0 := O.thaw 0; have f1 := O.thaw 1; have f2 := O.thaw 2; have f3 := O.thaw 3; have f4 := O.thaw 4; have f5 := O.thaw 5
      have I9 := I.offp (Offp.of_only (Qac w3 (P3) (.slice none 0 0) (.slice none 0 0) (.slice none 0 0) (.int .i64 time) (.slice x1 ds.length y1) (.slice x2 ls.length y2))) (fun x hx => by subst hx; exact HPl.out)
     rotate_left
     focus
      simp only [zG]
      go_simp
      have hq0 := T.q; have O := T.out (g := w1.heap.size) (by simp); have T := T.alloc (.cells Qab 90); have I := I.alloc (.cells Qab 90)
      refine hK.out _ _ ⟨I.k.row6.2.2.2.1, I.k.row6.2.2.2.2.1, I.k.row6.2.2.2.2.2⟩ fun hH => ?_; clear hK K; try simp only [zX,zY]
      have HPl : Hid (w.heap.size + 1 < w1.heap.size) := by show _ < _; first | omega | (have h9 := hq0; simp at h9; omega)
      refine zR1 9 (fun K hK => ?_)
      simp only [zG]
      obtain ⟨x2, y2, w2, hr2, T', hk2, hb2⟩ := T.app2 (cap := lc) (HL.out.below I.bl) hll; have T := T'; clear T'; rw [if_pos (by rfl)]; refine Qag _ _ _ (by rfl) _ _ _ (by rfl) (by rfl) hr2 ?_; have I := I.kept hk2 hb2; have O := hk2 _ _ O; clear hr2 hk2 hb2
      refine hK.out _ _ ⟨I.k.row6.2.2.2.1, I.k.row6.2.2.2.2.1, I.k.row6.2.2.2.2.2⟩ fun hH => ?_; clear hK K; try simp only [zX,zY]
      refine zt1 10 ?_; refine ztn (h := ?_); try simp only [zX,zY]
      refine zte ?_
      obtain ⟨z0, z1, z2, z3, z4, z5⟩ := O.row6
      have f0 := O.thaw 0; have f1 := O.thaw 1; have f2 := O.thaw 2; have f3 := O.thaw 3; have f4 := O.thaw 4; have f5 := O.thaw 5
      have I9 := I.offp (Offp.of_only (Qac w2 (w1.heap.size) (.slice none 0 0) (.slice none 0 0) (.slice none 0 0) (.int .i64 time) (.slice x1 ds.length y1) (.slice x2 ls.length y2))) (fun x hx => by subst hx; exact HPl.out)
    rotate_left 2
    focus
     simp only [zG]
     go_simp
     have hq0 := T.q; have O := T.out (g := w.heap.size + 1 + 1 + 1 + 1) (by simp); have T := T.alloc (.cells Qab 90); have I := I.alloc (.cells Qab 90)
     refine hK.out _ _ ⟨I.k.row6.2.2.2.1, I.k.row6.2.2.2.2.1, I.k.row6.2.2.2.2.2⟩ fun hH => ?_; clear hK K; try simp only [zX,zY]
     have HPl : Hid (w.heap.size + 1 < w.heap.size + 1 + 1 + 1 + 1) := by show _ < _; first | omega | (have h9 := hq0; simp at h9; omega)
     refine zR1 5 (fun K hK => ?_)
     simp only [zG]
     obtain ⟨x1, y1, w1, hr1, T', hk1, hb1⟩ := T.app1 (cap := dc) (HD.out.below I.bl) hdl; have T := T'; clear T'; rw [if_pos (by rfl)]; refine Qag _ _ _ (by rfl) _ _ _ (by rfl) (by rfl) hr1 ?_; have I := I.kept hk1 hb1; have O := hk1 _ _ O; clear hr1 hk1 hb1
     refine hK.out _ _ ⟨I.k.row6.2.2.2.1, I.k.row6.2.2.2.2.1, I.k.row6.2.2.2.2.2⟩ fun hH => ?_; clear hK K; try simp only [zX,zY]
     refine zR1 9 (fun K hK => ?_)
     simp only [zG]
     obtain ⟨x2, y2, w2, hr2, T', hk2, hb2⟩ := T.app2 (cap := lc) (HL.out.below I.bl) hll; have T := T'; clear T'; rw [if_pos (by rfl)]; refine Qag _ _ _ (by rfl) _ _ _ (by rfl) (by rfl) hr2 ?_; have I := I.kept hk2 hb2; have O := hk2 _ _ O; clear hr2 hk2 hb2
     refine hK.out _ _ ⟨I.k.row6.2.2.2.1, I.k.row6.2.2.2.2.1, I.k.row6.2.2.2.2.2⟩ fun hH => ?_; clear hK K; try simp only [zX,zY]
     refine zt1 10 ?_; refine ztn (h := ?_); try simp only [zX,zY]
     refine zte ?_
     obtain ⟨z0, z1, z2, z3, z4, z5⟩ := O.row6
     have f0 := O.thaw 0; have f1 := O.thaw 1; have f2 := O.thaw 2; have f3 := O.thaw 3; have f4 := O.thaw 4; have f5 := O.thaw 5
     have I9 := I.offp (Offp.of_only (Qac w2 (w.heap.size + 1 + 1 + 1 + 1) (.slice none 0 0) (.slice none 0 0) (.slice none 0 0) (.int .i64 time) (.slice x1 ds.length y1) (.slice x2 ls.length y2))) (fun x hx => by subst hx; exact HPl.out)
   rotate_left 3
   focus
    simp only [zG]
    go_simp
    have hq0 := T.q; have O := T.out (g := w.heap.size + 1 + 1 + 1) (by simp); have T := T.alloc (.cells Qab 90); have I := I.alloc (.cells Qab 90)
    refine hK.out _ _ ⟨I.k.row6.2.2.2.1, I.k.row6.2.2.2.2.1, I.k.row6.2.2.2.2.2⟩ fun hH => ?_; clear hK K; try simp only [zX,zY]
    have HPl : Hid (w.heap.size + 1 < w.heap.size + 1 + 1 + 1) := by show _ < _; first | omega | (have h9 := hq0; simp at h9; omega)
    refine zR1 2 (fun K hK => ?_)
    simp only [zG]
    go_simp
    have T := T.new1 (g := w.heap.size + 1 + 1 + 1 + 1) (by simp); have I := I.alloc (.cells #[] 3); have O := O.alloc (.cells #[] 3)
    refine hK.out _ _ ⟨I.k.row6.2.2.2.1, I.k.row6.2.2.2.2.1, I.k.row6.2.2.2.2.2⟩ fun hH => ?_; clear hK K; try simp only [zX,zY]
    refine zR1 5 (fun K hK => ?_)
    simp only [zG]
    obtain ⟨x1, y1, w1, hr1, T', hk1, hb1⟩ := T.app1 (cap := dc) (HD.out.below I.bl) hdl; have T := T'; clear T'; rw [if_pos (by rfl)]; refine Qag _ _ _ (by rfl) _ _ _ (by rfl) (by rfl) hr1 ?_; have I := I.kept hk1 hb1; have O := hk1 _ _ O; clear hr1 hk1 hb1
    refine hK.out _ _ ⟨I.k.row6.2.2.2.1, I.k.row6.2.2.2.2.1, I.k.row6.2.2.2.2.2⟩ fun hH => ?_; clear hK K; try simp only [zX,zY]
    refine zR1 9 (fun K hK => ?_)
    simp only [zG]
    obtain ⟨x2, y2, w2, hr2, T', hk2, hb2⟩ := T.app2 (cap := lc) (HL.out.below I.bl) hll; have T := T'; clear T'; rw [if_pos (by rfl)]; refine Qag _ _ _ (by rfl) _ _ _ (by rfl) (by rfl) hr2 ?_; have I := I.kept hk2 hb2; have O := hk2 _ _ O; clear hr2 hk2 hb2
    refine hK.out _ _ ⟨I.k.row6.2.2.2.1, I.k.row6.2.2.2.2.1, I.k.row6.2.2.2.2.2⟩ fun hH => ?_; clear hK K; try simp only [zX,zY]
    refine zt1 10 ?_; refine ztn (h := ?_); try simp only [zX,zY]
    refine zte ?_
    obtain ⟨z0, z1, z2, z3, z4, z5⟩ := O.row6
    have f0 := O.thaw 0; have f1 := O.thaw 1; have f2 := O.thaw 2; have f3 := O.thaw 3; have f4 := O.thaw 4; have f5 := O.thaw 5
    have I9 := I.offp (Offp.of_only (Qac w2 (w.heap.size + 1 + 1 + 1) (.slice none 0 0) (.slice none 0 0) (.slice none 0 0) (.int .i64 time) (.slice x1 ds.length y1) (.slice x2 ls.length y2))) (fun x hx => by subst hx; exact HPl.out)
  rotate_left 4
  focus
   simp only [zG]
   go_simp
   have hq0 := T.q; have O := T.out (g := w.heap.size + 1 + 1) (by simp); have T := T.alloc (.cells Qab 90); have I := I.alloc (.cells Qab 90)
   refine hK.out _ _ ⟨I.k.row6.2.2.2.1, I.k.row6.2.2.2.2.1, I.k.row6.2.2.2.2.2⟩ fun hH => ?_; clear hK K; try simp only [zX,zY]
   have HPl : Hid (w.heap.size + 1 < w.heap.size + 1 + 1) := by show _ < _; first | omega | (have h9 := hq0; simp at h9; omega)
   refine zR2 2 6 (fun K hK => ?_) (fun K hK => ?_)
   focus
    simp only [zG]
    go_simp
    have T := T.new1 (g := w.heap.size + 1 + 1 + 1) (by simp); have I := I.alloc (.cells #[] 3); have O := O.alloc (.cells #[] 3)
    refine hK.out _ _ ⟨I.k.row6.2.2.2.1, I.k.row6.2.2.2.2.1, I.k.row6.2.2.2.2.2⟩ fun hH => ?_; clear hK K; try simp only [zX,zY]
    refine zR2 5 6 (fun K hK => ?_) (fun K hK => ?_)
    focus
     simp only [zG]
     obtain ⟨x1, y1, w1, hr1, T', hk1, hb1⟩ := T.app1 (cap := dc) (HD.out.below I.bl) hdl; have T := T'; clear T'; rw [if_pos (by rfl)]; refine Qag _ _ _ (by rfl) _ _ _ (by rfl) (by rfl) hr1 ?_; have I := I.kept hk1 hb1; have O := hk1 _ _ O; clear hr1 hk1 hb1
     refine hK.out _ _ ⟨I.k.row6.2.2.2.1, I.k.row6.2.2.2.2.1, I.k.row6.2.2.2.2.2⟩ fun hH => ?_; clear hK K; try simp only [zX,zY]
     refine zR1 6 (fun K hK => ?_)
     simp only [zG]
     go_simp
     have T := T.new2 (g := w1.heap.size) (by simp); have I := I.alloc (.cells #[] 130); have O := O.alloc (.cells #[] 130)
     refine hK.out _ _ ⟨I.k.row6.2.2.2.1, I.k.row6.2.2.2.2.1, I.k.row6.2.2.2.2.2⟩ fun hH => ?_; clear hK K; try simp only [zX,zY]
     refine zR1 9 (fun K hK => ?_)
     simp only [zG]
     obtain ⟨x2, y2, w2, hr2, T', hk2, hb2⟩ := T.app2 (cap := lc) (HL.out.below I.bl) hll; have T := T'; clear T'; rw [if_pos (by rfl)]; refine Qag _ _ _ (by rfl) _ _ _ (by rfl) (by rfl) hr2 ?_; have I := I.kept hk2 hb2; have O := hk2 _ _ O; clear hr2 hk2 hb2
     refine hK.out _ _ ⟨I.k.row6.2.2.2.1, I.k.row6.2.2.2.2.1, I.k.row6.2.2.2.2.2⟩ fun hH => ?_; clear hK K; try simp only [zX,zY]
     refine zt1 10 ?_; refine ztn (h := ?_); try simp only [zX,zY]
     refine zte ?_
     obtain ⟨z0, z1, z2, z3, z4, z5⟩ := O.row6
     have f0 := O.thaw 0; have f1 := O.thaw 1; have f2 := O.thaw 2; have f3 := O.thaw 3; have f4 := O.thaw 4; have f5 := O.thaw 5
     have I9 := I.offp (Offp.of_only (Qac w2 (w.heap.size + 1 + 1) (.slice none 0 0) (.slice none 0 0) (.slice none 0 0) (.int .i64 time) (.slice x1 ds.length y1) (.slice x2 ls.length y2))) (fun x hx => by subst hx; exact HPl.out)
    rotate_left
    focus
     simp only [zG]
     go_simp
     have T := T.new2 (g := w.heap.size + 1 + 1 + 1 + 1) (by simp); have I := I.alloc (.cells #[] 130); have O := O.alloc (.cells #[] 130)
     refine hK.out _ _ ⟨I.k.row6.2.2.2.1, I.k.row6.2.2.2.2.1, I.k.row6.2.2.2.2.2⟩ fun hH => ?_; clear hK K; try simp only [zX,zY]
     refine zR1 5 (fun K hK => ?_)
     simp only [zG]
     obtain ⟨x1, y1, w1, hr1, T', hk1, hb1⟩ := T.app1 (cap := dc) (HD.out.below I.bl) hdl; have T := T'; clear T'; rw [if_pos (by rfl)]; refine Qag _ _ _ (by rfl) _ _ _ (by rfl) (by rfl) hr1 ?_; have I := I.kept hk1 hb1; have O := hk1 _ _ O; clear hr1 hk1 hb1
     refine hK.out _ _ ⟨I.k.row6.2.2.2.1, I.k.row6.2.2.2.2.1, I.k.row6.2.2.2.2.2⟩ fun hH => ?_; clear hK K; try simp only [zX,zY]
     refine zR1 9 (fun K hK => ?_)
     simp only [zG]
     obtain ⟨x2, y2, w2, hr2, T', hk2, hb2⟩ := T.app2 (cap := lc) (HL.out.below I.bl) hll; have T := T'; clear T'; rw [if_pos (by rfl)]; refine Qag _ _ _ (by rfl) _ _ _ (by rfl) (by rfl) hr2 ?_; have I := I.kept hk2 hb2; have O := hk2 _ _ O; clear hr2 hk2 hb2
     refine hK.out _ _ ⟨I.k.row6.2.2.2.1, I.k.row6.2.2.2.2.1, I.k.row6.2.2.2.2.2⟩ fun hH => ?_; clear hK K; try simp only [zX,zY]
     refine zt1 10 ?_; refine ztn (h := ?_); try simp only [zX,zY]
     refine zte ?_
     obtain ⟨z0, z1, z2, z3, z4, z5⟩ := O.row6
     have f0 := O.thaw 0; have f1 := O.thaw 1; have f2 := O.thaw 2; have f3 := O.thaw 3; have f4 := O.thaw 4; have f5 := O.thaw 5
     have I9 := I.offp (Offp.of_only (Qac w2 (w.heap.size + 1 + 1) (.slice none 0 0) (.slice none 0 0) (.slice none 0 0) (.int .i64 time) (.slice x1 ds.length y1) (.slice x2 ls.length y2))) (fun x hx => by subst hx; exact HPl.out)
   rotate_left 2
   focus
    simp only [zG]
    go_simp
    have T := T.new2 (g := w.heap.size + 1 + 1 + 1) (by simp); have I := I.alloc (.cells #[] 130); have O := O.alloc (.cells #[] 130)
    refine hK.out _ _ ⟨I.k.row6.2.2.2.1, I.k.row6.2.2.2.2.1, I.k.row6.2.2.2.2.2⟩ fun hH => ?_; clear hK K; try simp only [zX,zY]
    refine zR1 2 (fun K hK => ?_)
    simp only [zG]
    go_simp
    have T := T.new1 (g := w.heap.size + 1 + 1 + 1 + 1) (by simp); have I := I.alloc (.cells #[] 3); have O := O.alloc (.cells #[] 3)
    refine hK.out _ _ ⟨I.k.row6.2.2.2.1, I.k.row6.2.2.2.2.1, I.k.row6.2.2.2.2.2⟩ fun hH => ?_; clear hK K; try simp only [zX,zY]
    refine zR1 5 (fun K hK => ?_)
    simp only [zG]
    obtain ⟨x1, y1, w1, hr1, T', hk1, hb1⟩ := T.app1 (cap := dc) (HD.out.below I.bl) hdl; have T := T'; clear T'; rw [if_pos (by rfl)]; refine Qag _ _ _ (by rfl) _ _ _ (by rfl) (by rfl) hr1 ?_; have I := I.kept hk1 hb1; have O := hk1 _ _ O; clear hr1 hk1 hb1
    refine hK.out _ _ ⟨I.k.row6.2.2.2.1, I.k.row6.2.2.2.2.1, I.k.row6.2.2.2.2.2⟩ fun hH => ?_; clear hK K; try simp only [zX,zY]
    refine zR1 9 (fun K hK => ?_)
    simp only [zG]
    obtain ⟨x2, y2, w2, hr2, T', hk2, hb2⟩ := T.app2 (cap := lc) (HL.out.below I.bl) hll; have T := T'; clear T'; rw [if_pos (by rfl)]; refine Qag _ _ _ (by rfl) _ _ _ (by rfl) (by rfl) hr2 ?_; have I := I.kept hk2 hb2; have O := hk2 _ _ O; clear hr2 hk2 hb2
    refine hK.out _ _ ⟨I.k.row6.2.2.2.1, I.k.row6.2.2.2.2.1, I.k.row6.2.2.2.2.2⟩ fun hH => ?_; clear hK K; try simp only [zX,zY]
    refine zt1 10 ?_; refine ztn (h := ?_); try simp only [zX,zY]
    refine zte ?_
    obtain ⟨z0, z1, z2, z3, z4, z5⟩ := O.row6
    have f0 := O.thaw 0; have f1 := O.thaw 1; have f2 := O.thaw 2; have f3 := O.thaw 3; have f4 := O.thaw 4; have f5 := O.thaw 5
    have I9 := I.offp (Offp.of_only (Qac w2 (w.heap.size + 1 + 1) (.slice none 0 0) (.slice none 0 0) (.slice none 0 0) (.int .i64 time) (.slice x1 ds.length y1) (.slice x2 ls.length y2))) (fun x hx => by subst hx; exact HPl.out)
  all_goals
   have O9 := Qax O (.slice none 0 0) (.slice none 0 0) (.slice none 0 0) (.int .i64 time) (.slice x1 ds.length y1) (.slice x2 ls.length y2)
   have T9 := Du.putK T O (.slice none 0 0) (.slice none 0 0) (.slice none 0 0) (.int .i64 time) (.slice x1 ds.length y1) (.slice x2 ls.length y2)
   clear I T
   refine zR1 12 (fun K hK => ?_)
   simp only [zG]
   go_simp
   refine hK.out _ _ ⟨I9.k.row6.2.2.2.1, I9.k.row6.2.2.2.2.1, I9.k.row6.2.2.2.2.2⟩ fun hH => ?_; clear hK K; try simp only [zX,zY]
   refine zdn ?_
   go_wp2_with fail
   go_meet
   exact ⟨_, _, _, _, _, rfl, I9, O9, T9, HPl.out⟩
 case rest =>
  obtain ⟨P, zA, vA, zc, vc, rfl, I0, O0, T0, hP0⟩ := hcut
  clear I T
  have hs0 : Hid (P < wc.heap.size /\ w.heap.size + 2 <= wc.heap.size) := ⟨O0.lt, T0.q⟩
  have KS0 : Hid (KP (α := RC) rowP 118 (fun V => Du (w.heap.size + 2) V (.slice zA ds.length zc) (.slice vA ls.length vc) ds ls) wc.heap.size w wc (Qaa rA rs.length rc mA ms.length mc gA gs.length gc time dA ds.length dc lA ls.length lc) P (Qaa none (List.length ([] : List RC)) 0 none 0 0 none 0 0 time zA ds.length zc vA ls.length vc) none 0 ([] : List RC)) := ⟨I0, O0, hP0, O0.lt, GU.start (Nat.le_refl _) (Nat.le_refl _), T0, du_stay T0 O0⟩
  have HZ0 : Hid ((∀ x, (Value.slice zA ds.length zc).ownBlock = some x -> x < wc.heap.size) /\ ∀ x, (Value.slice vA ls.length vc).ownBlock = some x -> x < wc.heap.size) := ⟨fun x hx => (T0.o1.lt x hx).2, fun x hx => (T0.o2.lt x hx).2⟩
  clear I0 O0 T0
  generalize hs_ : wc.heap.size = s0 at KS0 hs0 HZ0
  clear hs_
  have KS : Hid (KP (α := RC) rowP 118 (fun V => Du (w.heap.size + 2) V (.slice zA ds.length zc) (.slice vA ls.length vc) ds ls) s0 w wc (Qaa rA rs.length rc mA ms.length mc gA gs.length gc time dA ds.length dc lA ls.length lc) P (Qaa none (List.length ([] : List RC)) 0 none 0 0 none 0 0 time zA ds.length zc vA ls.length vc) none 0 ([] : List RC)) := KS0
  clear KS0
  go_wp2
  go_loopw [4] (fun v W => ∃ (n cp : Nat) (a : Option Addr) (xs : List RC), v = .int .i64 (n : Int) /\ n <= rs.length /\ Hid (xs.length = n) /\ Hid (KP (α := RC) rowP 118 (fun V => Du (w.heap.size + 2) V (.slice zA ds.length zc) (.slice vA ls.length vc) ds ls) s0 w W (Qaa rA rs.length rc mA ms.length mc gA gs.length gc time dA ds.length dc lA ls.length lc) P (Qaa a (List.length xs) cp none 0 0 none 0 0 time zA ds.length zc vA ls.length vc) a cp xs) /\ Hid (xs.map RC.p = (rs.take n).map RC.p)) (fun v _ => rs.length - (intOf v).toNat)
  case atStart => exact ⟨0, 0, none, [], rfl, by omega, rfl, KS, by show _ = _; simp⟩
  case round =>
   clear KS
   obtain ⟨n, cp, a, xs, rfl, hn, hxn, K, hM⟩ := hrel
   have cK := K.out.kd.k.row6
   obtain ⟨c0, c1, c2, c3, c4, c5⟩ := cK
   have qk := K.out.kd.k.lt
   by_cases hlt : n < rs.length
   . obtain ⟨bb, oo, rfl, hbs, hIn⟩ : ∃ b o, rA = some ⟨b, o, none⟩ /\ b < w.heap.size /\ In w b o rs := by
      rcases (show At w rA rs from HX.out.ra) with h | h
      . subst h; simp at hlt
      . exact h
     have hym := Hri.out _ (List.getElem_mem hlt)
     have hAy := HX.out.re _ (List.getElem_mem hlt)
     have hTk : Hid ((rs.take (n + 1)).map RC.p = (rs.take n).map RC.p ++ [rs[n].p]) := by show _ = _; rw [List.take_succ_eq_append_getElem hlt, List.map_append]; rfl
     have hce : ∀ W : World, Below w.heap.size w W -> _ := fun W g => (hIn.below hbs g).getRC n hlt
     generalize rs[n] = y at hym hAy hTk hce
     obtain ⟨y0, y1, yA, yc, ym⟩ := y
     simp only at hym hAy hce
     have HAy := hidP hAy
     have hxl : Hid (xs.length <= 2000000) := by show _ <= _; have := hxn.out; omega
     have KD := hidP (K.out.drew Qec)
     have hi0 : (0 : Int) <= (n : Int) := by omega
     have hi1 : (n : Int) < (rs.length : Int) := by omega
     have mk : ∀ W : World, Blk W P 90 (Qaa a (List.length xs) cp none 0 0 none 0 0 time zA ds.length zc vA ls.length vc) -> Kd w W (Qaa (some ⟨bb, oo, none⟩) rs.length rc mA ms.length mc gA gs.length gc time dA ds.length dc lA ls.length lc) -> (fun (W : World) => W.cell? ⟨P, 0, none⟩ = some (.slice a (List.length xs) cp) /\ W.cell? ⟨w.heap.size, 0, none⟩ = some (.slice (some ⟨bb, oo, none⟩) rs.length rc) /\ W.cell? ⟨bb, oo + n * 3, none⟩ = some (.int .i64 y0) /\ W.cell? ⟨bb, oo + n * 3 + 1, none⟩ = some (.int .i64 y1) /\ W.cell? ⟨bb, oo + n * 3 + 2, none⟩ = some (.slice yA ym.length yc)) W := fun W hb hk => ⟨hb.cell (i := 0) rfl, hk.k.row6.1, hce W hk.bl⟩
     have hH := mk wr.drew KD.out.box KD.out.kd
     have MkS := hidP mk
     clear mk hAy K hce
     go_wp2_with fail
     clear c0 c1 c2 c3 c4 c5
     refine wp_region_noPanic ?_
     refine Qbb 11 (fun (W : World) => W.cell? ⟨P, 0, none⟩ = some (.slice a (List.length xs) cp) /\ W.cell? ⟨w.heap.size, 0, none⟩ = some (.slice (some ⟨bb, oo, none⟩) rs.length rc) /\ W.cell? ⟨bb, oo + n * 3, none⟩ = some (.int .i64 y0) /\ W.cell? ⟨bb, oo + n * 3 + 1, none⟩ = some (.int .i64 y1) /\ W.cell? ⟨bb, oo + n * 3 + 2, none⟩ = some (.slice yA ym.length yc)) (by kernel_rfl) ?_
     refine zpk [0,1,2,3,4,5,6] ?_; repeat (refine zpn (h := ?_); try simp only [zX,zY])
     refine zpe ?_
     refine Qar (i := 7) (by kernel_rfl) rfl (fun K hK => ?_)
     simp only [zG]
     go_simp
     refine (Items.l3Copy_any y0 y1 yA yc ym hym _ (HAy.out.below KD.out.kd.bl)).mono ?_
     rintro e v1w ⟨v1, rfl, ho1, g1⟩
     obtain ⟨b1, e1, rfl, _⟩ := Qao ho1
     obtain ⟨a2, c2', X, hr1, bx, dx, F⟩ := KD.out.round Qec (pg := Tryz.prog) (z := .agg Qbx) Tryz.underlying85 infoRC rfl (by decide) (by decide) g1 (⟨y0, y1, b1, e1, ym⟩ : RC) (Qgl (α := It) ho1) (Qaz y0 y1 b1 ym.length e1) rfl hxl.out 0
     have K1 := KD.out.below Qec g1
     have T1 := MkS.out v1w K1.box K1.kd
     have T2 := MkS.out (v1w.alloc (.cells (Qaz y0 y1 b1 ym.length e1) 118)) (K1.box.alloc _) (K1.kd.alloc _)
     have T3 := MkS.out X bx dx
     have fX := bx.thaw 0
     have hr1' := hidP hr1
     have F' : Hid (KP (α := RC) rowP 118 (fun V => Du (w.heap.size + 2) V (.slice zA ds.length zc) (.slice vA ls.length vc) ds ls) s0 w (X.setCell ⟨P, 0, none⟩ (.slice a2 (xs.length + 1) c2')) (Qaa (some ⟨bb, oo, none⟩) rs.length rc mA ms.length mc gA gs.length gc time dA ds.length dc lA ls.length lc) P (Qaa a2 (List.length (xs ++ [(⟨y0, y1, b1, e1, ym⟩ : RC)])) c2' none 0 0 none 0 0 time zA ds.length zc vA ls.length vc) a2 c2' (xs ++ [(⟨y0, y1, b1, e1, ym⟩ : RC)])) := by
      show KP _ _ _ _ _ _ _ _ _ _ _ _
      rw [List.length_append]
      exact F
     have hM' : Hid ((xs ++ [(⟨y0, y1, b1, e1, ym⟩ : RC)]).map RC.p = (rs.take (n + 1)).map RC.p) := by show _ = _; rw [hTk.out, List.map_append, hM.out]; rfl
     have hxn' : Hid ((xs ++ [(⟨y0, y1, b1, e1, ym⟩ : RC)]).length = n + 1) := by show _ = _; have := hxn.out; simp; omega
     clear F hr1 K1 bx dx ho1 g1
     refine hK.out _ _ (Or.inr T1) ?_
     clear hK K
     try simp only [zX,zY]
     refine Qar (i := 8) (by kernel_rfl) rfl (fun K hK => ?_)
     simp only [zG]
     go_simp
     refine hK.out _ _ (Or.inr T2) ?_
     clear hK K
     try simp only [zX,zY]
     refine Qar (i := 9) (by kernel_rfl) rfl (fun K hK => ?_)
     simp only [zG]
     rw [if_pos (by rfl)]; refine Qag _ _ _ (by rfl) _ _ _ (by rfl) (by rfl) hr1'.out ?_
     refine hK.out _ _ (Or.inr T3) ?_
     clear hK K
     try simp only [zX,zY]
     refine zp1 10 ?_; refine zpn (h := ?_); try simp only [zX,zY]
     refine zpe ?_
     obtain ⟨t0, t1, t2⟩ := T3
     refine Qar (i := 11) (by kernel_rfl) rfl (fun K hK => ?_)
     simp only [zG]
     go_simp
     refine hK.out _ _ (Or.inl rfl) ?_
     clear hK K
     try simp only [zX,zY]
     refine Qbn (by kernel_rfl) ?_ _
     refine NoPanic.normal ?_
     clear T1 T2 t0 t1 t2 fX hr1' hH MkS KD HAy
     go_wp2
     exact ⟨⟨n + 1, c2', a2, xs ++ [(⟨y0, y1, b1, e1, ym⟩ : RC)], by go_num, by omega, hxn', F', hM'⟩, by simp [intOf]; omega⟩
   . obtain rfl : n = rs.length := by omega
     have hM1 : Hid (xs.map RC.p = rs.map RC.p) := by show _ = _; rw [hM.out, List.take_of_length_le (Nat.le_refl _)]
     have hs1 := hidP K.out.gu.hB
     have HZ1 := hidP (Qfn K.out.gu.own)
     have K1 := hidP (K.out.next (β := MC) (Q := makP) (u := 124) Qec)
     have HM1 := hM1
     have HN1 := hxn
     clear K hM hM1 hxn
     generalize hs_ : wr.heap.size = s1 at K1 hs1
     clear hs_
     have KS : Hid (KP (α := MC) makP 124 (fun V => (fun V => Du (w.heap.size + 2) V (.slice zA ds.length zc) (.slice vA ls.length vc) ds ls) V /\ Own rowP V a xs (fun b => s0 <= b /\ b < s1)) s1 w wr (Qaa rA rs.length rc mA ms.length mc gA gs.length gc time dA ds.length dc lA ls.length lc) P (Qaa a (List.length xs) cp none (List.length ([] : List MC)) 0 none 0 0 time zA ds.length zc vA ls.length vc) none 0 ([] : List MC)) := K1
     generalize a = pA at *
     generalize cp = pc at *
     generalize xs = ps at *
     clear K1
     go_wp2
     clear c0 c1 c2 c3 c4 c5 qk
     go_loopw [5] (fun v W => ∃ (n cp : Nat) (a : Option Addr) (xs : List MC), v = .int .i64 (n : Int) /\ n <= ms.length /\ Hid (xs.length = n) /\ Hid (KP (α := MC) makP 124 (fun V => (fun V => Du (w.heap.size + 2) V (.slice zA ds.length zc) (.slice vA ls.length vc) ds ls) V /\ Own rowP V pA ps (fun b => s0 <= b /\ b < s1)) s1 w W (Qaa rA rs.length rc mA ms.length mc gA gs.length gc time dA ds.length dc lA ls.length lc) P (Qaa pA (List.length ps) pc a (List.length xs) cp none 0 0 time zA ds.length zc vA ls.length vc) a cp xs) /\ Hid (xs.map MC.p = (ms.take n).map MC.p)) (fun v _ => ms.length - (intOf v).toNat)
     case atStart => exact ⟨0, 0, none, [], rfl, by omega, rfl, KS, by show _ = _; simp⟩
     case round =>
      clear KS
      obtain ⟨n, cp, a, xs, rfl, hn, hxn, K, hM⟩ := hrel
      have cK := K.out.kd.k.row6
      obtain ⟨c0, c1, c2, c3, c4, c5⟩ := cK
      have qk := K.out.kd.k.lt
      by_cases hlt : n < ms.length
      . obtain ⟨bb, oo, rfl, hbs, hIn⟩ : ∃ b o, mA = some ⟨b, o, none⟩ /\ b < w.heap.size /\ In w b o ms := by
         rcases (show At w mA ms from HX.out.ma) with h | h
         . subst h; simp at hlt
         . exact h
        have hym := Hmi.out _ (List.getElem_mem hlt)
        have hAy := HX.out.me _ (List.getElem_mem hlt)
        have hTk : Hid ((ms.take (n + 1)).map MC.p = (ms.take n).map MC.p ++ [ms[n].p]) := by show _ = _; rw [List.take_succ_eq_append_getElem hlt, List.map_append]; rfl
        have hce : ∀ W : World, Below w.heap.size w W -> _ := fun W g => (hIn.below hbs g).getMC n hlt
        generalize ms[n] = y at hym hAy hTk hce
        obtain ⟨y0, y1, y2, y3, yA, yc, ym⟩ := y
        simp only at hym hAy hce
        have HAy := hidP hAy
        have hxl : Hid (xs.length <= 2000000) := by show _ <= _; have := hxn.out; omega
        have KD := hidP (K.out.drew Qej)
        have hi0 : (0 : Int) <= (n : Int) := by omega
        have hi1 : (n : Int) < (ms.length : Int) := by omega
        have mk : ∀ W : World, Blk W P 90 (Qaa pA (List.length ps) pc a (List.length xs) cp none 0 0 time zA ds.length zc vA ls.length vc) -> Kd w W (Qaa rA rs.length rc (some ⟨bb, oo, none⟩) ms.length mc gA gs.length gc time dA ds.length dc lA ls.length lc) -> (fun (W : World) => W.cell? ⟨P, 1, none⟩ = some (.slice a (List.length xs) cp) /\ W.cell? ⟨w.heap.size, 1, none⟩ = some (.slice (some ⟨bb, oo, none⟩) ms.length mc) /\ W.cell? ⟨bb, oo + n * 5, none⟩ = some (.int .i64 y0) /\ W.cell? ⟨bb, oo + n * 5 + 1, none⟩ = some (.int .i64 y1) /\ W.cell? ⟨bb, oo + n * 5 + 2, none⟩ = some (.int .i64 y2) /\ W.cell? ⟨bb, oo + n * 5 + 3, none⟩ = some (.int .i64 y3) /\ W.cell? ⟨bb, oo + n * 5 + 4, none⟩ = some (.slice yA ym.length yc)) W := fun W hb hk => ⟨hb.cell (i := 1) rfl, hk.k.row6.2.1, hce W hk.bl⟩
        have hH := mk wr.drew KD.out.box KD.out.kd
        have MkS := hidP mk
        clear mk hAy K hce
        go_wp2_with fail
        clear c0 c1 c2 c3 c4 c5
        refine wp_region_noPanic ?_
        refine Qbb 11 (fun (W : World) => W.cell? ⟨P, 1, none⟩ = some (.slice a (List.length xs) cp) /\ W.cell? ⟨w.heap.size, 1, none⟩ = some (.slice (some ⟨bb, oo, none⟩) ms.length mc) /\ W.cell? ⟨bb, oo + n * 5, none⟩ = some (.int .i64 y0) /\ W.cell? ⟨bb, oo + n * 5 + 1, none⟩ = some (.int .i64 y1) /\ W.cell? ⟨bb, oo + n * 5 + 2, none⟩ = some (.int .i64 y2) /\ W.cell? ⟨bb, oo + n * 5 + 3, none⟩ = some (.int .i64 y3) /\ W.cell? ⟨bb, oo + n * 5 + 4, none⟩ = some (.slice yA ym.length yc)) (by kernel_rfl) ?_
        refine zpk [0,1,2,3,4,5,6] ?_; repeat (refine zpn (h := ?_); try simp only [zX,zY])
        refine zpe ?_
        refine Qar (i := 7) (by kernel_rfl) rfl (fun K hK => ?_)
        simp only [zG]
        go_simp
        refine (Qa3 y0 y1 y2 y3 yA yc ym hym _ (HAy.out.below KD.out.kd.bl)).mono ?_
        rintro e v1w ⟨v1, rfl, ho1, g1⟩
        obtain ⟨b1, e1, rfl, _⟩ := Qao ho1
        obtain ⟨a2, c2', X, hr1, bx, dx, F⟩ := KD.out.round Qej (pg := Tryz.prog) (z := .agg Qc2) Tryz.underlying86 infoMC rfl (by decide) (by decide) g1 (⟨y0, y1, y2, y3, b1, e1, ym⟩ : MC) (Qgl (α := Mk) ho1) (Qam y0 y1 y2 y3 b1 ym.length e1) rfl hxl.out 1
        have K1 := KD.out.below Qej g1
        have T1 := MkS.out v1w K1.box K1.kd
        have T2 := MkS.out (v1w.alloc (.cells (Qam y0 y1 y2 y3 b1 ym.length e1) 124)) (K1.box.alloc _) (K1.kd.alloc _)
        have T3 := MkS.out X bx dx
        have fX := bx.thaw 1
        have hr1' := hidP hr1
        have F' : Hid (KP (α := MC) makP 124 (fun V => (fun V => Du (w.heap.size + 2) V (.slice zA ds.length zc) (.slice vA ls.length vc) ds ls) V /\ Own rowP V pA ps (fun b => s0 <= b /\ b < s1)) s1 w (X.setCell ⟨P, 1, none⟩ (.slice a2 (xs.length + 1) c2')) (Qaa rA rs.length rc (some ⟨bb, oo, none⟩) ms.length mc gA gs.length gc time dA ds.length dc lA ls.length lc) P (Qaa pA (List.length ps) pc a2 (List.length (xs ++ [(⟨y0, y1, y2, y3, b1, e1, ym⟩ : MC)])) c2' none 0 0 time zA ds.length zc vA ls.length vc) a2 c2' (xs ++ [(⟨y0, y1, y2, y3, b1, e1, ym⟩ : MC)])) := by
         show KP _ _ _ _ _ _ _ _ _ _ _ _
         rw [List.length_append]
         exact F
        have hM' : Hid ((xs ++ [(⟨y0, y1, y2, y3, b1, e1, ym⟩ : MC)]).map MC.p = (ms.take (n + 1)).map MC.p) := by show _ = _; rw [hTk.out, List.map_append, hM.out]; rfl
        have hxn' : Hid ((xs ++ [(⟨y0, y1, y2, y3, b1, e1, ym⟩ : MC)]).length = n + 1) := by show _ = _; have := hxn.out; simp; omega
        clear F hr1 K1 bx dx ho1 g1
        refine hK.out _ _ (Or.inr T1) ?_
        clear hK K
        try simp only [zX,zY]
        refine Qar (i := 8) (by kernel_rfl) rfl (fun K hK => ?_)
        simp only [zG]
        go_simp
        refine hK.out _ _ (Or.inr T2) ?_
        clear hK K
        try simp only [zX,zY]
        refine Qar (i := 9) (by kernel_rfl) rfl (fun K hK => ?_)
        simp only [zG]
        rw [if_pos (by rfl)]; refine Qag _ _ _ (by rfl) _ _ _ (by rfl) (by rfl) hr1'.out ?_
        refine hK.out _ _ (Or.inr T3) ?_
        clear hK K
        try simp only [zX,zY]
        refine zp1 10 ?_; refine zpn (h := ?_); try simp only [zX,zY]
        refine zpe ?_
        obtain ⟨t0, t1, t2⟩ := T3
        refine Qar (i := 11) (by kernel_rfl) rfl (fun K hK => ?_)
        simp only [zG]
        go_simp
        refine hK.out _ _ (Or.inl rfl) ?_
        clear hK K
        try simp only [zX,zY]
        refine Qbn (by kernel_rfl) ?_ _
        refine NoPanic.normal ?_
        clear T1 T2 t0 t1 t2 fX hr1' hH MkS KD HAy
        go_wp2
        exact ⟨⟨n + 1, c2', a2, xs ++ [(⟨y0, y1, y2, y3, b1, e1, ym⟩ : MC)], by go_num, by omega, hxn', F', hM'⟩, by simp [intOf]; omega⟩
      . obtain rfl : n = ms.length := by omega
        have hM1 : Hid (xs.map MC.p = ms.map MC.p) := by show _ = _; rw [hM.out, List.take_of_length_le (Nat.le_refl _)]
        have hs2 := hidP K.out.gu.hB
        have HZ2 := hidP (Qfn K.out.gu.own)
        have K1 := hidP (K.out.next (β := GC) (Q := grpP) (u := 128) Qej)
        have HM2 := hM1
        have HN2 := hxn
        clear K hM hM1 hxn
        generalize hs_ : wr.heap.size = s2 at K1 hs2
        clear hs_
        have KS : Hid (KP (α := GC) grpP 128 (fun V => ((fun V => Du (w.heap.size + 2) V (.slice zA ds.length zc) (.slice vA ls.length vc) ds ls) V /\ Own rowP V pA ps (fun b => s0 <= b /\ b < s1)) /\ Own makP V a xs (fun b => s1 <= b /\ b < s2)) s2 w wr (Qaa rA rs.length rc mA ms.length mc gA gs.length gc time dA ds.length dc lA ls.length lc) P (Qaa pA (List.length ps) pc a (List.length xs) cp none (List.length ([] : List GC)) 0 time zA ds.length zc vA ls.length vc) none 0 ([] : List GC)) := K1
        generalize a = qA at *
        generalize cp = qc at *
        generalize xs = qs at *
        clear K1
        go_wp2
        clear c0 c1 c2 c3 c4 c5 qk
        go_loopw [6] (fun v W => ∃ (n cp : Nat) (a : Option Addr) (xs : List GC), v = .int .i64 (n : Int) /\ n <= gs.length /\ Hid (xs.length = n) /\ Hid (KP (α := GC) grpP 128 (fun V => ((fun V => Du (w.heap.size + 2) V (.slice zA ds.length zc) (.slice vA ls.length vc) ds ls) V /\ Own rowP V pA ps (fun b => s0 <= b /\ b < s1)) /\ Own makP V qA qs (fun b => s1 <= b /\ b < s2)) s2 w W (Qaa rA rs.length rc mA ms.length mc gA gs.length gc time dA ds.length dc lA ls.length lc) P (Qaa pA (List.length ps) pc qA (List.length qs) qc a (List.length xs) cp time zA ds.length zc vA ls.length vc) a cp xs) /\ Hid (xs.map GC.p = (gs.take n).map GC.p) /\ Hid (∀ g ∈ xs, (g.m.length <= g.c1 /\ g.c1 <= 9223372036854775807) /\ (g.b.length <= g.c2 /\ g.c2 <= 9223372036854775807))) (fun v _ => gs.length - (intOf v).toNat)
        case atStart => exact ⟨0, 0, none, [], rfl, by omega, rfl, KS, by show _ = _; simp, by show ∀ g ∈ _, _; simp⟩
        case round =>
         clear KS
         obtain ⟨n, cp, a, xs, rfl, hn, hxn, K, hM, hCp⟩ := hrel
         have cK := K.out.kd.k.row6
         obtain ⟨c0, c1, c2, c3, c4, c5⟩ := cK
         have qk := K.out.kd.k.lt
         by_cases hlt : n < gs.length
         . obtain ⟨bb, oo, rfl, hbs, hIn⟩ : ∃ b o, gA = some ⟨b, o, none⟩ /\ b < w.heap.size /\ In w b o gs := by
            rcases (show At w gA gs from HX.out.ga) with h | h
            . subst h; simp at hlt
            . exact h
           have hym := Hgi.out _ (List.getElem_mem hlt)
           have hAy := HX.out.ge _ (List.getElem_mem hlt)
           have hTk : Hid ((gs.take (n + 1)).map GC.p = (gs.take n).map GC.p ++ [gs[n].p]) := by show _ = _; rw [List.take_succ_eq_append_getElem hlt, List.map_append]; rfl
           have hce : ∀ W : World, Below w.heap.size w W -> _ := fun W g => (hIn.below hbs g).getGC n hlt
           generalize gs[n] = y at hym hAy hTk hce
           obtain ⟨y0, yA, yc, ym, yB, yd, yb, yC, ye, yo⟩ := y
           simp only at hym hAy hce
           have HAy := hidP hAy
           have hxl : Hid (xs.length <= 2000000) := by show _ <= _; have := hxn.out; omega
           have KD := hidP (K.out.drew Qcp)
           have hi0 : (0 : Int) <= (n : Int) := by omega
           have hi1 : (n : Int) < (gs.length : Int) := by omega
           have mk : ∀ W : World, Blk W P 90 (Qaa pA (List.length ps) pc qA (List.length qs) qc a (List.length xs) cp time zA ds.length zc vA ls.length vc) -> Kd w W (Qaa rA rs.length rc mA ms.length mc (some ⟨bb, oo, none⟩) gs.length gc time dA ds.length dc lA ls.length lc) -> (fun (W : World) => W.cell? ⟨P, 2, none⟩ = some (.slice a (List.length xs) cp) /\ W.cell? ⟨w.heap.size, 2, none⟩ = some (.slice (some ⟨bb, oo, none⟩) gs.length gc) /\ W.cell? ⟨bb, oo + n * 4, none⟩ = some (.int .i64 y0) /\ W.cell? ⟨bb, oo + n * 4 + 1, none⟩ = some (.slice yA ym.length yc) /\ W.cell? ⟨bb, oo + n * 4 + 2, none⟩ = some (.slice yB yb.length yd) /\ W.cell? ⟨bb, oo + n * 4 + 3, none⟩ = some (.slice yC yo.length ye)) W := fun W hb hk => ⟨hb.cell (i := 2) rfl, hk.k.row6.2.2.1, hce W hk.bl⟩
           have hH := mk wr.drew KD.out.box KD.out.kd
           have MkS := hidP mk
           clear mk hAy K hce
           go_wp2_with fail
           clear c0 c1 c2 c3 c4 c5
           refine wp_region_noPanic ?_
           refine Qbb 11 (fun (W : World) => W.cell? ⟨P, 2, none⟩ = some (.slice a (List.length xs) cp) /\ W.cell? ⟨w.heap.size, 2, none⟩ = some (.slice (some ⟨bb, oo, none⟩) gs.length gc) /\ W.cell? ⟨bb, oo + n * 4, none⟩ = some (.int .i64 y0) /\ W.cell? ⟨bb, oo + n * 4 + 1, none⟩ = some (.slice yA ym.length yc) /\ W.cell? ⟨bb, oo + n * 4 + 2, none⟩ = some (.slice yB yb.length yd) /\ W.cell? ⟨bb, oo + n * 4 + 3, none⟩ = some (.slice yC yo.length ye)) (by kernel_rfl) ?_
           refine zpk [0,1,2,3,4,5,6] ?_; repeat (refine zpn (h := ?_); try simp only [zX,zY])
           refine zpe ?_
           refine Qar (i := 7) (by kernel_rfl) rfl (fun K hK => ?_)
           simp only [zG]
           go_simp
           refine (Qct y0 yA yB yC yc yd ye ym yb yo hym.1 hym.2.1 hym.2.2 _ (HAy.out.1.below KD.out.kd.bl) (HAy.out.2.1.below KD.out.kd.bl) (HAy.out.2.2.below KD.out.kd.bl)).mono ?_
           rintro e v1w ⟨b1, b2, b3, e1, e2, e3, FF, rfl, g1, hGp, hFF, cp1, cp2⟩
           have ho1 := hGp
           obtain ⟨a2, c2', X, hr1, bx, dx, F⟩ := KD.out.round Qcp (pg := Tryz.prog) (z := .agg Qb0) Tryz.underlying87 infoGC rfl (by decide) (by decide) g1 (⟨y0, b1, e1, ym, b2, e2, yb, b3, e3, yo⟩ : GC) (gp_own hGp hFF y0 e1 e2 e3) (Qak y0 b1 ym.length e1 b2 yb.length e2 b3 yo.length e3) rfl hxl.out 2
           have K1 := KD.out.below Qcp g1
           have T1 := MkS.out v1w K1.box K1.kd
           have T2 := MkS.out (v1w.alloc (.cells (Qak y0 b1 ym.length e1 b2 yb.length e2 b3 yo.length e3) 128)) (K1.box.alloc _) (K1.kd.alloc _)
           have T3 := MkS.out X bx dx
           have fX := bx.thaw 2
           have hr1' := hidP hr1
           have F' : Hid (KP (α := GC) grpP 128 (fun V => ((fun V => Du (w.heap.size + 2) V (.slice zA ds.length zc) (.slice vA ls.length vc) ds ls) V /\ Own rowP V pA ps (fun b => s0 <= b /\ b < s1)) /\ Own makP V qA qs (fun b => s1 <= b /\ b < s2)) s2 w (X.setCell ⟨P, 2, none⟩ (.slice a2 (xs.length + 1) c2')) (Qaa rA rs.length rc mA ms.length mc (some ⟨bb, oo, none⟩) gs.length gc time dA ds.length dc lA ls.length lc) P (Qaa pA (List.length ps) pc qA (List.length qs) qc a2 (List.length (xs ++ [(⟨y0, b1, e1, ym, b2, e2, yb, b3, e3, yo⟩ : GC)])) c2' time zA ds.length zc vA ls.length vc) a2 c2' (xs ++ [(⟨y0, b1, e1, ym, b2, e2, yb, b3, e3, yo⟩ : GC)])) := by
            show KP _ _ _ _ _ _ _ _ _ _ _ _
            rw [List.length_append]
            exact F
           have hM' : Hid ((xs ++ [(⟨y0, b1, e1, ym, b2, e2, yb, b3, e3, yo⟩ : GC)]).map GC.p = (gs.take (n + 1)).map GC.p) := by show _ = _; rw [hTk.out, List.map_append, hM.out]; rfl
           have hxn' : Hid ((xs ++ [(⟨y0, b1, e1, ym, b2, e2, yb, b3, e3, yo⟩ : GC)]).length = n + 1) := by show _ = _; have := hxn.out; simp; omega
           have hCp' : Hid (∀ g ∈ xs ++ [(⟨y0, b1, e1, ym, b2, e2, yb, b3, e3, yo⟩ : GC)], (g.m.length <= g.c1 /\ g.c1 <= 9223372036854775807) /\ (g.b.length <= g.c2 /\ g.c2 <= 9223372036854775807)) := by
            show ∀ g ∈ _, _
            intro g hg
            rcases List.mem_append.1 hg with hg | hg
            . exact hCp.out g hg
            . simp at hg; subst hg; exact ⟨cp1, cp2⟩
           clear F hr1 K1 bx dx ho1 g1
           refine hK.out _ _ (Or.inr T1) ?_
           clear hK K
           try simp only [zX,zY]
           refine Qar (i := 8) (by kernel_rfl) rfl (fun K hK => ?_)
           simp only [zG]
           go_simp
           refine hK.out _ _ (Or.inr T2) ?_
           clear hK K
           try simp only [zX,zY]
           refine Qar (i := 9) (by kernel_rfl) rfl (fun K hK => ?_)
           simp only [zG]
           rw [if_pos (by rfl)]; refine Qag _ _ _ (by rfl) _ _ _ (by rfl) (by rfl) hr1'.out ?_
           refine hK.out _ _ (Or.inr T3) ?_
           clear hK K
           try simp only [zX,zY]
           refine zp1 10 ?_; refine zpn (h := ?_); try simp only [zX,zY]
           refine zpe ?_
           obtain ⟨t0, t1, t2⟩ := T3
           refine Qar (i := 11) (by kernel_rfl) rfl (fun K hK => ?_)
           simp only [zG]
           go_simp
           refine hK.out _ _ (Or.inl rfl) ?_
           clear hK K
           try simp only [zX,zY]
           refine Qbn (by kernel_rfl) ?_ _
           refine NoPanic.normal ?_
           clear T1 T2 t0 t1 t2 fX hr1' hH MkS KD HAy
           go_wp2
           exact ⟨⟨n + 1, c2', a2, xs ++ [(⟨y0, b1, e1, ym, b2, e2, yb, b3, e3, yo⟩ : GC)], by go_num, by omega, hxn', F', hM', hCp'⟩, by simp [intOf]; omega⟩
         . obtain rfl : n = gs.length := by omega
           have hM1 : Hid (xs.map GC.p = gs.map GC.p) := by show _ = _; rw [hM.out, List.take_of_length_le (Nat.le_refl _)]
           have hs3 := hidP K.out.gu.hB
           have O3 := hidP K.out.gu.toOwn
           have KK := K
           obtain ⟨r0, r1, r2, r3, r4, r5⟩ := KK.out.kd.r.row6
           have f0 := KK.out.kd.r.thaw 0; have f1 := KK.out.kd.r.thaw 1; have f2 := KK.out.kd.r.thaw 2; have f3 := KK.out.kd.r.thaw 3; have f4 := KK.out.kd.r.thaw 4; have f5 := KK.out.kd.r.thaw 5
           obtain ⟨o0, o1, o2, o3, o4, o5⟩ := KK.out.box.row6
           obtain ⟨s0', s1', s2', s3', s4', s5'⟩ := Qat KK.out.kd.r (.slice pA (List.length ps) pc) (.slice qA (List.length qs) qc) (.slice a (List.length xs) cp) (.int .i64 time) (.slice zA ds.length zc) (.slice vA ls.length vc)
           clear K
           go_wp2
           refine bodyPost_ret (v := .agg (Qaa pA (List.length ps) pc qA (List.length qs) qc a (List.length xs) cp time zA ds.length zc vA ls.length vc)) (by simp [results, Tryz.results85, go_sem, s0', s1', s2', s3', s4', s5']) rfl ?_
           exact toldQ_of KK.out hs0.out hs1.out hs2.out HZ0.out HZ1.out HM1.out HM2.out hM1.out hCp.out hr0 hg0 hd0 hl0 rA rc mA mc gA gc dA dc lA lc
theorem Blk.row8c {W : World} {B : Nat} {t : TypeId} {a b c d e f g h : Value} (x : Blk W B t #[a, b, c, d, e, f, g, h]) : W.cell? ⟨B, 0, none⟩ = some a /\ W.cell? ⟨B, 1, none⟩ = some b /\ W.cell? ⟨B, 2, none⟩ = some c /\ W.cell? ⟨B, 3, none⟩ = some d /\ W.cell? ⟨B, 4, none⟩ = some e /\ W.cell? ⟨B, 5, none⟩ = some f /\ W.cell? ⟨B, 6, none⟩ = some g /\ W.cell? ⟨B, 7, none⟩ = some h := ⟨x.cell (by rfl), x.cell (by rfl), x.cell (by rfl), x.cell (by rfl), x.cell (by rfl), x.cell (by rfl), x.cell (by rfl), x.cell (by rfl)⟩
def Qbu (S : Nat -> Prop) (w w' : World) (e : Ending) (p : PK) (a : An) : Prop := ∃ y br bg bd bl, e = .returned (.tuple #[.agg y.cells, .agg (Qas a.code a.n a.key a.text)]) /\ y.p = p /\ KQ w' y (fun b => S b ∨ w.heap.size <= b /\ b < w'.heap.size) br bg bd bl /\ Offp S w w'
structure Bx (S : Nat -> Prop) (w W : World) (pk pc p1 p2 : Nat) (kc cc : Array Value) : Prop where
  off : Offp S w W
  k : Blk W pk 90 kc
  c : Blk W pc 105 cc
  r1 : Blk W p1 90 Qab
  r2 : Blk W p2 130 Qai
  lo : w.heap.size <= pk /\ w.heap.size <= pc /\ w.heap.size <= p1 /\ w.heap.size <= p2
  ne : pk ≠ pc /\ pk ≠ p1 /\ pk ≠ p2 /\ pc ≠ p1 /\ pc ≠ p2 /\ p1 ≠ p2
  s : ∀ b, S b -> b < w.heap.size
section
variable {S T : Nat -> Prop} {w W W' : World} {pk pc p1 p2 : Nat} {kc cc : Array Value}
theorem Bx.below (h : Bx S w W pk pc p1 p2 kc cc) (g : Below W.heap.size W W') : Bx S w W' pk pc p1 p2 kc cc :=
 ⟨h.off.below g, h.k.below g h.k.lt, h.c.below g h.c.lt, h.r1.below g h.r1.lt, h.r2.below g h.r2.lt, h.lo, h.ne, h.s⟩
theorem Bx.alloc (h : Bx S w W pk pc p1 p2 kc cc) (ob : Obj) : Bx S w (W.alloc ob) pk pc p1 p2 kc cc := h.below (Qaf (Below.refl _ _) _)
theorem Bx.drew (h : Bx S w W pk pc p1 p2 kc cc) : Bx S w W.drew pk pc p1 p2 kc cc := h.below (Below.refl _ _).drew
theorem Bx.turn (h : Bx S w W pk pc p1 p2 kc cc) (k : Offp T W W') (hT : ∀ b, T b -> S b ∨ (w.heap.size <= b /\ b ≠ pk /\ b ≠ pc /\ b ≠ p1 /\ b ≠ p2)) : Bx S w W' pk pc p1 p2 kc cc := by
 have nk : ∀ p, w.heap.size <= p -> (p = pk ∨ p = pc ∨ p = p1 ∨ p = p2) -> ¬ T p := fun p hp he t => by
  rcases hT p t with e | e
  . have := h.s p e; omega
  . omega
 refine ⟨?_, h.k.offp k (nk _ h.lo.1 (by simp)), h.c.offp k (nk _ h.lo.2.1 (by simp)), h.r1.offp k (nk _ h.lo.2.2.1 (by simp)), h.r2.offp k (nk _ h.lo.2.2.2 (by simp)), h.lo, h.ne, h.s⟩
 exact ⟨k.os.trans h.off.os, k.tape.trans h.off.tape, k.output.trans h.off.output, Nat.le_trans h.off.size k.size, fun i hi hn => (k.block i (Nat.lt_of_lt_of_le hi h.off.size) (fun t => (hT i t).elim hn (fun e => by omega))).trans (h.off.block i hi hn)⟩
theorem Bx.setK (h : Bx S w W pk pc p1 p2 kc cc) (i : Nat) (v : Value) : Bx S w (W.setCell ⟨pk, i, none⟩ v) pk pc p1 p2 (kc.setIfInBounds i v) cc := by
 have k := Offp.of_only ((Only.refl pk W).set i v)
 refine ⟨?_, h.k.setAt i v, h.c.offp k (fun e => h.ne.1 e.symm), h.r1.offp k (fun e => h.ne.2.1 e.symm), h.r2.offp k (fun e => h.ne.2.2.1 e.symm), h.lo, h.ne, h.s⟩
 exact ⟨k.os.trans h.off.os, k.tape.trans h.off.tape, k.output.trans h.off.output, Nat.le_trans h.off.size k.size, fun j hj hn => (k.block j (Nat.lt_of_lt_of_le hj h.off.size) (fun t => by have := h.lo.1; omega)).trans (h.off.block j hj hn)⟩
end
abbrev putN (Y : World) (p : Nat) (v0 v1 v2 v3 : Value) : World := (((Y.setCell ⟨p, 0, none⟩ v0).setCell ⟨p, 1, none⟩ v1).setCell ⟨p, 2, none⟩ v2).setCell ⟨p, 3, none⟩ v3
theorem Qah (Y : World) (p : Nat) (v0 v1 v2 v3 : Value) : Only p Y (putN Y p v0 v1 v2 v3) := ((((Only.refl p Y).set 0 v0).set 1 v1).set 2 v2).set 3 v3
theorem Qer {Y : World} {p : Nat} {t : TypeId} {x0 x1 x2 x3 : Value} (h : Blk Y p t #[x0, x1, x2, x3]) (v0 v1 v2 v3 : Value) : Blk (putN Y p v0 v1 v2 v3) p t #[v0, v1, v2, v3] := (((h.setAt 0 v0).setAt 1 v1).setAt 2 v2).setAt 3 v3
theorem Qau {W : World} {p : Nat} {t : TypeId} {x0 x1 x2 x3 : Value} (h : Blk W p t #[x0, x1, x2, x3]) (v0 v1 v2 v3 : Value) :
 (W.setCell ⟨p, 0, none⟩ v0).cell? ⟨p, 0, none⟩ = some v0 /\ ((W.setCell ⟨p, 0, none⟩ v0).setCell ⟨p, 1, none⟩ v1).cell? ⟨p, 1, none⟩ = some v1 /\ (((W.setCell ⟨p, 0, none⟩ v0).setCell ⟨p, 1, none⟩ v1).setCell ⟨p, 2, none⟩ v2).cell? ⟨p, 2, none⟩ = some v2 /\ (putN W p v0 v1 v2 v3).cell? ⟨p, 3, none⟩ = some v3 :=
 ⟨(h.setAt 0 v0).cell (by rfl), ((h.setAt 0 v0).setAt 1 v1).cell (by rfl), (((h.setAt 0 v0).setAt 1 v1).setAt 2 v2).cell (by rfl), (Qer h v0 v1 v2 v3).cell (by rfl)⟩
theorem Bx.told {S : Nat -> Prop} {w W : World} {pk pc p1 p2 : Nat} {kc cc : Array Value} (h : Bx S w W pk pc p1 p2 kc cc) {y : KC} {br bg bd bl : Nat} (hq : KQ W y (fun b => S b ∨ (w.heap.size <= b /\ b ≠ p1 /\ b ≠ p2)) br bg bd bl) (a : An) {v0 v1 v2 v3 v4 v5 : Value} (hv : y.cells = #[v0, v1, v2, v3, v4, v5]) :
 Qbu S w (putN (putK W p1 v0 v1 v2 v3 v4 v5) p2 (.int .i64 a.code) (.int .i64 a.n) (.string a.key) (.string a.text)) (.returned (.tuple #[.agg #[v0, v1, v2, v3, v4, v5], .agg (Qas a.code a.n a.key a.text)])) y.p a := by
 have k1 := Offp.of_only (Qac W p1 v0 v1 v2 v3 v4 v5)
 have k2 := Offp.of_only (Qah (putK W p1 v0 v1 v2 v3 v4 v5) p2 (.int .i64 a.code) (.int .i64 a.n) (.string a.key) (.string a.text))
 have hs := h.s
 have hlo := h.lo
 refine ⟨y, br, bg, bd, bl, by rw [hv], rfl, ((hq.offp k1 (fun b hb e => ?_)).offp k2 (fun b hb e => ?_)).mono (fun b hb hb' => hb'.imp id (fun e => ⟨e.1, hb⟩)), ?_⟩
 . subst e
   rcases hb with e | e
   . have := hs _ e; omega
   . omega
 . subst e
   rcases hb with e | e
   . have := hs _ e; omega
   . omega
 . exact ⟨k2.os.trans (k1.os.trans h.off.os), k2.tape.trans (k1.tape.trans h.off.tape), k2.output.trans (k1.output.trans h.off.output), Nat.le_trans h.off.size (Nat.le_trans k1.size k2.size), fun i hi hn => (k2.block i (Nat.lt_of_lt_of_le hi (Nat.le_trans h.off.size k1.size)) (fun e => by omega)).trans ((k1.block i (Nat.lt_of_lt_of_le hi h.off.size) (fun e => by omega)).trans (h.off.block i hi hn))⟩
structure KLen (x : KC) : Prop where
  rl : 0 < x.rs.length /\ x.rs.length <= 1000
  ml : x.ms.length <= 100000
  gl : x.gs.length = 2
  dl : x.ds.length = 4
  ll : x.ls.length = 4
  ri : ∀ y ∈ x.rs, y.its.length <= 1000 /\ (∀ z ∈ y.its, z.key.size <= 30 /\ z.text.size <= 30) /\ I64 y.next
  mi : ∀ y ∈ x.ms, y.ms.length <= 1000
  gi : ∀ y ∈ x.gs, y.m.length <= 100000 /\ y.b.length = y.m.length /\ y.o.length <= 1000 /\ I64 y.gen /\ (∀ z ∈ y.m, I64 z) /\ (∀ z ∈ y.b, I64 z) /\ (∀ z ∈ y.o, I64 z)
  t : I64 x.time
open Go.Maps (Keyed)
open Go.ChangeMaps (setBlock heap_setBlock_same heap_setBlock_other)
def seen (l : List MC) (n : Nat) (row who : Int) : Prop := ∃ i, ∃ h : i < l.length, i < n /\ l[i].row = row /\ l[i].who = who
def seenB (l : List MC) (n : Nat) (row who : Int) : Bool := (l.take n).any fun x => x.row == row && x.who == who
theorem seen_iff (l : List MC) (n : Nat) (row who : Int) : seen l n row who ↔ seenB l n row who = true := by
 simp only [seenB, List.any_eq_true, Bool.and_eq_true, beq_iff_eq]
 constructor
 . rintro ⟨i, h, hi, h1, h2⟩
   exact ⟨l[i], List.mem_take_iff_getElem.2 ⟨i, by omega, rfl⟩, h1, h2⟩
 . rintro ⟨x, hx, h1, h2⟩
   obtain ⟨i, hi, rfl⟩ := List.mem_take_iff_getElem.1 hx
   exact ⟨i, by omega, by omega, h1, h2⟩
instance (l : List MC) (n : Nat) (row who : Int) : Decidable (seen l n row who) := decidable_of_iff _ (seen_iff l n row who).symm
def mofP (l : List MC) (row who : Int) : PM := match l.find? (fun x => x.row == row && x.who == who) with
  | some x => x.p
  | none => ⟨row, who, 0, -1, []⟩
theorem mofP_at {l : List MC} {row who : Int} {j : Nat} (hj : j < l.length) (h1 : l[j].row = row) (h2 : l[j].who = who) (h3 : ¬ seen l j row who) : mofP l row who = l[j].p := by
 have : l.find? (fun x => x.row == row && x.who == who) = some l[j] := by
  refine List.find?_eq_some_iff_getElem.2 ⟨by simp [h1, h2], j, hj, rfl, fun i hi => ?_⟩
  have : ¬ (l[i].row = row /\ l[i].who = who) := fun h => h3 ⟨i, by omega, hi, h.1, h.2⟩
  simp
  by_cases e1 : l[i].row = row
  . exact .inr fun e2 => this ⟨e1, e2⟩
  . exact .inl e1
 unfold mofP
 rw [this]
theorem mofP_none {l : List MC} {row who : Int} (h : ¬ seen l l.length row who) : mofP l row who = ⟨row, who, 0, -1, []⟩ := by
 have : l.find? (fun x => x.row == row && x.who == who) = none := by
  refine List.find?_eq_none.2 fun x hx => ?_
  obtain ⟨i, hi, rfl⟩ := List.getElem_of_mem hx
  simp
  intro e1 e2
  exact h ⟨i, hi, hi, e1, e2⟩
 unfold mofP
 rw [this]
theorem Qbg (A : Option Addr) (cap : Nat) (l : List MC) (row who : Int) (hl : l.length <= 1048576) (hs : ∀ x ∈ l, x.ms.length <= 1048576) (w : World) (hA : At w A l) (hE : Each w l) :
 Calls Tryz.prog 107 (Qe7 A l.length cap row who) w fun e w' => ∃ v, e = .returned (.agg #[.int .i64 (mofP l row who).row, .int .i64 (mofP l row who).who, .int .i64 (mofP l row who).epoch, .int .i64 (mofP l row who).last, v]) /\ w'.ownsRow w.heap.size 126 2 v (mofP l row who).ms.length (flat (mofP l row who).ms) /\ Below w.heap.size w w' := by
 have HA := hidP hA
 have HE := hidP hE
 have Hs := hidP hs
 clear hA hE hs
 go_enter Tryz.func107, Tryz.ntmps107
 go_wp2
 go_loopw [7] (fun i w' => ∃ (n : Nat), i = .int .i64 (n : Int) /\ n <= l.length /\ Below w.heap.size w w' /\ Hid (Blk w' w.heap.size 124 Qc2) /\ Hid (¬ seen l n row who)) (fun i _ => l.length - (intOf i).toNat)
 case atStart => exact ⟨0, rfl, by omega, Qaf (Below.refl _ _) _, Blk.new _ _ _, by rintro ⟨i, h, hi, _⟩; omega⟩
 case round =>
  obtain ⟨n, rfl, hn, B1, P1, hns⟩ := hrel
  have p1 := P1.out
  obtain ⟨u0, u1, u2, u3, u4⟩ := p1.row5
  have f0 := p1.thaw 0
  have f1 := p1.thaw 1
  have f2 := p1.thaw 2
  have f3 := p1.thaw 3
  have f4 := p1.thaw 4
  have q1 := p1.lt
  by_cases hlt : n < l.length
  . obtain ⟨b, o, rfl, hbs, hIn⟩ : ∃ b o, A = some ⟨b, o, none⟩ /\ b < w.heap.size /\ In w b o l := by
     rcases HA.out with h | h
     . subst h; simp at hlt
     . exact h
    obtain ⟨c0, c1, c2, c3, c4⟩ := (hIn.below hbs B1).getMC n hlt
    have hat := hidP ((HE.out _ (List.getElem_mem hlt)).below B1)
    have hms := Hs.out _ (List.getElem_mem hlt)
    have hi0 : (0 : Int) <= (n : Int) := by omega
    have hi1 : (n : Int) < (l.length : Int) := by omega
    have hstep : ¬ (l[n].row = row /\ l[n].who = who) -> ¬ seen l (n + 1) row who := fun h => by
     rintro ⟨i, hi, hin, h1, h2⟩
     by_cases e : i = n
     . subst e; exact h ⟨h1, h2⟩
     . exact hns.out ⟨i, hi, by omega, h1, h2⟩
    by_cases hm : l[n].row = row /\ l[n].who = who
    . have hF := hidP (mofP_at hlt hm.1 hm.2 hns.out)
      have hd1 := decide_eq_true hm.1
      have hd2 := decide_eq_true hm.2
      have hd3 : (l[n].row == row) = true := by simp [hm.1]
      have hd4 : (l[n].who == who) = true := by simp [hm.2]
      clear hstep hm
      generalize l[n] = y at c0 c1 c2 c3 c4 hat hms hd1 hd2 hd3 hd4 hF
      obtain ⟨yr, yw, ye, yl, yA, yc, ys⟩ := y
      simp only at c0 c1 c2 c3 c4 hat hms hd1 hd2 hd3 hd4
      go_wp2_with fail
      refine (Qa3 yr yw ye yl yA yc ys hms _ hat.out).mono ?_
      rintro e w2 ⟨v, rfl, hown, g2⟩
      obtain ⟨a, c, rfl, hc⟩ := Qao hown
      have B2 : Below w.heap.size w w2 := via0 g2 B1
      have p2 := p1.below g2 p1.lt
      have hfar := hidP (Qay hown (C := w.heap.size) q1)
      have Hown := hidP (Qaw hown (C := w.heap.size) (by omega))
      clear u0 u1 u2 u3 u4 f0 f1 f2 f3 f4 hown
      obtain ⟨u0, u1, u2, u3, u4⟩ := p2.row5
      have f0 := p2.thaw 0
      have f1 := p2.thaw 1
      have f2 := p2.thaw 2
      have f3 := p2.thaw 3
      have f4 := p2.thaw 4
      go_wp2
      have e1 : Blk _ w.heap.size 124 (Qam yr yw ye yl a ys.length c) := ((((p2.setAt 0 (.int .i64 yr)).setAt 1 (.int .i64 yw)).setAt 2 (.int .i64 ye)).setAt 3 (.int .i64 yl)).setAt 4 (.slice a ys.length c)
      obtain ⟨x0, x1, x2, x3, x4⟩ := e1.row5
      rw [hF.out]
      exact bodyPost_ret (v := .agg (Qam yr yw ye yl a ys.length c)) (by simp [results, Tryz.results107, go_sem, x0, x1, x2, x3, x4]) rfl
       ⟨_, rfl, Qaj (Qaj (Qaj (Qaj (Qaj Hown.out hfar.out) hfar.out) hfar.out) hfar.out) hfar.out,
        Qal (Qal (Qal (Qal (Qal B2 (Nat.le_refl _) _) (Nat.le_refl _) _) (Nat.le_refl _) _) (Nat.le_refl _) _) (Nat.le_refl _) _⟩
    . have Hst := hidP (hstep hm)
      clear hstep
      by_cases h1 : l[n].row = row
      . have hd1 := decide_eq_true h1
        have hd2 : decide (l[n].who = who) = false := decide_eq_false (fun h => hm ⟨h1, h⟩)
        have hd3 : (l[n].row == row) = true := by simp [h1]
        have hd4 : (l[n].who == who) = false := by simp; exact fun h => hm ⟨h1, h⟩
        clear hm h1
        go_wp2
        exact ⟨⟨n + 1, by go_num, by omega, B1, P1, Hst⟩, by simp [intOf]; omega⟩
      . have hd1 := decide_eq_false h1
        have hd3 : (l[n].row == row) = false := by simp [h1]
        clear hm h1
        go_wp2
        exact ⟨⟨n + 1, by go_num, by omega, B1, P1, Hst⟩, by simp [intOf]; omega⟩
  . obtain rfl : n = l.length := by omega
    have hF := hidP (mofP_none hns.out)
    go_wp2
    have e1 : Blk _ w.heap.size 124 (Qam row who 0 (-1) none 0 0) := ((((p1.setAt 0 (.int .i64 row)).setAt 1 (.int .i64 who)).setAt 2 (.int .i64 0)).setAt 3 (.int .i64 (-1))).setAt 4 (.slice none 0 0)
    obtain ⟨x0, x1, x2, x3, x4⟩ := e1.row5
    rw [hF.out]
    exact bodyPost_ret (v := .agg (Qam row who 0 (-1) none 0 0)) (by simp [results, Tryz.results107, go_sem, x0, x1, x2, x3, x4]) rfl
     ⟨_, rfl, World.ownsRow_nil _ _ _ _, Qal (Qal (Qal (Qal (Qal B1 (Nat.le_refl _) _) (Nat.le_refl _) _) (Nat.le_refl _) _) (Nat.le_refl _) _) (Nat.le_refl _) _⟩
def behK (r1 w1 r2 w2 : Int) : Bool := decide (r2 < r1) || (decide (r1 = r2) && decide (w2 < w1))
def Qdf (m : PM) (s : List PM × Bool) (x : PM) : List PM × Bool :=
  if x.row = m.row /\ x.who = m.who then (if s.2 then s else (s.1 ++ [m], true))
  else if s.2 = false /\ behK x.row x.who m.row m.who = true then (s.1 ++ [m] ++ [x], true) else (s.1 ++ [x], s.2)
def Qdw (m : PM) (l : List PM) : List PM × Bool := l.foldl (Qdf m) ([], false)
def setS (l : List PM) (m : PM) : List PM := if (Qdw m l).2 then (Qdw m l).1 else (Qdw m l).1 ++ [m]
theorem Qb7 (m : PM) (l : List PM) (n : Nat) (h : n < l.length) : Qdw m (l.take (n + 1)) = Qdf m (Qdw m (l.take n)) l[n] := by
 unfold Qdw
 rw [List.take_succ_eq_append_getElem h, List.foldl_append]; rfl
structure Out (B : Nat) (W : World) (v : Value) (O : List MC) : Prop where
  own : W.ownsRow B 124 5 v O.length (flat O)
  each : ∀ x ∈ O, W.ownsRow B 126 2 (.slice x.A x.ms.length x.cap) x.ms.length (flat x.ms)
theorem Out.below {B : Nat} {W W' : World} {v : Value} {O : List MC} (h : Out B W v O) (k : Below W.heap.size W W') : Out B W' v O :=
 ⟨Qa9 h.own (Offp.of_below (S := fun _ => False) k) (fun _ _ e => e), fun x hx => Qa9 (h.each x hx) (Offp.of_below (S := fun _ => False) k) (fun _ _ e => e)⟩
theorem owns_two {B B' : Nat} {W : World} {v u : Value} {t t' : TypeId} {k k' n n' : Nat} {xs ys : List Value} (h : W.ownsRow B t k v n xs) (h' : W.ownsRow B' t' k' u n' ys) (ht : t ≠ t') : ∀ x, v.ownBlock = some x -> u.ownBlock ≠ some x := by
 intro x hx hx'
 rcases h.2 with ⟨rfl, _⟩ | ⟨g, c, cur, rfl, _, hg, _⟩
 . cases hx
 rcases h'.2 with ⟨rfl, _⟩ | ⟨g', c', cur', rfl, _, hg', _⟩
 . cases hx'
 simp [Value.ownBlock] at hx hx'
 subst hx hx'
 rw [hg] at hg'
 cases hg'
 exact ht rfl
theorem Qhb {B : Nat} {W : World} {v : Value} {t : TypeId} {k n : Nat} {xs : List Value} (h : W.ownsRow B t k v n xs) : ∀ x, v.ownBlock = some x -> B <= x /\ x < W.heap.size := fun x hx => h.lt x hx
structure MS (w W : World) (xc : Array Value) (v : Value) (O : List MC) : Prop where
  bl : Below w.heap.size w W
  box : Blk W w.heap.size 124 xc
  out : Out (w.heap.size + 1) W v O
theorem MS.below {w W W' : World} {xc : Array Value} {v : Value} {O : List MC} (h : MS w W xc v O) (k : Below W.heap.size W W') : MS w W' xc v O := ⟨via0 k h.bl, h.box.below k h.box.lt, h.out.below k⟩
theorem MS.app {w W w1 : World} {xs : Array Value} {v : Value} {O : List MC} (h : MS w W xs v O) (k : Below W.heap.size W w1) {row who epoch last : Int} {xa : Option Addr} {xcc : Nat} {ms : List Mk} (hm : w1.ownsRow W.heap.size 126 2 (.slice xa ms.length xcc) ms.length (flat ms)) (hO : O.length <= 2000000) :
 ∃ g c w2, (Builtin.append_ #[86, 86] 86 #[v, .slice (some ⟨w1.heap.size, 0, none⟩) 1 1]).run Tryz.prog (w1.alloc (.cells (Qam row who epoch last xa ms.length xcc) 124)) = .ok (.slice (some ⟨g, 0, none⟩) (O.length + 1) c) w2 /\
  MS w w2 xs (.slice (some ⟨g, 0, none⟩) (O.length + 1) c) (O ++ [⟨row, who, epoch, last, xa, xcc, ms⟩]) /\ (∀ b ys, Blk W b 124 ys -> v.ownBlock ≠ some b -> Blk w2 b 124 ys /\ g ≠ b) := by
 have k2 : Below W.heap.size W (w1.alloc (.cells (Qam row who epoch last xa ms.length xcc) 124)) := Qaf k _
 have h2 := h.below k2
 have hX : At (w1.alloc (.cells (Qam row who epoch last xa ms.length xcc) 124)) (some ⟨w1.heap.size, 0, none⟩) [(⟨row, who, epoch, last, xa, xcc, ms⟩ : MC)] := by
  refine .inr ⟨_, 0, rfl, by simp, fun j u hu => ?_⟩
  rw [Qdc] at hu
  rw [Nat.zero_add]
  exact (Blk.new w1 124 _).cell (by simpa [Cel.cs] using hu)
 have hm2 := Qa9 hm (Offp.of_below (S := fun _ => False) (Qaf (Below.refl _ w1) (.cells (Qam row who epoch last xa ms.length xcc) 124))) (fun _ _ e => e)
 have hwB : w.heap.size + 1 <= W.heap.size := h.box.lt
 obtain ⟨v', w2, hr, hown, hgrow, hat⟩ := Qbd (P := Tryz.prog) Tryz.underlying86 infoMC rfl (by decide) (by decide) (w.heap.size + 1) v O [(⟨row, who, epoch, last, xa, xcc, ms⟩ : MC)] (some ⟨w1.heap.size, 0, none⟩) 1 _ (by have := k2.size; simp at this ⊢; omega) h2.out.own hX (by simp; omega)
 simp only [List.length_cons, List.length_nil, Nat.zero_add] at hown hr
 obtain ⟨g, c, rfl, hB, hlt⟩ := hown.form (by omega)
 have ko := Qb5 hgrow
 have hbase := Qhb h2.out.own
 refine ⟨g, c, w2, hr, ⟨h2.bl.trans (ko.toBelow (fun x hx => by have := hbase x hx; omega) h2.bl.size), h2.box.offp ko (fun e => by have := hbase _ e; omega), ⟨Qfo (by simp) hown, ?_⟩⟩, ?_⟩
 . intro x hx
   rcases List.mem_append.1 hx with hx | hx
   . exact Qa9 (h2.out.each x hx) ko (owns_two (h2.out.each x hx) h2.out.own (by decide))
   . simp only [List.mem_singleton] at hx
     subst hx
     exact Qaw (Qa9 hm2 ko (owns_two hm2 h2.out.own (by decide))) hwB
 . intro b ys hb hne
   refine ⟨((hb.below k hb.lt).alloc _).offp ko hne, fun e => ?_⟩
   subst e
   rcases hat with e | e
   . exact hne (e ▸ rfl)
   . have e2 : g = w1.heap.size + 1 := by simpa [Value.ownBlock] using e
     have := hb.lt; have := k.size; omega
theorem Qfj (A : Option Addr) (cap : Nat) (l : List MC) (row who epoch last : Int) (xA : Option Addr) (xc : Nat) (ms : List Mk) (hl : l.length <= 1048575) (hs : ∀ x ∈ l, x.ms.length <= 1048576) (hms : ms.length <= 1048576) (w : World) (hA : At w A l) (hE : Each w l) (hA2 : At w xA ms) :
 Calls Tryz.prog 110 #[.slice A l.length cap, .agg (Qam row who epoch last xA ms.length xc)] w fun e w' => ∃ g c O, e = .returned (.slice (some ⟨g, 0, none⟩) O.length c) /\ O.map MC.p = setS (l.map MC.p) ⟨row, who, epoch, last, ms⟩ /\ Out w.heap.size w' (.slice (some ⟨g, 0, none⟩) O.length c) O /\ Below w.heap.size w w' := by
 have HA := hidP hA
 have HE := hidP hE
 have HA2 := hidP hA2
 have Hs := hidP hs
 clear hA hE hA2 hs
 have M0 : Hid (MS w ((w.alloc (.cells (Qam row who epoch last xA ms.length xc) 124)).alloc (.cells #[] 124)) (Qam row who epoch last xA ms.length xc) (.slice (some ⟨w.heap.size + 1, 0, none⟩) 0 0) []) := by
  refine ⟨by repeat (first | exact Below.refl _ _ | assumption | refine via0 (by assumption) ?_ | refine Below.drew ?_ | refine Qaf ?_ _), (Blk.new w 124 (Qam row who epoch last xA ms.length xc)).alloc _, ⟨⟨rfl, .inr ⟨w.heap.size + 1, 0, #[], rfl, Nat.le_refl _, ?_, Nat.le_refl _, by simp [maxLen], rfl, rfl⟩⟩, by simp⟩⟩
  have := Qek (w.alloc (.cells (Qam row who epoch last xA ms.length xc) 124)) (.cells #[] 124)
  simpa only [World.size_alloc] using this
 go_enter Tryz.func110, Tryz.ntmps110
 go_wp2
 go_loopw [5, 6, 7] (fun v p i W => ∃ (n : Nat) (O : List MC) (g c : Nat) (put : Bool), v = .slice (some ⟨g, 0, none⟩) O.length c /\ p = .bool put /\ i = .int .i64 (n : Int) /\ n <= l.length /\ O.length <= n + put.toNat /\ Hid (MS w W (Qam row who epoch last xA ms.length xc) (.slice (some ⟨g, 0, none⟩) O.length c) O) /\ Hid (Qdw ⟨row, who, epoch, last, ms⟩ ((l.map MC.p).take n) = (O.map MC.p, put))) (fun _ _ i _ => l.length - (intOf i).toNat)
 case atStart => exact ⟨0, [], w.heap.size + 1, 0, false, rfl, rfl, rfl, by omega, by simp, M0, rfl⟩
 case round =>
  obtain ⟨n, O, g, c, put, rfl, rfl, rfl, hn, hOl, M, HF⟩ := hrel
  obtain ⟨k0, k1, k2, k3, k4⟩ := M.out.box.row5
  have kl := M.out.box.lt
  have hpt : put.toNat <= 1 := by cases put<;>simp
  by_cases hlt : n < l.length
  . obtain ⟨b, o, rfl, hbs, hIn⟩ : ∃ b o, A = some ⟨b, o, none⟩ /\ b < w.heap.size /\ In w b o l := by
     rcases HA.out with h | h
     . subst h; simp at hlt
     . exact h
    obtain ⟨u0, u1, u2, u3, u4⟩ := (hIn.below hbs M.out.bl).getMC n hlt
    have hym := Hs.out _ (List.getElem_mem hlt)
    have hAy := HE.out _ (List.getElem_mem hlt)
    have hx : (l.map MC.p)[n]'(by simpa using hlt) = l[n].p := by simp
    generalize l[n] = y at u0 u1 u2 u3 u4 hym hAy hx
    obtain ⟨yr, yw, ye, yl, yA, yc, ym⟩ := y
    simp only at u0 u1 u2 u3 u4 hym hAy
    have HAy := hidP hAy
    have Hx := hidP hx
    have MX0 := hidP (M.out.below (Qaf (Below.refl _ wr) (.cells (Qam yr yw ye yl yA ym.length yc) 124)))
    have bx := Blk.new wr 124 (Qam yr yw ye yl yA ym.length yc)
    have hne : (Value.slice (some ⟨g, 0, none⟩) O.length c).ownBlock ≠ some wr.heap.size := fun e => by have := Qhb M.out.out.own _ e; omega
    obtain ⟨x0, x1, x2, x3, x4⟩ := bx.row5
    clear hAy hx hIn
    by_cases e1 : yr = row
    . have b1 : (yr == row) = true := by simp [e1]
      by_cases e2 : yw = who
      . have b2 : (yw == who) = true := by simp [e2]
        cases put
        . (try simp only [Bool.toNat_false, Bool.toNat_true, Nat.add_zero] at hOl)
          have HF' : Hid (Qdw ⟨row, who, epoch, last, ms⟩ ((l.map MC.p).take (n + 1)) = (O.map MC.p ++ [(⟨row, who, epoch, last, ms⟩ : PM)], true)) := by
           show _ = _
           rw [Qb7 _ _ _ (by simpa using hlt), HF.out, Hx.out]
           simp [Qdf, MC.p, behK, e1, e2]
          clear e1
          clear e2
          go_wp2_with fail
          refine (Qa3 row who epoch last xA xc ms hms _ (HA2.out.below MX0.out.bl)).mono ?_
          rintro e w2 ⟨v2, rfl, ho2, g2⟩
          obtain ⟨a2, c2, rfl, _⟩ := Qao ho2
          obtain ⟨h2, d2, y2, hr2, N2, hk2⟩ := MX0.out.app (row := row) (who := who) (epoch := epoch) (last := last) g2 ho2 (by omega)
          have M2 := hidP N2
          clear ho2 g2 N2
          go_wp2_with (at_builtin; refine Qae rfl _ _ _ rfl _ _ _ rfl rfl hr2 ?_)
          exact ⟨⟨n + 1, O ++ [(⟨row, who, epoch, last, a2, c2, ms⟩ : MC)], h2, d2, true, by simp, rfl, by go_num, by omega, by simp; omega, (show Hid (MS w _ (Qam row who epoch last xA ms.length xc) (.slice (some ⟨h2, 0, none⟩) (O ++ [(⟨row, who, epoch, last, a2, c2, ms⟩ : MC)]).length d2) (O ++ [(⟨row, who, epoch, last, a2, c2, ms⟩ : MC)])) from by rw [List.length_append]; exact M2), by rw [List.map_append]; exact HF'⟩, by simp [intOf]; omega⟩
        . (try simp only [Bool.toNat_false, Bool.toNat_true, Nat.add_zero] at hOl)
          have HF' : Hid (Qdw ⟨row, who, epoch, last, ms⟩ ((l.map MC.p).take (n + 1)) = (O.map MC.p, true)) := by
           show _ = _
           rw [Qb7 _ _ _ (by simpa using hlt), HF.out, Hx.out]
           simp [Qdf, MC.p, behK, e1, e2]
          clear e1
          clear e2
          go_wp2
          exact ⟨⟨n + 1, O, g, c, true, by simp, rfl, by go_num, by omega, by simp; omega, MX0, HF'⟩, by simp [intOf]; omega⟩
      . have b2 : (yw == who) = false := by simp [e2]
        cases put
        . have b3 : decide (yr > row) = false := by simp [e1]
          by_cases e3 : yw > who
          . have b4 : decide (yw > who) = true := by simp [e3]
            (try simp only [Bool.toNat_false, Bool.toNat_true, Nat.add_zero] at hOl)
            have HF' : Hid (Qdw ⟨row, who, epoch, last, ms⟩ ((l.map MC.p).take (n + 1)) = (O.map MC.p ++ [(⟨row, who, epoch, last, ms⟩ : PM)] ++ [(⟨yr, yw, ye, yl, ym⟩ : PM)], true)) := by
             show _ = _
             rw [Qb7 _ _ _ (by simpa using hlt), HF.out, Hx.out]
             simp [Qdf, MC.p, behK, e1, e2, e3]
            clear e1
            clear e2
            clear e3
            go_wp2_with fail
            refine (Qa3 row who epoch last xA xc ms hms _ (HA2.out.below MX0.out.bl)).mono ?_
            rintro e w2 ⟨v2, rfl, ho2, g2⟩
            obtain ⟨a2, c2, rfl, _⟩ := Qao ho2
            obtain ⟨h2, d2, y2, hr2, N2, hk2⟩ := MX0.out.app (row := row) (who := who) (epoch := epoch) (last := last) g2 ho2 (by omega)
            have M2 := hidP N2
            have bx2 := hk2 _ _ bx hne
            obtain ⟨z0, z1, z2, z3, z4⟩ := bx2.1.row5
            have zl := bx2.1.lt
            clear x0 x1 x2 x3 x4
            clear ho2 g2 N2
            go_wp2_with (at_builtin; refine Qae rfl _ _ _ rfl _ _ _ rfl rfl hr2 ?_)
            refine (Qa3 yr yw ye yl yA yc ym hym _ (HAy.out.below M2.out.bl)).mono ?_
            rintro e w3 ⟨v3, rfl, ho3, g3⟩
            obtain ⟨a3, c3, rfl, _⟩ := Qao ho3
            obtain ⟨h3, d3, y3, hr3, N3, hk3⟩ := M2.out.app (row := yr) (who := yw) (epoch := ye) (last := yl) g3 ho3 (by simp; omega)
            have M3 := hidP N3
            clear ho3 g3 N3
            go_wp2_with (at_builtin; refine Qae rfl _ _ _ rfl _ _ _ rfl rfl hr3 ?_)
            exact ⟨⟨n + 1, O ++ [(⟨row, who, epoch, last, a2, c2, ms⟩ : MC)] ++ [(⟨yr, yw, ye, yl, a3, c3, ym⟩ : MC)], h3, d3, true, by simp, rfl, by go_num, by omega, by simp; omega, (show Hid (MS w _ (Qam row who epoch last xA ms.length xc) (.slice (some ⟨h3, 0, none⟩) (O ++ [(⟨row, who, epoch, last, a2, c2, ms⟩ : MC)] ++ [(⟨yr, yw, ye, yl, a3, c3, ym⟩ : MC)]).length d3) (O ++ [(⟨row, who, epoch, last, a2, c2, ms⟩ : MC)] ++ [(⟨yr, yw, ye, yl, a3, c3, ym⟩ : MC)])) from by rw [List.length_append]; exact M3), by rw [List.map_append, List.map_append]; exact HF'⟩, by simp [intOf]; omega⟩
          . have b4 : decide (yw > who) = false := by simp; omega
            (try simp only [Bool.toNat_false, Bool.toNat_true, Nat.add_zero] at hOl)
            have HF' : Hid (Qdw ⟨row, who, epoch, last, ms⟩ ((l.map MC.p).take (n + 1)) = (O.map MC.p ++ [(⟨yr, yw, ye, yl, ym⟩ : PM)], false)) := by
             show _ = _
             rw [Qb7 _ _ _ (by simpa using hlt), HF.out, Hx.out]
             simp [Qdf, MC.p, behK, e1, e2, e3]
            clear e1
            clear e2
            clear e3
            go_wp2_with fail
            refine (Qa3 yr yw ye yl yA yc ym hym _ (HAy.out.below MX0.out.bl)).mono ?_
            rintro e w3 ⟨v3, rfl, ho3, g3⟩
            obtain ⟨a3, c3, rfl, _⟩ := Qao ho3
            obtain ⟨h3, d3, y3, hr3, N3, hk3⟩ := MX0.out.app (row := yr) (who := yw) (epoch := ye) (last := yl) g3 ho3 (by omega)
            have M3 := hidP N3
            clear ho3 g3 N3
            go_wp2_with (at_builtin; refine Qae rfl _ _ _ rfl _ _ _ rfl rfl hr3 ?_)
            exact ⟨⟨n + 1, O ++ [(⟨yr, yw, ye, yl, a3, c3, ym⟩ : MC)], h3, d3, false, by simp, rfl, by go_num, by omega, by simp; omega, (show Hid (MS w _ (Qam row who epoch last xA ms.length xc) (.slice (some ⟨h3, 0, none⟩) (O ++ [(⟨yr, yw, ye, yl, a3, c3, ym⟩ : MC)]).length d3) (O ++ [(⟨yr, yw, ye, yl, a3, c3, ym⟩ : MC)])) from by rw [List.length_append]; exact M3), by rw [List.map_append]; exact HF'⟩, by simp [intOf]; omega⟩
        . (try simp only [Bool.toNat_false, Bool.toNat_true, Nat.add_zero] at hOl)
          have HF' : Hid (Qdw ⟨row, who, epoch, last, ms⟩ ((l.map MC.p).take (n + 1)) = (O.map MC.p ++ [(⟨yr, yw, ye, yl, ym⟩ : PM)], true)) := by
           show _ = _
           rw [Qb7 _ _ _ (by simpa using hlt), HF.out, Hx.out]
           simp [Qdf, MC.p, behK, e1, e2]
          clear e1
          clear e2
          go_wp2_with fail
          refine (Qa3 yr yw ye yl yA yc ym hym _ (HAy.out.below MX0.out.bl)).mono ?_
          rintro e w3 ⟨v3, rfl, ho3, g3⟩
          obtain ⟨a3, c3, rfl, _⟩ := Qao ho3
          obtain ⟨h3, d3, y3, hr3, N3, hk3⟩ := MX0.out.app (row := yr) (who := yw) (epoch := ye) (last := yl) g3 ho3 (by omega)
          have M3 := hidP N3
          clear ho3 g3 N3
          go_wp2_with (at_builtin; refine Qae rfl _ _ _ rfl _ _ _ rfl rfl hr3 ?_)
          exact ⟨⟨n + 1, O ++ [(⟨yr, yw, ye, yl, a3, c3, ym⟩ : MC)], h3, d3, true, by simp, rfl, by go_num, by omega, by simp; omega, (show Hid (MS w _ (Qam row who epoch last xA ms.length xc) (.slice (some ⟨h3, 0, none⟩) (O ++ [(⟨yr, yw, ye, yl, a3, c3, ym⟩ : MC)]).length d3) (O ++ [(⟨yr, yw, ye, yl, a3, c3, ym⟩ : MC)])) from by rw [List.length_append]; exact M3), by rw [List.map_append]; exact HF'⟩, by simp [intOf]; omega⟩
    . have b1 : (yr == row) = false := by simp [e1]
      cases put
      . by_cases e3 : yr > row
        . have b3 : decide (yr > row) = true := by simp [e3]
          (try simp only [Bool.toNat_false, Bool.toNat_true, Nat.add_zero] at hOl)
          have HF' : Hid (Qdw ⟨row, who, epoch, last, ms⟩ ((l.map MC.p).take (n + 1)) = (O.map MC.p ++ [(⟨row, who, epoch, last, ms⟩ : PM)] ++ [(⟨yr, yw, ye, yl, ym⟩ : PM)], true)) := by
           show _ = _
           rw [Qb7 _ _ _ (by simpa using hlt), HF.out, Hx.out]
           simp [Qdf, MC.p, behK, e1, e3]
          clear e1
          clear e3
          go_wp2_with fail
          refine (Qa3 row who epoch last xA xc ms hms _ (HA2.out.below MX0.out.bl)).mono ?_
          rintro e w2 ⟨v2, rfl, ho2, g2⟩
          obtain ⟨a2, c2, rfl, _⟩ := Qao ho2
          obtain ⟨h2, d2, y2, hr2, N2, hk2⟩ := MX0.out.app (row := row) (who := who) (epoch := epoch) (last := last) g2 ho2 (by omega)
          have M2 := hidP N2
          have bx2 := hk2 _ _ bx hne
          obtain ⟨z0, z1, z2, z3, z4⟩ := bx2.1.row5
          have zl := bx2.1.lt
          clear x0 x1 x2 x3 x4
          clear ho2 g2 N2
          go_wp2_with (at_builtin; refine Qae rfl _ _ _ rfl _ _ _ rfl rfl hr2 ?_)
          refine (Qa3 yr yw ye yl yA yc ym hym _ (HAy.out.below M2.out.bl)).mono ?_
          rintro e w3 ⟨v3, rfl, ho3, g3⟩
          obtain ⟨a3, c3, rfl, _⟩ := Qao ho3
          obtain ⟨h3, d3, y3, hr3, N3, hk3⟩ := M2.out.app (row := yr) (who := yw) (epoch := ye) (last := yl) g3 ho3 (by simp; omega)
          have M3 := hidP N3
          clear ho3 g3 N3
          go_wp2_with (at_builtin; refine Qae rfl _ _ _ rfl _ _ _ rfl rfl hr3 ?_)
          exact ⟨⟨n + 1, O ++ [(⟨row, who, epoch, last, a2, c2, ms⟩ : MC)] ++ [(⟨yr, yw, ye, yl, a3, c3, ym⟩ : MC)], h3, d3, true, by simp, rfl, by go_num, by omega, by simp; omega, (show Hid (MS w _ (Qam row who epoch last xA ms.length xc) (.slice (some ⟨h3, 0, none⟩) (O ++ [(⟨row, who, epoch, last, a2, c2, ms⟩ : MC)] ++ [(⟨yr, yw, ye, yl, a3, c3, ym⟩ : MC)]).length d3) (O ++ [(⟨row, who, epoch, last, a2, c2, ms⟩ : MC)] ++ [(⟨yr, yw, ye, yl, a3, c3, ym⟩ : MC)])) from by rw [List.length_append]; exact M3), by rw [List.map_append, List.map_append]; exact HF'⟩, by simp [intOf]; omega⟩
        . have b3 : decide (yr > row) = false := by simp; omega
          (try simp only [Bool.toNat_false, Bool.toNat_true, Nat.add_zero] at hOl)
          have HF' : Hid (Qdw ⟨row, who, epoch, last, ms⟩ ((l.map MC.p).take (n + 1)) = (O.map MC.p ++ [(⟨yr, yw, ye, yl, ym⟩ : PM)], false)) := by
           show _ = _
           rw [Qb7 _ _ _ (by simpa using hlt), HF.out, Hx.out]
           simp [Qdf, MC.p, behK, e1, e3]
          clear e1
          clear e3
          go_wp2_with fail
          refine (Qa3 yr yw ye yl yA yc ym hym _ (HAy.out.below MX0.out.bl)).mono ?_
          rintro e w3 ⟨v3, rfl, ho3, g3⟩
          obtain ⟨a3, c3, rfl, _⟩ := Qao ho3
          obtain ⟨h3, d3, y3, hr3, N3, hk3⟩ := MX0.out.app (row := yr) (who := yw) (epoch := ye) (last := yl) g3 ho3 (by omega)
          have M3 := hidP N3
          clear ho3 g3 N3
          go_wp2_with (at_builtin; refine Qae rfl _ _ _ rfl _ _ _ rfl rfl hr3 ?_)
          exact ⟨⟨n + 1, O ++ [(⟨yr, yw, ye, yl, a3, c3, ym⟩ : MC)], h3, d3, false, by simp, rfl, by go_num, by omega, by simp; omega, (show Hid (MS w _ (Qam row who epoch last xA ms.length xc) (.slice (some ⟨h3, 0, none⟩) (O ++ [(⟨yr, yw, ye, yl, a3, c3, ym⟩ : MC)]).length d3) (O ++ [(⟨yr, yw, ye, yl, a3, c3, ym⟩ : MC)])) from by rw [List.length_append]; exact M3), by rw [List.map_append]; exact HF'⟩, by simp [intOf]; omega⟩
      . (try simp only [Bool.toNat_false, Bool.toNat_true, Nat.add_zero] at hOl)
        have HF' : Hid (Qdw ⟨row, who, epoch, last, ms⟩ ((l.map MC.p).take (n + 1)) = (O.map MC.p ++ [(⟨yr, yw, ye, yl, ym⟩ : PM)], true)) := by
         show _ = _
         rw [Qb7 _ _ _ (by simpa using hlt), HF.out, Hx.out]
         simp [Qdf, MC.p, behK, e1]
        clear e1
        go_wp2_with fail
        refine (Qa3 yr yw ye yl yA yc ym hym _ (HAy.out.below MX0.out.bl)).mono ?_
        rintro e w3 ⟨v3, rfl, ho3, g3⟩
        obtain ⟨a3, c3, rfl, _⟩ := Qao ho3
        obtain ⟨h3, d3, y3, hr3, N3, hk3⟩ := MX0.out.app (row := yr) (who := yw) (epoch := ye) (last := yl) g3 ho3 (by omega)
        have M3 := hidP N3
        clear ho3 g3 N3
        go_wp2_with (at_builtin; refine Qae rfl _ _ _ rfl _ _ _ rfl rfl hr3 ?_)
        exact ⟨⟨n + 1, O ++ [(⟨yr, yw, ye, yl, a3, c3, ym⟩ : MC)], h3, d3, true, by simp, rfl, by go_num, by omega, by simp; omega, (show Hid (MS w _ (Qam row who epoch last xA ms.length xc) (.slice (some ⟨h3, 0, none⟩) (O ++ [(⟨yr, yw, ye, yl, a3, c3, ym⟩ : MC)]).length d3) (O ++ [(⟨yr, yw, ye, yl, a3, c3, ym⟩ : MC)])) from by rw [List.length_append]; exact M3), by rw [List.map_append]; exact HF'⟩, by simp [intOf]; omega⟩
  . obtain rfl : n = l.length := by omega
    rw [List.take_of_length_le (by simp)] at HF
    cases put
    . have HF' : Hid (O.map MC.p ++ [(⟨row, who, epoch, last, ms⟩ : PM)] = setS (l.map MC.p) ⟨row, who, epoch, last, ms⟩) := by
       show _ = _
       unfold setS; rw [HF.out]; simp [MC.p]
      go_wp2_with fail
      refine (Qa3 row who epoch last xA xc ms hms _ (HA2.out.below M.out.bl)).mono ?_
      rintro e w2 ⟨v2, rfl, ho2, g2⟩
      obtain ⟨a2, c2, rfl, _⟩ := Qao ho2
      obtain ⟨h2, d2, y2, hr2, N2, hk2⟩ := M.out.app (row := row) (who := who) (epoch := epoch) (last := last) g2 ho2 (by simp at hOl; omega)
      have M2 := hidP N2
      clear ho2 g2 N2
      go_wp2_with (at_builtin; refine Qae rfl _ _ _ rfl _ _ _ rfl rfl hr2 ?_)
      go_ret
      exact ⟨h2, d2, O ++ [(⟨row, who, epoch, last, a2, c2, ms⟩ : MC)], by rw [List.length_append]; rfl, by rw [List.map_append]; exact HF'.out, ⟨by have h := M2.out.out.own; rw [List.length_append] at h ⊢; exact Qaw h (by omega), fun x hx => Qaw (M2.out.out.each x hx) (by omega)⟩, M2.out.bl⟩
    . have HF' : Hid (O.map MC.p = setS (l.map MC.p) ⟨row, who, epoch, last, ms⟩) := by
       show _ = _
       unfold setS; rw [HF.out]; simp
      go_wp2
      go_ret
      exact ⟨g, c, O, rfl, HF'.out, ⟨Qaw M.out.out.own (by omega), fun x hx => Qaw (M.out.out.each x hx) (by omega)⟩, M.out.bl⟩
theorem Out.av {B : Nat} {W : World} {a : Option Addr} {c : Nat} {O : List MC} {S : Nat -> Prop} (h : Out B W (.slice a O.length c) O) (hS : ∀ x, B <= x -> x < W.heap.size -> S x) : Av W a O S /\ ∀ y ∈ O, Av W y.A y.ms S := by
 refine ⟨?_, fun y hy => ?_⟩
 . exact (Av.of_own (S := fun x => B <= x) h.own (fun x hx => hx)).mono (fun x hl hx => hS x hx hl)
 . exact (Av.of_own (S := fun x => B <= x) (h.each y hy) (fun x hx => hx)).mono (fun x hl hx => hS x hx hl)
theorem l6Epoch_no (rA : Option Addr) (rc : Nat) (rs : List RC) (mA : Option Addr) (mc : Nat) (ms : List MC) (gA : Option Addr) (gc : Nat) (gs : List GC) (time : Int) (dA : Option Addr) (dc : Nat) (ds : List Int) (lA : Option Addr) (lc : Nat) (ls : List An) (who seq op ca cb cc : Int) (key text : ByteArray) (S : Nat -> Prop) (br bg bd bl : Nat) (hlen : KLen (⟨rA, rc, rs, mA, mc, ms, gA, gc, gs, time, dA, dc, ds, lA, lc, ls⟩ : KC)) (w : World) (hS : ∀ b, S b -> b < w.heap.size) (hq : KQ w (⟨rA, rc, rs, mA, mc, ms, gA, gc, gs, time, dA, dc, ds, lA, lc, ls⟩ : KC) S br bg bd bl) (hc : cb <= (mofP ms ca who).epoch) :
 Calls Tryz.prog 101 #[.agg (Qaa rA rs.length rc mA ms.length mc gA gs.length gc time dA ds.length dc lA ls.length lc), .agg (Qad who seq op ca cb cc key text)] w fun e w' => Qbu S w w' e (KC.p (⟨rA, rc, rs, mA, mc, ms, gA, gc, gs, time, dA, dc, ds, lA, lc, ls⟩ : KC)) ⟨4, (mofP ms ca who).epoch, ⟨#[]⟩, ⟨#[]⟩⟩ := by
 have HQ := hidP hq
 have HM : Hid (∀ W : World, Below w.heap.size w W -> Calls Tryz.prog 107 (Qe7 mA ms.length mc ca who) W fun e w' => ∃ v, e = .returned (.agg #[.int .i64 (mofP ms ca who).row, .int .i64 (mofP ms ca who).who, .int .i64 (mofP ms ca who).epoch, .int .i64 (mofP ms ca who).last, v]) /\ w'.ownsRow W.heap.size 126 2 v (mofP ms ca who).ms.length (flat (mofP ms ca who).ms) /\ Below W.heap.size W w') :=
  fun W g => Qbg mA mc ms ca who (by have := hlen.ml; simp only at this; omega) (fun y hy => by have := hlen.mi y hy; omega) W ((KQ.at hq).below g).ma ((KQ.at hq).below g).me
 generalize mofP ms ca who = M at HM hc ⊢
 obtain ⟨mr, mw, me, ml, mm⟩ := M
 simp only at HM hc ⊢
 clear hq hlen
 have I0 : Bx S w ((((w.alloc (.cells (Qaa rA rs.length rc mA ms.length mc gA gs.length gc time dA ds.length dc lA ls.length lc) 90)).alloc (.cells (Qad who seq op ca cb cc key text) 105)).alloc (.cells Qab 90)).alloc (.cells Qai 130)) w.heap.size (w.heap.size + 1) (w.heap.size + 1 + 1) (w.heap.size + 1 + 1 + 1) (Qaa rA rs.length rc mA ms.length mc gA gs.length gc time dA ds.length dc lA ls.length lc) (Qad who seq op ca cb cc key text) := by
  refine ⟨Offp.of_below (by repeat (first | exact Below.refl _ _ | assumption | refine via0 (by assumption) ?_ | refine Below.drew ?_ | refine Qaf ?_ _)), (((Blk.new w _ _).alloc _).alloc _).alloc _, ?_, ?_, ?_, by omega, by omega, hS⟩
  . have := ((Blk.new (w.alloc (.cells (Qaa rA rs.length rc mA ms.length mc gA gs.length gc time dA ds.length dc lA ls.length lc) 90)) 105 (Qad who seq op ca cb cc key text)).alloc (.cells Qab 90)).alloc (.cells Qai 130); simpa using this
  . have := (Blk.new ((w.alloc (.cells (Qaa rA rs.length rc mA ms.length mc gA gs.length gc time dA ds.length dc lA ls.length lc) 90)).alloc (.cells (Qad who seq op ca cb cc key text) 105)) 90 Qab).alloc (.cells Qai 130); simpa using this
  . have := Blk.new (((w.alloc (.cells (Qaa rA rs.length rc mA ms.length mc gA gs.length gc time dA ds.length dc lA ls.length lc) 90)).alloc (.cells (Qad who seq op ca cb cc key text) 105)).alloc (.cells Qab 90)) 130 Qai; simpa using this
 have B0 : Below w.heap.size w ((((w.alloc (.cells (Qaa rA rs.length rc mA ms.length mc gA gs.length gc time dA ds.length dc lA ls.length lc) 90)).alloc (.cells (Qad who seq op ca cb cc key text) 105)).alloc (.cells Qab 90)).alloc (.cells Qai 130)) := by repeat (first | exact Below.refl _ _ | assumption | refine via0 (by assumption) ?_ | refine Below.drew ?_ | refine Qaf ?_ _)
 go_enter Tryz.func101, Tryz.ntmps101
 go_wp2_with fail
 generalize (((w.alloc (.cells (Qaa rA rs.length rc mA ms.length mc gA gs.length gc time dA ds.length dc lA ls.length lc) 90)).alloc (.cells (Qad who seq op ca cb cc key text) 105)).alloc (.cells Qab 90)).alloc (.cells Qai 130) = X0 at I0 B0 ⊢
 refine (HM.out _ B0).mono ?_
 rintro e w1 ⟨v1, rfl, ho1, g1⟩
 obtain ⟨b1, e1, rfl, _⟩ := Qao ho1
 have I1 := (I0.below g1).alloc (.cells (Qam mr mw me ml b1 mm.length e1) 124)
 have MB := Blk.new w1 124 (Qam mr mw me ml b1 mm.length e1)
 have B1 : Below w.heap.size w (w1.alloc (.cells (Qam mr mw me ml b1 mm.length e1) 124)) := Qaf (via0 g1 B0) _
 have lm : w.heap.size + 1 + 1 + 1 < w1.heap.size := Nat.lt_of_lt_of_le I0.r2.lt g1.size
 clear I0 g1 ho1
 obtain ⟨c0, c1, c2, c3, c4, c5, c6, c7⟩ := I1.c.row8c
 obtain ⟨m0, m1, m2, m3, m4⟩ := MB.row5
 have qc := I1.c.lt
 have qm := MB.lt
 go_upto_region 2 with fail
 generalize w1.alloc (.cells (Qam mr mw me ml b1 mm.length e1) 124) = X1 at *
 generalize w1.heap.size = PM at *
 have MBl := MB.lt
 have HQ1 := hidP ((HQ.out.below B1).mono (S' := fun b => S b ∨ (w.heap.size <= b /\ b ≠ w.heap.size + 1 + 1 /\ b ≠ w.heap.size + 1 + 1 + 1)) (fun b _ hb => .inl hb))
 go_upto_region 3 with fail
 have mkS : ∀ V : World, Blk V w.heap.size 90 (Qaa rA rs.length rc mA ms.length mc gA gs.length gc time dA ds.length dc lA ls.length lc) -> V.cell? ⟨PM, 2, none⟩ = some (.int .i64 me) -> (fun (V : World) => V.cell? ⟨w.heap.size, 0, none⟩ = some (.slice rA rs.length rc) /\ V.cell? ⟨w.heap.size, 1, none⟩ = some (.slice mA ms.length mc) /\ V.cell? ⟨w.heap.size, 2, none⟩ = some (.slice gA gs.length gc) /\ V.cell? ⟨w.heap.size, 3, none⟩ = some (.int .i64 time) /\ V.cell? ⟨w.heap.size, 4, none⟩ = some (.slice dA ds.length dc) /\ V.cell? ⟨w.heap.size, 5, none⟩ = some (.slice lA ls.length lc) /\ V.cell? ⟨PM, 2, none⟩ = some (.int .i64 me)) V := fun V hk hm0 => by obtain ⟨a0, a1, a2, a3, a4, a5⟩ := hk.row6; exact ⟨a0, a1, a2, a3, a4, a5, hm0⟩
 have SW := mkS _ I1.k.drew (m2)
 have J := I1.drew
 have QQ := hidP (HQ1.out.below (Below.refl _ _).drew)
 have M0 : X1.drew.cell? ⟨PM, 2, none⟩ = some (.int .i64 me) /\ PM < X1.drew.heap.size := ⟨m2, MBl⟩
 refine wp_region_noPanic ?_
 refine wp_region_held_drew (S := (fun (V : World) => V.cell? ⟨w.heap.size, 0, none⟩ = some (.slice rA rs.length rc) /\ V.cell? ⟨w.heap.size, 1, none⟩ = some (.slice mA ms.length mc) /\ V.cell? ⟨w.heap.size, 2, none⟩ = some (.slice gA gs.length gc) /\ V.cell? ⟨w.heap.size, 3, none⟩ = some (.int .i64 time) /\ V.cell? ⟨w.heap.size, 4, none⟩ = some (.slice dA ds.length dc) /\ V.cell? ⟨w.heap.size, 5, none⟩ = some (.slice lA ls.length lc) /\ V.cell? ⟨PM, 2, none⟩ = some (.int .i64 me))) (by kernel_rfl) ?_ (fun hH => ?_)
 . exact SW
 clear SW hH
 generalize X1.drew = XX at J QQ M0 ⊢
 have hH := mkS XX J.k M0.1
 have TT := hidP (Bx.told J (y := (⟨rA, rc, rs, mA, mc, ms, gA, gc, gs, time, dA, dc, ds, lA, lc, ls⟩ : KC)) (br := br) (bg := bg) (bd := bd) (bl := bl) (QQ.out) (⟨(4), (me), (⟨#[]⟩), (⟨#[]⟩)⟩ : An) (hv := rfl))
 obtain ⟨z0, z1, z2, z3, z4, z5⟩ := J.r1.row6
 have f0 := J.r1.thaw 0; have f1 := J.r1.thaw 1; have f2 := J.r1.thaw 2; have f3 := J.r1.thaw 3; have f4 := J.r1.thaw 4; have f5 := J.r1.thaw 5
 obtain ⟨k0, k1, k2, k3, k4, k5⟩ := J.k.row6
 have R2 := J.r2.only (Qac _ (w.heap.size + 1 + 1) (.slice rA rs.length rc) (.slice mA ms.length mc) (.slice gA gs.length gc) (.int .i64 time) (.slice dA ds.length dc) (.slice lA ls.length lc)) (fun e => J.ne.2.2.2.2.2 e.symm)
 obtain ⟨y0, y1, y2, y3⟩ := R2.row4
 have ee0 := R2.thaw 0; have ee1 := R2.thaw 1; have ee2 := R2.thaw 2; have ee3 := R2.thaw 3
 have C1 := Qat J.r1 (.slice rA rs.length rc) (.slice mA ms.length mc) (.slice gA gs.length gc) (.int .i64 time) (.slice dA ds.length dc) (.slice lA ls.length lc)
 have B1 := (Qax J.r1 (.slice rA rs.length rc) (.slice mA ms.length mc) (.slice gA gs.length gc) (.int .i64 time) (.slice dA ds.length dc) (.slice lA ls.length lc)).only (Qah _ (w.heap.size + 1 + 1 + 1) (.int .i64 (4)) (.int .i64 (me)) (.string ⟨#[]⟩) (.string ⟨#[]⟩)) (fun e => J.ne.2.2.2.2.2 e)
 have C2 := Qau R2 (.int .i64 (4)) (.int .i64 (me)) (.string ⟨#[]⟩) (.string ⟨#[]⟩)
 obtain ⟨s0, s1, s2, s3, s4, s5⟩ := C1
 obtain ⟨t0, t1, t2, t3⟩ := C2
 obtain ⟨q0, q1, q2, q3, q4, q5⟩ := B1.row6
 have hne12 : (w.heap.size + 1 + 1) ≠ (w.heap.size + 1 + 1 + 1) := J.ne.2.2.2.2.2
 have hne21 : (w.heap.size + 1 + 1 + 1) ≠ (w.heap.size + 1 + 1) := fun e => J.ne.2.2.2.2.2 e.symm
 have SK := hidP (mkS _ (J.k.only (Qac _ (w.heap.size + 1 + 1) (.slice rA rs.length rc) (.slice mA ms.length mc) (.slice gA gs.length gc) (.int .i64 time) (.slice dA ds.length dc) (.slice lA ls.length lc)) J.ne.2.1) (((Qac XX (w.heap.size + 1 + 1) (.slice rA rs.length rc) (.slice mA ms.length mc) (.slice gA gs.length gc) (.int .i64 time) (.slice dA ds.length dc) (.slice lA ls.length lc)).cell (p := ⟨PM, 2, none⟩) M0.2 (by show PM ≠ _; omega)).trans M0.1))
 have SN := hidP (mkS _ ((J.k.only (Qac _ (w.heap.size + 1 + 1) (.slice rA rs.length rc) (.slice mA ms.length mc) (.slice gA gs.length gc) (.int .i64 time) (.slice dA ds.length dc) (.slice lA ls.length lc)) J.ne.2.1).only (Qah _ (w.heap.size + 1 + 1 + 1) (.int .i64 (4)) (.int .i64 (me)) (.string ⟨#[]⟩) (.string ⟨#[]⟩)) J.ne.2.2.1) (((Qah (putK XX (w.heap.size + 1 + 1) (.slice rA rs.length rc) (.slice mA ms.length mc) (.slice gA gs.length gc) (.int .i64 time) (.slice dA ds.length dc) (.slice lA ls.length lc)) (w.heap.size + 1 + 1 + 1) (.int .i64 (4)) (.int .i64 (me)) (.string ⟨#[]⟩) (.string ⟨#[]⟩)).cell (p := ⟨PM, 2, none⟩) (Nat.lt_of_lt_of_le M0.2 (Qac XX (w.heap.size + 1 + 1) (.slice rA rs.length rc) (.slice mA ms.length mc) (.slice gA gs.length gc) (.int .i64 time) (.slice dA ds.length dc) (.slice lA ls.length lc)).size) (by show PM ≠ _; omega)).trans (((Qac XX (w.heap.size + 1 + 1) (.slice rA rs.length rc) (.slice mA ms.length mc) (.slice gA gs.length gc) (.int .i64 time) (.slice dA ds.length dc) (.slice lA ls.length lc)).cell (p := ⟨PM, 2, none⟩) M0.2 (by show PM ≠ _; omega)).trans M0.1)))
 clear mkS QQ
 refine ztk [0,1,2,3] ?_; repeat (refine ztn (hS := hH) (h := ?_); try simp only [zX,zY])
 refine zte ?_
 refine zR1 4 (fun K hK => ?_)
 simp only [zG]
 go_simp
 skip
 refine hK.out _ _ SK.out fun hH => ?_; clear hK K; try simp only [zX,zY]
 refine zR1 5 (fun K hK => ?_)
 simp only [zG]
 go_simp
 skip
 refine hK.out _ _ SN.out fun hH => ?_; clear hK K; try simp only [zX,zY]
 refine zdn ?_
 go_wp2
 exact bodyPost_ret (v := .tuple #[.agg (Qaa rA rs.length rc mA ms.length mc gA gs.length gc time dA ds.length dc lA ls.length lc), .agg (Qas (4) (me) ⟨#[]⟩ ⟨#[]⟩)]) (by simp [results, Tryz.results101, go_sem, s0, s1, s2, s3, s4, s5, t0, t1, t2, t3, q0, q1, q2, q3, q4, q5]) rfl TT.out
theorem Qio (rA : Option Addr) (rc : Nat) (rs : List RC) (mA : Option Addr) (mc : Nat) (ms : List MC) (gA : Option Addr) (gc : Nat) (gs : List GC) (time : Int) (dA : Option Addr) (dc : Nat) (ds : List Int) (lA : Option Addr) (lc : Nat) (ls : List An) (who seq op ca cb cc : Int) (key text : ByteArray) (S : Nat -> Prop) (br bg bd bl : Nat) (hlen : KLen (⟨rA, rc, rs, mA, mc, ms, gA, gc, gs, time, dA, dc, ds, lA, lc, ls⟩ : KC)) (w : World) (hS : ∀ b, S b -> b < w.heap.size) (hq : KQ w (⟨rA, rc, rs, mA, mc, ms, gA, gc, gs, time, dA, dc, ds, lA, lc, ls⟩ : KC) S br bg bd bl) (hc : ¬ cb <= (mofP ms ca who).epoch) :
 Calls Tryz.prog 101 #[.agg (Qaa rA rs.length rc mA ms.length mc gA gs.length gc time dA ds.length dc lA ls.length lc), .agg (Qad who seq op ca cb cc key text)] w fun e w' => Qbu S w w' e { KC.p (⟨rA, rc, rs, mA, mc, ms, gA, gc, gs, time, dA, dc, ds, lA, lc, ls⟩ : KC) with ms := setS (ms.map MC.p) ⟨ca, who, cb, -1, []⟩ } ⟨0, cb, ⟨#[]⟩, ⟨#[]⟩⟩ := by
 have HQ := hidP hq
 have HM : Hid (∀ W : World, Below w.heap.size w W -> Calls Tryz.prog 107 (Qe7 mA ms.length mc ca who) W fun e w' => ∃ v, e = .returned (.agg #[.int .i64 (mofP ms ca who).row, .int .i64 (mofP ms ca who).who, .int .i64 (mofP ms ca who).epoch, .int .i64 (mofP ms ca who).last, v]) /\ w'.ownsRow W.heap.size 126 2 v (mofP ms ca who).ms.length (flat (mofP ms ca who).ms) /\ Below W.heap.size W w') :=
  fun W g => Qbg mA mc ms ca who (by have := hlen.ml; simp only at this; omega) (fun y hy => by have := hlen.mi y hy; omega) W ((KQ.at hq).below g).ma ((KQ.at hq).below g).me
 generalize mofP ms ca who = M at HM hc ⊢
 obtain ⟨mr, mw, me, ml, mm⟩ := M
 simp only at HM hc ⊢
 have HSt : Hid (∀ W : World, Below w.heap.size w W -> Calls Tryz.prog 110 #[.slice mA ms.length mc, .agg (Qam ca who cb (-1) none 0 0)] W fun e w' => ∃ g c O, e = .returned (.slice (some ⟨g, 0, none⟩) O.length c) /\ O.map MC.p = setS (ms.map MC.p) ⟨ca, who, cb, -1, []⟩ /\ Out W.heap.size w' (.slice (some ⟨g, 0, none⟩) O.length c) O /\ Below W.heap.size W w') :=
  fun W g => Qfj mA mc ms ca who cb (-1) none 0 [] (by have := hlen.ml; simp only at this; omega) (fun y hy => by have := hlen.mi y hy; omega) (by simp) W ((KQ.at hq).below g).ma ((KQ.at hq).below g).me (.inl rfl)
 have hbr : br < w.heap.size /\ bg < w.heap.size /\ bd < w.heap.size /\ bl < w.heap.size := ⟨hq.r.lt, hq.g.lt, hq.d.lt, hq.l.lt⟩
 clear hq hlen
 have I0 : Bx S w ((((w.alloc (.cells (Qaa rA rs.length rc mA ms.length mc gA gs.length gc time dA ds.length dc lA ls.length lc) 90)).alloc (.cells (Qad who seq op ca cb cc key text) 105)).alloc (.cells Qab 90)).alloc (.cells Qai 130)) w.heap.size (w.heap.size + 1) (w.heap.size + 1 + 1) (w.heap.size + 1 + 1 + 1) (Qaa rA rs.length rc mA ms.length mc gA gs.length gc time dA ds.length dc lA ls.length lc) (Qad who seq op ca cb cc key text) := by
  refine ⟨Offp.of_below (by repeat (first | exact Below.refl _ _ | assumption | refine via0 (by assumption) ?_ | refine Below.drew ?_ | refine Qaf ?_ _)), (((Blk.new w _ _).alloc _).alloc _).alloc _, ?_, ?_, ?_, by omega, by omega, hS⟩
  . have := ((Blk.new (w.alloc (.cells (Qaa rA rs.length rc mA ms.length mc gA gs.length gc time dA ds.length dc lA ls.length lc) 90)) 105 (Qad who seq op ca cb cc key text)).alloc (.cells Qab 90)).alloc (.cells Qai 130); simpa using this
  . have := (Blk.new ((w.alloc (.cells (Qaa rA rs.length rc mA ms.length mc gA gs.length gc time dA ds.length dc lA ls.length lc) 90)).alloc (.cells (Qad who seq op ca cb cc key text) 105)) 90 Qab).alloc (.cells Qai 130); simpa using this
  . have := Blk.new (((w.alloc (.cells (Qaa rA rs.length rc mA ms.length mc gA gs.length gc time dA ds.length dc lA ls.length lc) 90)).alloc (.cells (Qad who seq op ca cb cc key text) 105)).alloc (.cells Qab 90)) 130 Qai; simpa using this
 have B0 : Below w.heap.size w ((((w.alloc (.cells (Qaa rA rs.length rc mA ms.length mc gA gs.length gc time dA ds.length dc lA ls.length lc) 90)).alloc (.cells (Qad who seq op ca cb cc key text) 105)).alloc (.cells Qab 90)).alloc (.cells Qai 130)) := by repeat (first | exact Below.refl _ _ | assumption | refine via0 (by assumption) ?_ | refine Below.drew ?_ | refine Qaf ?_ _)
 go_enter Tryz.func101, Tryz.ntmps101
 go_wp2_with fail
 generalize (((w.alloc (.cells (Qaa rA rs.length rc mA ms.length mc gA gs.length gc time dA ds.length dc lA ls.length lc) 90)).alloc (.cells (Qad who seq op ca cb cc key text) 105)).alloc (.cells Qab 90)).alloc (.cells Qai 130) = X0 at I0 B0 ⊢
 refine (HM.out _ B0).mono ?_
 rintro e w1 ⟨v1, rfl, ho1, g1⟩
 obtain ⟨b1, e1, rfl, _⟩ := Qao ho1
 have I1 := (I0.below g1).alloc (.cells (Qam mr mw me ml b1 mm.length e1) 124)
 have MB := Blk.new w1 124 (Qam mr mw me ml b1 mm.length e1)
 have B1 : Below w.heap.size w (w1.alloc (.cells (Qam mr mw me ml b1 mm.length e1) 124)) := Qaf (via0 g1 B0) _
 have lm : w.heap.size + 1 + 1 + 1 < w1.heap.size := Nat.lt_of_lt_of_le I0.r2.lt g1.size
 clear I0 g1 ho1
 obtain ⟨c0, c1, c2, c3, c4, c5, c6, c7⟩ := I1.c.row8c
 obtain ⟨m0, m1, m2, m3, m4⟩ := MB.row5
 have qc := I1.c.lt
 have qm := MB.lt
 go_upto_region 2 with fail
 generalize w1.alloc (.cells (Qam mr mw me ml b1 mm.length e1) 124) = X1 at *
 generalize w1.heap.size = PM at *
 have MBl := MB.lt
 have lX : w.heap.size + 1 + 1 + 1 < X1.heap.size := by omega
 obtain ⟨k0, k1, k2, k3, k4, k5⟩ := I1.k.row6
 go_wp2_with fail
 clear k0 k1 k2 k3 k4 k5 c0 c1 c2 c3 c4 c5 c6 c7
 refine (HSt.out _ B1).mono ?_
 rintro e w2 ⟨g, c, O, rfl, hO, hOut, g2⟩
 have B2 := via0 g2 B1
 have I2 := I1.below g2
 obtain ⟨o1, o2⟩ := Out.av (S := fun b => (S b ∨ X1.heap.size <= b) /\ b ≠ br /\ b ≠ bg /\ b ≠ bd /\ b ≠ bl) hOut (fun x hx _ => ⟨.inr hx, by omega, by omega, by omega, by omega⟩)
 have Q2 := ((HQ.out.below B2).mono (S' := fun b => S b ∨ X1.heap.size <= b) (fun b _ hb => .inl hb)).setM (some ⟨g, 0, none⟩) c O o1 o2
 have Q3 := hidP (Q2.box w.heap.size 1 (.slice (some ⟨g, 0, none⟩) O.length c) (by rintro (h | h); have := hS _ h; omega; omega))
 have I3 := I2.setK 1 (.slice (some ⟨g, 0, none⟩) O.length c)
 have HO := hidP hO
 obtain ⟨k0, k1, k2, k3, k4, k5⟩ := I2.k.row6
 obtain ⟨c0, c1, c2, c3, c4, c5, c6, c7⟩ := I2.c.row8c
 have fk := I2.k.thaw 1
 have qk := I2.k.lt
 clear hOut o1 o2 Q2 hO m0 m1 m2 m3 m4 MB g2
 go_upto_region 5 with fail
 clear k0 k1 k2 k3 k4 k5 c0 c1 c2 c3 c4 c5 c6 c7 fk
 generalize w2.setCell ⟨w.heap.size, 1, none⟩ (.slice (some ⟨g, 0, none⟩) O.length c) = X3 at I3 Q3 ⊢
 obtain ⟨c0, c1, c2, c3, c4, c5, c6, c7⟩ := I3.c.row8c
 have Q4 := hidP (Q3.out.mono (S' := fun b => S b ∨ (w.heap.size <= b /\ b ≠ w.heap.size + 1 + 1 /\ b ≠ w.heap.size + 1 + 1 + 1)) (fun b _ hb => hb.imp id (fun h => ⟨by omega, by omega, by omega⟩)))
 have cl := I3.c.lt
 have mkS : ∀ V : World, Blk V w.heap.size 90 (Qaa rA rs.length rc (some ⟨g, 0, none⟩) O.length c gA gs.length gc time dA ds.length dc lA ls.length lc) -> V.cell? ⟨(w.heap.size + 1), 4, none⟩ = some (.int .i64 cb) -> (fun (V : World) => V.cell? ⟨w.heap.size, 0, none⟩ = some (.slice rA rs.length rc) /\ V.cell? ⟨w.heap.size, 1, none⟩ = some (.slice (some ⟨g, 0, none⟩) O.length c) /\ V.cell? ⟨w.heap.size, 2, none⟩ = some (.slice gA gs.length gc) /\ V.cell? ⟨w.heap.size, 3, none⟩ = some (.int .i64 time) /\ V.cell? ⟨w.heap.size, 4, none⟩ = some (.slice dA ds.length dc) /\ V.cell? ⟨w.heap.size, 5, none⟩ = some (.slice lA ls.length lc) /\ V.cell? ⟨(w.heap.size + 1), 4, none⟩ = some (.int .i64 cb)) V := fun V hk hm0 => by obtain ⟨a0, a1, a2, a3, a4, a5⟩ := hk.row6; exact ⟨a0, a1, a2, a3, a4, a5, hm0⟩
 have SW := mkS _ I3.k.drew (c4)
 have J := I3.drew
 have QQ := hidP (Q4.out.below (Below.refl _ _).drew)
 have M0 : X3.drew.cell? ⟨(w.heap.size + 1), 4, none⟩ = some (.int .i64 cb) /\ (w.heap.size + 1) < X3.drew.heap.size := ⟨c4, cl⟩
 refine wp_region_noPanic ?_
 refine wp_region_held_drew (S := (fun (V : World) => V.cell? ⟨w.heap.size, 0, none⟩ = some (.slice rA rs.length rc) /\ V.cell? ⟨w.heap.size, 1, none⟩ = some (.slice (some ⟨g, 0, none⟩) O.length c) /\ V.cell? ⟨w.heap.size, 2, none⟩ = some (.slice gA gs.length gc) /\ V.cell? ⟨w.heap.size, 3, none⟩ = some (.int .i64 time) /\ V.cell? ⟨w.heap.size, 4, none⟩ = some (.slice dA ds.length dc) /\ V.cell? ⟨w.heap.size, 5, none⟩ = some (.slice lA ls.length lc) /\ V.cell? ⟨(w.heap.size + 1), 4, none⟩ = some (.int .i64 cb))) (by kernel_rfl) ?_ (fun hH => ?_)
 . exact SW
 clear SW hH
 generalize X3.drew = XX at J QQ M0 ⊢
 have hH := mkS XX J.k M0.1
 have TT := hidP (Bx.told J (y := ({ (⟨rA, rc, rs, mA, mc, ms, gA, gc, gs, time, dA, dc, ds, lA, lc, ls⟩ : KC) with mA := some ⟨g, 0, none⟩, mc := c, ms := O } : KC)) (br := br) (bg := bg) (bd := bd) (bl := bl) (QQ.out) (⟨(0), (cb), (⟨#[]⟩), (⟨#[]⟩)⟩ : An) (hv := rfl))
 obtain ⟨z0, z1, z2, z3, z4, z5⟩ := J.r1.row6
 have f0 := J.r1.thaw 0; have f1 := J.r1.thaw 1; have f2 := J.r1.thaw 2; have f3 := J.r1.thaw 3; have f4 := J.r1.thaw 4; have f5 := J.r1.thaw 5
 obtain ⟨k0, k1, k2, k3, k4, k5⟩ := J.k.row6
 have R2 := J.r2.only (Qac _ (w.heap.size + 1 + 1) (.slice rA rs.length rc) (.slice (some ⟨g, 0, none⟩) O.length c) (.slice gA gs.length gc) (.int .i64 time) (.slice dA ds.length dc) (.slice lA ls.length lc)) (fun e => J.ne.2.2.2.2.2 e.symm)
 obtain ⟨y0, y1, y2, y3⟩ := R2.row4
 have ee0 := R2.thaw 0; have ee1 := R2.thaw 1; have ee2 := R2.thaw 2; have ee3 := R2.thaw 3
 have C1 := Qat J.r1 (.slice rA rs.length rc) (.slice (some ⟨g, 0, none⟩) O.length c) (.slice gA gs.length gc) (.int .i64 time) (.slice dA ds.length dc) (.slice lA ls.length lc)
 have B1 := (Qax J.r1 (.slice rA rs.length rc) (.slice (some ⟨g, 0, none⟩) O.length c) (.slice gA gs.length gc) (.int .i64 time) (.slice dA ds.length dc) (.slice lA ls.length lc)).only (Qah _ (w.heap.size + 1 + 1 + 1) (.int .i64 (0)) (.int .i64 (cb)) (.string ⟨#[]⟩) (.string ⟨#[]⟩)) (fun e => J.ne.2.2.2.2.2 e)
 have C2 := Qau R2 (.int .i64 (0)) (.int .i64 (cb)) (.string ⟨#[]⟩) (.string ⟨#[]⟩)
 obtain ⟨s0, s1, s2, s3, s4, s5⟩ := C1
 obtain ⟨t0, t1, t2, t3⟩ := C2
 obtain ⟨q0, q1, q2, q3, q4, q5⟩ := B1.row6
 have hne12 : (w.heap.size + 1 + 1) ≠ (w.heap.size + 1 + 1 + 1) := J.ne.2.2.2.2.2
 have hne21 : (w.heap.size + 1 + 1 + 1) ≠ (w.heap.size + 1 + 1) := fun e => J.ne.2.2.2.2.2 e.symm
 have SK := hidP (mkS _ (J.k.only (Qac _ (w.heap.size + 1 + 1) (.slice rA rs.length rc) (.slice (some ⟨g, 0, none⟩) O.length c) (.slice gA gs.length gc) (.int .i64 time) (.slice dA ds.length dc) (.slice lA ls.length lc)) J.ne.2.1) (((Qac XX (w.heap.size + 1 + 1) (.slice rA rs.length rc) (.slice (some ⟨g, 0, none⟩) O.length c) (.slice gA gs.length gc) (.int .i64 time) (.slice dA ds.length dc) (.slice lA ls.length lc)).cell (p := ⟨(w.heap.size + 1), 4, none⟩) M0.2 (by show w.heap.size + 1 ≠ _; omega)).trans M0.1))
 have SN := hidP (mkS _ ((J.k.only (Qac _ (w.heap.size + 1 + 1) (.slice rA rs.length rc) (.slice (some ⟨g, 0, none⟩) O.length c) (.slice gA gs.length gc) (.int .i64 time) (.slice dA ds.length dc) (.slice lA ls.length lc)) J.ne.2.1).only (Qah _ (w.heap.size + 1 + 1 + 1) (.int .i64 (0)) (.int .i64 (cb)) (.string ⟨#[]⟩) (.string ⟨#[]⟩)) J.ne.2.2.1) (((Qah (putK XX (w.heap.size + 1 + 1) (.slice rA rs.length rc) (.slice (some ⟨g, 0, none⟩) O.length c) (.slice gA gs.length gc) (.int .i64 time) (.slice dA ds.length dc) (.slice lA ls.length lc)) (w.heap.size + 1 + 1 + 1) (.int .i64 (0)) (.int .i64 (cb)) (.string ⟨#[]⟩) (.string ⟨#[]⟩)).cell (p := ⟨(w.heap.size + 1), 4, none⟩) (Nat.lt_of_lt_of_le M0.2 (Qac XX (w.heap.size + 1 + 1) (.slice rA rs.length rc) (.slice (some ⟨g, 0, none⟩) O.length c) (.slice gA gs.length gc) (.int .i64 time) (.slice dA ds.length dc) (.slice lA ls.length lc)).size) (by show w.heap.size + 1 ≠ _; omega)).trans (((Qac XX (w.heap.size + 1 + 1) (.slice rA rs.length rc) (.slice (some ⟨g, 0, none⟩) O.length c) (.slice gA gs.length gc) (.int .i64 time) (.slice dA ds.length dc) (.slice lA ls.length lc)).cell (p := ⟨(w.heap.size + 1), 4, none⟩) M0.2 (by show w.heap.size + 1 ≠ _; omega)).trans M0.1)))
 clear mkS QQ
 refine ztk [0,1,2,3] ?_; repeat (refine ztn (hS := hH) (h := ?_); try simp only [zX,zY])
 refine zte ?_
 refine zR1 4 (fun K hK => ?_)
 simp only [zG]
 go_simp
 skip
 refine hK.out _ _ SK.out fun hH => ?_; clear hK K; try simp only [zX,zY]
 refine zR1 5 (fun K hK => ?_)
 simp only [zG]
 go_simp
 skip
 refine hK.out _ _ SN.out fun hH => ?_; clear hK K; try simp only [zX,zY]
 refine zdn ?_
 go_wp2
 exact bodyPost_ret (v := .tuple #[.agg (Qaa rA rs.length rc (some ⟨g, 0, none⟩) O.length c gA gs.length gc time dA ds.length dc lA ls.length lc), .agg (Qas (0) (cb) ⟨#[]⟩ ⟨#[]⟩)]) (by simp [results, Tryz.results101, go_sem, s0, s1, s2, s3, s4, s5, t0, t1, t2, t3, q0, q1, q2, q3, q4, q5]) rfl (by have h := TT.out; simp only [KC.p, HO.out] at h; exact h)
theorem Qa2 (ro wi le ke : Int) (rA : Option Addr) (rc : Nat) (rs : List RC) (mA : Option Addr) (mc : Nat) (ms : List MC) (gA : Option Addr) (gc : Nat) (gs : List GC) (time : Int) (dA : Option Addr) (dc : Nat) (ds : List Int) (lA : Option Addr) (lc : Nat) (ls : List An) (who seq op ca cb cc : Int) (key text : ByteArray) (S : Nat -> Prop) (w : World) (hS : ∀ b, S b -> b < w.heap.size) :
 Bx S w (((((w.alloc (.cells (Qan ro wi le ke) 84)).alloc (.cells (Qaa rA rs.length rc mA ms.length mc gA gs.length gc time dA ds.length dc lA ls.length lc) 90)).alloc (.cells (Qad who seq op ca cb cc key text) 105)).alloc (.cells Qab 90)).alloc (.cells Qai 130)) (w.heap.size + 1) (w.heap.size + 1 + 1) (w.heap.size + 1 + 1 + 1) (w.heap.size + 1 + 1 + 1 + 1) (Qaa rA rs.length rc mA ms.length mc gA gs.length gc time dA ds.length dc lA ls.length lc) (Qad who seq op ca cb cc key text) /\ Blk (((((w.alloc (.cells (Qan ro wi le ke) 84)).alloc (.cells (Qaa rA rs.length rc mA ms.length mc gA gs.length gc time dA ds.length dc lA ls.length lc) 90)).alloc (.cells (Qad who seq op ca cb cc key text) 105)).alloc (.cells Qab 90)).alloc (.cells Qai 130)) w.heap.size 84 (Qan ro wi le ke) /\ Below w.heap.size w (((((w.alloc (.cells (Qan ro wi le ke) 84)).alloc (.cells (Qaa rA rs.length rc mA ms.length mc gA gs.length gc time dA ds.length dc lA ls.length lc) 90)).alloc (.cells (Qad who seq op ca cb cc key text) 105)).alloc (.cells Qab 90)).alloc (.cells Qai 130)) := by
 refine ⟨⟨Offp.of_below (by repeat (first | exact Below.refl _ _ | assumption | refine via0 (by assumption) ?_ | refine Below.drew ?_ | refine Qaf ?_ _)), ?_, ?_, ?_, ?_, by omega, by omega, hS⟩, ?_, by repeat (first | exact Below.refl _ _ | assumption | refine via0 (by assumption) ?_ | refine Below.drew ?_ | refine Qaf ?_ _)⟩
 . have := (((Blk.new (w.alloc (.cells (Qan ro wi le ke) 84)) 90 (Qaa rA rs.length rc mA ms.length mc gA gs.length gc time dA ds.length dc lA ls.length lc)).alloc (.cells (Qad who seq op ca cb cc key text) 105)).alloc (.cells Qab 90)).alloc (.cells Qai 130); simpa using this
 . have := ((Blk.new ((w.alloc (.cells (Qan ro wi le ke) 84)).alloc (.cells (Qaa rA rs.length rc mA ms.length mc gA gs.length gc time dA ds.length dc lA ls.length lc) 90)) 105 (Qad who seq op ca cb cc key text)).alloc (.cells Qab 90)).alloc (.cells Qai 130); simpa using this
 . have := (Blk.new (((w.alloc (.cells (Qan ro wi le ke) 84)).alloc (.cells (Qaa rA rs.length rc mA ms.length mc gA gs.length gc time dA ds.length dc lA ls.length lc) 90)).alloc (.cells (Qad who seq op ca cb cc key text) 105)) 90 Qab).alloc (.cells Qai 130); simpa using this
 . have := Blk.new ((((w.alloc (.cells (Qan ro wi le ke) 84)).alloc (.cells (Qaa rA rs.length rc mA ms.length mc gA gs.length gc time dA ds.length dc lA ls.length lc) 90)).alloc (.cells (Qad who seq op ca cb cc key text) 105)).alloc (.cells Qab 90)) 130 Qai; simpa using this
 . have := ((((Blk.new w 84 (Qan ro wi le ke)).alloc (.cells (Qaa rA rs.length rc mA ms.length mc gA gs.length gc time dA ds.length dc lA ls.length lc) 90)).alloc (.cells (Qad who seq op ca cb cc key text) 105)).alloc (.cells Qab 90)).alloc (.cells Qai 130); simpa using this
theorem Qil (ro wi le ke : Int) (rA : Option Addr) (rc : Nat) (rs : List RC) (mA : Option Addr) (mc : Nat) (ms : List MC) (gA : Option Addr) (gc : Nat) (gs : List GC) (time : Int) (dA : Option Addr) (dc : Nat) (ds : List Int) (lA : Option Addr) (lc : Nat) (ls : List An) (who seq op ca cb cc : Int) (key text : ByteArray) (S : Nat -> Prop) (br bg bd bl : Nat) (hlen : KLen (⟨rA, rc, rs, mA, mc, ms, gA, gc, gs, time, dA, dc, ds, lA, lc, ls⟩ : KC)) (w : World) (hS : ∀ b, S b -> b < w.heap.size) (hq : KQ w (⟨rA, rc, rs, mA, mc, ms, gA, gc, gs, time, dA, dc, ds, lA, lc, ls⟩ : KC) S br bg bd bl) (hk : askC (mofP ms ca who).epoch (mofP ms ca who).last (mofP ms ca who).ms cc cb = 1) :
 Calls Tryz.prog 100 #[.agg (Qan ro wi le ke), .agg (Qaa rA rs.length rc mA ms.length mc gA gs.length gc time dA ds.length dc lA ls.length lc), .agg (Qad who seq op ca cb cc key text)] w fun e w' => Qbu S w w' e (KC.p (⟨rA, rc, rs, mA, mc, ms, gA, gc, gs, time, dA, dc, ds, lA, lc, ls⟩ : KC)) ⟨1, askO (mofP ms ca who).epoch (mofP ms ca who).last (mofP ms ca who).ms cc cb, ⟨#[]⟩, ⟨#[]⟩⟩ := by
 have HQ := hidP hq
 have HM : Hid (∀ W : World, Below w.heap.size w W -> Calls Tryz.prog 107 (Qe7 mA ms.length mc ca who) W fun e w' => ∃ v, e = .returned (.agg #[.int .i64 (mofP ms ca who).row, .int .i64 (mofP ms ca who).who, .int .i64 (mofP ms ca who).epoch, .int .i64 (mofP ms ca who).last, v]) /\ w'.ownsRow W.heap.size 126 2 v (mofP ms ca who).ms.length (flat (mofP ms ca who).ms) /\ Below W.heap.size W w') :=
  fun W g => Qbg mA mc ms ca who (by have := hlen.ml; simp only at this; omega) (fun y hy => by have := hlen.mi y hy; omega) W ((KQ.at hq).below g).ma ((KQ.at hq).below g).me
 have hmm : (mofP ms ca who).ms.length <= 1048576 := by
  unfold mofP
  split
  . rename_i x hx
    have := hlen.mi x (List.mem_of_find?_eq_some hx)
    simp only [MC.p]; omega
  . simp
 generalize mofP ms ca who = M at HM hmm hk ⊢
 obtain ⟨mr, mw, me, ml, mm⟩ := M
 simp only at HM hmm hk ⊢
 clear hq hlen
 obtain ⟨I0, S0, B0⟩ := Qa2 ro wi le ke rA rc rs mA mc ms gA gc gs time dA dc ds lA lc ls who seq op ca cb cc key text S w hS
 go_enter Tryz.func100, Tryz.ntmps100
 go_wp2_with fail
 generalize ((((w.alloc (.cells (Qan ro wi le ke) 84)).alloc (.cells (Qaa rA rs.length rc mA ms.length mc gA gs.length gc time dA ds.length dc lA ls.length lc) 90)).alloc (.cells (Qad who seq op ca cb cc key text) 105)).alloc (.cells Qab 90)).alloc (.cells Qai 130) = X0 at I0 S0 B0 ⊢
 refine (HM.out _ B0).mono ?_
 rintro e w1 ⟨v1, rfl, ho1, g1⟩
 obtain ⟨b1, e1, rfl, _⟩ := Qao ho1
 have I1 := (I0.below g1).alloc (.cells (Qam mr mw me ml b1 mm.length e1) 124)
 have MB := Blk.new w1 124 (Qam mr mw me ml b1 mm.length e1)
 have SB := (S0.below g1 S0.lt).alloc (.cells (Qam mr mw me ml b1 mm.length e1) 124)
 have B1 : Below w.heap.size w (w1.alloc (.cells (Qam mr mw me ml b1 mm.length e1) 124)) := Qaf (via0 g1 B0) _
 have lm : w.heap.size + 1 + 1 + 1 + 1 < w1.heap.size := Nat.lt_of_lt_of_le I0.r2.lt g1.size
 have HO1 := hidP (Qav ho1 (.cells (Qam mr mw me ml b1 mm.length e1) 124))
 have lx0 : w.heap.size + 1 + 1 + 1 + 1 < X0.heap.size := I0.r2.lt
 clear I0 g1 ho1 S0 B0
 obtain ⟨c0, c1, c2, c3, c4, c5, c6, c7⟩ := I1.c.row8c
 obtain ⟨m0, m1, m2, m3, m4⟩ := MB.row5
 have qc := I1.c.lt
 have qm := MB.lt
 go_upto_region 2 with fail
 generalize w1.alloc (.cells (Qam mr mw me ml b1 mm.length e1) 124) = X1 at *
 generalize w1.heap.size = PM at *
 go_wp2_with fail
 refine (Qcg mr mw me ml cc cb b1 e1 mm hmm _ (Qci rfl HO1.out)).mono ?_
 rintro e w2 ⟨rfl, g2⟩
 have B2 := via0 g2 B1
 have I2 := I1.below g2
 have MB2 := MB.below g2 MB.lt
 have SB2 := SB.below g2 SB.lt
 have HO2 := hidP (Qaq HO1.out g2)
 clear c0 c1 c2 c3 c4 c5 c6 c7 m0 m1 m2 m3 m4 qc qm I1 MB SB g2 B1 HO1
 rw [hk]
 obtain ⟨ao, hao⟩ : ∃ ao, ao = askO me ml mm cc cb := ⟨_, rfl⟩
 rw [← hao]
 have HAo := hidP hao
 clear hao
 have HQ2 := hidP ((HQ.out.below B2).mono (S' := fun b => S b ∨ (w.heap.size <= b /\ b ≠ (w.heap.size + 1 + 1 + 1) /\ b ≠ (w.heap.size + 1 + 1 + 1 + 1))) (fun b _ hb => .inl hb))
 have TT := hidP (Bx.told I2 (y := (⟨rA, rc, rs, mA, mc, ms, gA, gc, gs, time, dA, dc, ds, lA, lc, ls⟩ : KC)) (br := br) (bg := bg) (bd := bd) (bl := bl) (HQ2.out) (⟨(1), (ao), (⟨#[]⟩), (⟨#[]⟩)⟩ : An) (hv := rfl))
 obtain ⟨z0, z1, z2, z3, z4, z5⟩ := I2.r1.row6
 have f0 := I2.r1.thaw 0; have f1 := I2.r1.thaw 1; have f2 := I2.r1.thaw 2; have f3 := I2.r1.thaw 3; have f4 := I2.r1.thaw 4; have f5 := I2.r1.thaw 5
 obtain ⟨k0, k1, k2, k3, k4, k5⟩ := I2.k.row6
 have R2 := I2.r2.only (Qac _ (w.heap.size + 1 + 1 + 1) (.slice rA rs.length rc) (.slice mA ms.length mc) (.slice gA gs.length gc) (.int .i64 time) (.slice dA ds.length dc) (.slice lA ls.length lc)) (fun e => I2.ne.2.2.2.2.2 e.symm)
 obtain ⟨y0, y1, y2, y3⟩ := R2.row4
 have ee0 := R2.thaw 0; have ee1 := R2.thaw 1; have ee2 := R2.thaw 2; have ee3 := R2.thaw 3
 have C1 := Qat I2.r1 (.slice rA rs.length rc) (.slice mA ms.length mc) (.slice gA gs.length gc) (.int .i64 time) (.slice dA ds.length dc) (.slice lA ls.length lc)
 have B1 := (Qax I2.r1 (.slice rA rs.length rc) (.slice mA ms.length mc) (.slice gA gs.length gc) (.int .i64 time) (.slice dA ds.length dc) (.slice lA ls.length lc)).only (Qah _ (w.heap.size + 1 + 1 + 1 + 1) (.int .i64 (1)) (.int .i64 (ao)) (.string ⟨#[]⟩) (.string ⟨#[]⟩)) (fun e => I2.ne.2.2.2.2.2 e)
 have C2 := Qau R2 (.int .i64 (1)) (.int .i64 (ao)) (.string ⟨#[]⟩) (.string ⟨#[]⟩)
 obtain ⟨s0, s1, s2, s3, s4, s5⟩ := C1
 obtain ⟨t0, t1, t2, t3⟩ := C2
 obtain ⟨q0, q1, q2, q3, q4, q5⟩ := B1.row6
 have hne12 : (w.heap.size + 1 + 1 + 1) ≠ (w.heap.size + 1 + 1 + 1 + 1) := I2.ne.2.2.2.2.2
 have hne21 : (w.heap.size + 1 + 1 + 1 + 1) ≠ (w.heap.size + 1 + 1 + 1) := fun e => I2.ne.2.2.2.2.2 e.symm
 go_wp2
 have hao := HAo.out
 subst hao
 exact bodyPost_ret (v := .tuple #[.agg (Qaa rA rs.length rc mA ms.length mc gA gs.length gc time dA ds.length dc lA ls.length lc), .agg (Qas (1) (askO me ml mm cc cb) ⟨#[]⟩ ⟨#[]⟩)]) (by simp [results, Tryz.results100, go_sem, s0, s1, s2, s3, s4, s5, t0, t1, t2, t3, q0, q1, q2, q3, q4, q5]) rfl TT.out
theorem l6Put_old (ro wi le ke : Int) (rA : Option Addr) (rc : Nat) (rs : List RC) (mA : Option Addr) (mc : Nat) (ms : List MC) (gA : Option Addr) (gc : Nat) (gs : List GC) (time : Int) (dA : Option Addr) (dc : Nat) (ds : List Int) (lA : Option Addr) (lc : Nat) (ls : List An) (who seq op ca cb cc : Int) (key text : ByteArray) (S : Nat -> Prop) (br bg bd bl : Nat) (hlen : KLen (⟨rA, rc, rs, mA, mc, ms, gA, gc, gs, time, dA, dc, ds, lA, lc, ls⟩ : KC)) (w : World) (hS : ∀ b, S b -> b < w.heap.size) (hq : KQ w (⟨rA, rc, rs, mA, mc, ms, gA, gc, gs, time, dA, dc, ds, lA, lc, ls⟩ : KC) S br bg bd bl) (hk : askC (mofP ms ca who).epoch (mofP ms ca who).last (mofP ms ca who).ms cc cb = 2) :
 Calls Tryz.prog 100 #[.agg (Qan ro wi le ke), .agg (Qaa rA rs.length rc mA ms.length mc gA gs.length gc time dA ds.length dc lA ls.length lc), .agg (Qad who seq op ca cb cc key text)] w fun e w' => Qbu S w w' e (KC.p (⟨rA, rc, rs, mA, mc, ms, gA, gc, gs, time, dA, dc, ds, lA, lc, ls⟩ : KC)) ⟨2, 0, ⟨#[]⟩, ⟨#[]⟩⟩ := by
 have HQ := hidP hq
 have HM : Hid (∀ W : World, Below w.heap.size w W -> Calls Tryz.prog 107 (Qe7 mA ms.length mc ca who) W fun e w' => ∃ v, e = .returned (.agg #[.int .i64 (mofP ms ca who).row, .int .i64 (mofP ms ca who).who, .int .i64 (mofP ms ca who).epoch, .int .i64 (mofP ms ca who).last, v]) /\ w'.ownsRow W.heap.size 126 2 v (mofP ms ca who).ms.length (flat (mofP ms ca who).ms) /\ Below W.heap.size W w') :=
  fun W g => Qbg mA mc ms ca who (by have := hlen.ml; simp only at this; omega) (fun y hy => by have := hlen.mi y hy; omega) W ((KQ.at hq).below g).ma ((KQ.at hq).below g).me
 have hmm : (mofP ms ca who).ms.length <= 1048576 := by
  unfold mofP
  split
  . rename_i x hx
    have := hlen.mi x (List.mem_of_find?_eq_some hx)
    simp only [MC.p]; omega
  . simp
 generalize mofP ms ca who = M at HM hmm hk ⊢
 obtain ⟨mr, mw, me, ml, mm⟩ := M
 simp only at HM hmm hk ⊢
 clear hq hlen
 obtain ⟨I0, S0, B0⟩ := Qa2 ro wi le ke rA rc rs mA mc ms gA gc gs time dA dc ds lA lc ls who seq op ca cb cc key text S w hS
 go_enter Tryz.func100, Tryz.ntmps100
 go_wp2_with fail
 generalize ((((w.alloc (.cells (Qan ro wi le ke) 84)).alloc (.cells (Qaa rA rs.length rc mA ms.length mc gA gs.length gc time dA ds.length dc lA ls.length lc) 90)).alloc (.cells (Qad who seq op ca cb cc key text) 105)).alloc (.cells Qab 90)).alloc (.cells Qai 130) = X0 at I0 S0 B0 ⊢
 refine (HM.out _ B0).mono ?_
 rintro e w1 ⟨v1, rfl, ho1, g1⟩
 obtain ⟨b1, e1, rfl, _⟩ := Qao ho1
 have I1 := (I0.below g1).alloc (.cells (Qam mr mw me ml b1 mm.length e1) 124)
 have MB := Blk.new w1 124 (Qam mr mw me ml b1 mm.length e1)
 have SB := (S0.below g1 S0.lt).alloc (.cells (Qam mr mw me ml b1 mm.length e1) 124)
 have B1 : Below w.heap.size w (w1.alloc (.cells (Qam mr mw me ml b1 mm.length e1) 124)) := Qaf (via0 g1 B0) _
 have lm : w.heap.size + 1 + 1 + 1 + 1 < w1.heap.size := Nat.lt_of_lt_of_le I0.r2.lt g1.size
 have HO1 := hidP (Qav ho1 (.cells (Qam mr mw me ml b1 mm.length e1) 124))
 have lx0 : w.heap.size + 1 + 1 + 1 + 1 < X0.heap.size := I0.r2.lt
 clear I0 g1 ho1 S0 B0
 obtain ⟨c0, c1, c2, c3, c4, c5, c6, c7⟩ := I1.c.row8c
 obtain ⟨m0, m1, m2, m3, m4⟩ := MB.row5
 have qc := I1.c.lt
 have qm := MB.lt
 go_upto_region 2 with fail
 generalize w1.alloc (.cells (Qam mr mw me ml b1 mm.length e1) 124) = X1 at *
 generalize w1.heap.size = PM at *
 go_wp2_with fail
 refine (Qcg mr mw me ml cc cb b1 e1 mm hmm _ (Qci rfl HO1.out)).mono ?_
 rintro e w2 ⟨rfl, g2⟩
 have B2 := via0 g2 B1
 have I2 := I1.below g2
 have MB2 := MB.below g2 MB.lt
 have SB2 := SB.below g2 SB.lt
 have HO2 := hidP (Qaq HO1.out g2)
 clear c0 c1 c2 c3 c4 c5 c6 c7 m0 m1 m2 m3 m4 qc qm I1 MB SB g2 B1 HO1
 rw [hk]
 obtain ⟨ao, hao⟩ : ∃ ao, ao = askO me ml mm cc cb := ⟨_, rfl⟩
 rw [← hao]
 have HAo := hidP hao
 clear hao
 have HQ2 := hidP ((HQ.out.below B2).mono (S' := fun b => S b ∨ (w.heap.size <= b /\ b ≠ (w.heap.size + 1 + 1 + 1) /\ b ≠ (w.heap.size + 1 + 1 + 1 + 1))) (fun b _ hb => .inl hb))
 have TT := hidP (Bx.told I2 (y := (⟨rA, rc, rs, mA, mc, ms, gA, gc, gs, time, dA, dc, ds, lA, lc, ls⟩ : KC)) (br := br) (bg := bg) (bd := bd) (bl := bl) (HQ2.out) (⟨(2), (0), (⟨#[]⟩), (⟨#[]⟩)⟩ : An) (hv := rfl))
 obtain ⟨z0, z1, z2, z3, z4, z5⟩ := I2.r1.row6
 have f0 := I2.r1.thaw 0; have f1 := I2.r1.thaw 1; have f2 := I2.r1.thaw 2; have f3 := I2.r1.thaw 3; have f4 := I2.r1.thaw 4; have f5 := I2.r1.thaw 5
 obtain ⟨k0, k1, k2, k3, k4, k5⟩ := I2.k.row6
 have R2 := I2.r2.only (Qac _ (w.heap.size + 1 + 1 + 1) (.slice rA rs.length rc) (.slice mA ms.length mc) (.slice gA gs.length gc) (.int .i64 time) (.slice dA ds.length dc) (.slice lA ls.length lc)) (fun e => I2.ne.2.2.2.2.2 e.symm)
 obtain ⟨y0, y1, y2, y3⟩ := R2.row4
 have ee0 := R2.thaw 0; have ee1 := R2.thaw 1; have ee2 := R2.thaw 2; have ee3 := R2.thaw 3
 have C1 := Qat I2.r1 (.slice rA rs.length rc) (.slice mA ms.length mc) (.slice gA gs.length gc) (.int .i64 time) (.slice dA ds.length dc) (.slice lA ls.length lc)
 have B1 := (Qax I2.r1 (.slice rA rs.length rc) (.slice mA ms.length mc) (.slice gA gs.length gc) (.int .i64 time) (.slice dA ds.length dc) (.slice lA ls.length lc)).only (Qah _ (w.heap.size + 1 + 1 + 1 + 1) (.int .i64 (2)) (.int .i64 (0)) (.string ⟨#[]⟩) (.string ⟨#[]⟩)) (fun e => I2.ne.2.2.2.2.2 e)
 have C2 := Qau R2 (.int .i64 (2)) (.int .i64 (0)) (.string ⟨#[]⟩) (.string ⟨#[]⟩)
 obtain ⟨s0, s1, s2, s3, s4, s5⟩ := C1
 obtain ⟨t0, t1, t2, t3⟩ := C2
 obtain ⟨q0, q1, q2, q3, q4, q5⟩ := B1.row6
 have hne12 : (w.heap.size + 1 + 1 + 1) ≠ (w.heap.size + 1 + 1 + 1 + 1) := I2.ne.2.2.2.2.2
 have hne21 : (w.heap.size + 1 + 1 + 1 + 1) ≠ (w.heap.size + 1 + 1 + 1) := fun e => I2.ne.2.2.2.2.2 e.symm
 go_wp2
 have hao := HAo.out
 subst hao
 exact bodyPost_ret (v := .tuple #[.agg (Qaa rA rs.length rc mA ms.length mc gA gs.length gc time dA ds.length dc lA ls.length lc), .agg (Qas (2) (0) ⟨#[]⟩ ⟨#[]⟩)]) (by simp [results, Tryz.results100, go_sem, s0, s1, s2, s3, s4, s5, t0, t1, t2, t3, q0, q1, q2, q3, q4, q5]) rfl TT.out
theorem l6Put_gap (ro wi le ke : Int) (rA : Option Addr) (rc : Nat) (rs : List RC) (mA : Option Addr) (mc : Nat) (ms : List MC) (gA : Option Addr) (gc : Nat) (gs : List GC) (time : Int) (dA : Option Addr) (dc : Nat) (ds : List Int) (lA : Option Addr) (lc : Nat) (ls : List An) (who seq op ca cb cc : Int) (key text : ByteArray) (S : Nat -> Prop) (br bg bd bl : Nat) (hlen : KLen (⟨rA, rc, rs, mA, mc, ms, gA, gc, gs, time, dA, dc, ds, lA, lc, ls⟩ : KC)) (w : World) (hS : ∀ b, S b -> b < w.heap.size) (hq : KQ w (⟨rA, rc, rs, mA, mc, ms, gA, gc, gs, time, dA, dc, ds, lA, lc, ls⟩ : KC) S br bg bd bl) (hk : askC (mofP ms ca who).epoch (mofP ms ca who).last (mofP ms ca who).ms cc cb = 3) :
 Calls Tryz.prog 100 #[.agg (Qan ro wi le ke), .agg (Qaa rA rs.length rc mA ms.length mc gA gs.length gc time dA ds.length dc lA ls.length lc), .agg (Qad who seq op ca cb cc key text)] w fun e w' => Qbu S w w' e (KC.p (⟨rA, rc, rs, mA, mc, ms, gA, gc, gs, time, dA, dc, ds, lA, lc, ls⟩ : KC)) ⟨3, 0, ⟨#[]⟩, ⟨#[]⟩⟩ := by
 have HQ := hidP hq
 have HM : Hid (∀ W : World, Below w.heap.size w W -> Calls Tryz.prog 107 (Qe7 mA ms.length mc ca who) W fun e w' => ∃ v, e = .returned (.agg #[.int .i64 (mofP ms ca who).row, .int .i64 (mofP ms ca who).who, .int .i64 (mofP ms ca who).epoch, .int .i64 (mofP ms ca who).last, v]) /\ w'.ownsRow W.heap.size 126 2 v (mofP ms ca who).ms.length (flat (mofP ms ca who).ms) /\ Below W.heap.size W w') :=
  fun W g => Qbg mA mc ms ca who (by have := hlen.ml; simp only at this; omega) (fun y hy => by have := hlen.mi y hy; omega) W ((KQ.at hq).below g).ma ((KQ.at hq).below g).me
 have hmm : (mofP ms ca who).ms.length <= 1048576 := by
  unfold mofP
  split
  . rename_i x hx
    have := hlen.mi x (List.mem_of_find?_eq_some hx)
    simp only [MC.p]; omega
  . simp
 generalize mofP ms ca who = M at HM hmm hk ⊢
 obtain ⟨mr, mw, me, ml, mm⟩ := M
 simp only at HM hmm hk ⊢
 clear hq hlen
 obtain ⟨I0, S0, B0⟩ := Qa2 ro wi le ke rA rc rs mA mc ms gA gc gs time dA dc ds lA lc ls who seq op ca cb cc key text S w hS
 go_enter Tryz.func100, Tryz.ntmps100
 go_wp2_with fail
 generalize ((((w.alloc (.cells (Qan ro wi le ke) 84)).alloc (.cells (Qaa rA rs.length rc mA ms.length mc gA gs.length gc time dA ds.length dc lA ls.length lc) 90)).alloc (.cells (Qad who seq op ca cb cc key text) 105)).alloc (.cells Qab 90)).alloc (.cells Qai 130) = X0 at I0 S0 B0 ⊢
 refine (HM.out _ B0).mono ?_
 rintro e w1 ⟨v1, rfl, ho1, g1⟩
 obtain ⟨b1, e1, rfl, _⟩ := Qao ho1
 have I1 := (I0.below g1).alloc (.cells (Qam mr mw me ml b1 mm.length e1) 124)
 have MB := Blk.new w1 124 (Qam mr mw me ml b1 mm.length e1)
 have SB := (S0.below g1 S0.lt).alloc (.cells (Qam mr mw me ml b1 mm.length e1) 124)
 have B1 : Below w.heap.size w (w1.alloc (.cells (Qam mr mw me ml b1 mm.length e1) 124)) := Qaf (via0 g1 B0) _
 have lm : w.heap.size + 1 + 1 + 1 + 1 < w1.heap.size := Nat.lt_of_lt_of_le I0.r2.lt g1.size
 have HO1 := hidP (Qav ho1 (.cells (Qam mr mw me ml b1 mm.length e1) 124))
 have lx0 : w.heap.size + 1 + 1 + 1 + 1 < X0.heap.size := I0.r2.lt
 clear I0 g1 ho1 S0 B0
 obtain ⟨c0, c1, c2, c3, c4, c5, c6, c7⟩ := I1.c.row8c
 obtain ⟨m0, m1, m2, m3, m4⟩ := MB.row5
 have qc := I1.c.lt
 have qm := MB.lt
 go_upto_region 2 with fail
 generalize w1.alloc (.cells (Qam mr mw me ml b1 mm.length e1) 124) = X1 at *
 generalize w1.heap.size = PM at *
 go_wp2_with fail
 refine (Qcg mr mw me ml cc cb b1 e1 mm hmm _ (Qci rfl HO1.out)).mono ?_
 rintro e w2 ⟨rfl, g2⟩
 have B2 := via0 g2 B1
 have I2 := I1.below g2
 have MB2 := MB.below g2 MB.lt
 have SB2 := SB.below g2 SB.lt
 have HO2 := hidP (Qaq HO1.out g2)
 clear c0 c1 c2 c3 c4 c5 c6 c7 m0 m1 m2 m3 m4 qc qm I1 MB SB g2 B1 HO1
 rw [hk]
 obtain ⟨ao, hao⟩ : ∃ ao, ao = askO me ml mm cc cb := ⟨_, rfl⟩
 rw [← hao]
 have HAo := hidP hao
 clear hao
 have HQ2 := hidP ((HQ.out.below B2).mono (S' := fun b => S b ∨ (w.heap.size <= b /\ b ≠ (w.heap.size + 1 + 1 + 1) /\ b ≠ (w.heap.size + 1 + 1 + 1 + 1))) (fun b _ hb => .inl hb))
 have TT := hidP (Bx.told I2 (y := (⟨rA, rc, rs, mA, mc, ms, gA, gc, gs, time, dA, dc, ds, lA, lc, ls⟩ : KC)) (br := br) (bg := bg) (bd := bd) (bl := bl) (HQ2.out) (⟨(3), (0), (⟨#[]⟩), (⟨#[]⟩)⟩ : An) (hv := rfl))
 obtain ⟨z0, z1, z2, z3, z4, z5⟩ := I2.r1.row6
 have f0 := I2.r1.thaw 0; have f1 := I2.r1.thaw 1; have f2 := I2.r1.thaw 2; have f3 := I2.r1.thaw 3; have f4 := I2.r1.thaw 4; have f5 := I2.r1.thaw 5
 obtain ⟨k0, k1, k2, k3, k4, k5⟩ := I2.k.row6
 have R2 := I2.r2.only (Qac _ (w.heap.size + 1 + 1 + 1) (.slice rA rs.length rc) (.slice mA ms.length mc) (.slice gA gs.length gc) (.int .i64 time) (.slice dA ds.length dc) (.slice lA ls.length lc)) (fun e => I2.ne.2.2.2.2.2 e.symm)
 obtain ⟨y0, y1, y2, y3⟩ := R2.row4
 have ee0 := R2.thaw 0; have ee1 := R2.thaw 1; have ee2 := R2.thaw 2; have ee3 := R2.thaw 3
 have C1 := Qat I2.r1 (.slice rA rs.length rc) (.slice mA ms.length mc) (.slice gA gs.length gc) (.int .i64 time) (.slice dA ds.length dc) (.slice lA ls.length lc)
 have B1 := (Qax I2.r1 (.slice rA rs.length rc) (.slice mA ms.length mc) (.slice gA gs.length gc) (.int .i64 time) (.slice dA ds.length dc) (.slice lA ls.length lc)).only (Qah _ (w.heap.size + 1 + 1 + 1 + 1) (.int .i64 (3)) (.int .i64 (0)) (.string ⟨#[]⟩) (.string ⟨#[]⟩)) (fun e => I2.ne.2.2.2.2.2 e)
 have C2 := Qau R2 (.int .i64 (3)) (.int .i64 (0)) (.string ⟨#[]⟩) (.string ⟨#[]⟩)
 obtain ⟨s0, s1, s2, s3, s4, s5⟩ := C1
 obtain ⟨t0, t1, t2, t3⟩ := C2
 obtain ⟨q0, q1, q2, q3, q4, q5⟩ := B1.row6
 have hne12 : (w.heap.size + 1 + 1 + 1) ≠ (w.heap.size + 1 + 1 + 1 + 1) := I2.ne.2.2.2.2.2
 have hne21 : (w.heap.size + 1 + 1 + 1 + 1) ≠ (w.heap.size + 1 + 1 + 1) := fun e => I2.ne.2.2.2.2.2 e.symm
 go_wp2
 have hao := HAo.out
 subst hao
 exact bodyPost_ret (v := .tuple #[.agg (Qaa rA rs.length rc mA ms.length mc gA gs.length gc time dA ds.length dc lA ls.length lc), .agg (Qas (3) (0) ⟨#[]⟩ ⟨#[]⟩)]) (by simp [results, Tryz.results100, go_sem, s0, s1, s2, s3, s4, s5, t0, t1, t2, t3, q0, q1, q2, q3, q4, q5]) rfl TT.out
theorem Qhl (ro wi le ke : Int) (rA : Option Addr) (rc : Nat) (rs : List RC) (mA : Option Addr) (mc : Nat) (ms : List MC) (gA : Option Addr) (gc : Nat) (gs : List GC) (time : Int) (dA : Option Addr) (dc : Nat) (ds : List Int) (lA : Option Addr) (lc : Nat) (ls : List An) (who seq op ca cb cc : Int) (key text : ByteArray) (S : Nat -> Prop) (br bg bd bl : Nat) (hlen : KLen (⟨rA, rc, rs, mA, mc, ms, gA, gc, gs, time, dA, dc, ds, lA, lc, ls⟩ : KC)) (w : World) (hS : ∀ b, S b -> b < w.heap.size) (hq : KQ w (⟨rA, rc, rs, mA, mc, ms, gA, gc, gs, time, dA, dc, ds, lA, lc, ls⟩ : KC) S br bg bd bl) (hk : askC (mofP ms ca who).epoch (mofP ms ca who).last (mofP ms ca who).ms cc cb = 4) :
 Calls Tryz.prog 100 #[.agg (Qan ro wi le ke), .agg (Qaa rA rs.length rc mA ms.length mc gA gs.length gc time dA ds.length dc lA ls.length lc), .agg (Qad who seq op ca cb cc key text)] w fun e w' => Qbu S w w' e (KC.p (⟨rA, rc, rs, mA, mc, ms, gA, gc, gs, time, dA, dc, ds, lA, lc, ls⟩ : KC)) ⟨4, 0, ⟨#[]⟩, ⟨#[]⟩⟩ := by
 have HQ := hidP hq
 have HM : Hid (∀ W : World, Below w.heap.size w W -> Calls Tryz.prog 107 (Qe7 mA ms.length mc ca who) W fun e w' => ∃ v, e = .returned (.agg #[.int .i64 (mofP ms ca who).row, .int .i64 (mofP ms ca who).who, .int .i64 (mofP ms ca who).epoch, .int .i64 (mofP ms ca who).last, v]) /\ w'.ownsRow W.heap.size 126 2 v (mofP ms ca who).ms.length (flat (mofP ms ca who).ms) /\ Below W.heap.size W w') :=
  fun W g => Qbg mA mc ms ca who (by have := hlen.ml; simp only at this; omega) (fun y hy => by have := hlen.mi y hy; omega) W ((KQ.at hq).below g).ma ((KQ.at hq).below g).me
 have hmm : (mofP ms ca who).ms.length <= 1048576 := by
  unfold mofP
  split
  . rename_i x hx
    have := hlen.mi x (List.mem_of_find?_eq_some hx)
    simp only [MC.p]; omega
  . simp
 generalize mofP ms ca who = M at HM hmm hk ⊢
 obtain ⟨mr, mw, me, ml, mm⟩ := M
 simp only at HM hmm hk ⊢
 clear hq hlen
 obtain ⟨I0, S0, B0⟩ := Qa2 ro wi le ke rA rc rs mA mc ms gA gc gs time dA dc ds lA lc ls who seq op ca cb cc key text S w hS
 go_enter Tryz.func100, Tryz.ntmps100
 go_wp2_with fail
 generalize ((((w.alloc (.cells (Qan ro wi le ke) 84)).alloc (.cells (Qaa rA rs.length rc mA ms.length mc gA gs.length gc time dA ds.length dc lA ls.length lc) 90)).alloc (.cells (Qad who seq op ca cb cc key text) 105)).alloc (.cells Qab 90)).alloc (.cells Qai 130) = X0 at I0 S0 B0 ⊢
 refine (HM.out _ B0).mono ?_
 rintro e w1 ⟨v1, rfl, ho1, g1⟩
 obtain ⟨b1, e1, rfl, _⟩ := Qao ho1
 have I1 := (I0.below g1).alloc (.cells (Qam mr mw me ml b1 mm.length e1) 124)
 have MB := Blk.new w1 124 (Qam mr mw me ml b1 mm.length e1)
 have SB := (S0.below g1 S0.lt).alloc (.cells (Qam mr mw me ml b1 mm.length e1) 124)
 have B1 : Below w.heap.size w (w1.alloc (.cells (Qam mr mw me ml b1 mm.length e1) 124)) := Qaf (via0 g1 B0) _
 have lm : w.heap.size + 1 + 1 + 1 + 1 < w1.heap.size := Nat.lt_of_lt_of_le I0.r2.lt g1.size
 have HO1 := hidP (Qav ho1 (.cells (Qam mr mw me ml b1 mm.length e1) 124))
 have lx0 : w.heap.size + 1 + 1 + 1 + 1 < X0.heap.size := I0.r2.lt
 clear I0 g1 ho1 S0 B0
 obtain ⟨c0, c1, c2, c3, c4, c5, c6, c7⟩ := I1.c.row8c
 obtain ⟨m0, m1, m2, m3, m4⟩ := MB.row5
 have qc := I1.c.lt
 have qm := MB.lt
 go_upto_region 2 with fail
 generalize w1.alloc (.cells (Qam mr mw me ml b1 mm.length e1) 124) = X1 at *
 generalize w1.heap.size = PM at *
 go_wp2_with fail
 refine (Qcg mr mw me ml cc cb b1 e1 mm hmm _ (Qci rfl HO1.out)).mono ?_
 rintro e w2 ⟨rfl, g2⟩
 have B2 := via0 g2 B1
 have I2 := I1.below g2
 have MB2 := MB.below g2 MB.lt
 have SB2 := SB.below g2 SB.lt
 have HO2 := hidP (Qaq HO1.out g2)
 clear c0 c1 c2 c3 c4 c5 c6 c7 m0 m1 m2 m3 m4 qc qm I1 MB SB g2 B1 HO1
 rw [hk]
 obtain ⟨ao, hao⟩ : ∃ ao, ao = askO me ml mm cc cb := ⟨_, rfl⟩
 rw [← hao]
 have HAo := hidP hao
 clear hao
 have HQ2 := hidP ((HQ.out.below B2).mono (S' := fun b => S b ∨ (w.heap.size <= b /\ b ≠ (w.heap.size + 1 + 1 + 1) /\ b ≠ (w.heap.size + 1 + 1 + 1 + 1))) (fun b _ hb => .inl hb))
 have TT := hidP (Bx.told I2 (y := (⟨rA, rc, rs, mA, mc, ms, gA, gc, gs, time, dA, dc, ds, lA, lc, ls⟩ : KC)) (br := br) (bg := bg) (bd := bd) (bl := bl) (HQ2.out) (⟨(4), (0), (⟨#[]⟩), (⟨#[]⟩)⟩ : An) (hv := rfl))
 obtain ⟨z0, z1, z2, z3, z4, z5⟩ := I2.r1.row6
 have f0 := I2.r1.thaw 0; have f1 := I2.r1.thaw 1; have f2 := I2.r1.thaw 2; have f3 := I2.r1.thaw 3; have f4 := I2.r1.thaw 4; have f5 := I2.r1.thaw 5
 obtain ⟨k0, k1, k2, k3, k4, k5⟩ := I2.k.row6
 have R2 := I2.r2.only (Qac _ (w.heap.size + 1 + 1 + 1) (.slice rA rs.length rc) (.slice mA ms.length mc) (.slice gA gs.length gc) (.int .i64 time) (.slice dA ds.length dc) (.slice lA ls.length lc)) (fun e => I2.ne.2.2.2.2.2 e.symm)
 obtain ⟨y0, y1, y2, y3⟩ := R2.row4
 have ee0 := R2.thaw 0; have ee1 := R2.thaw 1; have ee2 := R2.thaw 2; have ee3 := R2.thaw 3
 have C1 := Qat I2.r1 (.slice rA rs.length rc) (.slice mA ms.length mc) (.slice gA gs.length gc) (.int .i64 time) (.slice dA ds.length dc) (.slice lA ls.length lc)
 have B1 := (Qax I2.r1 (.slice rA rs.length rc) (.slice mA ms.length mc) (.slice gA gs.length gc) (.int .i64 time) (.slice dA ds.length dc) (.slice lA ls.length lc)).only (Qah _ (w.heap.size + 1 + 1 + 1 + 1) (.int .i64 (4)) (.int .i64 (0)) (.string ⟨#[]⟩) (.string ⟨#[]⟩)) (fun e => I2.ne.2.2.2.2.2 e)
 have C2 := Qau R2 (.int .i64 (4)) (.int .i64 (0)) (.string ⟨#[]⟩) (.string ⟨#[]⟩)
 obtain ⟨s0, s1, s2, s3, s4, s5⟩ := C1
 obtain ⟨t0, t1, t2, t3⟩ := C2
 obtain ⟨q0, q1, q2, q3, q4, q5⟩ := B1.row6
 have hne12 : (w.heap.size + 1 + 1 + 1) ≠ (w.heap.size + 1 + 1 + 1 + 1) := I2.ne.2.2.2.2.2
 have hne21 : (w.heap.size + 1 + 1 + 1 + 1) ≠ (w.heap.size + 1 + 1 + 1) := fun e => I2.ne.2.2.2.2.2 e.symm
 go_wp2
 have hao := HAo.out
 subst hao
 exact bodyPost_ret (v := .tuple #[.agg (Qaa rA rs.length rc mA ms.length mc gA gs.length gc time dA ds.length dc lA ls.length lc), .agg (Qas (4) (0) ⟨#[]⟩ ⟨#[]⟩)]) (by simp [results, Tryz.results100, go_sem, s0, s1, s2, s3, s4, s5, t0, t1, t2, t3, q0, q1, q2, q3, q4, q5]) rfl TT.out
end Go.Proofs.YtlniljigeemnoaaGreat.Gen
