/-
  What the copies of a keeper want on both sides. No condition.
-/
import Derived.Test.YtmdaammalacifaaGreatPeCq
set_option linter.unusedVariables false
set_option linter.unusedSimpArgs false
set_option maxRecDepth 100000
set_option maxHeartbeats 8000000
namespace Go.Proofs.YtmdaammalacifaaGreat.Gen
open ChangeShapes WideShapes ChangeAt RowKit Joins Deep Base
open Items (It)
theorem Du.putK {q P : Nat} {W : World} {v1 v2 : Value} {l1 : List Int} {l2 : List An} {vs : Array Value} (h : Du q W v1 v2 l1 l2) (o : Blk W P 53 vs) (u0 u1 u2 u3 u4 u5 : Value) : Du q (putK W P u0 u1 u2 u3 u4 u5) v1 v2 l1 l2 := by
 have k := Offp.of_only (Qaz W P u0 u1 u2 u3 u4 u5)
 exact ⟨Qcg h.o1 k (fun x hx e => Qbz h.o1 o (by decide) x hx e), Qcg h.o2 k (fun x hx e => Qbz h.o2 o (by decide) x hx e), Nat.le_trans h.q k.size⟩
theorem gp_own {W : World} {a1 a2 a3 : Option Addr} {m b o : List Int} {F : List Nat} {lo : Nat} (h : Gp W a1 a2 a3 m b o F) (hF : ∀ x ∈ F, lo <= x) (gen : Int) (c1 c2 c3 : Nat) : grpP W (⟨gen, a1, c1, m, a2, c2, b, a3, c3, o⟩ : GC) (fun x => lo <= x /\ x < W.heap.size) := by
 have hlt := h.lt
 obtain ⟨F1, F2, F3, rfl, s1, s2, s3, hnd⟩ := h
 simp only [List.nodup_append] at hnd
 have sub : ∀ {l : List Int} {a : Option Addr} {G : List Nat}, Sl W a l G -> Sub W a l (fun x => x ∈ G) := fun hs => by
  rcases hs with ⟨e, _⟩ | ⟨b, o, e, rfl, hb, hi, ht⟩
  . exact .inl e
  . exact .inr ⟨b, o, e, by simp, hb, hi, ht⟩
 exact ⟨fun x => x ∈ F1, fun x => x ∈ F2, fun x => x ∈ F3, fun y hy => ⟨hF y (by simp [hy]), hlt y (by simp [hy])⟩, fun y hy => ⟨hF y (by simp [hy]), hlt y (by simp [hy])⟩, fun y hy => ⟨hF y (by simp [hy]), hlt y (by simp [hy])⟩,
  fun y h1 h2 => hnd.2.2 y h1 y (by simp [h2]) rfl, fun y h1 h2 => hnd.2.2 y h1 y (by simp [h2]) rfl, fun y h1 h2 => hnd.2.1.2.2 y h1 y h2 rfl, sub s1, sub s2, sub s3⟩
theorem du_stay {q P : Nat} {W : World} {a1 a2 : Option Addr} {c1 c2 : Nat} {l1 : List Int} {l2 : List An} {vs : Array Value} (h : Du q W (.slice a1 l1.length c1) (.slice a2 l2.length c2) l1 l2) (o : Blk W P 53 vs) : Stay2 P W.heap.size (fun V => Du q V (.slice a1 l1.length c1) (.slice a2 l2.length c2) l1 l2) := by
 intro V V' T p k hT
 refine ⟨Qcg p.o1 k (fun x hx e => ?_), Qcg p.o2 k (fun x hx e => ?_), Nat.le_trans p.q k.size⟩
 . rcases hT x e with rfl | e1
   . exact Qbz h.o1 o (by decide) x hx rfl
   . have := (h.o1.lt x hx).2; omega
 . rcases hT x e with rfl | e1
   . exact Qbz h.o2 o (by decide) x hx rfl
   . have := (h.o2.lt x hx).2; omega
theorem Qfm {α : Type} [Cel α] {B : Nat} {W : World} {t : TypeId} {a : Option Addr} {c : Nat} {xs : List α} (h : W.ownsRow B t (Cel.k α) (.slice a xs.length c) xs.length (flat xs)) : xs = [] ∨ ∃ b, a = some ⟨b, 0, none⟩ := by
 rcases h.2 with ⟨_, h0⟩ | ⟨g, c', cur, e, _⟩
 . exact .inl (List.length_eq_zero_iff.1 h0)
 . cases e; exact .inr ⟨g, rfl⟩
theorem sub_own {α : Type} [Cel α] {B : Nat} {W : World} {t : TypeId} {a : Option Addr} {c : Nat} {xs : List α} (h : W.ownsRow B t (Cel.k α) (.slice a xs.length c) xs.length (flat xs)) : Sub W a xs (fun b => (Value.slice a xs.length c).ownBlock = some b /\ B <= b) := by
 by_cases hl : 0 < xs.length
 . obtain ⟨b, h1, h2, h3⟩ := Pl.of_own h hl
   exact .inr ⟨b, 0, h1.a, ⟨h3, h2⟩, h1.lt, h1.i, h1.th⟩
 . exact .inl (List.length_eq_zero_iff.1 (by omega))
theorem toldO_of {w W : World} {P s0 s1 s2 : Nat} {pA qA a zA vA : Option Addr} {pc qc cp zc vc : Nat} {ps rs : List RC} {qs ms : List MC} {xs gs : List GC} {time : Int} {ds : List Int} {ls : List An} {kc : Array Value}
 (K : KP (α := GC) grpP 173 (fun V => ((fun V => Du (w.heap.size + 2) V (.slice zA ds.length zc) (.slice vA ls.length vc) ds ls) V /\ Own rowP V pA ps (fun b => s0 <= b /\ b < s1)) /\ Own makP V qA qs (fun b => s1 <= b /\ b < s2)) s2 w W kc P #[.slice pA (List.length ps) pc, .slice qA (List.length qs) qc, .slice a (List.length xs) cp, .int .i64 time, .slice zA ds.length zc, .slice vA ls.length vc] a cp xs)
 (h0 : P < s0 /\ w.heap.size + 2 <= s0) (h1 : s0 <= s1) (h2 : s1 <= s2) (z0 : (∀ x, (Value.slice zA ds.length zc).ownBlock = some x -> x < s0) /\ ∀ x, (Value.slice vA ls.length vc).ownBlock = some x -> x < s0)
 (m1 : ps.map RC.p = rs.map RC.p) (m2 : qs.map MC.p = ms.map MC.p) (m3 : xs.map GC.p = gs.map GC.p)
 (rA : Option Addr) (rc : Nat) (mA : Option Addr) (mc : Nat) (gA : Option Addr) (gc : Nat) (dA : Option Addr) (dc : Nat) (lA : Option Addr) (lc : Nat) :
 NewK w (putK W (w.heap.size + 1) (.slice pA (List.length ps) pc) (.slice qA (List.length qs) qc) (.slice a (List.length xs) cp) (.int .i64 time) (.slice zA ds.length zc) (.slice vA ls.length vc)) (.returned (.agg #[.slice pA (List.length ps) pc, .slice qA (List.length qs) qc, .slice a (List.length xs) cp, .int .i64 time, .slice zA ds.length zc, .slice vA ls.length vc])) (⟨rA, rc, rs, mA, mc, ms, gA, gc, gs, time, dA, dc, ds, lA, lc, ls⟩ : KC).p := by
 obtain ⟨⟨hDu, hR⟩, hM⟩ := K.pk
 have hG := K.gu.toOwn
 have hsW := K.gu.hB
 have hD := sub_own hDu.o1
 have hL := sub_own hDu.o2
 have hne : ∀ x y, (Value.slice zA ds.length zc).ownBlock = some x -> (Value.slice vA ls.length vc).ownBlock = some y -> x ≠ y := fun x y hx hy => by
  rcases hDu.o2.2 with ⟨e, h3⟩ | ⟨g, c', cur, e, _, hg, _⟩
  . rw [e] at hy; simp [Value.ownBlock] at hy
  . cases e
    have : y = g := by simpa [Value.ownBlock] using hy.symm
    subst this
    exact Qbz hDu.o1 (show Blk W y 178 cur from hg) (by decide) x hx
 have k := Offp.of_only (Qaz W (w.heap.size + 1) (.slice pA (List.length ps) pc) (.slice qA (List.length qs) qc) (.slice a (List.length xs) cp) (.int .i64 time) (.slice zA ds.length zc) (.slice vA ls.length vc))
 have KO : KOwn W (⟨pA, pc, ps, qA, qc, qs, a, cp, xs, time, zA, zc, ds, vA, vc, ls⟩ : KC) (fun b => w.heap.size + 2 <= b /\ b < W.heap.size) := by
  refine ⟨fun b => if b < s0 then (if (Value.slice zA ds.length zc).ownBlock = some b then 4 else 5) else if b < s1 then 1 else if b < s2 then 2 else 3, ?_, ?_, ?_, ?_, ?_⟩
  . exact hR.mono (fun z hz => by have h3 := hz.1; have h4 := hz.2; exact ⟨⟨by omega, by omega⟩, by rw [if_neg (by omega), if_pos h4]⟩)
  . exact hM.mono (fun z hz => by have h3 := hz.1; have h4 := hz.2; exact ⟨⟨by omega, by omega⟩, by rw [if_neg (by omega), if_neg (by omega), if_pos h4]⟩)
  . exact hG.mono (fun z hz => by have h3 := hz.1; have h4 := hz.2; exact ⟨⟨by omega, by omega⟩, by rw [if_neg (by omega), if_neg (by omega), if_neg (by omega)]⟩)
  . exact hD.mono (fun z hz => by have h3 := z0.1 z hz.1; have h4 := hz.2; exact ⟨⟨by omega, by omega⟩, by rw [if_pos h3, if_pos hz.1]⟩)
  . exact hL.mono (fun z hz => by have h3 := z0.2 z hz.1; have h4 := hz.2; exact ⟨⟨by omega, by omega⟩, by rw [if_pos h3, if_neg (fun e => hne z z e hz.1 rfl)]⟩)
 refine ⟨⟨pA, pc, ps, qA, qc, qs, a, cp, xs, time, zA, zc, ds, vA, vc, ls⟩, rfl, by simp only [KC.p, m1, m2, m3], (KO.offp k (fun b hb e => by have h3 := hb.1; omega)).mono (fun b hb => ⟨by have h3 := hb.1; omega, Nat.lt_of_lt_of_le hb.2 k.size⟩), K.kd.bl.trans (k.toBelow (fun x hx => by omega) K.kd.bl.size)⟩
end Go.Proofs.YtmdaammalacifaaGreat.Gen
namespace Go.Proofs.YtmdaammalacifaaGreat.Gen
open ChangeShapes WideShapes ChangeAt RowKit Joins Deep Base
theorem app_mk (B : Nat) (v : Value) (l m : List Mk) (A : Option Addr) (cap : Nat) (w : World) (hB : B <= w.heap.size) (hv : w.ownsRow B 205 2 v l.length (flat l)) (hA : At w A m) (hlen : l.length + m.length <= 3000000) :
 ∃ v' w', (Builtin.append_ #[169, 169] 169 #[v, .slice A m.length cap]).run Tryz.prog w = .ok v' w' /\ w'.ownsRow B 205 2 v' (l.length + m.length) (flat (l ++ m)) /\ w.grownBy w' v.ownBlock /\ (v'.ownBlock = v.ownBlock ∨ v'.ownBlock = some w.heap.size) :=
 Qa0 (α := Mk) (P := Tryz.prog) Tryz.underlying169 infoMk rfl (by decide) (by omega) B v l m A cap w hB hv hA hlen
theorem Qec (row who epoch last : Int) (A : Option Addr) (cap : Nat) (l : List Mk) (hl : l.length <= 1048576) (w : World) (hA : At w A l) :
 Calls Tryz.prog 117 #[.agg #[.int .i64 row, .int .i64 who, .int .i64 epoch, .int .i64 last, .slice A l.length cap]] w fun e w' => ∃ v, e = .returned (.agg #[.int .i64 row, .int .i64 who, .int .i64 epoch, .int .i64 last, v]) /\ w'.ownsRow w.heap.size 205 2 v l.length (flat l) /\ Below w.heap.size w w' := by
 have B0 : Below w.heap.size w ((w.alloc (.cells #[.int .i64 row, .int .i64 who, .int .i64 epoch, .int .i64 last, .slice A l.length cap] 171)).alloc (.cells #[.int .i64 0, .int .i64 0, .int .i64 0, .int .i64 0, .slice none 0 0] 171)) := Qab (Qab (Below.refl _ _) _) _
 obtain ⟨v, w1, hr, hown, hgrow, hat⟩ := app_mk w.heap.size (.slice none 0 0) [] l A cap ((w.alloc (.cells #[.int .i64 row, .int .i64 who, .int .i64 epoch, .int .i64 last, .slice A l.length cap] 171)).alloc (.cells #[.int .i64 0, .int .i64 0, .int .i64 0, .int .i64 0, .slice none 0 0] 171)) B0.size (World.ownsRow_nil _ _ _ _) (hA.below B0) (by simp; omega)
 simp only [List.length_nil, Nat.zero_add, List.nil_append] at hown
 have p0 := ((Blk.new w 171 #[.int .i64 row, .int .i64 who, .int .i64 epoch, .int .i64 last, .slice A l.length cap]).alloc (.cells #[.int .i64 0, .int .i64 0, .int .i64 0, .int .i64 0, .slice none 0 0] 171)).kept hgrow (by simp [Value.ownBlock])
 have p1 := (Blk.new (w.alloc (.cells #[.int .i64 row, .int .i64 who, .int .i64 epoch, .int .i64 last, .slice A l.length cap] 171)) 171 #[.int .i64 0, .int .i64 0, .int .i64 0, .int .i64 0, .slice none 0 0]).kept hgrow (by simp [Value.ownBlock])
 rw [World.size_alloc] at p1
 have B1 : Below w.heap.size w w1 := B0.grown hgrow B0.size (by simp [Value.ownBlock])
 obtain ⟨c0, c1, c2, c3, c4⟩ := p0.row5
 obtain ⟨d0, d1, d2, d3, d4⟩ := p1.row5
 have f4 := p0.thaw 4
 have g0 := p1.thaw 0
 have g1 := p1.thaw 1
 have g2 := p1.thaw 2
 have g3 := p1.thaw 3
 have g4 := p1.thaw 4
 obtain ⟨a, c, rfl, hc⟩ := Qar hown
 have hn0 : some w.heap.size ≠ (Value.slice a l.length c).ownBlock := by
  rcases hat with e | e
  . rw [e]; simp [Value.ownBlock]
  . rw [e]; intro h; have := Option.some.inj h; simp only [World.size_alloc] at this; omega
 have hn1 : some (w.heap.size + 1) ≠ (Value.slice a l.length c).ownBlock := by
  rcases hat with e | e
  . rw [e]; simp [Value.ownBlock]
  . rw [e]; intro h; have := Option.some.inj h; simp only [World.size_alloc] at this; omega
 have Hn0 := hidP hn0
 have Hn1 := hidP hn1
 have Hown := hidP hown
 clear hgrow hA hat hown hn0 hn1
 go_enter Tryz.func117, Tryz.ntmps117
 go_wp2_with (at_builtin; refine Qaj rfl _ _ _ rfl _ _ _ rfl rfl hr ?_)
 have p2 : Blk _ (w.heap.size + 1) 171 #[.int .i64 row, .int .i64 who, .int .i64 epoch, .int .i64 last, .slice a l.length c] := (((((p1.other (B' := w.heap.size) (by omega) 4 (.slice a l.length c)).setAt 0 (.int .i64 row)).setAt 1 (.int .i64 who)).setAt 2 (.int .i64 epoch)).setAt 3 (.int .i64 last)).setAt 4 (.slice a l.length c)
 obtain ⟨e0, e1, e2, e3, e4⟩ := p2.row5
 exact bodyPost_ret (v := .agg #[.int .i64 row, .int .i64 who, .int .i64 epoch, .int .i64 last, .slice a l.length c]) (by simp [results, Tryz.results117, go_sem, e0, e1, e2, e3, e4]) rfl
  ⟨_, rfl, Qav (Qav (Qav (Qav (Qav (Qav Hown.out Hn0.out) Hn1.out) Hn1.out) Hn1.out) Hn1.out) Hn1.out, Qal (Qal (Qal (Qal (Qal (Qal B1 (Nat.le_refl _) _) (by omega) _) (by omega) _) (by omega) _) (by omega) _) (by omega) _⟩
theorem Qd6 (row who epoch last : Int) (A : Option Addr) (cap : Nat) (l : List Mk) (hl : l.length <= 1048576) (w : World) (hA : At w A l) :
 Calls Tryz.prog 108 #[.agg #[.int .i64 row, .int .i64 who, .int .i64 epoch, .int .i64 last, .slice A l.length cap]] w fun e w' => ∃ v, e = .returned (.agg #[.int .i64 row, .int .i64 who, .int .i64 epoch, .int .i64 last, v]) /\ w'.ownsRow w.heap.size 205 2 v l.length (flat l) /\ Below w.heap.size w w' := by
 have B0 : Below w.heap.size w (((w.alloc (.cells #[.int .i64 row, .int .i64 who, .int .i64 epoch, .int .i64 last, .slice A l.length cap] 171)).alloc (.cells #[.int .i64 0, .int .i64 0, .int .i64 0, .int .i64 0, .slice none 0 0] 171)).alloc (.cells #[] 205)) := Qab (Qab (Qab (Below.refl _ _) _) _) _
 obtain ⟨v, w1, hr, hown, hgrow, hat⟩ := app_mk w.heap.size (.slice (some ⟨w.heap.size + 1 + 1, 0, none⟩) 0 0) [] l A cap (((w.alloc (.cells #[.int .i64 row, .int .i64 who, .int .i64 epoch, .int .i64 last, .slice A l.length cap] 171)).alloc (.cells #[.int .i64 0, .int .i64 0, .int .i64 0, .int .i64 0, .slice none 0 0] 171)).alloc (.cells #[] 205)) B0.size
  ⟨rfl, .inr ⟨w.heap.size + 1 + 1, 0, #[], rfl, by omega, by have := heap_new ((w.alloc (.cells #[.int .i64 row, .int .i64 who, .int .i64 epoch, .int .i64 last, .slice A l.length cap] 171)).alloc (.cells #[.int .i64 0, .int .i64 0, .int .i64 0, .int .i64 0, .slice none 0 0] 171)) (.cells #[] 205); simpa only [World.size_alloc] using this, Nat.le_refl _, by simp [maxLen], rfl, rfl⟩⟩ (hA.below B0) (by simp; omega)
 simp only [List.length_nil, Nat.zero_add, List.nil_append] at hown
 have p0 := (((Blk.new w 171 #[.int .i64 row, .int .i64 who, .int .i64 epoch, .int .i64 last, .slice A l.length cap]).alloc (.cells #[.int .i64 0, .int .i64 0, .int .i64 0, .int .i64 0, .slice none 0 0] 171)).alloc (.cells #[] 205)).kept hgrow (by intro h; have : w.heap.size = w.heap.size + 1 + 1 := Option.some.inj h; omega)
 have p1 := ((Blk.new (w.alloc (.cells #[.int .i64 row, .int .i64 who, .int .i64 epoch, .int .i64 last, .slice A l.length cap] 171)) 171 #[.int .i64 0, .int .i64 0, .int .i64 0, .int .i64 0, .slice none 0 0]).alloc (.cells #[] 205)).kept hgrow (by rw [World.size_alloc]; intro h; have : w.heap.size + 1 = w.heap.size + 1 + 1 := Option.some.inj h; omega)
 rw [World.size_alloc] at p1
 have B1 : Below w.heap.size w w1 := B0.grown hgrow B0.size (fun k e => by have : w.heap.size + 1 + 1 = k := Option.some.inj e; omega)
 obtain ⟨c0, c1, c2, c3, c4⟩ := p0.row5
 obtain ⟨d0, d1, d2, d3, d4⟩ := p1.row5
 have f4 := p0.thaw 4
 have g0 := p1.thaw 0
 have g1 := p1.thaw 1
 have g2 := p1.thaw 2
 have g3 := p1.thaw 3
 have g4 := p1.thaw 4
 obtain ⟨a, c, rfl, hc⟩ := Qar hown
 have hn : ∀ k, k < w.heap.size + 1 + 1 -> some k ≠ (Value.slice a l.length c).ownBlock := fun k hk => by
  rcases hat with e | e
  . rw [e]; intro h; have : k = w.heap.size + 1 + 1 := Option.some.inj h; omega
  . rw [e]; intro h; have := Option.some.inj h; simp only [World.size_alloc] at this; omega
 have Hn0 := hidP (hn w.heap.size (by omega))
 have Hn1 := hidP (hn (w.heap.size + 1) (by omega))
 have Hown := hidP hown
 clear hgrow hA hat hown hn
 go_enter Tryz.func108, Tryz.ntmps108
 go_wp2_with (at_builtin; refine Qaj rfl _ _ _ rfl _ _ _ rfl rfl hr ?_)
 have p2 : Blk _ (w.heap.size + 1) 171 #[.int .i64 row, .int .i64 who, .int .i64 epoch, .int .i64 last, .slice a l.length c] := (((((p1.other (B' := w.heap.size) (by omega) 4 (.slice a l.length c)).setAt 0 (.int .i64 row)).setAt 1 (.int .i64 who)).setAt 2 (.int .i64 epoch)).setAt 3 (.int .i64 last)).setAt 4 (.slice a l.length c)
 obtain ⟨e0, e1, e2, e3, e4⟩ := p2.row5
 exact bodyPost_ret (v := .agg #[.int .i64 row, .int .i64 who, .int .i64 epoch, .int .i64 last, .slice a l.length c]) (by simp [results, Tryz.results108, go_sem, e0, e1, e2, e3, e4]) rfl
  ⟨_, rfl, Qav (Qav (Qav (Qav (Qav (Qav Hown.out Hn0.out) Hn1.out) Hn1.out) Hn1.out) Hn1.out) Hn1.out, Qal (Qal (Qal (Qal (Qal (Qal B1 (Nat.le_refl _) _) (by omega) _) (by omega) _) (by omega) _) (by omega) _) (by omega) _⟩
end Go.Proofs.YtmdaammalacifaaGreat.Gen
