/-
  spec.l6Do where nothing is done: what it tells. Condition: KLen.
-/
import Derived.Test.YtlniljigeemnoaaGreatKCp2
import Derived.Test.YtlniljigeemnoaaGreatKNew
set_option linter.unusedVariables false
set_option linter.unusedSimpArgs false
set_option maxRecDepth 100000
set_option maxHeartbeats 8000000
namespace Go.Proofs.YtlniljigeemnoaaGreat.Gen
open ChangeShapes WideShapes ChangeAt RowKit Joins Deep Base
open Items (It)
structure Ds (w W : World) (pk pc p1 p2 : Nat) (kc cc sc : Array Value) : Prop where
  bx : Bx (fun _ => False) w W pk pc p1 p2 kc cc
  sb : Blk W w.heap.size 84 sc
  bl : Below w.heap.size w W
section
variable {w W W' : World} {pk pc p1 p2 : Nat} {kc cc sc : Array Value} {T : Nat -> Prop}
theorem Ds.below (h : Ds w W pk pc p1 p2 kc cc sc) (g : Below W.heap.size W W') : Ds w W' pk pc p1 p2 kc cc sc := ⟨h.bx.below g, h.sb.below g h.sb.lt, via0 g h.bl⟩
theorem Ds.alloc (h : Ds w W pk pc p1 p2 kc cc sc) (ob : Obj) : Ds w (W.alloc ob) pk pc p1 p2 kc cc sc := h.below (Qaf (Below.refl _ _) _)
theorem Ds.drew (h : Ds w W pk pc p1 p2 kc cc sc) : Ds w W.drew pk pc p1 p2 kc cc sc := h.below (Below.refl _ _).drew
theorem Ds.offp (h : Ds w W pk pc p1 p2 kc cc sc) (k : Offp T W W') (hT : ∀ q, T q -> w.heap.size < q /\ q ≠ pk /\ q ≠ pc /\ q ≠ p1 /\ q ≠ p2) : Ds w W' pk pc p1 p2 kc cc sc :=
 ⟨h.bx.turn k (fun b e => .inr (by have := hT b e; omega)), h.sb.offp k (fun e => by have := hT _ e; omega), h.bl.trans (k.toBelow (fun b e => by have := hT b e; omega) h.bl.size)⟩
theorem Ds.only {q : Nat} (h : Ds w W pk pc p1 p2 kc cc sc) (k : Only q W W') (hq : w.heap.size < q /\ q ≠ pk /\ q ≠ pc /\ q ≠ p1 /\ q ≠ p2) : Ds w W' pk pc p1 p2 kc cc sc := h.offp (Offp.of_only k) (fun b e => by subst e; exact hq)
end
theorem copyQ (rA : Option Addr) (rc : Nat) (rs : List RC) (mA : Option Addr) (mc : Nat) (ms : List MC) (gA : Option Addr) (gc : Nat) (gs : List GC) (time : Int) (dA : Option Addr) (dc : Nat) (ds : List Int) (lA : Option Addr) (lc : Nat) (ls : List An) (hlen : KLen (⟨rA, rc, rs, mA, mc, ms, gA, gc, gs, time, dA, dc, ds, lA, lc, ls⟩ : KC)) (w : World) (hx : KAt w (⟨rA, rc, rs, mA, mc, ms, gA, gc, gs, time, dA, dc, ds, lA, lc, ls⟩ : KC)) :
 Calls Tryz.prog 85 #[.agg (Qaa rA rs.length rc mA ms.length mc gA gs.length gc time dA ds.length dc lA ls.length lc)] w fun e w' => ∃ (rA9 : Option Addr) (rc9 : Nat) (rs9 : List RC) (mA9 : Option Addr) (mc9 : Nat) (ms9 : List MC) (gA9 : Option Addr) (gc9 : Nat) (gs9 : List GC) (time9 : Int) (dA9 : Option Addr) (dc9 : Nat) (ds9 : List Int) (lA9 : Option Addr) (lc9 : Nat) (ls9 : List An) (br bg bd bl : Nat), e = .returned (.agg (Qaa rA9 rs9.length rc9 mA9 ms9.length mc9 gA9 gs9.length gc9 time9 dA9 ds9.length dc9 lA9 ls9.length lc9)) /\ KC.p (⟨rA9, rc9, rs9, mA9, mc9, ms9, gA9, gc9, gs9, time9, dA9, dc9, ds9, lA9, lc9, ls9⟩ : KC) = KC.p (⟨rA, rc, rs, mA, mc, ms, gA, gc, gs, time, dA, dc, ds, lA, lc, ls⟩ : KC) /\ KQ w' (⟨rA9, rc9, rs9, mA9, mc9, ms9, gA9, gc9, gs9, time9, dA9, dc9, ds9, lA9, lc9, ls9⟩ : KC) (fun b => w.heap.size <= b /\ b < w'.heap.size) br bg bd bl /\ (∀ g ∈ gs9, (g.m.length <= g.c1 /\ g.c1 <= 9223372036854775807) /\ (g.b.length <= g.c2 /\ g.c2 <= 9223372036854775807)) /\ Below w.heap.size w w' := by
 refine (l6Copy_any rA rc rs mA mc ms gA gc gs time dA dc ds lA lc ls (by have := hlen.rl; simp only at this; omega) (by have := hlen.ml; simp only at this; omega) (by have := hlen.gl; simp only at this; omega) (by have := hlen.dl; simp only at this; omega) (by have := hlen.ll; simp only at this; omega)
  (fun y hy => by have := hlen.ri y hy; omega) (fun y hy => by have := hlen.mi y hy; omega) (fun y hy => by have := hlen.gi y hy; omega) hlen.rl.1 (by have := hlen.gl; simp only at this; omega) (by have := hlen.dl; simp only at this; omega) (by have := hlen.ll; simp only at this; omega) w hx).mono ?_
 rintro e w' ⟨y, br, bg, bd, bl, he, hp, hq, hc, g⟩
 obtain (⟨rA9, rc9, rs9, mA9, mc9, ms9, gA9, gc9, gs9, time9, dA9, dc9, ds9, lA9, lc9, ls9⟩ : KC) := y
 exact ⟨_, _, _, _, _, _, _, _, _, _, _, _, _, _, _, _, br, bg, bd, bl, he, hp, hq, hc, g⟩
theorem l6Do_none (ro wi le ke : Int) (rA : Option Addr) (rc : Nat) (rs : List RC) (mA : Option Addr) (mc : Nat) (ms : List MC) (gA : Option Addr) (gc : Nat) (gs : List GC) (time : Int) (dA : Option Addr) (dc : Nat) (ds : List Int) (lA : Option Addr) (lc : Nat) (ls : List An) (who seq op ca cb cc : Int) (key text : ByteArray) (hlen : KLen (⟨rA, rc, rs, mA, mc, ms, gA, gc, gs, time, dA, dc, ds, lA, lc, ls⟩ : KC)) (w : World) (hx : KAt w (⟨rA, rc, rs, mA, mc, ms, gA, gc, gs, time, dA, dc, ds, lA, lc, ls⟩ : KC)) (hw : who < 0) :
 Calls Tryz.prog 80 #[.agg (Qan ro wi le ke), .agg (Qaa rA rs.length rc mA ms.length mc gA gs.length gc time dA ds.length dc lA ls.length lc), .agg (Qad who seq op ca cb cc key text)] w fun e w' => Qbu (fun _ => False) w w' e (KC.p (⟨rA, rc, rs, mA, mc, ms, gA, gc, gs, time, dA, dc, ds, lA, lc, ls⟩ : KC)) ⟨0, 0, ⟨#[]⟩, ⟨#[]⟩⟩ := by
 have HCP : Hid (∀ W : World, Below w.heap.size w W -> Calls Tryz.prog 85 #[.agg (Qaa rA rs.length rc mA ms.length mc gA gs.length gc time dA ds.length dc lA ls.length lc)] W fun e w' => ∃ (rA9 : Option Addr) (rc9 : Nat) (rs9 : List RC) (mA9 : Option Addr) (mc9 : Nat) (ms9 : List MC) (gA9 : Option Addr) (gc9 : Nat) (gs9 : List GC) (time9 : Int) (dA9 : Option Addr) (dc9 : Nat) (ds9 : List Int) (lA9 : Option Addr) (lc9 : Nat) (ls9 : List An) (br bg bd bl : Nat), e = .returned (.agg (Qaa rA9 rs9.length rc9 mA9 ms9.length mc9 gA9 gs9.length gc9 time9 dA9 ds9.length dc9 lA9 ls9.length lc9)) /\ KC.p (⟨rA9, rc9, rs9, mA9, mc9, ms9, gA9, gc9, gs9, time9, dA9, dc9, ds9, lA9, lc9, ls9⟩ : KC) = KC.p (⟨rA, rc, rs, mA, mc, ms, gA, gc, gs, time, dA, dc, ds, lA, lc, ls⟩ : KC) /\ KQ w' (⟨rA9, rc9, rs9, mA9, mc9, ms9, gA9, gc9, gs9, time9, dA9, dc9, ds9, lA9, lc9, ls9⟩ : KC) (fun b => W.heap.size <= b /\ b < w'.heap.size) br bg bd bl /\ (∀ g ∈ gs9, (g.m.length <= g.c1 /\ g.c1 <= 9223372036854775807) /\ (g.b.length <= g.c2 /\ g.c2 <= 9223372036854775807)) /\ Below W.heap.size W w') := fun W g => copyQ rA rc rs mA mc ms gA gc gs time dA dc ds lA lc ls hlen W (hx.below g)
 clear hlen hx
 obtain ⟨I0, S0, B0⟩ := Qa2 ro wi le ke rA rc rs mA mc ms gA gc gs time dA dc ds lA lc ls who seq op ca cb cc key text (fun _ => False) w (fun _ h => h.elim)
 go_enter Tryz.func80, Tryz.ntmps80
 go_upto_region 1 with fail
 generalize ((((w.alloc (.cells (Qan ro wi le ke) 84)).alloc (.cells (Qaa rA rs.length rc mA ms.length mc gA gs.length gc time dA ds.length dc lA ls.length lc) 90)).alloc (.cells (Qad who seq op ca cb cc key text) 105)).alloc (.cells Qab 90)).alloc (.cells Qai 130) = X0 at I0 S0 B0 ⊢
 have l0 : w.heap.size + 1 + 1 + 1 + 1 < X0.heap.size := I0.r2.lt
 obtain ⟨k0, k1, k2, k3, k4, k5⟩ := I0.k.row6
 obtain ⟨c0, c1, c2, c3, c4, c5, c6, c7⟩ := I0.c.row8c
 go_wp2_with fail
 clear k0 k1 k2 k3 k4 k5 c0 c1 c2 c3 c4 c5 c6 c7
 refine (HCP.out _ B0).mono ?_
 rintro e w1 ⟨rA9, rc9, rs9, mA9, mc9, ms9, gA9, gc9, gs9, time9, dA9, dc9, ds9, lA9, lc9, ls9, br, bg, bd, bl, rfl, hp, hq, _, g1⟩
 have I1 := I0.below g1
 have Q1 := hidP (hq.mono (S' := fun b => False ∨ (w.heap.size <= b /\ b ≠ (w.heap.size + 1 + 1 + 1) /\ b ≠ (w.heap.size + 1 + 1 + 1 + 1))) (fun b _ hb => .inr (by omega)))
 have Hp := hidP hp
 clear I0 S0 B0 HCP hp hq g1
 have TT := hidP (Bx.told I1 (y := (⟨rA9, rc9, rs9, mA9, mc9, ms9, gA9, gc9, gs9, time9, dA9, dc9, ds9, lA9, lc9, ls9⟩ : KC)) (br := br) (bg := bg) (bd := bd) (bl := bl) (Q1.out) (⟨(0), (0), (⟨#[]⟩), (⟨#[]⟩)⟩ : An) (hv := rfl))
 obtain ⟨z0, z1, z2, z3, z4, z5⟩ := I1.r1.row6
 have f0 := I1.r1.thaw 0; have f1 := I1.r1.thaw 1; have f2 := I1.r1.thaw 2; have f3 := I1.r1.thaw 3; have f4 := I1.r1.thaw 4; have f5 := I1.r1.thaw 5
 obtain ⟨k0, k1, k2, k3, k4, k5⟩ := I1.k.row6
 have R2 := I1.r2.only (Qac _ (w.heap.size + 1 + 1 + 1) (.slice rA9 rs9.length rc9) (.slice mA9 ms9.length mc9) (.slice gA9 gs9.length gc9) (.int .i64 time9) (.slice dA9 ds9.length dc9) (.slice lA9 ls9.length lc9)) (fun e => I1.ne.2.2.2.2.2 e.symm)
 obtain ⟨y0, y1, y2, y3⟩ := R2.row4
 have ee0 := R2.thaw 0; have ee1 := R2.thaw 1; have ee2 := R2.thaw 2; have ee3 := R2.thaw 3
 have C1 := Qat I1.r1 (.slice rA9 rs9.length rc9) (.slice mA9 ms9.length mc9) (.slice gA9 gs9.length gc9) (.int .i64 time9) (.slice dA9 ds9.length dc9) (.slice lA9 ls9.length lc9)
 have B1 := (Qax I1.r1 (.slice rA9 rs9.length rc9) (.slice mA9 ms9.length mc9) (.slice gA9 gs9.length gc9) (.int .i64 time9) (.slice dA9 ds9.length dc9) (.slice lA9 ls9.length lc9)).only (Qah _ (w.heap.size + 1 + 1 + 1 + 1) (.int .i64 (0)) (.int .i64 (0)) (.string ⟨#[]⟩) (.string ⟨#[]⟩)) (fun e => I1.ne.2.2.2.2.2 e)
 have C2 := Qau R2 (.int .i64 (0)) (.int .i64 (0)) (.string ⟨#[]⟩) (.string ⟨#[]⟩)
 obtain ⟨s0, s1, s2, s3, s4, s5⟩ := C1
 obtain ⟨t0, t1, t2, t3⟩ := C2
 obtain ⟨q0, q1, q2, q3, q4, q5⟩ := B1.row6
 have hne12 : (w.heap.size + 1 + 1 + 1) ≠ (w.heap.size + 1 + 1 + 1 + 1) := I1.ne.2.2.2.2.2
 have hne21 : (w.heap.size + 1 + 1 + 1 + 1) ≠ (w.heap.size + 1 + 1 + 1) := fun e => I1.ne.2.2.2.2.2 e.symm
 go_wp2
 exact bodyPost_ret (v := .tuple #[.agg (Qaa rA9 rs9.length rc9 mA9 ms9.length mc9 gA9 gs9.length gc9 time9 dA9 ds9.length dc9 lA9 ls9.length lc9), .agg (Qas (0) (0) ⟨#[]⟩ ⟨#[]⟩)]) (by simp [results, Tryz.results80, go_sem, s0, s1, s2, s3, s4, s5, t0, t1, t2, t3, q0, q1, q2, q3, q4, q5]) rfl (Hp.out ▸ TT.out)
theorem l6Do_old (ro wi le ke : Int) (rA : Option Addr) (rc : Nat) (rs : List RC) (mA : Option Addr) (mc : Nat) (ms : List MC) (gA : Option Addr) (gc : Nat) (gs : List GC) (time : Int) (dA : Option Addr) (dc : Nat) (ds : List Int) (lA : Option Addr) (lc : Nat) (ls : List An) (q : Nat) (hq : q < 4) (seq op ca cb cc : Int) (key text : ByteArray) (hlen : KLen (⟨rA, rc, rs, mA, mc, ms, gA, gc, gs, time, dA, dc, ds, lA, lc, ls⟩ : KC)) (w : World) (hx : KAt w (⟨rA, rc, rs, mA, mc, ms, gA, gc, gs, time, dA, dc, ds, lA, lc, ls⟩ : KC)) (hs : seq <= ds.getD q 0) :
 Calls Tryz.prog 80 #[.agg (Qan ro wi le ke), .agg (Qaa rA rs.length rc mA ms.length mc gA gs.length gc time dA ds.length dc lA ls.length lc), .agg (Qad (q : Int) seq op ca cb cc key text)] w fun e w' => Qbu (fun _ => False) w w' e (KC.p (⟨rA, rc, rs, mA, mc, ms, gA, gc, gs, time, dA, dc, ds, lA, lc, ls⟩ : KC)) (ls.getD q zAn) := by
 have HCP : Hid (∀ W : World, Below w.heap.size w W -> Calls Tryz.prog 85 #[.agg (Qaa rA rs.length rc mA ms.length mc gA gs.length gc time dA ds.length dc lA ls.length lc)] W fun e w' => ∃ (rA9 : Option Addr) (rc9 : Nat) (rs9 : List RC) (mA9 : Option Addr) (mc9 : Nat) (ms9 : List MC) (gA9 : Option Addr) (gc9 : Nat) (gs9 : List GC) (time9 : Int) (dA9 : Option Addr) (dc9 : Nat) (ds9 : List Int) (lA9 : Option Addr) (lc9 : Nat) (ls9 : List An) (br bg bd bl : Nat), e = .returned (.agg (Qaa rA9 rs9.length rc9 mA9 ms9.length mc9 gA9 gs9.length gc9 time9 dA9 ds9.length dc9 lA9 ls9.length lc9)) /\ KC.p (⟨rA9, rc9, rs9, mA9, mc9, ms9, gA9, gc9, gs9, time9, dA9, dc9, ds9, lA9, lc9, ls9⟩ : KC) = KC.p (⟨rA, rc, rs, mA, mc, ms, gA, gc, gs, time, dA, dc, ds, lA, lc, ls⟩ : KC) /\ KQ w' (⟨rA9, rc9, rs9, mA9, mc9, ms9, gA9, gc9, gs9, time9, dA9, dc9, ds9, lA9, lc9, ls9⟩ : KC) (fun b => W.heap.size <= b /\ b < w'.heap.size) br bg bd bl /\ (∀ g ∈ gs9, (g.m.length <= g.c1 /\ g.c1 <= 9223372036854775807) /\ (g.b.length <= g.c2 /\ g.c2 <= 9223372036854775807)) /\ Below W.heap.size W w') := fun W g => copyQ rA rc rs mA mc ms gA gc gs time dA dc ds lA lc ls hlen W (hx.below g)
 have hqd : q < ds.length := by have := hlen.dl; simp only at this; omega
 have hql : q < ls.length := by have := hlen.ll; simp only at this; omega
 obtain ⟨b7, o7, hdA, hb7, hi7⟩ : ∃ b o, dA = some ⟨b, o, none⟩ /\ b < w.heap.size /\ In w b o ds := by
  rcases hx.da with h | h
  . simp only at h; subst h; simp at hqd
  . exact h
 obtain ⟨b9, o9, hlA, hb9, hi9⟩ : ∃ b o, lA = some ⟨b, o, none⟩ /\ b < w.heap.size /\ In w b o ls := by
  rcases hx.la with h | h
  . simp only at h; subst h; simp at hql
  . exact h
 have hqz7 : (q : Int) < (ds.length : Int) := by omega
 have hqz9 : (q : Int) < (ls.length : Int) := by omega
 subst hdA
 subst hlA
 have HD : Hid (∀ W : World, Below w.heap.size w W -> W.cell? ⟨b7, o7 + q, none⟩ = some (.int .i64 (ds.getD q 0))) := fun W g => by
  have h := (hi7.below hb7 g).cell q hqd (f := 0) (v := .int .i64 ds[q]) (by simp [Cel.cs])
  simpa [Cel.k, hqd] using h
 generalize ds.getD q 0 = dq at HD hs
 have HL : Hid (∀ W : World, Below w.heap.size w W -> W.cell? ⟨b9, o9 + q * 4, none⟩ = some (.int .i64 (ls.getD q zAn).code) /\ W.cell? ⟨b9, o9 + q * 4 + 1, none⟩ = some (.int .i64 (ls.getD q zAn).n) /\ W.cell? ⟨b9, o9 + q * 4 + 2, none⟩ = some (.string (ls.getD q zAn).key) /\ W.cell? ⟨b9, o9 + q * 4 + 3, none⟩ = some (.string (ls.getD q zAn).text)) := fun W g => by
  have e : ls.getD q zAn = ls[q] := by simp [hql]
  rw [e]
  have h := (hi9.below hb9 g)
  exact ⟨h.cell q hql (f := 0) rfl, h.cell q hql (f := 1) rfl, h.cell q hql (f := 2) rfl, h.cell q hql (f := 3) rfl⟩
 generalize ls.getD q zAn = la at HL ⊢
 obtain ⟨ac, aN, ak, ax⟩ := la
 simp only at HL
 clear hlen hx
 obtain ⟨I0, S0, B0⟩ := Qa2 ro wi le ke rA rc rs mA mc ms gA gc gs time (some ⟨b7, o7, none⟩) dc ds (some ⟨b9, o9, none⟩) lc ls (q : Int) seq op ca cb cc key text (fun _ => False) w (fun _ h => h.elim)
 go_enter Tryz.func80, Tryz.ntmps80
 go_upto_region 1 with fail
 generalize ((((w.alloc (.cells (Qan ro wi le ke) 84)).alloc (.cells (Qaa rA rs.length rc mA ms.length mc gA gs.length gc time (some ⟨b7, o7, none⟩) ds.length dc (some ⟨b9, o9, none⟩) ls.length lc) 90)).alloc (.cells (Qad (q : Int) seq op ca cb cc key text) 105)).alloc (.cells Qab 90)).alloc (.cells Qai 130) = X0 at I0 S0 B0 ⊢
 have l0 : w.heap.size + 1 + 1 + 1 + 1 < X0.heap.size := I0.r2.lt
 obtain ⟨k0, k1, k2, k3, k4, k5⟩ := I0.k.row6
 obtain ⟨c0, c1, c2, c3, c4, c5, c6, c7⟩ := I0.c.row8c
 have hq0 : (0 : Int) <= (q : Int) := by omega
 have hq4 : (q : Int) < 4 := by omega
 have nq0 : ¬ (q : Int) < 0 := by omega
 go_upto_region 3 with fail
 have d7 : X0.drew.cell? ⟨b7, o7 + q, none⟩ = some (.int .i64 dq) := HD.out _ B0.drew
 refine wp_region_noPanic ?_
 refine wp_region_held_drew (S := (fun (V : World) => V.cell? ⟨(w.heap.size + 1 + 1), 1, none⟩ = some (.int .i64 seq) /\ V.cell? ⟨(w.heap.size + 1), 4, none⟩ = some (.slice (some ⟨b7, o7, none⟩) ds.length dc) /\ V.cell? ⟨(w.heap.size + 1 + 1), 0, none⟩ = some (.int .i64 (q : Int)) /\ V.cell? ⟨b7, o7 + q, none⟩ = some (.int .i64 dq))) (by kernel_rfl) ?_ (fun hH => ?_)
 . exact ⟨c1, k4, c0, d7⟩
 refine ztk [0,1,2,3,4,5,6,7,8] ?_; repeat (refine ztn (h := ?_); try simp only [zX,zY])
 refine zte ?_
 refine zdn ?_
 go_upto_region 4 with fail
 clear k0 k1 k2 k3 k4 k5 c0 c1 c2 c3 c4 c5 c6 c7 d7
 have P : Ds w X0.drew.drew (w.heap.size + 1) (w.heap.size + 1 + 1) (w.heap.size + 1 + 1 + 1) (w.heap.size + 1 + 1 + 1 + 1) (Qaa rA rs.length rc mA ms.length mc gA gs.length gc time (some ⟨b7, o7, none⟩) ds.length dc (some ⟨b9, o9, none⟩) ls.length lc) (Qad (q : Int) seq op ca cb cc key text) (Qan ro wi le ke) := Ds.drew (Ds.drew ⟨I0, S0, B0⟩)
 have mkS : ∀ V : World, Ds w V (w.heap.size + 1) (w.heap.size + 1 + 1) (w.heap.size + 1 + 1 + 1) (w.heap.size + 1 + 1 + 1 + 1) (Qaa rA rs.length rc mA ms.length mc gA gs.length gc time (some ⟨b7, o7, none⟩) ds.length dc (some ⟨b9, o9, none⟩) ls.length lc) (Qad (q : Int) seq op ca cb cc key text) (Qan ro wi le ke) -> (fun (V : World) => V.cell? ⟨(w.heap.size + 1), 0, none⟩ = some (.slice rA rs.length rc) /\ V.cell? ⟨(w.heap.size + 1), 1, none⟩ = some (.slice mA ms.length mc) /\ V.cell? ⟨(w.heap.size + 1), 2, none⟩ = some (.slice gA gs.length gc) /\ V.cell? ⟨(w.heap.size + 1), 3, none⟩ = some (.int .i64 time) /\ V.cell? ⟨(w.heap.size + 1), 4, none⟩ = some (.slice (some ⟨b7, o7, none⟩) ds.length dc) /\ V.cell? ⟨(w.heap.size + 1), 5, none⟩ = some (.slice (some ⟨b9, o9, none⟩) ls.length lc) /\ V.cell? ⟨(w.heap.size + 1 + 1), 0, none⟩ = some (.int .i64 (q : Int)) /\ V.cell? ⟨b9, o9 + q * 4, none⟩ = some (.int .i64 ac) /\ V.cell? ⟨b9, o9 + q * 4 + 1, none⟩ = some (.int .i64 aN) /\ V.cell? ⟨b9, o9 + q * 4 + 2, none⟩ = some (.string ak) /\ V.cell? ⟨b9, o9 + q * 4 + 3, none⟩ = some (.string ax)) V := fun V p => by
  obtain ⟨a0, a1, a2, a3, a4, a5⟩ := p.bx.k.row6
  obtain ⟨d0, d1, d2, d3, d4, d5, d6, d7⟩ := p.bx.c.row8c
  obtain ⟨n0, n1, n2, n3⟩ := HL.out V p.bl
  exact ⟨a0, a1, a2, a3, a4, a5, d0, n0, n1, n2, n3⟩
 clear I0 S0 B0
 refine wp_region_noPanic ?_
 refine wp_region_held_drew (S := (fun (V : World) => V.cell? ⟨(w.heap.size + 1), 0, none⟩ = some (.slice rA rs.length rc) /\ V.cell? ⟨(w.heap.size + 1), 1, none⟩ = some (.slice mA ms.length mc) /\ V.cell? ⟨(w.heap.size + 1), 2, none⟩ = some (.slice gA gs.length gc) /\ V.cell? ⟨(w.heap.size + 1), 3, none⟩ = some (.int .i64 time) /\ V.cell? ⟨(w.heap.size + 1), 4, none⟩ = some (.slice (some ⟨b7, o7, none⟩) ds.length dc) /\ V.cell? ⟨(w.heap.size + 1), 5, none⟩ = some (.slice (some ⟨b9, o9, none⟩) ls.length lc) /\ V.cell? ⟨(w.heap.size + 1 + 1), 0, none⟩ = some (.int .i64 (q : Int)) /\ V.cell? ⟨b9, o9 + q * 4, none⟩ = some (.int .i64 ac) /\ V.cell? ⟨b9, o9 + q * 4 + 1, none⟩ = some (.int .i64 aN) /\ V.cell? ⟨b9, o9 + q * 4 + 2, none⟩ = some (.string ak) /\ V.cell? ⟨b9, o9 + q * 4 + 3, none⟩ = some (.string ax))) (by kernel_rfl) ?_ (fun hH => ?_)
 . exact mkS _ P
 refine ztk [0,2,3,4,5,6,7] ?_; repeat (refine ztn (hS := hH) (h := ?_); try simp only [zX,zY])
 refine zte ?_
 refine zR1 1 (fun K hK => ?_)
 simp only [zG]
 go_simp
 refine (HCP.out _ P.bl).mono ?_; rintro e w1 ⟨rA9, rc9, rs9, mA9, mc9, ms9, gA9, gc9, gs9, time9, dA9, dc9, ds9, lA9, lc9, ls9, br, bg, bd, bl, rfl, hp, hq9, _, g1⟩; have J : Bx (fun _ => False) w w1 (w.heap.size + 1) (w.heap.size + 1 + 1) (w.heap.size + 1 + 1 + 1) (w.heap.size + 1 + 1 + 1 + 1) (Qaa rA rs.length rc mA ms.length mc gA gs.length gc time (some ⟨b7, o7, none⟩) ds.length dc (some ⟨b9, o9, none⟩) ls.length lc) (Qad (q : Int) seq op ca cb cc key text) := P.bx.below g1; have P1' := P.below g1; have Q1 := hidP (hq9.mono (S' := fun b => False ∨ (w.heap.size <= b /\ b ≠ (w.heap.size + 1 + 1 + 1) /\ b ≠ (w.heap.size + 1 + 1 + 1 + 1))) (fun b _ hb => .inr (by have h9 : X0.heap.size <= b := hb.1; omega))); have Hp := hidP hp; clear hp hq9
 refine hK.out _ _ (mkS _ P1') fun hH => ?_; clear hK K; try simp only [zX,zY]
 have TT := hidP (Bx.told J (y := (⟨rA9, rc9, rs9, mA9, mc9, ms9, gA9, gc9, gs9, time9, dA9, dc9, ds9, lA9, lc9, ls9⟩ : KC)) (br := br) (bg := bg) (bd := bd) (bl := bl) (Q1.out) (⟨(ac), (aN), (ak), (ax)⟩ : An) (hv := rfl))
 obtain ⟨z0, z1, z2, z3, z4, z5⟩ := J.r1.row6
 have f0 := J.r1.thaw 0; have f1 := J.r1.thaw 1; have f2 := J.r1.thaw 2; have f3 := J.r1.thaw 3; have f4 := J.r1.thaw 4; have f5 := J.r1.thaw 5
 obtain ⟨k0, k1, k2, k3, k4, k5⟩ := J.k.row6
 have R2 := J.r2.only (Qac _ (w.heap.size + 1 + 1 + 1) (.slice rA9 rs9.length rc9) (.slice mA9 ms9.length mc9) (.slice gA9 gs9.length gc9) (.int .i64 time9) (.slice dA9 ds9.length dc9) (.slice lA9 ls9.length lc9)) (fun e => J.ne.2.2.2.2.2 e.symm)
 obtain ⟨y0, y1, y2, y3⟩ := R2.row4
 have ee0 := R2.thaw 0; have ee1 := R2.thaw 1; have ee2 := R2.thaw 2; have ee3 := R2.thaw 3
 have C1 := Qat J.r1 (.slice rA9 rs9.length rc9) (.slice mA9 ms9.length mc9) (.slice gA9 gs9.length gc9) (.int .i64 time9) (.slice dA9 ds9.length dc9) (.slice lA9 ls9.length lc9)
 have B1 := (Qax J.r1 (.slice rA9 rs9.length rc9) (.slice mA9 ms9.length mc9) (.slice gA9 gs9.length gc9) (.int .i64 time9) (.slice dA9 ds9.length dc9) (.slice lA9 ls9.length lc9)).only (Qah _ (w.heap.size + 1 + 1 + 1 + 1) (.int .i64 (ac)) (.int .i64 (aN)) (.string ak) (.string ax)) (fun e => J.ne.2.2.2.2.2 e)
 have C2 := Qau R2 (.int .i64 (ac)) (.int .i64 (aN)) (.string ak) (.string ax)
 obtain ⟨s0, s1, s2, s3, s4, s5⟩ := C1
 obtain ⟨t0, t1, t2, t3⟩ := C2
 obtain ⟨q0, q1, q2, q3, q4, q5⟩ := B1.row6
 have hne12 : (w.heap.size + 1 + 1 + 1) ≠ (w.heap.size + 1 + 1 + 1 + 1) := J.ne.2.2.2.2.2
 have hne21 : (w.heap.size + 1 + 1 + 1 + 1) ≠ (w.heap.size + 1 + 1 + 1) := fun e => J.ne.2.2.2.2.2 e.symm
 have SK : Hid ((fun (V : World) => V.cell? ⟨(w.heap.size + 1), 0, none⟩ = some (.slice rA rs.length rc) /\ V.cell? ⟨(w.heap.size + 1), 1, none⟩ = some (.slice mA ms.length mc) /\ V.cell? ⟨(w.heap.size + 1), 2, none⟩ = some (.slice gA gs.length gc) /\ V.cell? ⟨(w.heap.size + 1), 3, none⟩ = some (.int .i64 time) /\ V.cell? ⟨(w.heap.size + 1), 4, none⟩ = some (.slice (some ⟨b7, o7, none⟩) ds.length dc) /\ V.cell? ⟨(w.heap.size + 1), 5, none⟩ = some (.slice (some ⟨b9, o9, none⟩) ls.length lc) /\ V.cell? ⟨(w.heap.size + 1 + 1), 0, none⟩ = some (.int .i64 (q : Int)) /\ V.cell? ⟨b9, o9 + q * 4, none⟩ = some (.int .i64 ac) /\ V.cell? ⟨b9, o9 + q * 4 + 1, none⟩ = some (.int .i64 aN) /\ V.cell? ⟨b9, o9 + q * 4 + 2, none⟩ = some (.string ak) /\ V.cell? ⟨b9, o9 + q * 4 + 3, none⟩ = some (.string ax)) (putK w1 (w.heap.size + 1 + 1 + 1) (.slice rA9 rs9.length rc9) (.slice mA9 ms9.length mc9) (.slice gA9 gs9.length gc9) (.int .i64 time9) (.slice dA9 ds9.length dc9) (.slice lA9 ls9.length lc9))) := (by obtain ⟨a0, a1, a2, a3, a4, a5⟩ := (J.k.only (Qac w1 (w.heap.size + 1 + 1 + 1) (.slice rA9 rs9.length rc9) (.slice mA9 ms9.length mc9) (.slice gA9 gs9.length gc9) (.int .i64 time9) (.slice dA9 ds9.length dc9) (.slice lA9 ls9.length lc9)) J.ne.2.1).row6; obtain ⟨d0, d1, d2, d3, d4, d5, d6, d7⟩ := (J.c.only (Qac w1 (w.heap.size + 1 + 1 + 1) (.slice rA9 rs9.length rc9) (.slice mA9 ms9.length mc9) (.slice gA9 gs9.length gc9) (.int .i64 time9) (.slice dA9 ds9.length dc9) (.slice lA9 ls9.length lc9)) J.ne.2.2.2.1).row8c; obtain ⟨n0, n1, n2, n3⟩ := HL.out w1 P1'.bl; have hb1 : b9 < w1.heap.size := Nat.lt_of_lt_of_le hb9 P1'.bl.size; have hbn : b9 ≠ (w.heap.size + 1 + 1 + 1) := (by omega); have kk := Qac w1 (w.heap.size + 1 + 1 + 1) (.slice rA9 rs9.length rc9) (.slice mA9 ms9.length mc9) (.slice gA9 gs9.length gc9) (.int .i64 time9) (.slice dA9 ds9.length dc9) (.slice lA9 ls9.length lc9); exact ⟨a0, a1, a2, a3, a4, a5, d0, (kk.cell (p := ⟨b9, o9 + q * 4, none⟩) hb1 hbn).trans n0, (kk.cell (p := ⟨b9, o9 + q * 4 + 1, none⟩) hb1 hbn).trans n1, (kk.cell (p := ⟨b9, o9 + q * 4 + 2, none⟩) hb1 hbn).trans n2, (kk.cell (p := ⟨b9, o9 + q * 4 + 3, none⟩) hb1 hbn).trans n3⟩)
 have SN : Hid ((fun (V : World) => V.cell? ⟨(w.heap.size + 1), 0, none⟩ = some (.slice rA rs.length rc) /\ V.cell? ⟨(w.heap.size + 1), 1, none⟩ = some (.slice mA ms.length mc) /\ V.cell? ⟨(w.heap.size + 1), 2, none⟩ = some (.slice gA gs.length gc) /\ V.cell? ⟨(w.heap.size + 1), 3, none⟩ = some (.int .i64 time) /\ V.cell? ⟨(w.heap.size + 1), 4, none⟩ = some (.slice (some ⟨b7, o7, none⟩) ds.length dc) /\ V.cell? ⟨(w.heap.size + 1), 5, none⟩ = some (.slice (some ⟨b9, o9, none⟩) ls.length lc) /\ V.cell? ⟨(w.heap.size + 1 + 1), 0, none⟩ = some (.int .i64 (q : Int)) /\ V.cell? ⟨b9, o9 + q * 4, none⟩ = some (.int .i64 ac) /\ V.cell? ⟨b9, o9 + q * 4 + 1, none⟩ = some (.int .i64 aN) /\ V.cell? ⟨b9, o9 + q * 4 + 2, none⟩ = some (.string ak) /\ V.cell? ⟨b9, o9 + q * 4 + 3, none⟩ = some (.string ax)) (putN (putK w1 (w.heap.size + 1 + 1 + 1) (.slice rA9 rs9.length rc9) (.slice mA9 ms9.length mc9) (.slice gA9 gs9.length gc9) (.int .i64 time9) (.slice dA9 ds9.length dc9) (.slice lA9 ls9.length lc9)) (w.heap.size + 1 + 1 + 1 + 1) (.int .i64 (ac)) (.int .i64 (aN)) (.string ak) (.string ax))) := (by obtain ⟨a0, a1, a2, a3, a4, a5⟩ := ((J.k.only (Qac w1 (w.heap.size + 1 + 1 + 1) (.slice rA9 rs9.length rc9) (.slice mA9 ms9.length mc9) (.slice gA9 gs9.length gc9) (.int .i64 time9) (.slice dA9 ds9.length dc9) (.slice lA9 ls9.length lc9)) J.ne.2.1).only (Qah _ (w.heap.size + 1 + 1 + 1 + 1) (.int .i64 (ac)) (.int .i64 (aN)) (.string ak) (.string ax)) J.ne.2.2.1).row6; obtain ⟨d0, d1, d2, d3, d4, d5, d6, d7⟩ := ((J.c.only (Qac w1 (w.heap.size + 1 + 1 + 1) (.slice rA9 rs9.length rc9) (.slice mA9 ms9.length mc9) (.slice gA9 gs9.length gc9) (.int .i64 time9) (.slice dA9 ds9.length dc9) (.slice lA9 ls9.length lc9)) J.ne.2.2.2.1).only (Qah _ (w.heap.size + 1 + 1 + 1 + 1) (.int .i64 (ac)) (.int .i64 (aN)) (.string ak) (.string ax)) J.ne.2.2.2.2.1).row8c; obtain ⟨n0, n1, n2, n3⟩ := HL.out w1 P1'.bl; have hb1 : b9 < w1.heap.size := Nat.lt_of_lt_of_le hb9 P1'.bl.size; have hbn : b9 ≠ (w.heap.size + 1 + 1 + 1) := (by omega); have hbm : b9 ≠ (w.heap.size + 1 + 1 + 1 + 1) := (by omega); have kk := Qac w1 (w.heap.size + 1 + 1 + 1) (.slice rA9 rs9.length rc9) (.slice mA9 ms9.length mc9) (.slice gA9 gs9.length gc9) (.int .i64 time9) (.slice dA9 ds9.length dc9) (.slice lA9 ls9.length lc9); have k2 := Qah (putK w1 (w.heap.size + 1 + 1 + 1) (.slice rA9 rs9.length rc9) (.slice mA9 ms9.length mc9) (.slice gA9 gs9.length gc9) (.int .i64 time9) (.slice dA9 ds9.length dc9) (.slice lA9 ls9.length lc9)) (w.heap.size + 1 + 1 + 1 + 1) (.int .i64 (ac)) (.int .i64 (aN)) (.string ak) (.string ax); have hb2 := Nat.lt_of_lt_of_le hb1 kk.size; exact ⟨a0, a1, a2, a3, a4, a5, d0, (k2.cell (p := ⟨b9, o9 + q * 4, none⟩) hb2 hbm).trans ((kk.cell (p := ⟨b9, o9 + q * 4, none⟩) hb1 hbn).trans n0), (k2.cell (p := ⟨b9, o9 + q * 4 + 1, none⟩) hb2 hbm).trans ((kk.cell (p := ⟨b9, o9 + q * 4 + 1, none⟩) hb1 hbn).trans n1), (k2.cell (p := ⟨b9, o9 + q * 4 + 2, none⟩) hb2 hbm).trans ((kk.cell (p := ⟨b9, o9 + q * 4 + 2, none⟩) hb1 hbn).trans n2), (k2.cell (p := ⟨b9, o9 + q * 4 + 3, none⟩) hb2 hbm).trans ((kk.cell (p := ⟨b9, o9 + q * 4 + 3, none⟩) hb1 hbn).trans n3)⟩)
 clear mkS Q1
 refine zR1 8 (fun K hK => ?_)
 simp only [zG]
 go_simp
 skip
 refine hK.out _ _ SK.out fun hH => ?_; clear hK K; try simp only [zX,zY]
 refine zR1 9 (fun K hK => ?_)
 simp only [zG]
 go_simp
 skip
 refine hK.out _ _ SN.out fun hH => ?_; clear hK K; try simp only [zX,zY]
 refine zdn ?_
 go_wp2
 exact bodyPost_ret (v := .tuple #[.agg (Qaa rA9 rs9.length rc9 mA9 ms9.length mc9 gA9 gs9.length gc9 time9 dA9 ds9.length dc9 lA9 ls9.length lc9), .agg (Qas ac aN ak ax)]) (by simp [results, Tryz.results80, go_sem, s0, s1, s2, s3, s4, s5, t0, t1, t2, t3, q0, q1, q2, q3, q4, q5]) rfl (Hp.out ▸ TT.out)
theorem l6Do_new (ro wi le ke : Int) (rA : Option Addr) (rc : Nat) (rs : List RC) (mA : Option Addr) (mc : Nat) (ms : List MC) (gA : Option Addr) (gc : Nat) (gs : List GC) (time : Int) (dA : Option Addr) (dc : Nat) (ds : List Int) (lA : Option Addr) (lc : Nat) (ls : List An) (q : Nat) (hq : q < 4) (seq op ca cb cc : Int) (key text : ByteArray) (hlen : KLen (⟨rA, rc, rs, mA, mc, ms, gA, gc, gs, time, dA, dc, ds, lA, lc, ls⟩ : KC)) (w : World) (hx : KAt w (⟨rA, rc, rs, mA, mc, ms, gA, gc, gs, time, dA, dc, ds, lA, lc, ls⟩ : KC)) (hs : ¬ seq <= ds.getD q 0) (p : PK) (ac aN : Int) (ak ax : ByteArray) (hd4 : p.ds.length = 4) (hl4 : p.ls.length = 4)
 (hnew : ∀ (rA9 : Option Addr) (rc9 : Nat) (rs9 : List RC) (mA9 : Option Addr) (mc9 : Nat) (ms9 : List MC) (gA9 : Option Addr) (gc9 : Nat) (gs9 : List GC) (time9 : Int) (dA9 : Option Addr) (dc9 : Nat) (ds9 : List Int) (lA9 : Option Addr) (lc9 : Nat) (ls9 : List An) (br bg bd bl : Nat) (S : Nat -> Prop) (W : World), KC.p (⟨rA9, rc9, rs9, mA9, mc9, ms9, gA9, gc9, gs9, time9, dA9, dc9, ds9, lA9, lc9, ls9⟩ : KC) = KC.p (⟨rA, rc, rs, mA, mc, ms, gA, gc, gs, time, dA, dc, ds, lA, lc, ls⟩ : KC) -> KQ W (⟨rA9, rc9, rs9, mA9, mc9, ms9, gA9, gc9, gs9, time9, dA9, dc9, ds9, lA9, lc9, ls9⟩ : KC) S br bg bd bl -> (∀ g ∈ gs9, (g.m.length <= g.c1 /\ g.c1 <= 9223372036854775807) /\ (g.b.length <= g.c2 /\ g.c2 <= 9223372036854775807)) -> (∀ b, S b -> b < W.heap.size) -> Calls Tryz.prog 86 #[.agg (Qan ro wi le ke), .agg (Qaa rA9 rs9.length rc9 mA9 ms9.length mc9 gA9 gs9.length gc9 time9 dA9 ds9.length dc9 lA9 ls9.length lc9), .agg (Qad (q : Int) seq op ca cb cc key text)] W fun e w' => Qbu S W w' e p ⟨ac, aN, ak, ax⟩) :
 Calls Tryz.prog 80 #[.agg (Qan ro wi le ke), .agg (Qaa rA rs.length rc mA ms.length mc gA gs.length gc time dA ds.length dc lA ls.length lc), .agg (Qad (q : Int) seq op ca cb cc key text)] w fun e w' => Qbu (fun _ => False) w w' e { p with ds := p.ds.set q seq, ls := p.ls.set q ⟨ac, aN, ak, ax⟩ } ⟨ac, aN, ak, ax⟩ := by
 have HN := hidP hnew
 have H4 := hidP (And.intro hd4 hl4)
 clear hnew hd4 hl4
 have HCP : Hid (∀ W : World, Below w.heap.size w W -> Calls Tryz.prog 85 #[.agg (Qaa rA rs.length rc mA ms.length mc gA gs.length gc time dA ds.length dc lA ls.length lc)] W fun e w' => ∃ (rA9 : Option Addr) (rc9 : Nat) (rs9 : List RC) (mA9 : Option Addr) (mc9 : Nat) (ms9 : List MC) (gA9 : Option Addr) (gc9 : Nat) (gs9 : List GC) (time9 : Int) (dA9 : Option Addr) (dc9 : Nat) (ds9 : List Int) (lA9 : Option Addr) (lc9 : Nat) (ls9 : List An) (br bg bd bl : Nat), e = .returned (.agg (Qaa rA9 rs9.length rc9 mA9 ms9.length mc9 gA9 gs9.length gc9 time9 dA9 ds9.length dc9 lA9 ls9.length lc9)) /\ KC.p (⟨rA9, rc9, rs9, mA9, mc9, ms9, gA9, gc9, gs9, time9, dA9, dc9, ds9, lA9, lc9, ls9⟩ : KC) = KC.p (⟨rA, rc, rs, mA, mc, ms, gA, gc, gs, time, dA, dc, ds, lA, lc, ls⟩ : KC) /\ KQ w' (⟨rA9, rc9, rs9, mA9, mc9, ms9, gA9, gc9, gs9, time9, dA9, dc9, ds9, lA9, lc9, ls9⟩ : KC) (fun b => W.heap.size <= b /\ b < w'.heap.size) br bg bd bl /\ (∀ g ∈ gs9, (g.m.length <= g.c1 /\ g.c1 <= 9223372036854775807) /\ (g.b.length <= g.c2 /\ g.c2 <= 9223372036854775807)) /\ Below W.heap.size W w') := fun W g => copyQ rA rc rs mA mc ms gA gc gs time dA dc ds lA lc ls hlen W (hx.below g)
 have hqd : q < ds.length := by have := hlen.dl; simp only at this; omega
 have hql : q < ls.length := by have := hlen.ll; simp only at this; omega
 obtain ⟨b7, o7, hdA, hb7, hi7⟩ : ∃ b o, dA = some ⟨b, o, none⟩ /\ b < w.heap.size /\ In w b o ds := by
  rcases hx.da with h | h
  . simp only at h; subst h; simp at hqd
  . exact h
 obtain ⟨b9, o9, hlA, hb9, hi9⟩ : ∃ b o, lA = some ⟨b, o, none⟩ /\ b < w.heap.size /\ In w b o ls := by
  rcases hx.la with h | h
  . simp only at h; subst h; simp at hql
  . exact h
 have hqz7 : (q : Int) < (ds.length : Int) := by omega
 have hqz9 : (q : Int) < (ls.length : Int) := by omega
 subst hdA
 subst hlA
 have HD : Hid (∀ W : World, Below w.heap.size w W -> W.cell? ⟨b7, o7 + q, none⟩ = some (.int .i64 (ds.getD q 0))) := fun W g => by
  have h := (hi7.below hb7 g).cell q hqd (f := 0) (v := .int .i64 ds[q]) (by simp [Cel.cs])
  simpa [Cel.k, hqd] using h
 generalize ds.getD q 0 = dq at HD hs
 clear hlen hx
 obtain ⟨I0, S0, B0⟩ := Qa2 ro wi le ke rA rc rs mA mc ms gA gc gs time (some ⟨b7, o7, none⟩) dc ds (some ⟨b9, o9, none⟩) lc ls (q : Int) seq op ca cb cc key text (fun _ => False) w (fun _ h => h.elim)
 go_enter Tryz.func80, Tryz.ntmps80
 go_upto_region 1 with fail
 generalize ((((w.alloc (.cells (Qan ro wi le ke) 84)).alloc (.cells (Qaa rA rs.length rc mA ms.length mc gA gs.length gc time (some ⟨b7, o7, none⟩) ds.length dc (some ⟨b9, o9, none⟩) ls.length lc) 90)).alloc (.cells (Qad (q : Int) seq op ca cb cc key text) 105)).alloc (.cells Qab 90)).alloc (.cells Qai 130) = X0 at I0 S0 B0 ⊢
 have l0 : w.heap.size + 1 + 1 + 1 + 1 < X0.heap.size := I0.r2.lt
 obtain ⟨k0, k1, k2, k3, k4, k5⟩ := I0.k.row6
 obtain ⟨c0, c1, c2, c3, c4, c5, c6, c7⟩ := I0.c.row8c
 have hq0 : (0 : Int) <= (q : Int) := by omega
 have nq0 : ¬ (q : Int) < 0 := by omega
 go_upto_region 3 with fail
 have d7 : X0.drew.cell? ⟨b7, o7 + q, none⟩ = some (.int .i64 dq) := HD.out _ B0.drew
 refine wp_region_noPanic ?_
 refine wp_region_held_drew (S := (fun (V : World) => V.cell? ⟨(w.heap.size + 1 + 1), 1, none⟩ = some (.int .i64 seq) /\ V.cell? ⟨(w.heap.size + 1), 4, none⟩ = some (.slice (some ⟨b7, o7, none⟩) ds.length dc) /\ V.cell? ⟨(w.heap.size + 1 + 1), 0, none⟩ = some (.int .i64 (q : Int)) /\ V.cell? ⟨b7, o7 + q, none⟩ = some (.int .i64 dq))) (by kernel_rfl) ?_ (fun hH => ?_)
 . exact ⟨c1, k4, c0, d7⟩
 refine ztk [0,1,2,3,4,5,6,7,8] ?_; repeat (refine ztn (h := ?_); try simp only [zX,zY])
 refine zte ?_
 refine zdn ?_
 go_upto_region 5 with fail
 clear k0 k1 k2 k3 k4 k5 c0 c1 c2 c3 c4 c5 c6 c7 d7
 have P : Ds w X0.drew.drew (w.heap.size + 1) (w.heap.size + 1 + 1) (w.heap.size + 1 + 1 + 1) (w.heap.size + 1 + 1 + 1 + 1) (Qaa rA rs.length rc mA ms.length mc gA gs.length gc time (some ⟨b7, o7, none⟩) ds.length dc (some ⟨b9, o9, none⟩) ls.length lc) (Qad (q : Int) seq op ca cb cc key text) (Qan ro wi le ke) := Ds.drew (Ds.drew ⟨I0, S0, B0⟩)
 have mkS : ∀ V : World, Ds w V (w.heap.size + 1) (w.heap.size + 1 + 1) (w.heap.size + 1 + 1 + 1) (w.heap.size + 1 + 1 + 1 + 1) (Qaa rA rs.length rc mA ms.length mc gA gs.length gc time (some ⟨b7, o7, none⟩) ds.length dc (some ⟨b9, o9, none⟩) ls.length lc) (Qad (q : Int) seq op ca cb cc key text) (Qan ro wi le ke) -> (fun (V : World) => V.cell? ⟨(w.heap.size + 1), 0, none⟩ = some (.slice rA rs.length rc) /\ V.cell? ⟨(w.heap.size + 1), 1, none⟩ = some (.slice mA ms.length mc) /\ V.cell? ⟨(w.heap.size + 1), 2, none⟩ = some (.slice gA gs.length gc) /\ V.cell? ⟨(w.heap.size + 1), 3, none⟩ = some (.int .i64 time) /\ V.cell? ⟨(w.heap.size + 1), 4, none⟩ = some (.slice (some ⟨b7, o7, none⟩) ds.length dc) /\ V.cell? ⟨(w.heap.size + 1), 5, none⟩ = some (.slice (some ⟨b9, o9, none⟩) ls.length lc) /\ V.cell? ⟨(w.heap.size + 1 + 1), 0, none⟩ = some (.int .i64 (q : Int)) /\ V.cell? ⟨(w.heap.size + 1 + 1), 1, none⟩ = some (.int .i64 seq) /\ V.cell? ⟨(w.heap.size + 1 + 1), 2, none⟩ = some (.int .i64 op) /\ V.cell? ⟨(w.heap.size + 1 + 1), 3, none⟩ = some (.int .i64 ca) /\ V.cell? ⟨(w.heap.size + 1 + 1), 4, none⟩ = some (.int .i64 cb) /\ V.cell? ⟨(w.heap.size + 1 + 1), 5, none⟩ = some (.int .i64 cc) /\ V.cell? ⟨(w.heap.size + 1 + 1), 6, none⟩ = some (.string key) /\ V.cell? ⟨(w.heap.size + 1 + 1), 7, none⟩ = some (.string text) /\ V.cell? ⟨w.heap.size, 0, none⟩ = some (.int .i64 ro) /\ V.cell? ⟨w.heap.size, 1, none⟩ = some (.int .i64 wi) /\ V.cell? ⟨w.heap.size, 2, none⟩ = some (.int .i64 le) /\ V.cell? ⟨w.heap.size, 3, none⟩ = some (.int .i64 ke)) V := fun V p => by
  obtain ⟨a0, a1, a2, a3, a4, a5⟩ := p.bx.k.row6
  obtain ⟨d0, d1, d2, d3, d4, d5, d6, d7⟩ := p.bx.c.row8c
  obtain ⟨n0, n1, n2, n3⟩ := p.sb.row4
  exact ⟨a0, a1, a2, a3, a4, a5, d0, d1, d2, d3, d4, d5, d6, d7, n0, n1, n2, n3⟩
 clear I0 S0 B0
 go_cut [8, 9] from 33 to 40 (fun pa pb wx => ∃ (PA PB : Nat) (rA8 : Option Addr) (rc8 : Nat) (rs8 : List RC) (mA8 : Option Addr) (mc8 : Nat) (ms8 : List MC) (gA8 : Option Addr) (gc8 : Nat) (gs8 : List GC) (time8 : Int) (dA8 : Option Addr) (dc8 : Nat) (ds8 : List Int) (lA8 : Option Addr) (lc8 : Nat) (ls8 : List An) (ur ug ud ul : Nat), pa = .pointer (some ⟨PA, 0, none⟩) /\ pb = .pointer (some ⟨PB, 0, none⟩) /\ Ds w wx (w.heap.size + 1) (w.heap.size + 1 + 1) (w.heap.size + 1 + 1 + 1) (w.heap.size + 1 + 1 + 1 + 1) (Qaa rA rs.length rc mA ms.length mc gA gs.length gc time (some ⟨b7, o7, none⟩) ds.length dc (some ⟨b9, o9, none⟩) ls.length lc) (Qad (q : Int) seq op ca cb cc key text) (Qan ro wi le ke) /\ Blk wx PA 90 (Qaa rA8 rs8.length rc8 mA8 ms8.length mc8 gA8 gs8.length gc8 time8 dA8 ds8.length dc8 lA8 ls8.length lc8) /\ Blk wx PB 130 (Qas ac aN ak ax) /\ Hid (KQ wx (⟨rA8, rc8, rs8, mA8, mc8, ms8, gA8, gc8, gs8, time8, dA8, dc8, ds8, lA8, lc8, ls8⟩ : KC) (fun b => w.heap.size < b /\ b ≠ (w.heap.size + 1) /\ b ≠ (w.heap.size + 1 + 1) /\ b ≠ (w.heap.size + 1 + 1 + 1) /\ b ≠ (w.heap.size + 1 + 1 + 1 + 1) /\ b ≠ PA /\ b ≠ PB) ur ug ud ul) /\ Hid (KC.p (⟨rA8, rc8, rs8, mA8, mc8, ms8, gA8, gc8, gs8, time8, dA8, dc8, ds8, lA8, lc8, ls8⟩ : KC) = p) /\ (w.heap.size < PA /\ PA ≠ (w.heap.size + 1) /\ PA ≠ (w.heap.size + 1 + 1) /\ PA ≠ (w.heap.size + 1 + 1 + 1) /\ PA ≠ (w.heap.size + 1 + 1 + 1 + 1)) /\ (w.heap.size < PB /\ PB ≠ (w.heap.size + 1) /\ PB ≠ (w.heap.size + 1 + 1) /\ PB ≠ (w.heap.size + 1 + 1 + 1) /\ PB ≠ (w.heap.size + 1 + 1 + 1 + 1)) /\ PA ≠ PB)
 case first =>
  have l0 : w.heap.size + 1 + 1 + 1 + 1 < X0.drew.drew.heap.size := l0
  refine wp_region_noPanic ?_
  refine wp_region_held_drew (S := (fun (V : World) => V.cell? ⟨(w.heap.size + 1), 0, none⟩ = some (.slice rA rs.length rc) /\ V.cell? ⟨(w.heap.size + 1), 1, none⟩ = some (.slice mA ms.length mc) /\ V.cell? ⟨(w.heap.size + 1), 2, none⟩ = some (.slice gA gs.length gc) /\ V.cell? ⟨(w.heap.size + 1), 3, none⟩ = some (.int .i64 time) /\ V.cell? ⟨(w.heap.size + 1), 4, none⟩ = some (.slice (some ⟨b7, o7, none⟩) ds.length dc) /\ V.cell? ⟨(w.heap.size + 1), 5, none⟩ = some (.slice (some ⟨b9, o9, none⟩) ls.length lc) /\ V.cell? ⟨(w.heap.size + 1 + 1), 0, none⟩ = some (.int .i64 (q : Int)) /\ V.cell? ⟨(w.heap.size + 1 + 1), 1, none⟩ = some (.int .i64 seq) /\ V.cell? ⟨(w.heap.size + 1 + 1), 2, none⟩ = some (.int .i64 op) /\ V.cell? ⟨(w.heap.size + 1 + 1), 3, none⟩ = some (.int .i64 ca) /\ V.cell? ⟨(w.heap.size + 1 + 1), 4, none⟩ = some (.int .i64 cb) /\ V.cell? ⟨(w.heap.size + 1 + 1), 5, none⟩ = some (.int .i64 cc) /\ V.cell? ⟨(w.heap.size + 1 + 1), 6, none⟩ = some (.string key) /\ V.cell? ⟨(w.heap.size + 1 + 1), 7, none⟩ = some (.string text) /\ V.cell? ⟨w.heap.size, 0, none⟩ = some (.int .i64 ro) /\ V.cell? ⟨w.heap.size, 1, none⟩ = some (.int .i64 wi) /\ V.cell? ⟨w.heap.size, 2, none⟩ = some (.int .i64 le) /\ V.cell? ⟨w.heap.size, 3, none⟩ = some (.int .i64 ke))) (by kernel_rfl) ?_ (fun hH => ?_)
  . exact mkS _ P
  refine ztk [0,1,3] ?_; repeat (refine ztn (hS := hH) (h := ?_); try simp only [zX,zY])
  refine zte ?_
  generalize X0.drew.drew = X9 at P hH l0 ⊢
  refine zR3 2 8 9 (fun K hK => ?_) (fun K hK => ?_) (fun K hK => ?_)
  focus
   simp only [zG]
   go_simp
   refine (HCP.out _ P.bl).mono ?_; rintro e w1 ⟨rA9, rc9, rs9, mA9, mc9, ms9, gA9, gc9, gs9, time9, dA9, dc9, ds9, lA9, lc9, ls9, br, bg, bd, bl, rfl, hp9, hq9, hcp9, g1⟩; have P := P.below g1; have z1 := g1.size; have z1 : X9.heap.size <= w1.heap.size := z1; have hq9 : KQ w1 (⟨rA9, rc9, rs9, mA9, mc9, ms9, gA9, gc9, gs9, time9, dA9, dc9, ds9, lA9, lc9, ls9⟩ : KC) (fun b => X9.heap.size <= b /\ b < w1.heap.size) br bg bd bl := hq9; clear g1
   refine hK.out _ _ (mkS _ P) fun hH => ?_; clear hK K; try simp only [zX,zY]
   refine zR3 4 8 9 (fun K hK => ?_) (fun K hK => ?_) (fun K hK => ?_)
   focus
    simp only [zG]
    go_simp
    have hq4 := hq9; have hS4 : ∀ b, (X9.heap.size <= b /\ b < w1.heap.size) -> b < (w1).heap.size := (fun b hb => by have h9 := hb.2; omega); refine (HN.out _ _ _ _ _ _ _ _ _ _ _ _ _ _ _ _ _ _ _ _ _ _ hp9 hq4 hcp9 hS4).mono ?_; rintro e w2 ⟨y, ur, ug, ud, ul, he, hp8, hq8, ho8⟩; obtain (⟨rA8, rc8, rs8, mA8, mc8, ms8, gA8, gc8, gs8, time8, dA8, dc8, ds8, lA8, lc8, ls8⟩ : KC) := y; simp only [KC.cells] at he; subst he; have z2 := ho8.size; have z2 : w1.heap.size <= w2.heap.size := z2; have P := P.offp ho8 (fun b hb => by have h9 := hb.1; omega); have hq8 : KQ w2 (⟨rA8, rc8, rs8, mA8, mc8, ms8, gA8, gc8, gs8, time8, dA8, dc8, ds8, lA8, lc8, ls8⟩ : KC) (fun b => (X9.heap.size <= b /\ b < w1.heap.size) ∨ w1.heap.size <= b /\ b < w2.heap.size) ur ug ud ul := hq8; clear ho8 hq4 hq9
    refine hK.out _ _ (mkS _ P) fun hH => ?_; clear hK K; try simp only [zX,zY]
    refine ztk [5,6,7] ?_; repeat (refine ztn (hS := hH) (h := ?_); try simp only [zX,zY])
    refine zte ?_
    refine zR2 8 9 (fun K hK => ?_) (fun K hK => ?_)
    focus
     simp only [zG]
     go_simp
     have A8 : Blk (w2.alloc (.cells Qab 90)) (w2.heap.size) 90 Qab := Blk.new w2 90 Qab; have P := P.alloc (.cells Qab 90); have hq8 := hq8.below (Qaf (Below.refl _ _) (.cells Qab 90))
     refine hK.out _ _ (mkS _ P) fun hH => ?_; clear hK K; try simp only [zX,zY]
     refine zR1 9 (fun K hK => ?_)
     simp only [zG]
     go_simp
     have A9 : Blk ((w2.alloc (.cells Qab 90)).alloc (.cells Qai 130)) (w2.heap.size + 1) 130 Qai := (by have h9 := Blk.new (w2.alloc (.cells Qab 90)) 130 Qai; simpa using h9); have P := P.alloc (.cells Qai 130); have A8 := A8.alloc (.cells Qai 130); have hq8 := hq8.below (Qaf (Below.refl _ _) (.cells Qai 130))
     refine hK.out _ _ (mkS _ P) fun hH => ?_; clear hK K; try simp only [zX,zY]
     have hA8 : (w.heap.size < w2.heap.size /\ w2.heap.size ≠ (w.heap.size + 1) /\ w2.heap.size ≠ (w.heap.size + 1 + 1) /\ w2.heap.size ≠ (w.heap.size + 1 + 1 + 1) /\ w2.heap.size ≠ (w.heap.size + 1 + 1 + 1 + 1)) := (by omega)
     have hA9 : (w.heap.size < w2.heap.size + 1 /\ w2.heap.size + 1 ≠ (w.heap.size + 1) /\ w2.heap.size + 1 ≠ (w.heap.size + 1 + 1) /\ w2.heap.size + 1 ≠ (w.heap.size + 1 + 1 + 1) /\ w2.heap.size + 1 ≠ (w.heap.size + 1 + 1 + 1 + 1)) := (by omega)
     have hAB : (w2.heap.size) ≠ (w2.heap.size + 1) := (by omega)
     have Q8 : Hid (KQ (((w2.alloc (.cells Qab 90)).alloc (.cells Qai 130))) (⟨rA8, rc8, rs8, mA8, mc8, ms8, gA8, gc8, gs8, time8, dA8, dc8, ds8, lA8, lc8, ls8⟩ : KC) (fun b => w.heap.size < b /\ b ≠ (w.heap.size + 1) /\ b ≠ (w.heap.size + 1 + 1) /\ b ≠ (w.heap.size + 1 + 1 + 1) /\ b ≠ (w.heap.size + 1 + 1 + 1 + 1) /\ b ≠ (w2.heap.size) /\ b ≠ (w2.heap.size + 1)) ur ug ud ul) := (hq8.mono (fun b _ hb => by omega))
     have l8 := A8.lt
     have l9 := A9.lt
     clear hq8
     generalize ((w2.alloc (.cells Qab 90)).alloc (.cells Qai 130)) = w4 at P A8 A9 Q8 l8 l9 ⊢
     generalize (w2.heap.size + 1) = PB at A9 hA9 hAB Q8 l9 ⊢
     generalize (w2.heap.size) = PA at A8 hA8 hAB Q8 l8 ⊢
    rotate_left
    focus
     simp only [zG]
     go_simp
     have A9 : Blk (w2.alloc (.cells Qai 130)) (w2.heap.size) 130 Qai := Blk.new w2 130 Qai; have P := P.alloc (.cells Qai 130); have hq8 := hq8.below (Qaf (Below.refl _ _) (.cells Qai 130))
     refine hK.out _ _ (mkS _ P) fun hH => ?_; clear hK K; try simp only [zX,zY]
     refine zR1 8 (fun K hK => ?_)
     simp only [zG]
     go_simp
     have A8 : Blk ((w2.alloc (.cells Qai 130)).alloc (.cells Qab 90)) (w2.heap.size + 1) 90 Qab := (by have h9 := Blk.new (w2.alloc (.cells Qai 130)) 90 Qab; simpa using h9); have P := P.alloc (.cells Qab 90); have A9 := A9.alloc (.cells Qab 90); have hq8 := hq8.below (Qaf (Below.refl _ _) (.cells Qab 90))
     refine hK.out _ _ (mkS _ P) fun hH => ?_; clear hK K; try simp only [zX,zY]
     have hA8 : (w.heap.size < w2.heap.size + 1 /\ w2.heap.size + 1 ≠ (w.heap.size + 1) /\ w2.heap.size + 1 ≠ (w.heap.size + 1 + 1) /\ w2.heap.size + 1 ≠ (w.heap.size + 1 + 1 + 1) /\ w2.heap.size + 1 ≠ (w.heap.size + 1 + 1 + 1 + 1)) := (by omega)
     have hA9 : (w.heap.size < w2.heap.size /\ w2.heap.size ≠ (w.heap.size + 1) /\ w2.heap.size ≠ (w.heap.size + 1 + 1) /\ w2.heap.size ≠ (w.heap.size + 1 + 1 + 1) /\ w2.heap.size ≠ (w.heap.size + 1 + 1 + 1 + 1)) := (by omega)
     have hAB : (w2.heap.size + 1) ≠ (w2.heap.size) := (by omega)
     have Q8 : Hid (KQ (((w2.alloc (.cells Qai 130)).alloc (.cells Qab 90))) (⟨rA8, rc8, rs8, mA8, mc8, ms8, gA8, gc8, gs8, time8, dA8, dc8, ds8, lA8, lc8, ls8⟩ : KC) (fun b => w.heap.size < b /\ b ≠ (w.heap.size + 1) /\ b ≠ (w.heap.size + 1 + 1) /\ b ≠ (w.heap.size + 1 + 1 + 1) /\ b ≠ (w.heap.size + 1 + 1 + 1 + 1) /\ b ≠ (w2.heap.size + 1) /\ b ≠ (w2.heap.size)) ur ug ud ul) := (hq8.mono (fun b _ hb => by omega))
     have l8 := A8.lt
     have l9 := A9.lt
     clear hq8
     generalize ((w2.alloc (.cells Qai 130)).alloc (.cells Qab 90)) = w4 at P A8 A9 Q8 l8 l9 ⊢
     generalize (w2.heap.size + 1) = PA at A8 hA8 hAB Q8 l8 ⊢
     generalize (w2.heap.size) = PB at A9 hA9 hAB Q8 l9 ⊢
   rotate_left 2
   focus
    simp only [zG]
    go_simp
    have A8 : Blk (w1.alloc (.cells Qab 90)) (w1.heap.size) 90 Qab := Blk.new w1 90 Qab; have P := P.alloc (.cells Qab 90)
    refine hK.out _ _ (mkS _ P) fun hH => ?_; clear hK K; try simp only [zX,zY]
    refine zR2 4 9 (fun K hK => ?_) (fun K hK => ?_)
    focus
     simp only [zG]
     go_simp
     have hq4 := hq9; have hq4 := hq4.below (Qaf (Below.refl _ _) (.cells Qab 90)); have hS4 : ∀ b, (X9.heap.size <= b /\ b < w1.heap.size) -> b < ((w1.alloc (.cells Qab 90))).heap.size := (fun b hb => by simp only [World.size_alloc]; have h9 := hb.2; omega); refine (HN.out _ _ _ _ _ _ _ _ _ _ _ _ _ _ _ _ _ _ _ _ _ _ hp9 hq4 hcp9 hS4).mono ?_; rintro e w2 ⟨y, ur, ug, ud, ul, he, hp8, hq8, ho8⟩; obtain (⟨rA8, rc8, rs8, mA8, mc8, ms8, gA8, gc8, gs8, time8, dA8, dc8, ds8, lA8, lc8, ls8⟩ : KC) := y; simp only [KC.cells] at he; subst he; have z2 := ho8.size; simp only [World.size_alloc] at z2 hq8; have z2 : w1.heap.size + 1 <= w2.heap.size := z2; have P := P.offp ho8 (fun b hb => by have h9 := hb.1; omega); have A8 := A8.offp ho8 (fun hb => by have h9 := hb.1; have h10 := hb.2; omega); have hq8 : KQ w2 (⟨rA8, rc8, rs8, mA8, mc8, ms8, gA8, gc8, gs8, time8, dA8, dc8, ds8, lA8, lc8, ls8⟩ : KC) (fun b => (X9.heap.size <= b /\ b < w1.heap.size) ∨ w1.heap.size + 1 <= b /\ b < w2.heap.size) ur ug ud ul := hq8; clear ho8 hq4 hq9
     refine hK.out _ _ (mkS _ P) fun hH => ?_; clear hK K; try simp only [zX,zY]
     refine ztk [5,6,7] ?_; repeat (refine ztn (hS := hH) (h := ?_); try simp only [zX,zY])
     refine zte ?_
     refine zR1 9 (fun K hK => ?_)
     simp only [zG]
     go_simp
     have A9 : Blk (w2.alloc (.cells Qai 130)) (w2.heap.size) 130 Qai := Blk.new w2 130 Qai; have P := P.alloc (.cells Qai 130); have A8 := A8.alloc (.cells Qai 130); have hq8 := hq8.below (Qaf (Below.refl _ _) (.cells Qai 130))
     refine hK.out _ _ (mkS _ P) fun hH => ?_; clear hK K; try simp only [zX,zY]
     have hA8 : (w.heap.size < w1.heap.size /\ w1.heap.size ≠ (w.heap.size + 1) /\ w1.heap.size ≠ (w.heap.size + 1 + 1) /\ w1.heap.size ≠ (w.heap.size + 1 + 1 + 1) /\ w1.heap.size ≠ (w.heap.size + 1 + 1 + 1 + 1)) := (by omega)
     have hA9 : (w.heap.size < w2.heap.size /\ w2.heap.size ≠ (w.heap.size + 1) /\ w2.heap.size ≠ (w.heap.size + 1 + 1) /\ w2.heap.size ≠ (w.heap.size + 1 + 1 + 1) /\ w2.heap.size ≠ (w.heap.size + 1 + 1 + 1 + 1)) := (by omega)
     have hAB : (w1.heap.size) ≠ (w2.heap.size) := (by omega)
     have Q8 : Hid (KQ ((w2.alloc (.cells Qai 130))) (⟨rA8, rc8, rs8, mA8, mc8, ms8, gA8, gc8, gs8, time8, dA8, dc8, ds8, lA8, lc8, ls8⟩ : KC) (fun b => w.heap.size < b /\ b ≠ (w.heap.size + 1) /\ b ≠ (w.heap.size + 1 + 1) /\ b ≠ (w.heap.size + 1 + 1 + 1) /\ b ≠ (w.heap.size + 1 + 1 + 1 + 1) /\ b ≠ (w1.heap.size) /\ b ≠ (w2.heap.size)) ur ug ud ul) := (hq8.mono (fun b _ hb => by omega))
     have l8 := A8.lt
     have l9 := A9.lt
     clear hq8
     generalize (w2.alloc (.cells Qai 130)) = w4 at P A8 A9 Q8 l8 l9 ⊢
     generalize (w1.heap.size) = PA at A8 hA8 hAB Q8 l8 ⊢
     generalize (w2.heap.size) = PB at A9 hA9 hAB Q8 l9 ⊢
    rotate_left
    focus
     simp only [zG]
     go_simp
     have A9 : Blk ((w1.alloc (.cells Qab 90)).alloc (.cells Qai 130)) (w1.heap.size + 1) 130 Qai := (by have h9 := Blk.new (w1.alloc (.cells Qab 90)) 130 Qai; simpa using h9); have P := P.alloc (.cells Qai 130); have A8 := A8.alloc (.cells Qai 130)
     refine hK.out _ _ (mkS _ P) fun hH => ?_; clear hK K; try simp only [zX,zY]
     refine zR1 4 (fun K hK => ?_)
     simp only [zG]
     go_simp
     have hq4 := hq9; have hq4 := hq4.below (Qaf (Below.refl _ _) (.cells Qab 90)); have hq4 := hq4.below (Qaf (Below.refl _ _) (.cells Qai 130)); have hS4 : ∀ b, (X9.heap.size <= b /\ b < w1.heap.size) -> b < (((w1.alloc (.cells Qab 90)).alloc (.cells Qai 130))).heap.size := (fun b hb => by simp only [World.size_alloc]; have h9 := hb.2; omega); refine (HN.out _ _ _ _ _ _ _ _ _ _ _ _ _ _ _ _ _ _ _ _ _ _ hp9 hq4 hcp9 hS4).mono ?_; rintro e w2 ⟨y, ur, ug, ud, ul, he, hp8, hq8, ho8⟩; obtain (⟨rA8, rc8, rs8, mA8, mc8, ms8, gA8, gc8, gs8, time8, dA8, dc8, ds8, lA8, lc8, ls8⟩ : KC) := y; simp only [KC.cells] at he; subst he; have z2 := ho8.size; simp only [World.size_alloc] at z2 hq8; have z2 : w1.heap.size + 1 + 1 <= w2.heap.size := z2; have P := P.offp ho8 (fun b hb => by have h9 := hb.1; omega); have A8 := A8.offp ho8 (fun hb => by have h9 := hb.1; have h10 := hb.2; omega); have A9 := A9.offp ho8 (fun hb => by have h9 := hb.1; have h10 := hb.2; omega); have hq8 : KQ w2 (⟨rA8, rc8, rs8, mA8, mc8, ms8, gA8, gc8, gs8, time8, dA8, dc8, ds8, lA8, lc8, ls8⟩ : KC) (fun b => (X9.heap.size <= b /\ b < w1.heap.size) ∨ w1.heap.size + 1 + 1 <= b /\ b < w2.heap.size) ur ug ud ul := hq8; clear ho8 hq4 hq9
     refine hK.out _ _ (mkS _ P) fun hH => ?_; clear hK K; try simp only [zX,zY]
     refine ztk [5,6,7] ?_; repeat (refine ztn (hS := hH) (h := ?_); try simp only [zX,zY])
     refine zte ?_
     have hA8 : (w.heap.size < w1.heap.size /\ w1.heap.size ≠ (w.heap.size + 1) /\ w1.heap.size ≠ (w.heap.size + 1 + 1) /\ w1.heap.size ≠ (w.heap.size + 1 + 1 + 1) /\ w1.heap.size ≠ (w.heap.size + 1 + 1 + 1 + 1)) := (by omega)
     have hA9 : (w.heap.size < w1.heap.size + 1 /\ w1.heap.size + 1 ≠ (w.heap.size + 1) /\ w1.heap.size + 1 ≠ (w.heap.size + 1 + 1) /\ w1.heap.size + 1 ≠ (w.heap.size + 1 + 1 + 1) /\ w1.heap.size + 1 ≠ (w.heap.size + 1 + 1 + 1 + 1)) := (by omega)
     have hAB : (w1.heap.size) ≠ (w1.heap.size + 1) := (by omega)
     have Q8 : Hid (KQ (w2) (⟨rA8, rc8, rs8, mA8, mc8, ms8, gA8, gc8, gs8, time8, dA8, dc8, ds8, lA8, lc8, ls8⟩ : KC) (fun b => w.heap.size < b /\ b ≠ (w.heap.size + 1) /\ b ≠ (w.heap.size + 1 + 1) /\ b ≠ (w.heap.size + 1 + 1 + 1) /\ b ≠ (w.heap.size + 1 + 1 + 1 + 1) /\ b ≠ (w1.heap.size) /\ b ≠ (w1.heap.size + 1)) ur ug ud ul) := (hq8.mono (fun b _ hb => by omega))
     have l8 := A8.lt
     have l9 := A9.lt
     clear hq8
     generalize w2 = w4 at P A8 A9 Q8 l8 l9 ⊢
     generalize (w1.heap.size + 1) = PB at A9 hA9 hAB Q8 l9 ⊢
     generalize (w1.heap.size) = PA at A8 hA8 hAB Q8 l8 ⊢
   rotate_left 2
   focus
    simp only [zG]
    go_simp
    have A9 : Blk (w1.alloc (.cells Qai 130)) (w1.heap.size) 130 Qai := Blk.new w1 130 Qai; have P := P.alloc (.cells Qai 130)
    refine hK.out _ _ (mkS _ P) fun hH => ?_; clear hK K; try simp only [zX,zY]
    refine zR2 4 8 (fun K hK => ?_) (fun K hK => ?_)
    focus
     simp only [zG]
     go_simp
     have hq4 := hq9; have hq4 := hq4.below (Qaf (Below.refl _ _) (.cells Qai 130)); have hS4 : ∀ b, (X9.heap.size <= b /\ b < w1.heap.size) -> b < ((w1.alloc (.cells Qai 130))).heap.size := (fun b hb => by simp only [World.size_alloc]; have h9 := hb.2; omega); refine (HN.out _ _ _ _ _ _ _ _ _ _ _ _ _ _ _ _ _ _ _ _ _ _ hp9 hq4 hcp9 hS4).mono ?_; rintro e w2 ⟨y, ur, ug, ud, ul, he, hp8, hq8, ho8⟩; obtain (⟨rA8, rc8, rs8, mA8, mc8, ms8, gA8, gc8, gs8, time8, dA8, dc8, ds8, lA8, lc8, ls8⟩ : KC) := y; simp only [KC.cells] at he; subst he; have z2 := ho8.size; simp only [World.size_alloc] at z2 hq8; have z2 : w1.heap.size + 1 <= w2.heap.size := z2; have P := P.offp ho8 (fun b hb => by have h9 := hb.1; omega); have A9 := A9.offp ho8 (fun hb => by have h9 := hb.1; have h10 := hb.2; omega); have hq8 : KQ w2 (⟨rA8, rc8, rs8, mA8, mc8, ms8, gA8, gc8, gs8, time8, dA8, dc8, ds8, lA8, lc8, ls8⟩ : KC) (fun b => (X9.heap.size <= b /\ b < w1.heap.size) ∨ w1.heap.size + 1 <= b /\ b < w2.heap.size) ur ug ud ul := hq8; clear ho8 hq4 hq9
     refine hK.out _ _ (mkS _ P) fun hH => ?_; clear hK K; try simp only [zX,zY]
     refine ztk [5,6,7] ?_; repeat (refine ztn (hS := hH) (h := ?_); try simp only [zX,zY])
     refine zte ?_
     refine zR1 8 (fun K hK => ?_)
     simp only [zG]
     go_simp
     have A8 : Blk (w2.alloc (.cells Qab 90)) (w2.heap.size) 90 Qab := Blk.new w2 90 Qab; have P := P.alloc (.cells Qab 90); have A9 := A9.alloc (.cells Qab 90); have hq8 := hq8.below (Qaf (Below.refl _ _) (.cells Qab 90))
     refine hK.out _ _ (mkS _ P) fun hH => ?_; clear hK K; try simp only [zX,zY]
     have hA8 : (w.heap.size < w2.heap.size /\ w2.heap.size ≠ (w.heap.size + 1) /\ w2.heap.size ≠ (w.heap.size + 1 + 1) /\ w2.heap.size ≠ (w.heap.size + 1 + 1 + 1) /\ w2.heap.size ≠ (w.heap.size + 1 + 1 + 1 + 1)) := (by omega)
     have hA9 : (w.heap.size < w1.heap.size /\ w1.heap.size ≠ (w.heap.size + 1) /\ w1.heap.size ≠ (w.heap.size + 1 + 1) /\ w1.heap.size ≠ (w.heap.size + 1 + 1 + 1) /\ w1.heap.size ≠ (w.heap.size + 1 + 1 + 1 + 1)) := (by omega)
     have hAB : (w2.heap.size) ≠ (w1.heap.size) := (by omega)
     have Q8 : Hid (KQ ((w2.alloc (.cells Qab 90))) (⟨rA8, rc8, rs8, mA8, mc8, ms8, gA8, gc8, gs8, time8, dA8, dc8, ds8, lA8, lc8, ls8⟩ : KC) (fun b => w.heap.size < b /\ b ≠ (w.heap.size + 1) /\ b ≠ (w.heap.size + 1 + 1) /\ b ≠ (w.heap.size + 1 + 1 + 1) /\ b ≠ (w.heap.size + 1 + 1 + 1 + 1) /\ b ≠ (w2.heap.size) /\ b ≠ (w1.heap.size)) ur ug ud ul) := (hq8.mono (fun b _ hb => by omega))
     have l8 := A8.lt
     have l9 := A9.lt
     clear hq8
     generalize (w2.alloc (.cells Qab 90)) = w4 at P A8 A9 Q8 l8 l9 ⊢
     generalize (w2.heap.size) = PA at A8 hA8 hAB Q8 l8 ⊢
     generalize (w1.heap.size) = PB at A9 hA9 hAB Q8 l9 ⊢
    rotate_left
    focus
     simp only [zG]
     go_simp
     have A8 : Blk ((w1.alloc (.cells Qai 130)).alloc (.cells Qab 90)) (w1.heap.size + 1) 90 Qab := (by have h9 := Blk.new (w1.alloc (.cells Qai 130)) 90 Qab; simpa using h9); have P := P.alloc (.cells Qab 90); have A9 := A9.alloc (.cells Qab 90)
     refine hK.out _ _ (mkS _ P) fun hH => ?_; clear hK K; try simp only [zX,zY]
     refine zR1 4 (fun K hK => ?_)
     simp only [zG]
     go_simp
     have hq4 := hq9; have hq4 := hq4.below (Qaf (Below.refl _ _) (.cells Qai 130)); have hq4 := hq4.below (Qaf (Below.refl _ _) (.cells Qab 90)); have hS4 : ∀ b, (X9.heap.size <= b /\ b < w1.heap.size) -> b < (((w1.alloc (.cells Qai 130)).alloc (.cells Qab 90))).heap.size := (fun b hb => by simp only [World.size_alloc]; have h9 := hb.2; omega); refine (HN.out _ _ _ _ _ _ _ _ _ _ _ _ _ _ _ _ _ _ _ _ _ _ hp9 hq4 hcp9 hS4).mono ?_; rintro e w2 ⟨y, ur, ug, ud, ul, he, hp8, hq8, ho8⟩; obtain (⟨rA8, rc8, rs8, mA8, mc8, ms8, gA8, gc8, gs8, time8, dA8, dc8, ds8, lA8, lc8, ls8⟩ : KC) := y; simp only [KC.cells] at he; subst he; have z2 := ho8.size; simp only [World.size_alloc] at z2 hq8; have z2 : w1.heap.size + 1 + 1 <= w2.heap.size := z2; have P := P.offp ho8 (fun b hb => by have h9 := hb.1; omega); have A8 := A8.offp ho8 (fun hb => by have h9 := hb.1; have h10 := hb.2; omega); have A9 := A9.offp ho8 (fun hb => by have h9 := hb.1; have h10 := hb.2; omega); have hq8 : KQ w2 (⟨rA8, rc8, rs8, mA8, mc8, ms8, gA8, gc8, gs8, time8, dA8, dc8, ds8, lA8, lc8, ls8⟩ : KC) (fun b => (X9.heap.size <= b /\ b < w1.heap.size) ∨ w1.heap.size + 1 + 1 <= b /\ b < w2.heap.size) ur ug ud ul := hq8; clear ho8 hq4 hq9
     refine hK.out _ _ (mkS _ P) fun hH => ?_; clear hK K; try simp only [zX,zY]
     refine ztk [5,6,7] ?_; repeat (refine ztn (hS := hH) (h := ?_); try simp only [zX,zY])
     refine zte ?_
     have hA8 : (w.heap.size < w1.heap.size + 1 /\ w1.heap.size + 1 ≠ (w.heap.size + 1) /\ w1.heap.size + 1 ≠ (w.heap.size + 1 + 1) /\ w1.heap.size + 1 ≠ (w.heap.size + 1 + 1 + 1) /\ w1.heap.size + 1 ≠ (w.heap.size + 1 + 1 + 1 + 1)) := (by omega)
     have hA9 : (w.heap.size < w1.heap.size /\ w1.heap.size ≠ (w.heap.size + 1) /\ w1.heap.size ≠ (w.heap.size + 1 + 1) /\ w1.heap.size ≠ (w.heap.size + 1 + 1 + 1) /\ w1.heap.size ≠ (w.heap.size + 1 + 1 + 1 + 1)) := (by omega)
     have hAB : (w1.heap.size + 1) ≠ (w1.heap.size) := (by omega)
     have Q8 : Hid (KQ (w2) (⟨rA8, rc8, rs8, mA8, mc8, ms8, gA8, gc8, gs8, time8, dA8, dc8, ds8, lA8, lc8, ls8⟩ : KC) (fun b => w.heap.size < b /\ b ≠ (w.heap.size + 1) /\ b ≠ (w.heap.size + 1 + 1) /\ b ≠ (w.heap.size + 1 + 1 + 1) /\ b ≠ (w.heap.size + 1 + 1 + 1 + 1) /\ b ≠ (w1.heap.size + 1) /\ b ≠ (w1.heap.size)) ur ug ud ul) := (hq8.mono (fun b _ hb => by omega))
     have l8 := A8.lt
     have l9 := A9.lt
     clear hq8
     generalize w2 = w4 at P A8 A9 Q8 l8 l9 ⊢
     generalize (w1.heap.size + 1) = PA at A8 hA8 hAB Q8 l8 ⊢
     generalize (w1.heap.size) = PB at A9 hA9 hAB Q8 l9 ⊢
  rotate_left 6
  focus
   simp only [zG]
   go_simp
   have A8 : Blk (X9.alloc (.cells Qab 90)) (X9.heap.size) 90 Qab := Blk.new X9 90 Qab; have P := P.alloc (.cells Qab 90)
   refine hK.out _ _ (mkS _ P) fun hH => ?_; clear hK K; try simp only [zX,zY]
   refine zR2 2 9 (fun K hK => ?_) (fun K hK => ?_)
   focus
    simp only [zG]
    go_simp
    refine (HCP.out _ P.bl).mono ?_; rintro e w1 ⟨rA9, rc9, rs9, mA9, mc9, ms9, gA9, gc9, gs9, time9, dA9, dc9, ds9, lA9, lc9, ls9, br, bg, bd, bl, rfl, hp9, hq9, hcp9, g1⟩; have P := P.below g1; have z1 := g1.size; simp only [World.size_alloc] at z1 hq9; have z1 : X9.heap.size + 1 <= w1.heap.size := z1; have hq9 : KQ w1 (⟨rA9, rc9, rs9, mA9, mc9, ms9, gA9, gc9, gs9, time9, dA9, dc9, ds9, lA9, lc9, ls9⟩ : KC) (fun b => X9.heap.size + 1 <= b /\ b < w1.heap.size) br bg bd bl := hq9; have A8 := A8.below g1 A8.lt; clear g1
    refine hK.out _ _ (mkS _ P) fun hH => ?_; clear hK K; try simp only [zX,zY]
    refine zR2 4 9 (fun K hK => ?_) (fun K hK => ?_)
    focus
     simp only [zG]
     go_simp
     have hq4 := hq9; have hS4 : ∀ b, (X9.heap.size + 1 <= b /\ b < w1.heap.size) -> b < (w1).heap.size := (fun b hb => by have h9 := hb.2; omega); refine (HN.out _ _ _ _ _ _ _ _ _ _ _ _ _ _ _ _ _ _ _ _ _ _ hp9 hq4 hcp9 hS4).mono ?_; rintro e w2 ⟨y, ur, ug, ud, ul, he, hp8, hq8, ho8⟩; obtain (⟨rA8, rc8, rs8, mA8, mc8, ms8, gA8, gc8, gs8, time8, dA8, dc8, ds8, lA8, lc8, ls8⟩ : KC) := y; simp only [KC.cells] at he; subst he; have z2 := ho8.size; have z2 : w1.heap.size <= w2.heap.size := z2; have P := P.offp ho8 (fun b hb => by have h9 := hb.1; omega); have A8 := A8.offp ho8 (fun hb => by have h9 := hb.1; have h10 := hb.2; omega); have hq8 : KQ w2 (⟨rA8, rc8, rs8, mA8, mc8, ms8, gA8, gc8, gs8, time8, dA8, dc8, ds8, lA8, lc8, ls8⟩ : KC) (fun b => (X9.heap.size + 1 <= b /\ b < w1.heap.size) ∨ w1.heap.size <= b /\ b < w2.heap.size) ur ug ud ul := hq8; clear ho8 hq4 hq9
     refine hK.out _ _ (mkS _ P) fun hH => ?_; clear hK K; try simp only [zX,zY]
     refine ztk [5,6,7] ?_; repeat (refine ztn (hS := hH) (h := ?_); try simp only [zX,zY])
     refine zte ?_
     refine zR1 9 (fun K hK => ?_)
     simp only [zG]
     go_simp
     have A9 : Blk (w2.alloc (.cells Qai 130)) (w2.heap.size) 130 Qai := Blk.new w2 130 Qai; have P := P.alloc (.cells Qai 130); have A8 := A8.alloc (.cells Qai 130); have hq8 := hq8.below (Qaf (Below.refl _ _) (.cells Qai 130))
     refine hK.out _ _ (mkS _ P) fun hH => ?_; clear hK K; try simp only [zX,zY]
     have hA8 : (w.heap.size < X9.heap.size /\ X9.heap.size ≠ (w.heap.size + 1) /\ X9.heap.size ≠ (w.heap.size + 1 + 1) /\ X9.heap.size ≠ (w.heap.size + 1 + 1 + 1) /\ X9.heap.size ≠ (w.heap.size + 1 + 1 + 1 + 1)) := (by omega)
     have hA9 : (w.heap.size < w2.heap.size /\ w2.heap.size ≠ (w.heap.size + 1) /\ w2.heap.size ≠ (w.heap.size + 1 + 1) /\ w2.heap.size ≠ (w.heap.size + 1 + 1 + 1) /\ w2.heap.size ≠ (w.heap.size + 1 + 1 + 1 + 1)) := (by omega)
     have hAB : (X9.heap.size) ≠ (w2.heap.size) := (by omega)
     have Q8 : Hid (KQ ((w2.alloc (.cells Qai 130))) (⟨rA8, rc8, rs8, mA8, mc8, ms8, gA8, gc8, gs8, time8, dA8, dc8, ds8, lA8, lc8, ls8⟩ : KC) (fun b => w.heap.size < b /\ b ≠ (w.heap.size + 1) /\ b ≠ (w.heap.size + 1 + 1) /\ b ≠ (w.heap.size + 1 + 1 + 1) /\ b ≠ (w.heap.size + 1 + 1 + 1 + 1) /\ b ≠ (X9.heap.size) /\ b ≠ (w2.heap.size)) ur ug ud ul) := (hq8.mono (fun b _ hb => by omega))
     have l8 := A8.lt
     have l9 := A9.lt
     clear hq8
     generalize (w2.alloc (.cells Qai 130)) = w4 at P A8 A9 Q8 l8 l9 ⊢
     generalize (X9.heap.size) = PA at A8 hA8 hAB Q8 l8 ⊢
     generalize (w2.heap.size) = PB at A9 hA9 hAB Q8 l9 ⊢
    rotate_left
    focus
     simp only [zG]
     go_simp
     have A9 : Blk (w1.alloc (.cells Qai 130)) (w1.heap.size) 130 Qai := Blk.new w1 130 Qai; have P := P.alloc (.cells Qai 130); have A8 := A8.alloc (.cells Qai 130)
     refine hK.out _ _ (mkS _ P) fun hH => ?_; clear hK K; try simp only [zX,zY]
     refine zR1 4 (fun K hK => ?_)
     simp only [zG]
     go_simp
     have hq4 := hq9; have hq4 := hq4.below (Qaf (Below.refl _ _) (.cells Qai 130)); have hS4 : ∀ b, (X9.heap.size + 1 <= b /\ b < w1.heap.size) -> b < ((w1.alloc (.cells Qai 130))).heap.size := (fun b hb => by simp only [World.size_alloc]; have h9 := hb.2; omega); refine (HN.out _ _ _ _ _ _ _ _ _ _ _ _ _ _ _ _ _ _ _ _ _ _ hp9 hq4 hcp9 hS4).mono ?_; rintro e w2 ⟨y, ur, ug, ud, ul, he, hp8, hq8, ho8⟩; obtain (⟨rA8, rc8, rs8, mA8, mc8, ms8, gA8, gc8, gs8, time8, dA8, dc8, ds8, lA8, lc8, ls8⟩ : KC) := y; simp only [KC.cells] at he; subst he; have z2 := ho8.size; simp only [World.size_alloc] at z2 hq8; have z2 : w1.heap.size + 1 <= w2.heap.size := z2; have P := P.offp ho8 (fun b hb => by have h9 := hb.1; omega); have A8 := A8.offp ho8 (fun hb => by have h9 := hb.1; have h10 := hb.2; omega); have A9 := A9.offp ho8 (fun hb => by have h9 := hb.1; have h10 := hb.2; omega); have hq8 : KQ w2 (⟨rA8, rc8, rs8, mA8, mc8, ms8, gA8, gc8, gs8, time8, dA8, dc8, ds8, lA8, lc8, ls8⟩ : KC) (fun b => (X9.heap.size + 1 <= b /\ b < w1.heap.size) ∨ w1.heap.size + 1 <= b /\ b < w2.heap.size) ur ug ud ul := hq8; clear ho8 hq4 hq9
     refine hK.out _ _ (mkS _ P) fun hH => ?_; clear hK K; try simp only [zX,zY]
     refine ztk [5,6,7] ?_; repeat (refine ztn (hS := hH) (h := ?_); try simp only [zX,zY])
     refine zte ?_
     have hA8 : (w.heap.size < X9.heap.size /\ X9.heap.size ≠ (w.heap.size + 1) /\ X9.heap.size ≠ (w.heap.size + 1 + 1) /\ X9.heap.size ≠ (w.heap.size + 1 + 1 + 1) /\ X9.heap.size ≠ (w.heap.size + 1 + 1 + 1 + 1)) := (by omega)
     have hA9 : (w.heap.size < w1.heap.size /\ w1.heap.size ≠ (w.heap.size + 1) /\ w1.heap.size ≠ (w.heap.size + 1 + 1) /\ w1.heap.size ≠ (w.heap.size + 1 + 1 + 1) /\ w1.heap.size ≠ (w.heap.size + 1 + 1 + 1 + 1)) := (by omega)
     have hAB : (X9.heap.size) ≠ (w1.heap.size) := (by omega)
     have Q8 : Hid (KQ (w2) (⟨rA8, rc8, rs8, mA8, mc8, ms8, gA8, gc8, gs8, time8, dA8, dc8, ds8, lA8, lc8, ls8⟩ : KC) (fun b => w.heap.size < b /\ b ≠ (w.heap.size + 1) /\ b ≠ (w.heap.size + 1 + 1) /\ b ≠ (w.heap.size + 1 + 1 + 1) /\ b ≠ (w.heap.size + 1 + 1 + 1 + 1) /\ b ≠ (X9.heap.size) /\ b ≠ (w1.heap.size)) ur ug ud ul) := (hq8.mono (fun b _ hb => by omega))
     have l8 := A8.lt
     have l9 := A9.lt
     clear hq8
     generalize w2 = w4 at P A8 A9 Q8 l8 l9 ⊢
     generalize (X9.heap.size) = PA at A8 hA8 hAB Q8 l8 ⊢
     generalize (w1.heap.size) = PB at A9 hA9 hAB Q8 l9 ⊢
   rotate_left 2
   focus
    simp only [zG]
    go_simp
    have A9 : Blk ((X9.alloc (.cells Qab 90)).alloc (.cells Qai 130)) (X9.heap.size + 1) 130 Qai := (by have h9 := Blk.new (X9.alloc (.cells Qab 90)) 130 Qai; simpa using h9); have P := P.alloc (.cells Qai 130); have A8 := A8.alloc (.cells Qai 130)
    refine hK.out _ _ (mkS _ P) fun hH => ?_; clear hK K; try simp only [zX,zY]
    refine zR1 2 (fun K hK => ?_)
    simp only [zG]
    go_simp
    refine (HCP.out _ P.bl).mono ?_; rintro e w1 ⟨rA9, rc9, rs9, mA9, mc9, ms9, gA9, gc9, gs9, time9, dA9, dc9, ds9, lA9, lc9, ls9, br, bg, bd, bl, rfl, hp9, hq9, hcp9, g1⟩; have P := P.below g1; have z1 := g1.size; simp only [World.size_alloc] at z1 hq9; have z1 : X9.heap.size + 1 + 1 <= w1.heap.size := z1; have hq9 : KQ w1 (⟨rA9, rc9, rs9, mA9, mc9, ms9, gA9, gc9, gs9, time9, dA9, dc9, ds9, lA9, lc9, ls9⟩ : KC) (fun b => X9.heap.size + 1 + 1 <= b /\ b < w1.heap.size) br bg bd bl := hq9; have A8 := A8.below g1 A8.lt; have A9 := A9.below g1 A9.lt; clear g1
    refine hK.out _ _ (mkS _ P) fun hH => ?_; clear hK K; try simp only [zX,zY]
    refine zR1 4 (fun K hK => ?_)
    simp only [zG]
    go_simp
    have hq4 := hq9; have hS4 : ∀ b, (X9.heap.size + 1 + 1 <= b /\ b < w1.heap.size) -> b < (w1).heap.size := (fun b hb => by have h9 := hb.2; omega); refine (HN.out _ _ _ _ _ _ _ _ _ _ _ _ _ _ _ _ _ _ _ _ _ _ hp9 hq4 hcp9 hS4).mono ?_; rintro e w2 ⟨y, ur, ug, ud, ul, he, hp8, hq8, ho8⟩; obtain (⟨rA8, rc8, rs8, mA8, mc8, ms8, gA8, gc8, gs8, time8, dA8, dc8, ds8, lA8, lc8, ls8⟩ : KC) := y; simp only [KC.cells] at he; subst he; have z2 := ho8.size; have z2 : w1.heap.size <= w2.heap.size := z2; have P := P.offp ho8 (fun b hb => by have h9 := hb.1; omega); have A8 := A8.offp ho8 (fun hb => by have h9 := hb.1; have h10 := hb.2; omega); have A9 := A9.offp ho8 (fun hb => by have h9 := hb.1; have h10 := hb.2; omega); have hq8 : KQ w2 (⟨rA8, rc8, rs8, mA8, mc8, ms8, gA8, gc8, gs8, time8, dA8, dc8, ds8, lA8, lc8, ls8⟩ : KC) (fun b => (X9.heap.size + 1 + 1 <= b /\ b < w1.heap.size) ∨ w1.heap.size <= b /\ b < w2.heap.size) ur ug ud ul := hq8; clear ho8 hq4 hq9
    refine hK.out _ _ (mkS _ P) fun hH => ?_; clear hK K; try simp only [zX,zY]
    refine ztk [5,6,7] ?_; repeat (refine ztn (hS := hH) (h := ?_); try simp only [zX,zY])
    refine zte ?_
    have hA8 : (w.heap.size < X9.heap.size /\ X9.heap.size ≠ (w.heap.size + 1) /\ X9.heap.size ≠ (w.heap.size + 1 + 1) /\ X9.heap.size ≠ (w.heap.size + 1 + 1 + 1) /\ X9.heap.size ≠ (w.heap.size + 1 + 1 + 1 + 1)) := (by omega)
    have hA9 : (w.heap.size < X9.heap.size + 1 /\ X9.heap.size + 1 ≠ (w.heap.size + 1) /\ X9.heap.size + 1 ≠ (w.heap.size + 1 + 1) /\ X9.heap.size + 1 ≠ (w.heap.size + 1 + 1 + 1) /\ X9.heap.size + 1 ≠ (w.heap.size + 1 + 1 + 1 + 1)) := (by omega)
    have hAB : (X9.heap.size) ≠ (X9.heap.size + 1) := (by omega)
    have Q8 : Hid (KQ (w2) (⟨rA8, rc8, rs8, mA8, mc8, ms8, gA8, gc8, gs8, time8, dA8, dc8, ds8, lA8, lc8, ls8⟩ : KC) (fun b => w.heap.size < b /\ b ≠ (w.heap.size + 1) /\ b ≠ (w.heap.size + 1 + 1) /\ b ≠ (w.heap.size + 1 + 1 + 1) /\ b ≠ (w.heap.size + 1 + 1 + 1 + 1) /\ b ≠ (X9.heap.size) /\ b ≠ (X9.heap.size + 1)) ur ug ud ul) := (hq8.mono (fun b _ hb => by omega))
    have l8 := A8.lt
    have l9 := A9.lt
    clear hq8
    generalize w2 = w4 at P A8 A9 Q8 l8 l9 ⊢
    generalize (X9.heap.size + 1) = PB at A9 hA9 hAB Q8 l9 ⊢
    generalize (X9.heap.size) = PA at A8 hA8 hAB Q8 l8 ⊢
  rotate_left 3
  focus
   simp only [zG]
   go_simp
   have A9 : Blk (X9.alloc (.cells Qai 130)) (X9.heap.size) 130 Qai := Blk.new X9 130 Qai; have P := P.alloc (.cells Qai 130)
   refine hK.out _ _ (mkS _ P) fun hH => ?_; clear hK K; try simp only [zX,zY]
   refine zR2 2 8 (fun K hK => ?_) (fun K hK => ?_)
   focus
    simp only [zG]
    go_simp
    refine (HCP.out _ P.bl).mono ?_; rintro e w1 ⟨rA9, rc9, rs9, mA9, mc9, ms9, gA9, gc9, gs9, time9, dA9, dc9, ds9, lA9, lc9, ls9, br, bg, bd, bl, rfl, hp9, hq9, hcp9, g1⟩; have P := P.below g1; have z1 := g1.size; simp only [World.size_alloc] at z1 hq9; have z1 : X9.heap.size + 1 <= w1.heap.size := z1; have hq9 : KQ w1 (⟨rA9, rc9, rs9, mA9, mc9, ms9, gA9, gc9, gs9, time9, dA9, dc9, ds9, lA9, lc9, ls9⟩ : KC) (fun b => X9.heap.size + 1 <= b /\ b < w1.heap.size) br bg bd bl := hq9; have A9 := A9.below g1 A9.lt; clear g1
    refine hK.out _ _ (mkS _ P) fun hH => ?_; clear hK K; try simp only [zX,zY]
    refine zR2 4 8 (fun K hK => ?_) (fun K hK => ?_)
    focus
     simp only [zG]
     go_simp
     have hq4 := hq9; have hS4 : ∀ b, (X9.heap.size + 1 <= b /\ b < w1.heap.size) -> b < (w1).heap.size := (fun b hb => by have h9 := hb.2; omega); refine (HN.out _ _ _ _ _ _ _ _ _ _ _ _ _ _ _ _ _ _ _ _ _ _ hp9 hq4 hcp9 hS4).mono ?_; rintro e w2 ⟨y, ur, ug, ud, ul, he, hp8, hq8, ho8⟩; obtain (⟨rA8, rc8, rs8, mA8, mc8, ms8, gA8, gc8, gs8, time8, dA8, dc8, ds8, lA8, lc8, ls8⟩ : KC) := y; simp only [KC.cells] at he; subst he; have z2 := ho8.size; have z2 : w1.heap.size <= w2.heap.size := z2; have P := P.offp ho8 (fun b hb => by have h9 := hb.1; omega); have A9 := A9.offp ho8 (fun hb => by have h9 := hb.1; have h10 := hb.2; omega); have hq8 : KQ w2 (⟨rA8, rc8, rs8, mA8, mc8, ms8, gA8, gc8, gs8, time8, dA8, dc8, ds8, lA8, lc8, ls8⟩ : KC) (fun b => (X9.heap.size + 1 <= b /\ b < w1.heap.size) ∨ w1.heap.size <= b /\ b < w2.heap.size) ur ug ud ul := hq8; clear ho8 hq4 hq9
     refine hK.out _ _ (mkS _ P) fun hH => ?_; clear hK K; try simp only [zX,zY]
     refine ztk [5,6,7] ?_; repeat (refine ztn (hS := hH) (h := ?_); try simp only [zX,zY])
     refine zte ?_
     refine zR1 8 (fun K hK => ?_)
     simp only [zG]
     go_simp
     have A8 : Blk (w2.alloc (.cells Qab 90)) (w2.heap.size) 90 Qab := Blk.new w2 90 Qab; have P := P.alloc (.cells Qab 90); have A9 := A9.alloc (.cells Qab 90); have hq8 := hq8.below (Qaf (Below.refl _ _) (.cells Qab 90))
     refine hK.out _ _ (mkS _ P) fun hH => ?_; clear hK K; try simp only [zX,zY]
     have hA8 : (w.heap.size < w2.heap.size /\ w2.heap.size ≠ (w.heap.size + 1) /\ w2.heap.size ≠ (w.heap.size + 1 + 1) /\ w2.heap.size ≠ (w.heap.size + 1 + 1 + 1) /\ w2.heap.size ≠ (w.heap.size + 1 + 1 + 1 + 1)) := (by omega)
     have hA9 : (w.heap.size < X9.heap.size /\ X9.heap.size ≠ (w.heap.size + 1) /\ X9.heap.size ≠ (w.heap.size + 1 + 1) /\ X9.heap.size ≠ (w.heap.size + 1 + 1 + 1) /\ X9.heap.size ≠ (w.heap.size + 1 + 1 + 1 + 1)) := (by omega)
     have hAB : (w2.heap.size) ≠ (X9.heap.size) := (by omega)
     have Q8 : Hid (KQ ((w2.alloc (.cells Qab 90))) (⟨rA8, rc8, rs8, mA8, mc8, ms8, gA8, gc8, gs8, time8, dA8, dc8, ds8, lA8, lc8, ls8⟩ : KC) (fun b => w.heap.size < b /\ b ≠ (w.heap.size + 1) /\ b ≠ (w.heap.size + 1 + 1) /\ b ≠ (w.heap.size + 1 + 1 + 1) /\ b ≠ (w.heap.size + 1 + 1 + 1 + 1) /\ b ≠ (w2.heap.size) /\ b ≠ (X9.heap.size)) ur ug ud ul) := (hq8.mono (fun b _ hb => by omega))
     have l8 := A8.lt
     have l9 := A9.lt
     clear hq8
     generalize (w2.alloc (.cells Qab 90)) = w4 at P A8 A9 Q8 l8 l9 ⊢
     generalize (w2.heap.size) = PA at A8 hA8 hAB Q8 l8 ⊢
     generalize (X9.heap.size) = PB at A9 hA9 hAB Q8 l9 ⊢
    rotate_left
    focus
     simp only [zG]
     go_simp
     have A8 : Blk (w1.alloc (.cells Qab 90)) (w1.heap.size) 90 Qab := Blk.new w1 90 Qab; have P := P.alloc (.cells Qab 90); have A9 := A9.alloc (.cells Qab 90)
     refine hK.out _ _ (mkS _ P) fun hH => ?_; clear hK K; try simp only [zX,zY]
     refine zR1 4 (fun K hK => ?_)
     simp only [zG]
     go_simp
     have hq4 := hq9; have hq4 := hq4.below (Qaf (Below.refl _ _) (.cells Qab 90)); have hS4 : ∀ b, (X9.heap.size + 1 <= b /\ b < w1.heap.size) -> b < ((w1.alloc (.cells Qab 90))).heap.size := (fun b hb => by simp only [World.size_alloc]; have h9 := hb.2; omega); refine (HN.out _ _ _ _ _ _ _ _ _ _ _ _ _ _ _ _ _ _ _ _ _ _ hp9 hq4 hcp9 hS4).mono ?_; rintro e w2 ⟨y, ur, ug, ud, ul, he, hp8, hq8, ho8⟩; obtain (⟨rA8, rc8, rs8, mA8, mc8, ms8, gA8, gc8, gs8, time8, dA8, dc8, ds8, lA8, lc8, ls8⟩ : KC) := y; simp only [KC.cells] at he; subst he; have z2 := ho8.size; simp only [World.size_alloc] at z2 hq8; have z2 : w1.heap.size + 1 <= w2.heap.size := z2; have P := P.offp ho8 (fun b hb => by have h9 := hb.1; omega); have A8 := A8.offp ho8 (fun hb => by have h9 := hb.1; have h10 := hb.2; omega); have A9 := A9.offp ho8 (fun hb => by have h9 := hb.1; have h10 := hb.2; omega); have hq8 : KQ w2 (⟨rA8, rc8, rs8, mA8, mc8, ms8, gA8, gc8, gs8, time8, dA8, dc8, ds8, lA8, lc8, ls8⟩ : KC) (fun b => (X9.heap.size + 1 <= b /\ b < w1.heap.size) ∨ w1.heap.size + 1 <= b /\ b < w2.heap.size) ur ug ud ul := hq8; clear ho8 hq4 hq9
     refine hK.out _ _ (mkS _ P) fun hH => ?_; clear hK K; try simp only [zX,zY]
     refine ztk [5,6,7] ?_; repeat (refine ztn (hS := hH) (h := ?_); try simp only [zX,zY])
     refine zte ?_
     have hA8 : (w.heap.size < w1.heap.size /\ w1.heap.size ≠ (w.heap.size + 1) /\ w1.heap.size ≠ (w.heap.size + 1 + 1) /\ w1.heap.size ≠ (w.heap.size + 1 + 1 + 1) /\ w1.heap.size ≠ (w.heap.size + 1 + 1 + 1 + 1)) := (by omega)
     have hA9 : (w.heap.size < X9.heap.size /\ X9.heap.size ≠ (w.heap.size + 1) /\ X9.heap.size ≠ (w.heap.size + 1 + 1) /\ X9.heap.size ≠ (w.heap.size + 1 + 1 + 1) /\ X9.heap.size ≠ (w.heap.size + 1 + 1 + 1 + 1)) := (by omega)
     have hAB : (w1.heap.size) ≠ (X9.heap.size) := (by omega)
     have Q8 : Hid (KQ (w2) (⟨rA8, rc8, rs8, mA8, mc8, ms8, gA8, gc8, gs8, time8, dA8, dc8, ds8, lA8, lc8, ls8⟩ : KC) (fun b => w.heap.size < b /\ b ≠ (w.heap.size + 1) /\ b ≠ (w.heap.size + 1 + 1) /\ b ≠ (w.heap.size + 1 + 1 + 1) /\ b ≠ (w.heap.size + 1 + 1 + 1 + 1) /\ b ≠ (w1.heap.size) /\ b ≠ (X9.heap.size)) ur ug ud ul) := (hq8.mono (fun b _ hb => by omega))
     have l8 := A8.lt
     have l9 := A9.lt
     clear hq8
     generalize w2 = w4 at P A8 A9 Q8 l8 l9 ⊢
     generalize (w1.heap.size) = PA at A8 hA8 hAB Q8 l8 ⊢
     generalize (X9.heap.size) = PB at A9 hA9 hAB Q8 l9 ⊢
   rotate_left 2
   focus
    simp only [zG]
    go_simp
    have A8 : Blk ((X9.alloc (.cells Qai 130)).alloc (.cells Qab 90)) (X9.heap.size + 1) 90 Qab := (by have h9 := Blk.new (X9.alloc (.cells Qai 130)) 90 Qab; simpa using h9); have P := P.alloc (.cells Qab 90); have A9 := A9.alloc (.cells Qab 90)
    refine hK.out _ _ (mkS _ P) fun hH => ?_; clear hK K; try simp only [zX,zY]
    refine zR1 2 (fun K hK => ?_)
    simp only [zG]
    go_simp
    refine (HCP.out _ P.bl).mono ?_; rintro e w1 ⟨rA9, rc9, rs9, mA9, mc9, ms9, gA9, gc9, gs9, time9, dA9, dc9, ds9, lA9, lc9, ls9, br, bg, bd, bl, rfl, hp9, hq9, hcp9, g1⟩; have P := P.below g1; have z1 := g1.size; simp only [World.size_alloc] at z1 hq9; have z1 : X9.heap.size + 1 + 1 <= w1.heap.size := z1; have hq9 : KQ w1 (⟨rA9, rc9, rs9, mA9, mc9, ms9, gA9, gc9, gs9, time9, dA9, dc9, ds9, lA9, lc9, ls9⟩ : KC) (fun b => X9.heap.size + 1 + 1 <= b /\ b < w1.heap.size) br bg bd bl := hq9; have A8 := A8.below g1 A8.lt; have A9 := A9.below g1 A9.lt; clear g1
    refine hK.out _ _ (mkS _ P) fun hH => ?_; clear hK K; try simp only [zX,zY]
    refine zR1 4 (fun K hK => ?_)
    simp only [zG]
    go_simp
    have hq4 := hq9; have hS4 : ∀ b, (X9.heap.size + 1 + 1 <= b /\ b < w1.heap.size) -> b < (w1).heap.size := (fun b hb => by have h9 := hb.2; omega); refine (HN.out _ _ _ _ _ _ _ _ _ _ _ _ _ _ _ _ _ _ _ _ _ _ hp9 hq4 hcp9 hS4).mono ?_; rintro e w2 ⟨y, ur, ug, ud, ul, he, hp8, hq8, ho8⟩; obtain (⟨rA8, rc8, rs8, mA8, mc8, ms8, gA8, gc8, gs8, time8, dA8, dc8, ds8, lA8, lc8, ls8⟩ : KC) := y; simp only [KC.cells] at he; subst he; have z2 := ho8.size; have z2 : w1.heap.size <= w2.heap.size := z2; have P := P.offp ho8 (fun b hb => by have h9 := hb.1; omega); have A8 := A8.offp ho8 (fun hb => by have h9 := hb.1; have h10 := hb.2; omega); have A9 := A9.offp ho8 (fun hb => by have h9 := hb.1; have h10 := hb.2; omega); have hq8 : KQ w2 (⟨rA8, rc8, rs8, mA8, mc8, ms8, gA8, gc8, gs8, time8, dA8, dc8, ds8, lA8, lc8, ls8⟩ : KC) (fun b => (X9.heap.size + 1 + 1 <= b /\ b < w1.heap.size) ∨ w1.heap.size <= b /\ b < w2.heap.size) ur ug ud ul := hq8; clear ho8 hq4 hq9
    refine hK.out _ _ (mkS _ P) fun hH => ?_; clear hK K; try simp only [zX,zY]
    refine ztk [5,6,7] ?_; repeat (refine ztn (hS := hH) (h := ?_); try simp only [zX,zY])
    refine zte ?_
    have hA8 : (w.heap.size < X9.heap.size + 1 /\ X9.heap.size + 1 ≠ (w.heap.size + 1) /\ X9.heap.size + 1 ≠ (w.heap.size + 1 + 1) /\ X9.heap.size + 1 ≠ (w.heap.size + 1 + 1 + 1) /\ X9.heap.size + 1 ≠ (w.heap.size + 1 + 1 + 1 + 1)) := (by omega)
    have hA9 : (w.heap.size < X9.heap.size /\ X9.heap.size ≠ (w.heap.size + 1) /\ X9.heap.size ≠ (w.heap.size + 1 + 1) /\ X9.heap.size ≠ (w.heap.size + 1 + 1 + 1) /\ X9.heap.size ≠ (w.heap.size + 1 + 1 + 1 + 1)) := (by omega)
    have hAB : (X9.heap.size + 1) ≠ (X9.heap.size) := (by omega)
    have Q8 : Hid (KQ (w2) (⟨rA8, rc8, rs8, mA8, mc8, ms8, gA8, gc8, gs8, time8, dA8, dc8, ds8, lA8, lc8, ls8⟩ : KC) (fun b => w.heap.size < b /\ b ≠ (w.heap.size + 1) /\ b ≠ (w.heap.size + 1 + 1) /\ b ≠ (w.heap.size + 1 + 1 + 1) /\ b ≠ (w.heap.size + 1 + 1 + 1 + 1) /\ b ≠ (X9.heap.size + 1) /\ b ≠ (X9.heap.size)) ur ug ud ul) := (hq8.mono (fun b _ hb => by omega))
    have l8 := A8.lt
    have l9 := A9.lt
    clear hq8
    generalize w2 = w4 at P A8 A9 Q8 l8 l9 ⊢
    generalize (X9.heap.size + 1) = PA at A8 hA8 hAB Q8 l8 ⊢
    generalize (X9.heap.size) = PB at A9 hA9 hAB Q8 l9 ⊢
  all_goals
   obtain ⟨z0, z1, z2, z3, z4, z5⟩ := A8.row6
   have f0 := A8.thaw 0; have f1 := A8.thaw 1; have f2 := A8.thaw 2; have f3 := A8.thaw 3; have f4 := A8.thaw 4; have f5 := A8.thaw 5
   have P9 := P.only (Qac w4 PA (.slice rA8 rs8.length rc8) (.slice mA8 ms8.length mc8) (.slice gA8 gs8.length gc8) (.int .i64 time8) (.slice dA8 ds8.length dc8) (.slice lA8 ls8.length lc8)) hA8
   have B9 := Qax A8 (.slice rA8 rs8.length rc8) (.slice mA8 ms8.length mc8) (.slice gA8 gs8.length gc8) (.int .i64 time8) (.slice dA8 ds8.length dc8) (.slice lA8 ls8.length lc8)
   have A9' := A9.only (Qac w4 PA (.slice rA8 rs8.length rc8) (.slice mA8 ms8.length mc8) (.slice gA8 gs8.length gc8) (.int .i64 time8) (.slice dA8 ds8.length dc8) (.slice lA8 ls8.length lc8)) (fun e => hAB e.symm)
   obtain ⟨y0, y1, y2, y3⟩ := A9'.row4
   have e0 := A9'.thaw 0; have e1 := A9'.thaw 1; have e2 := A9'.thaw 2; have e3 := A9'.thaw 3
   have PX := P9.only (Qah (putK w4 PA (.slice rA8 rs8.length rc8) (.slice mA8 ms8.length mc8) (.slice gA8 gs8.length gc8) (.int .i64 time8) (.slice dA8 ds8.length dc8) (.slice lA8 ls8.length lc8)) PB (.int .i64 ac) (.int .i64 aN) (.string ak) (.string ax)) hA9
   have BX := B9.only (Qah (putK w4 PA (.slice rA8 rs8.length rc8) (.slice mA8 ms8.length mc8) (.slice gA8 gs8.length gc8) (.int .i64 time8) (.slice dA8 ds8.length dc8) (.slice lA8 ls8.length lc8)) PB (.int .i64 ac) (.int .i64 aN) (.string ak) (.string ax)) hAB
   have CX := Qer A9' (.int .i64 ac) (.int .i64 aN) (.string ak) (.string ax)
   have QX := hidP ((Q8.out.offp (Offp.of_only (Qac w4 PA (.slice rA8 rs8.length rc8) (.slice mA8 ms8.length mc8) (.slice gA8 gs8.length gc8) (.int .i64 time8) (.slice dA8 ds8.length dc8) (.slice lA8 ls8.length lc8))) (fun b hb e => hb.2.2.2.2.2.1 e)).offp (Offp.of_only (Qah (putK w4 PA (.slice rA8 rs8.length rc8) (.slice mA8 ms8.length mc8) (.slice gA8 gs8.length gc8) (.int .i64 time8) (.slice dA8 ds8.length dc8) (.slice lA8 ls8.length lc8)) PB (.int .i64 ac) (.int .i64 aN) (.string ak) (.string ax))) (fun b hb e => hb.2.2.2.2.2.2 e))
   refine zR1 10 (fun K hK => ?_)
   simp only [zG]
   go_simp
   skip
   refine hK.out _ _ (mkS _ P9) fun hH => ?_; clear hK K; try simp only [zX,zY]
   refine zR1 11 (fun K hK => ?_)
   simp only [zG]
   go_simp
   skip
   refine hK.out _ _ (mkS _ PX) fun hH => ?_; clear hK K; try simp only [zX,zY]
   refine zdn ?_
   go_wp2_with fail
   go_meet
   exact ⟨PA, PB, _, _, _, _, _, _, _, _, _, _, _, _, _, _, _, _, ur, ug, ud, ul, rfl, rfl, PX, BX, CX, QX, hp8, hA8, hA9, hAB⟩
 case rest =>
  obtain ⟨PA, PB, rA8, rc8, rs8, mA8, mc8, ms8, gA8, gc8, gs8, time8, dA8, dc8, ds8, lA8, lc8, ls8, ur, ug, ud, ul, rfl, rfl, P5, K5, A5, Q5, hp5, hPA, hPB, hAB⟩ := hcut
  clear mkS P
  obtain rfl : dA8 = (some ⟨ud, 0, none⟩) := Q5.out.d.a
  obtain rfl : lA8 = (some ⟨ul, 0, none⟩) := Q5.out.l.a
  have hds : Hid (ds8.length = 4) := by have h := H4.out.1; rw [← hp5.out] at h; exact h
  have hls : Hid (ls8.length = 4) := by have h := H4.out.2; rw [← hp5.out] at h; exact h
  have hqd : q < ds8.length := by rw [hds.out]; exact hq
  have hql : q < ls8.length := by rw [hls.out]; exact hq
  have hqz7' : (q : Int) < (ds8.length : Int) := by omega
  have hqz9' : (q : Int) < (ls8.length : Int) := by omega
  have CD : wc.cell? ⟨ud, q, none⟩ = some (.int .i64 ds8[q]) /\ wc.frozen? ⟨ud, q, none⟩ = false := by
   have h1 := Q5.out.d.i.cell q hqd (f := 0) (v := .int .i64 ds8[q]) (by simp [Cel.cs])
   have h2 := (Q5.out.d.th (q * 1) (by show q * 1 < ds8.length * 1; omega)).2
   simp only [Cel.k, Nat.zero_add, Nat.mul_one, Nat.add_zero] at h1 h2
   exact ⟨h1, h2⟩
  have CL0 : ∀ j, j < 4 -> wc.frozen? ⟨ul, q * 4 + j, none⟩ = false := fun j hj => by
   have h9 := (Q5.out.l.th (q * 4 + j) (by show q * 4 + j < ls8.length * 4; omega)).2
   rwa [Nat.zero_add] at h9
  have CL1 : wc.cell? ⟨ul, q * 4, none⟩ = some (.int .i64 ls8[q].code) /\ wc.cell? ⟨ul, q * 4 + 1, none⟩ = some (.int .i64 ls8[q].n) /\ wc.cell? ⟨ul, q * 4 + 2, none⟩ = some (.string ls8[q].key) /\ wc.cell? ⟨ul, q * 4 + 3, none⟩ = some (.string ls8[q].text) := by
   have h := Q5.out.l.i
   have g0 := h.cell q hql (f := 0) (v := .int .i64 ls8[q].code) rfl
   have g1 := h.cell q hql (f := 1) (v := .int .i64 ls8[q].n) rfl
   have g2 := h.cell q hql (f := 2) (v := .string ls8[q].key) rfl
   have g3 := h.cell q hql (f := 3) (v := .string ls8[q].text) rfl
   simp only [Cel.k, Nat.zero_add, Nat.add_zero] at g0 g1 g2 g3
   exact ⟨g0, g1, g2, g3⟩
  have hud : Hid (ud ≠ ul /\ ud ≠ PA /\ ud ≠ PB /\ ul ≠ PA /\ ul ≠ PB /\ ud < wc.heap.size /\ ul < wc.heap.size) := ⟨Q5.out.ne.2.2.2.2.2, Q5.out.s.2.2.1.2.2.2.2.2.1, Q5.out.s.2.2.1.2.2.2.2.2.2, Q5.out.s.2.2.2.2.2.2.2.2.1, Q5.out.s.2.2.2.2.2.2.2.2.2, Q5.out.d.lt, Q5.out.l.lt⟩
  have Q6 : Hid (KQ (wc.setCell ⟨ud, q, none⟩ (.int .i64 seq)) (⟨rA8, rc8, rs8, mA8, mc8, ms8, gA8, gc8, gs8, time8, (some ⟨ud, 0, none⟩), dc8, ds8.set q seq, (some ⟨ul, 0, none⟩), lc8, ls8⟩ : KC) (fun b => w.heap.size < b /\ b ≠ (w.heap.size + 1) /\ b ≠ (w.heap.size + 1 + 1) /\ b ≠ (w.heap.size + 1 + 1 + 1) /\ b ≠ (w.heap.size + 1 + 1 + 1 + 1) /\ b ≠ PA /\ b ≠ PB) ur ug ud ul) := by have h := Q5.out.setD q hqd seq; rw [Nat.mul_one] at h; exact h
  have kd : Only ud wc (wc.setCell ⟨ud, q, none⟩ (.int .i64 seq)) := (Only.refl ud wc).set _ _
  have P6 := P5.only kd (by have h := Q5.out.s.2.2.1; exact ⟨h.1, h.2.1, h.2.2.1, h.2.2.2.1, h.2.2.2.2.1⟩)
  have K6 := K5.only kd (fun e => hud.out.2.1 e.symm)
  have A6 := A5.only kd (fun e => hud.out.2.2.1 e.symm)
  have hs6 : (wc.setCell ⟨ud, q, none⟩ (.int .i64 seq)).heap.size = wc.heap.size := by simp
  have H6 := hidP (And.intro P6 (And.intro K6 A6))
  have CM : ∀ (o : Nat), (wc.setCell ⟨ud, q, none⟩ (.int .i64 seq)).cell? ⟨ul, o, none⟩ = wc.cell? ⟨ul, o, none⟩ := fun o => kd.cell (p := ⟨ul, o, none⟩) hud.out.2.2.2.2.2.2 (fun e => hud.out.1 e.symm)
  have CF : ∀ (o : Nat), (wc.setCell ⟨ud, q, none⟩ (.int .i64 seq)).frozen? ⟨ul, o, none⟩ = wc.frozen? ⟨ul, o, none⟩ := fun o => kd.frozen (p := ⟨ul, o, none⟩) hud.out.2.2.2.2.2.2 (fun e => hud.out.1 e.symm)
  have H7 : Hid (((wc.setCell ⟨ud, q, none⟩ (.int .i64 seq)).cell? ⟨ul, q * 4, none⟩ = some (.int .i64 ls8[q].code) /\ (wc.setCell ⟨ud, q, none⟩ (.int .i64 seq)).cell? ⟨ul, q * 4 + 1, none⟩ = some (.int .i64 ls8[q].n) /\ (wc.setCell ⟨ud, q, none⟩ (.int .i64 seq)).cell? ⟨ul, q * 4 + 2, none⟩ = some (.string ls8[q].key) /\ (wc.setCell ⟨ud, q, none⟩ (.int .i64 seq)).cell? ⟨ul, q * 4 + 3, none⟩ = some (.string ls8[q].text)) /\ ∀ j, j < 4 -> (wc.setCell ⟨ud, q, none⟩ (.int .i64 seq)).frozen? ⟨ul, q * 4 + j, none⟩ = false) := ⟨⟨(CM _).trans CL1.1, (CM _).trans CL1.2.1, (CM _).trans CL1.2.2.1, (CM _).trans CL1.2.2.2⟩, fun j hj => (CF _).trans (CL0 j hj)⟩
  clear CL0 CL1 CM CF kd P6 K6 A6
  obtain ⟨k0, k1, k2, k3, k4, k5⟩ := K5.row6
  obtain ⟨c0, c1, c2, c3, c4, c5, c6, c7⟩ := P5.bx.c.row8c
  obtain ⟨cd1, cd2⟩ := CD
  have lc5 := P5.bx.c.lt
  have lk5 := K5.lt
  go_upto_region 7 with fail
  clear k0 k1 k2 k3 k4 k5 c0 c1 c2 c3 c4 c5 c6 c7 cd1 cd2 lc5 lk5 P5 K5 A5 Q5
  generalize wc.setCell ⟨ud, q, none⟩ (.int .i64 seq) = W6 at Q6 H6 H7 hs6 ⊢
  obtain ⟨P6, K6, A6⟩ := H6.out
  obtain ⟨⟨g0, g1, g2, g3⟩, gf⟩ := H7.out
  have g4 : W6.frozen? ⟨ul, q * 4, none⟩ = false := gf 0 (by omega)
  have g5 := gf 1 (by omega)
  have g6 := gf 2 (by omega)
  have g7 := gf 3 (by omega)
  obtain ⟨k0, k1, k2, k3, k4, k5⟩ := K6.row6
  obtain ⟨c0, c1, c2, c3, c4, c5, c6, c7⟩ := P6.bx.c.row8c
  obtain ⟨n0, n1, n2, n3⟩ := A6.row4
  have lc6 := P6.bx.c.lt
  have lk6 := K6.lt
  have la6 := A6.lt
  have kl : Only ul W6 ((((W6.setCell ⟨ul, q * 4, none⟩ (.int .i64 ac)).setCell ⟨ul, q * 4 + 1, none⟩ (.int .i64 aN)).setCell ⟨ul, q * 4 + 2, none⟩ (.string ak)).setCell ⟨ul, q * 4 + 3, none⟩ (.string ax)) := ((((Only.refl ul W6).set _ _).set _ _).set _ _).set _ _
  have Q7 : Hid (KQ ((((W6.setCell ⟨ul, q * 4, none⟩ (.int .i64 ac)).setCell ⟨ul, q * 4 + 1, none⟩ (.int .i64 aN)).setCell ⟨ul, q * 4 + 2, none⟩ (.string ak)).setCell ⟨ul, q * 4 + 3, none⟩ (.string ax)) (⟨rA8, rc8, rs8, mA8, mc8, ms8, gA8, gc8, gs8, time8, (some ⟨ud, 0, none⟩), dc8, ds8.set q seq, (some ⟨ul, 0, none⟩), lc8, ls8.set q ⟨ac, aN, ak, ax⟩⟩ : KC) (fun b => w.heap.size < b /\ b ≠ (w.heap.size + 1) /\ b ≠ (w.heap.size + 1 + 1) /\ b ≠ (w.heap.size + 1 + 1 + 1) /\ b ≠ (w.heap.size + 1 + 1 + 1 + 1) /\ b ≠ PA /\ b ≠ PB) ur ug ud ul) := Q6.out.setL q hql ⟨ac, aN, ak, ax⟩
  have P7 := P6.only kl (by have h := Q6.out.s.2.2.2; exact ⟨h.1, h.2.1, h.2.2.1, h.2.2.2.1, h.2.2.2.2.1⟩)
  have K7 := K6.only kl (fun e => hud.out.2.2.2.1 e.symm)
  have A7 := A6.only kl (fun e => hud.out.2.2.2.2.1 e.symm)
  have H8 := hidP (And.intro P7 (And.intro K7 A7))
  clear gf kl P7 K7 A7 H6 H7
  go_upto_region 8 with fail
  clear k0 k1 k2 k3 k4 k5 c0 c1 c2 c3 c4 c5 c6 c7 n0 n1 n2 n3 g0 g1 g2 g3 g4 g5 g6 g7 lc6 lk6 la6 P6 K6 A6 Q6
  generalize ((((W6.setCell ⟨ul, q * 4, none⟩ (.int .i64 ac)).setCell ⟨ul, q * 4 + 1, none⟩ (.int .i64 aN)).setCell ⟨ul, q * 4 + 2, none⟩ (.string ak)).setCell ⟨ul, q * 4 + 3, none⟩ (.string ax)) = X3 at Q7 H8 ⊢
  obtain ⟨P7, K7, A7⟩ := H8.out
  have I3 : Bx (fun _ => False) w X3 PA (w.heap.size + 1 + 1) (w.heap.size + 1 + 1 + 1) (w.heap.size + 1 + 1 + 1 + 1) (Qaa rA8 rs8.length rc8 mA8 ms8.length mc8 gA8 gs8.length gc8 time8 (some ⟨ud, 0, none⟩) ds8.length dc8 (some ⟨ul, 0, none⟩) ls8.length lc8) (Qad (q : Int) seq op ca cb cc key text) := ⟨P7.bx.off, K7, P7.bx.c, P7.bx.r1, P7.bx.r2, ⟨by omega, P7.bx.lo.2⟩, ⟨hPA.2.2.1, hPA.2.2.2.1, hPA.2.2.2.2, P7.bx.ne.2.2.2⟩, P7.bx.s⟩
  have Q3 := hidP (Q7.out.mono (S' := fun b => False ∨ (w.heap.size <= b /\ b ≠ (w.heap.size + 1 + 1 + 1) /\ b ≠ (w.heap.size + 1 + 1 + 1 + 1))) (fun b _ hb => .inr ⟨by omega, hb.2.2.2.1, hb.2.2.2.2.1⟩))
  obtain ⟨n0, n1, n2, n3⟩ := A7.row4
  have ln := A7.lt
  clear H8 P7 K7 A7 Q7
  obtain ⟨br, rfl⟩ : ∃ z, z = ur := ⟨_, rfl⟩
  obtain ⟨bg, rfl⟩ : ∃ z, z = ug := ⟨_, rfl⟩
  obtain ⟨bd, rfl⟩ : ∃ z, z = ud := ⟨_, rfl⟩
  obtain ⟨bl, rfl⟩ : ∃ z, z = ul := ⟨_, rfl⟩
  have mkS : ∀ V : World, Blk V PA 90 (Qaa rA8 rs8.length rc8 mA8 ms8.length mc8 gA8 gs8.length gc8 time8 (some ⟨bd, 0, none⟩) ds8.length dc8 (some ⟨bl, 0, none⟩) ls8.length lc8) -> V.cell? ⟨PB, 0, none⟩ = some (.int .i64 ac) -> V.cell? ⟨PB, 1, none⟩ = some (.int .i64 aN) -> V.cell? ⟨PB, 2, none⟩ = some (.string ak) -> V.cell? ⟨PB, 3, none⟩ = some (.string ax) -> (fun (V : World) => V.cell? ⟨PA, 0, none⟩ = some (.slice rA8 rs8.length rc8) /\ V.cell? ⟨PA, 1, none⟩ = some (.slice mA8 ms8.length mc8) /\ V.cell? ⟨PA, 2, none⟩ = some (.slice gA8 gs8.length gc8) /\ V.cell? ⟨PA, 3, none⟩ = some (.int .i64 time8) /\ V.cell? ⟨PA, 4, none⟩ = some (.slice (some ⟨bd, 0, none⟩) ds8.length dc8) /\ V.cell? ⟨PA, 5, none⟩ = some (.slice (some ⟨bl, 0, none⟩) ls8.length lc8) /\ V.cell? ⟨PB, 0, none⟩ = some (.int .i64 ac) /\ V.cell? ⟨PB, 1, none⟩ = some (.int .i64 aN) /\ V.cell? ⟨PB, 2, none⟩ = some (.string ak) /\ V.cell? ⟨PB, 3, none⟩ = some (.string ax)) V := fun V hk hm0 hm1 hm2 hm3 => by obtain ⟨a0, a1, a2, a3, a4, a5⟩ := hk.row6; exact ⟨a0, a1, a2, a3, a4, a5, hm0, hm1, hm2, hm3⟩
  have SW := mkS _ I3.k.drew (n0) (n1) (n2) (n3)
  have J := I3.drew
  have QQ := hidP (Q3.out.below (Below.refl _ _).drew)
  have M0 : X3.drew.cell? ⟨PB, 0, none⟩ = some (.int .i64 ac) /\ PB < X3.drew.heap.size := ⟨n0, ln⟩
  have M1 : X3.drew.cell? ⟨PB, 1, none⟩ = some (.int .i64 aN) /\ PB < X3.drew.heap.size := ⟨n1, ln⟩
  have M2 : X3.drew.cell? ⟨PB, 2, none⟩ = some (.string ak) /\ PB < X3.drew.heap.size := ⟨n2, ln⟩
  have M3 : X3.drew.cell? ⟨PB, 3, none⟩ = some (.string ax) /\ PB < X3.drew.heap.size := ⟨n3, ln⟩
  refine wp_region_noPanic ?_
  refine wp_region_held_drew (S := (fun (V : World) => V.cell? ⟨PA, 0, none⟩ = some (.slice rA8 rs8.length rc8) /\ V.cell? ⟨PA, 1, none⟩ = some (.slice mA8 ms8.length mc8) /\ V.cell? ⟨PA, 2, none⟩ = some (.slice gA8 gs8.length gc8) /\ V.cell? ⟨PA, 3, none⟩ = some (.int .i64 time8) /\ V.cell? ⟨PA, 4, none⟩ = some (.slice (some ⟨bd, 0, none⟩) ds8.length dc8) /\ V.cell? ⟨PA, 5, none⟩ = some (.slice (some ⟨bl, 0, none⟩) ls8.length lc8) /\ V.cell? ⟨PB, 0, none⟩ = some (.int .i64 ac) /\ V.cell? ⟨PB, 1, none⟩ = some (.int .i64 aN) /\ V.cell? ⟨PB, 2, none⟩ = some (.string ak) /\ V.cell? ⟨PB, 3, none⟩ = some (.string ax))) (by kernel_rfl) ?_ (fun hH => ?_)
  . exact SW
  clear SW hH
  generalize X3.drew = XX at J QQ M0 M1 M2 M3 ⊢
  have hH := mkS XX J.k M0.1 M1.1 M2.1 M3.1
  have TT := hidP (Bx.told J (y := (⟨rA8, rc8, rs8, mA8, mc8, ms8, gA8, gc8, gs8, time8, (some ⟨bd, 0, none⟩), dc8, ds8.set q seq, (some ⟨bl, 0, none⟩), lc8, ls8.set q ⟨ac, aN, ak, ax⟩⟩ : KC)) (br := br) (bg := bg) (bd := bd) (bl := bl) (QQ.out) (⟨(ac), (aN), (ak), (ax)⟩ : An) (hv := show _ = (Qaa rA8 rs8.length rc8 mA8 ms8.length mc8 gA8 gs8.length gc8 time8 (some ⟨bd, 0, none⟩) ds8.length dc8 (some ⟨bl, 0, none⟩) ls8.length lc8) by simp only [KC.cells, List.length_set]))
  obtain ⟨z0, z1, z2, z3, z4, z5⟩ := J.r1.row6
  have f0 := J.r1.thaw 0; have f1 := J.r1.thaw 1; have f2 := J.r1.thaw 2; have f3 := J.r1.thaw 3; have f4 := J.r1.thaw 4; have f5 := J.r1.thaw 5
  obtain ⟨k0, k1, k2, k3, k4, k5⟩ := J.k.row6
  have R2 := J.r2.only (Qac _ (w.heap.size + 1 + 1 + 1) (.slice rA8 rs8.length rc8) (.slice mA8 ms8.length mc8) (.slice gA8 gs8.length gc8) (.int .i64 time8) (.slice (some ⟨bd, 0, none⟩) ds8.length dc8) (.slice (some ⟨bl, 0, none⟩) ls8.length lc8)) (fun e => J.ne.2.2.2.2.2 e.symm)
  obtain ⟨y0, y1, y2, y3⟩ := R2.row4
  have ee0 := R2.thaw 0; have ee1 := R2.thaw 1; have ee2 := R2.thaw 2; have ee3 := R2.thaw 3
  have C1 := Qat J.r1 (.slice rA8 rs8.length rc8) (.slice mA8 ms8.length mc8) (.slice gA8 gs8.length gc8) (.int .i64 time8) (.slice (some ⟨bd, 0, none⟩) ds8.length dc8) (.slice (some ⟨bl, 0, none⟩) ls8.length lc8)
  have B1 := (Qax J.r1 (.slice rA8 rs8.length rc8) (.slice mA8 ms8.length mc8) (.slice gA8 gs8.length gc8) (.int .i64 time8) (.slice (some ⟨bd, 0, none⟩) ds8.length dc8) (.slice (some ⟨bl, 0, none⟩) ls8.length lc8)).only (Qah _ (w.heap.size + 1 + 1 + 1 + 1) (.int .i64 (ac)) (.int .i64 (aN)) (.string ak) (.string ax)) (fun e => J.ne.2.2.2.2.2 e)
  have C2 := Qau R2 (.int .i64 (ac)) (.int .i64 (aN)) (.string ak) (.string ax)
  obtain ⟨s0, s1, s2, s3, s4, s5⟩ := C1
  obtain ⟨t0, t1, t2, t3⟩ := C2
  obtain ⟨q0, q1, q2, q3, q4, q5⟩ := B1.row6
  have hne12 : (w.heap.size + 1 + 1 + 1) ≠ (w.heap.size + 1 + 1 + 1 + 1) := J.ne.2.2.2.2.2
  have hne21 : (w.heap.size + 1 + 1 + 1 + 1) ≠ (w.heap.size + 1 + 1 + 1) := fun e => J.ne.2.2.2.2.2 e.symm
  have SK := hidP (mkS _ (J.k.only (Qac _ (w.heap.size + 1 + 1 + 1) (.slice rA8 rs8.length rc8) (.slice mA8 ms8.length mc8) (.slice gA8 gs8.length gc8) (.int .i64 time8) (.slice (some ⟨bd, 0, none⟩) ds8.length dc8) (.slice (some ⟨bl, 0, none⟩) ls8.length lc8)) J.ne.2.1) (((Qac XX (w.heap.size + 1 + 1 + 1) (.slice rA8 rs8.length rc8) (.slice mA8 ms8.length mc8) (.slice gA8 gs8.length gc8) (.int .i64 time8) (.slice (some ⟨bd, 0, none⟩) ds8.length dc8) (.slice (some ⟨bl, 0, none⟩) ls8.length lc8)).cell (p := ⟨PB, 0, none⟩) M0.2 (by show PB ≠ _; omega)).trans M0.1) (((Qac XX (w.heap.size + 1 + 1 + 1) (.slice rA8 rs8.length rc8) (.slice mA8 ms8.length mc8) (.slice gA8 gs8.length gc8) (.int .i64 time8) (.slice (some ⟨bd, 0, none⟩) ds8.length dc8) (.slice (some ⟨bl, 0, none⟩) ls8.length lc8)).cell (p := ⟨PB, 1, none⟩) M1.2 (by show PB ≠ _; omega)).trans M1.1) (((Qac XX (w.heap.size + 1 + 1 + 1) (.slice rA8 rs8.length rc8) (.slice mA8 ms8.length mc8) (.slice gA8 gs8.length gc8) (.int .i64 time8) (.slice (some ⟨bd, 0, none⟩) ds8.length dc8) (.slice (some ⟨bl, 0, none⟩) ls8.length lc8)).cell (p := ⟨PB, 2, none⟩) M2.2 (by show PB ≠ _; omega)).trans M2.1) (((Qac XX (w.heap.size + 1 + 1 + 1) (.slice rA8 rs8.length rc8) (.slice mA8 ms8.length mc8) (.slice gA8 gs8.length gc8) (.int .i64 time8) (.slice (some ⟨bd, 0, none⟩) ds8.length dc8) (.slice (some ⟨bl, 0, none⟩) ls8.length lc8)).cell (p := ⟨PB, 3, none⟩) M3.2 (by show PB ≠ _; omega)).trans M3.1))
  have SN := hidP (mkS _ ((J.k.only (Qac _ (w.heap.size + 1 + 1 + 1) (.slice rA8 rs8.length rc8) (.slice mA8 ms8.length mc8) (.slice gA8 gs8.length gc8) (.int .i64 time8) (.slice (some ⟨bd, 0, none⟩) ds8.length dc8) (.slice (some ⟨bl, 0, none⟩) ls8.length lc8)) J.ne.2.1).only (Qah _ (w.heap.size + 1 + 1 + 1 + 1) (.int .i64 (ac)) (.int .i64 (aN)) (.string ak) (.string ax)) J.ne.2.2.1) (((Qah (putK XX (w.heap.size + 1 + 1 + 1) (.slice rA8 rs8.length rc8) (.slice mA8 ms8.length mc8) (.slice gA8 gs8.length gc8) (.int .i64 time8) (.slice (some ⟨bd, 0, none⟩) ds8.length dc8) (.slice (some ⟨bl, 0, none⟩) ls8.length lc8)) (w.heap.size + 1 + 1 + 1 + 1) (.int .i64 (ac)) (.int .i64 (aN)) (.string ak) (.string ax)).cell (p := ⟨PB, 0, none⟩) (Nat.lt_of_lt_of_le M0.2 (Qac XX (w.heap.size + 1 + 1 + 1) (.slice rA8 rs8.length rc8) (.slice mA8 ms8.length mc8) (.slice gA8 gs8.length gc8) (.int .i64 time8) (.slice (some ⟨bd, 0, none⟩) ds8.length dc8) (.slice (some ⟨bl, 0, none⟩) ls8.length lc8)).size) (by show PB ≠ _; omega)).trans (((Qac XX (w.heap.size + 1 + 1 + 1) (.slice rA8 rs8.length rc8) (.slice mA8 ms8.length mc8) (.slice gA8 gs8.length gc8) (.int .i64 time8) (.slice (some ⟨bd, 0, none⟩) ds8.length dc8) (.slice (some ⟨bl, 0, none⟩) ls8.length lc8)).cell (p := ⟨PB, 0, none⟩) M0.2 (by show PB ≠ _; omega)).trans M0.1)) (((Qah (putK XX (w.heap.size + 1 + 1 + 1) (.slice rA8 rs8.length rc8) (.slice mA8 ms8.length mc8) (.slice gA8 gs8.length gc8) (.int .i64 time8) (.slice (some ⟨bd, 0, none⟩) ds8.length dc8) (.slice (some ⟨bl, 0, none⟩) ls8.length lc8)) (w.heap.size + 1 + 1 + 1 + 1) (.int .i64 (ac)) (.int .i64 (aN)) (.string ak) (.string ax)).cell (p := ⟨PB, 1, none⟩) (Nat.lt_of_lt_of_le M1.2 (Qac XX (w.heap.size + 1 + 1 + 1) (.slice rA8 rs8.length rc8) (.slice mA8 ms8.length mc8) (.slice gA8 gs8.length gc8) (.int .i64 time8) (.slice (some ⟨bd, 0, none⟩) ds8.length dc8) (.slice (some ⟨bl, 0, none⟩) ls8.length lc8)).size) (by show PB ≠ _; omega)).trans (((Qac XX (w.heap.size + 1 + 1 + 1) (.slice rA8 rs8.length rc8) (.slice mA8 ms8.length mc8) (.slice gA8 gs8.length gc8) (.int .i64 time8) (.slice (some ⟨bd, 0, none⟩) ds8.length dc8) (.slice (some ⟨bl, 0, none⟩) ls8.length lc8)).cell (p := ⟨PB, 1, none⟩) M1.2 (by show PB ≠ _; omega)).trans M1.1)) (((Qah (putK XX (w.heap.size + 1 + 1 + 1) (.slice rA8 rs8.length rc8) (.slice mA8 ms8.length mc8) (.slice gA8 gs8.length gc8) (.int .i64 time8) (.slice (some ⟨bd, 0, none⟩) ds8.length dc8) (.slice (some ⟨bl, 0, none⟩) ls8.length lc8)) (w.heap.size + 1 + 1 + 1 + 1) (.int .i64 (ac)) (.int .i64 (aN)) (.string ak) (.string ax)).cell (p := ⟨PB, 2, none⟩) (Nat.lt_of_lt_of_le M2.2 (Qac XX (w.heap.size + 1 + 1 + 1) (.slice rA8 rs8.length rc8) (.slice mA8 ms8.length mc8) (.slice gA8 gs8.length gc8) (.int .i64 time8) (.slice (some ⟨bd, 0, none⟩) ds8.length dc8) (.slice (some ⟨bl, 0, none⟩) ls8.length lc8)).size) (by show PB ≠ _; omega)).trans (((Qac XX (w.heap.size + 1 + 1 + 1) (.slice rA8 rs8.length rc8) (.slice mA8 ms8.length mc8) (.slice gA8 gs8.length gc8) (.int .i64 time8) (.slice (some ⟨bd, 0, none⟩) ds8.length dc8) (.slice (some ⟨bl, 0, none⟩) ls8.length lc8)).cell (p := ⟨PB, 2, none⟩) M2.2 (by show PB ≠ _; omega)).trans M2.1)) (((Qah (putK XX (w.heap.size + 1 + 1 + 1) (.slice rA8 rs8.length rc8) (.slice mA8 ms8.length mc8) (.slice gA8 gs8.length gc8) (.int .i64 time8) (.slice (some ⟨bd, 0, none⟩) ds8.length dc8) (.slice (some ⟨bl, 0, none⟩) ls8.length lc8)) (w.heap.size + 1 + 1 + 1 + 1) (.int .i64 (ac)) (.int .i64 (aN)) (.string ak) (.string ax)).cell (p := ⟨PB, 3, none⟩) (Nat.lt_of_lt_of_le M3.2 (Qac XX (w.heap.size + 1 + 1 + 1) (.slice rA8 rs8.length rc8) (.slice mA8 ms8.length mc8) (.slice gA8 gs8.length gc8) (.int .i64 time8) (.slice (some ⟨bd, 0, none⟩) ds8.length dc8) (.slice (some ⟨bl, 0, none⟩) ls8.length lc8)).size) (by show PB ≠ _; omega)).trans (((Qac XX (w.heap.size + 1 + 1 + 1) (.slice rA8 rs8.length rc8) (.slice mA8 ms8.length mc8) (.slice gA8 gs8.length gc8) (.int .i64 time8) (.slice (some ⟨bd, 0, none⟩) ds8.length dc8) (.slice (some ⟨bl, 0, none⟩) ls8.length lc8)).cell (p := ⟨PB, 3, none⟩) M3.2 (by show PB ≠ _; omega)).trans M3.1)))
  clear mkS QQ
  refine ztk [0,1] ?_; repeat (refine ztn (hS := hH) (h := ?_); try simp only [zX,zY])
  refine zte ?_
  refine zR1 2 (fun K hK => ?_)
  simp only [zG]
  go_simp
  skip
  refine hK.out _ _ SK.out fun hH => ?_; clear hK K; try simp only [zX,zY]
  refine zR1 3 (fun K hK => ?_)
  simp only [zG]
  go_simp
  skip
  refine hK.out _ _ SN.out fun hH => ?_; clear hK K; try simp only [zX,zY]
  refine zdn ?_
  go_wp2
  exact bodyPost_ret (v := .tuple #[.agg (Qaa rA8 rs8.length rc8 mA8 ms8.length mc8 gA8 gs8.length gc8 time8 (some ⟨bd, 0, none⟩) ds8.length dc8 (some ⟨bl, 0, none⟩) ls8.length lc8), .agg (Qas (ac) (aN) ak ax)]) (by simp [results, Tryz.results80, go_sem, s0, s1, s2, s3, s4, s5, t0, t1, t2, t3, q0, q1, q2, q3, q4, q5]) rfl (by have h := TT.out; simp only [KC.p] at h; have h5 := hp5.out; subst h5; simp only [KC.p]; exact h)
theorem Qin (ro wi le ke : Int) (rA : Option Addr) (rc : Nat) (rs : List RC) (mA : Option Addr) (mc : Nat) (ms : List MC) (gA : Option Addr) (gc : Nat) (gs : List GC) (time : Int) (dA : Option Addr) (dc : Nat) (ds : List Int) (lA : Option Addr) (lc : Nat) (ls : List An) (who seq op ca cb cc : Int) (key text : ByteArray) (S : Nat -> Prop) (br bg bd bl : Nat) (w : World) (hS : ∀ b, S b -> b < w.heap.size) (hq : KQ w (⟨rA, rc, rs, mA, mc, ms, gA, gc, gs, time, dA, dc, ds, lA, lc, ls⟩ : KC) S br bg bd bl) (h8 : ¬ op = 8) (hin : inB op 4 7 = true) (hca : 2 <= ca) :
 Calls Tryz.prog 86 #[.agg (Qan ro wi le ke), .agg (Qaa rA rs.length rc mA ms.length mc gA gs.length gc time dA ds.length dc lA ls.length lc), .agg (Qad who seq op ca cb cc key text)] w fun e w' => Qbu S w w' e (KC.p (⟨rA, rc, rs, mA, mc, ms, gA, gc, gs, time, dA, dc, ds, lA, lc, ls⟩ : KC)) ⟨9, 0, ⟨#[]⟩, ⟨#[]⟩⟩ := by
 have HQ := hidP hq
 clear hq
 obtain ⟨I0, S0, B0⟩ := Qa2 ro wi le ke rA rc rs mA mc ms gA gc gs time dA dc ds lA lc ls who seq op ca cb cc key text S w hS
 go_enter Tryz.func86, Tryz.ntmps86
 go_upto_region 1 with fail
 generalize ((((w.alloc (.cells (Qan ro wi le ke) 84)).alloc (.cells (Qaa rA rs.length rc mA ms.length mc gA gs.length gc time dA ds.length dc lA ls.length lc) 90)).alloc (.cells (Qad who seq op ca cb cc key text) 105)).alloc (.cells Qab 90)).alloc (.cells Qai 130) = X0 at I0 S0 B0 ⊢
 obtain ⟨k0, k1, k2, k3, k4, k5⟩ := I0.k.row6
 obtain ⟨c0, c1, c2, c3, c4, c5, c6, c7⟩ := I0.c.row8c
 obtain ⟨n0, n1, n2, n3⟩ := S0.row4
 go_upto_region 8 with fail
 go_wp2_with fail
 refine (Qbp op 4 7 _).mono ?_
 rw [hin]
 rintro e w' ⟨rfl, rfl⟩
 go_upto_region 10 with fail
 clear k0 k1 k2 k3 k4 k5 c0 c1 c2 c3 c4 c5 c6 c7 n0 n1 n2 n3
 have Q3 := hidP ((HQ.out.below B0).mono (S' := fun b => S b ∨ (w.heap.size <= b /\ b ≠ (w.heap.size + 1 + 1 + 1) /\ b ≠ (w.heap.size + 1 + 1 + 1 + 1))) (fun b _ hb => .inl hb))
 clear S0 B0
 have TT := hidP (Bx.told I0 (y := (⟨rA, rc, rs, mA, mc, ms, gA, gc, gs, time, dA, dc, ds, lA, lc, ls⟩ : KC)) (br := br) (bg := bg) (bd := bd) (bl := bl) (Q3.out) (⟨(9), (0), (⟨#[]⟩), (⟨#[]⟩)⟩ : An) (hv := rfl))
 obtain ⟨z0, z1, z2, z3, z4, z5⟩ := I0.r1.row6
 have f0 := I0.r1.thaw 0; have f1 := I0.r1.thaw 1; have f2 := I0.r1.thaw 2; have f3 := I0.r1.thaw 3; have f4 := I0.r1.thaw 4; have f5 := I0.r1.thaw 5
 obtain ⟨k0, k1, k2, k3, k4, k5⟩ := I0.k.row6
 have R2 := I0.r2.only (Qac _ (w.heap.size + 1 + 1 + 1) (.slice rA rs.length rc) (.slice mA ms.length mc) (.slice gA gs.length gc) (.int .i64 time) (.slice dA ds.length dc) (.slice lA ls.length lc)) (fun e => I0.ne.2.2.2.2.2 e.symm)
 obtain ⟨y0, y1, y2, y3⟩ := R2.row4
 have ee0 := R2.thaw 0; have ee1 := R2.thaw 1; have ee2 := R2.thaw 2; have ee3 := R2.thaw 3
 have C1 := Qat I0.r1 (.slice rA rs.length rc) (.slice mA ms.length mc) (.slice gA gs.length gc) (.int .i64 time) (.slice dA ds.length dc) (.slice lA ls.length lc)
 have B1 := (Qax I0.r1 (.slice rA rs.length rc) (.slice mA ms.length mc) (.slice gA gs.length gc) (.int .i64 time) (.slice dA ds.length dc) (.slice lA ls.length lc)).only (Qah _ (w.heap.size + 1 + 1 + 1 + 1) (.int .i64 (9)) (.int .i64 (0)) (.string ⟨#[]⟩) (.string ⟨#[]⟩)) (fun e => I0.ne.2.2.2.2.2 e)
 have C2 := Qau R2 (.int .i64 (9)) (.int .i64 (0)) (.string ⟨#[]⟩) (.string ⟨#[]⟩)
 obtain ⟨s0, s1, s2, s3, s4, s5⟩ := C1
 obtain ⟨t0, t1, t2, t3⟩ := C2
 obtain ⟨q0, q1, q2, q3, q4, q5⟩ := B1.row6
 have hne12 : (w.heap.size + 1 + 1 + 1) ≠ (w.heap.size + 1 + 1 + 1 + 1) := I0.ne.2.2.2.2.2
 have hne21 : (w.heap.size + 1 + 1 + 1 + 1) ≠ (w.heap.size + 1 + 1 + 1) := fun e => I0.ne.2.2.2.2.2 e.symm
 go_wp2
 exact bodyPost_ret (v := .tuple #[.agg (Qaa rA rs.length rc mA ms.length mc gA gs.length gc time dA ds.length dc lA ls.length lc), .agg (Qas (9) (0) ⟨#[]⟩ ⟨#[]⟩)]) (by simp [results, Tryz.results86, go_sem, s0, s1, s2, s3, s4, s5, t0, t1, t2, t3, q0, q1, q2, q3, q4, q5]) rfl TT.out
theorem Qim (ro wi le ke : Int) (rA : Option Addr) (rc : Nat) (rs : List RC) (mA : Option Addr) (mc : Nat) (ms : List MC) (gA : Option Addr) (gc : Nat) (gs : List GC) (time : Int) (dA : Option Addr) (dc : Nat) (ds : List Int) (lA : Option Addr) (lc : Nat) (ls : List An) (who seq op ca cb cc : Int) (key text : ByteArray) (S : Nat -> Prop) (br bg bd bl : Nat) (w : World) (hS : ∀ b, S b -> b < w.heap.size) (hq : KQ w (⟨rA, rc, rs, mA, mc, ms, gA, gc, gs, time, dA, dc, ds, lA, lc, ls⟩ : KC) S br bg bd bl) (h8 : ¬ op = 8) (hin : inB op 4 7 = false) (hca : ro <= ca) :
 Calls Tryz.prog 86 #[.agg (Qan ro wi le ke), .agg (Qaa rA rs.length rc mA ms.length mc gA gs.length gc time dA ds.length dc lA ls.length lc), .agg (Qad who seq op ca cb cc key text)] w fun e w' => Qbu S w w' e (KC.p (⟨rA, rc, rs, mA, mc, ms, gA, gc, gs, time, dA, dc, ds, lA, lc, ls⟩ : KC)) ⟨5, 0, ⟨#[]⟩, ⟨#[]⟩⟩ := by
 have HQ := hidP hq
 clear hq
 obtain ⟨I0, S0, B0⟩ := Qa2 ro wi le ke rA rc rs mA mc ms gA gc gs time dA dc ds lA lc ls who seq op ca cb cc key text S w hS
 go_enter Tryz.func86, Tryz.ntmps86
 go_upto_region 1 with fail
 generalize ((((w.alloc (.cells (Qan ro wi le ke) 84)).alloc (.cells (Qaa rA rs.length rc mA ms.length mc gA gs.length gc time dA ds.length dc lA ls.length lc) 90)).alloc (.cells (Qad who seq op ca cb cc key text) 105)).alloc (.cells Qab 90)).alloc (.cells Qai 130) = X0 at I0 S0 B0 ⊢
 obtain ⟨k0, k1, k2, k3, k4, k5⟩ := I0.k.row6
 obtain ⟨c0, c1, c2, c3, c4, c5, c6, c7⟩ := I0.c.row8c
 obtain ⟨n0, n1, n2, n3⟩ := S0.row4
 go_upto_region 8 with fail
 go_wp2_with fail
 refine (Qbp op 4 7 _).mono ?_
 rw [hin]
 rintro e w' ⟨rfl, rfl⟩
 go_upto_region 14 with fail
 clear k0 k1 k2 k3 k4 k5 c0 c1 c2 c3 c4 c5 c6 c7 n0 n1 n2 n3
 have Q3 := hidP ((HQ.out.below B0).mono (S' := fun b => S b ∨ (w.heap.size <= b /\ b ≠ (w.heap.size + 1 + 1 + 1) /\ b ≠ (w.heap.size + 1 + 1 + 1 + 1))) (fun b _ hb => .inl hb))
 clear S0 B0
 have TT := hidP (Bx.told I0 (y := (⟨rA, rc, rs, mA, mc, ms, gA, gc, gs, time, dA, dc, ds, lA, lc, ls⟩ : KC)) (br := br) (bg := bg) (bd := bd) (bl := bl) (Q3.out) (⟨(5), (0), (⟨#[]⟩), (⟨#[]⟩)⟩ : An) (hv := rfl))
 obtain ⟨z0, z1, z2, z3, z4, z5⟩ := I0.r1.row6
 have f0 := I0.r1.thaw 0; have f1 := I0.r1.thaw 1; have f2 := I0.r1.thaw 2; have f3 := I0.r1.thaw 3; have f4 := I0.r1.thaw 4; have f5 := I0.r1.thaw 5
 obtain ⟨k0, k1, k2, k3, k4, k5⟩ := I0.k.row6
 have R2 := I0.r2.only (Qac _ (w.heap.size + 1 + 1 + 1) (.slice rA rs.length rc) (.slice mA ms.length mc) (.slice gA gs.length gc) (.int .i64 time) (.slice dA ds.length dc) (.slice lA ls.length lc)) (fun e => I0.ne.2.2.2.2.2 e.symm)
 obtain ⟨y0, y1, y2, y3⟩ := R2.row4
 have ee0 := R2.thaw 0; have ee1 := R2.thaw 1; have ee2 := R2.thaw 2; have ee3 := R2.thaw 3
 have C1 := Qat I0.r1 (.slice rA rs.length rc) (.slice mA ms.length mc) (.slice gA gs.length gc) (.int .i64 time) (.slice dA ds.length dc) (.slice lA ls.length lc)
 have B1 := (Qax I0.r1 (.slice rA rs.length rc) (.slice mA ms.length mc) (.slice gA gs.length gc) (.int .i64 time) (.slice dA ds.length dc) (.slice lA ls.length lc)).only (Qah _ (w.heap.size + 1 + 1 + 1 + 1) (.int .i64 (5)) (.int .i64 (0)) (.string ⟨#[]⟩) (.string ⟨#[]⟩)) (fun e => I0.ne.2.2.2.2.2 e)
 have C2 := Qau R2 (.int .i64 (5)) (.int .i64 (0)) (.string ⟨#[]⟩) (.string ⟨#[]⟩)
 obtain ⟨s0, s1, s2, s3, s4, s5⟩ := C1
 obtain ⟨t0, t1, t2, t3⟩ := C2
 obtain ⟨q0, q1, q2, q3, q4, q5⟩ := B1.row6
 have hne12 : (w.heap.size + 1 + 1 + 1) ≠ (w.heap.size + 1 + 1 + 1 + 1) := I0.ne.2.2.2.2.2
 have hne21 : (w.heap.size + 1 + 1 + 1 + 1) ≠ (w.heap.size + 1 + 1 + 1) := fun e => I0.ne.2.2.2.2.2 e.symm
 go_wp2
 exact bodyPost_ret (v := .tuple #[.agg (Qaa rA rs.length rc mA ms.length mc gA gs.length gc time dA ds.length dc lA ls.length lc), .agg (Qas (5) (0) ⟨#[]⟩ ⟨#[]⟩)]) (by simp [results, Tryz.results86, go_sem, s0, s1, s2, s3, s4, s5, t0, t1, t2, t3, q0, q1, q2, q3, q4, q5]) rfl TT.out
theorem l6New_grp (ro wi le ke : Int) (rA : Option Addr) (rc : Nat) (rs : List RC) (mA : Option Addr) (mc : Nat) (ms : List MC) (gA : Option Addr) (gc : Nat) (gs : List GC) (time : Int) (dA : Option Addr) (dc : Nat) (ds : List Int) (lA : Option Addr) (lc : Nat) (ls : List An) (who seq op ca cb cc : Int) (key text : ByteArray) (S : Nat -> Prop) (w : World) (hS : ∀ b, S b -> b < w.heap.size) (p : PK) (a : An) (h8 : ¬ op = 8) (hin : inB op 4 7 = true) (hca : ¬ 2 <= ca)
 (hc : Calls Tryz.prog 92 #[.agg (Qan ro wi le ke), .agg (Qaa rA rs.length rc mA ms.length mc gA gs.length gc time dA ds.length dc lA ls.length lc), .agg (Qad who seq op ca cb cc key text)] (((((w.alloc (.cells (Qan ro wi le ke) 84)).alloc (.cells (Qaa rA rs.length rc mA ms.length mc gA gs.length gc time dA ds.length dc lA ls.length lc) 90)).alloc (.cells (Qad who seq op ca cb cc key text) 105)).alloc (.cells Qab 90)).alloc (.cells Qai 130)) fun e w' => Qbu S (((((w.alloc (.cells (Qan ro wi le ke) 84)).alloc (.cells (Qaa rA rs.length rc mA ms.length mc gA gs.length gc time dA ds.length dc lA ls.length lc) 90)).alloc (.cells (Qad who seq op ca cb cc key text) 105)).alloc (.cells Qab 90)).alloc (.cells Qai 130)) w' e p a) :
 Calls Tryz.prog 86 #[.agg (Qan ro wi le ke), .agg (Qaa rA rs.length rc mA ms.length mc gA gs.length gc time dA ds.length dc lA ls.length lc), .agg (Qad who seq op ca cb cc key text)] w fun e w' => Qbu S w w' e p a := by
 have HC := hidP hc
 clear hc
 obtain ⟨I0, S0, B0⟩ := Qa2 ro wi le ke rA rc rs mA mc ms gA gc gs time dA dc ds lA lc ls who seq op ca cb cc key text S w hS
 go_enter Tryz.func86, Tryz.ntmps86
 go_upto_region 1 with fail
 generalize ((((w.alloc (.cells (Qan ro wi le ke) 84)).alloc (.cells (Qaa rA rs.length rc mA ms.length mc gA gs.length gc time dA ds.length dc lA ls.length lc) 90)).alloc (.cells (Qad who seq op ca cb cc key text) 105)).alloc (.cells Qab 90)).alloc (.cells Qai 130) = X0 at HC I0 S0 B0 ⊢
 obtain ⟨k0, k1, k2, k3, k4, k5⟩ := I0.k.row6
 obtain ⟨c0, c1, c2, c3, c4, c5, c6, c7⟩ := I0.c.row8c
 obtain ⟨n0, n1, n2, n3⟩ := S0.row4
 go_upto_region 8 with fail
 go_wp2_with fail
 refine (Qbp op 4 7 _).mono ?_
 rw [hin]
 rintro e w' ⟨rfl, rfl⟩
 go_wp2_with fail
 clear k0 k1 k2 k3 k4 k5 c0 c1 c2 c3 c4 c5 c6 c7 n0 n1 n2 n3
 refine HC.out.mono ?_
 rintro e w1 ⟨y, br, bg, bd, bl, rfl, hp, hq1, ho⟩
 clear HC
 obtain (⟨rA9, rc9, rs9, mA9, mc9, ms9, gA9, gc9, gs9, time9, dA9, dc9, ds9, lA9, lc9, ls9⟩ : KC) := y
 obtain ⟨ac, aN, ak, ax⟩ := a
 subst hp
 simp only [KC.cells]
 have l0 : w.heap.size + 1 + 1 + 1 + 1 < w'.heap.size := I0.r2.lt
 have l1 : w'.heap.size <= w1.heap.size := ho.size
 have I2 := ((I0.turn ho (fun b e => .inl e)).alloc (.cells (Qaa rA9 rs9.length rc9 mA9 ms9.length mc9 gA9 gs9.length gc9 time9 dA9 ds9.length dc9 lA9 ls9.length lc9) 90)).alloc (.cells (Qas ac aN ak ax) 130)
 have E8 : Blk ((w1.alloc (.cells (Qaa rA9 rs9.length rc9 mA9 ms9.length mc9 gA9 gs9.length gc9 time9 dA9 ds9.length dc9 lA9 ls9.length lc9) 90)).alloc (.cells (Qas ac aN ak ax) 130)) w1.heap.size 90 (Qaa rA9 rs9.length rc9 mA9 ms9.length mc9 gA9 gs9.length gc9 time9 dA9 ds9.length dc9 lA9 ls9.length lc9) := (Blk.new w1 90 (Qaa rA9 rs9.length rc9 mA9 ms9.length mc9 gA9 gs9.length gc9 time9 dA9 ds9.length dc9 lA9 ls9.length lc9)).alloc (.cells (Qas ac aN ak ax) 130)
 have N3 : Blk ((w1.alloc (.cells (Qaa rA9 rs9.length rc9 mA9 ms9.length mc9 gA9 gs9.length gc9 time9 dA9 ds9.length dc9 lA9 ls9.length lc9) 90)).alloc (.cells (Qas ac aN ak ax) 130)) (w1.heap.size + 1) 130 (Qas ac aN ak ax) := by have := Blk.new (w1.alloc (.cells (Qaa rA9 rs9.length rc9 mA9 ms9.length mc9 gA9 gs9.length gc9 time9 dA9 ds9.length dc9 lA9 ls9.length lc9) 90)) 130 (Qas ac aN ak ax); simpa using this
 have I3 : Bx S w ((w1.alloc (.cells (Qaa rA9 rs9.length rc9 mA9 ms9.length mc9 gA9 gs9.length gc9 time9 dA9 ds9.length dc9 lA9 ls9.length lc9) 90)).alloc (.cells (Qas ac aN ak ax) 130)) w1.heap.size (w.heap.size + 1 + 1) (w.heap.size + 1 + 1 + 1) (w.heap.size + 1 + 1 + 1 + 1) (Qaa rA9 rs9.length rc9 mA9 ms9.length mc9 gA9 gs9.length gc9 time9 dA9 ds9.length dc9 lA9 ls9.length lc9) (Qad who seq op ca cb cc key text) := ⟨I2.off, E8, I2.c, I2.r1, I2.r2, by omega, by omega, I2.s⟩
 have Q3 : Hid (KQ ((w1.alloc (.cells (Qaa rA9 rs9.length rc9 mA9 ms9.length mc9 gA9 gs9.length gc9 time9 dA9 ds9.length dc9 lA9 ls9.length lc9) 90)).alloc (.cells (Qas ac aN ak ax) 130)) (⟨rA9, rc9, rs9, mA9, mc9, ms9, gA9, gc9, gs9, time9, dA9, dc9, ds9, lA9, lc9, ls9⟩ : KC) (fun b => S b ∨ (w.heap.size <= b /\ b ≠ (w.heap.size + 1 + 1 + 1) /\ b ≠ (w.heap.size + 1 + 1 + 1 + 1))) br bg bd bl) :=
  ((hq1.below (Qaf (Below.refl _ _) (.cells (Qaa rA9 rs9.length rc9 mA9 ms9.length mc9 gA9 gs9.length gc9 time9 dA9 ds9.length dc9 lA9 ls9.length lc9) 90))).below (Qaf (Below.refl _ _) (.cells (Qas ac aN ak ax) 130))).mono (fun b _ hb => hb.imp id (fun h => ⟨by omega, by omega, by omega⟩))
 clear I0 S0 B0 hq1 ho I2 E8
 go_upto_region 12 with fail
 generalize ((w1.alloc (.cells (Qaa rA9 rs9.length rc9 mA9 ms9.length mc9 gA9 gs9.length gc9 time9 dA9 ds9.length dc9 lA9 ls9.length lc9) 90)).alloc (.cells (Qas ac aN ak ax) 130)) = X3 at I3 N3 Q3 ⊢
 obtain ⟨n0, n1, n2, n3⟩ := N3.row4
 have ln := N3.lt
 have mkS : ∀ V : World, Blk V w1.heap.size 90 (Qaa rA9 rs9.length rc9 mA9 ms9.length mc9 gA9 gs9.length gc9 time9 dA9 ds9.length dc9 lA9 ls9.length lc9) -> V.cell? ⟨(w1.heap.size + 1), 0, none⟩ = some (.int .i64 ac) -> V.cell? ⟨(w1.heap.size + 1), 1, none⟩ = some (.int .i64 aN) -> V.cell? ⟨(w1.heap.size + 1), 2, none⟩ = some (.string ak) -> V.cell? ⟨(w1.heap.size + 1), 3, none⟩ = some (.string ax) -> (fun (V : World) => V.cell? ⟨w1.heap.size, 0, none⟩ = some (.slice rA9 rs9.length rc9) /\ V.cell? ⟨w1.heap.size, 1, none⟩ = some (.slice mA9 ms9.length mc9) /\ V.cell? ⟨w1.heap.size, 2, none⟩ = some (.slice gA9 gs9.length gc9) /\ V.cell? ⟨w1.heap.size, 3, none⟩ = some (.int .i64 time9) /\ V.cell? ⟨w1.heap.size, 4, none⟩ = some (.slice dA9 ds9.length dc9) /\ V.cell? ⟨w1.heap.size, 5, none⟩ = some (.slice lA9 ls9.length lc9) /\ V.cell? ⟨(w1.heap.size + 1), 0, none⟩ = some (.int .i64 ac) /\ V.cell? ⟨(w1.heap.size + 1), 1, none⟩ = some (.int .i64 aN) /\ V.cell? ⟨(w1.heap.size + 1), 2, none⟩ = some (.string ak) /\ V.cell? ⟨(w1.heap.size + 1), 3, none⟩ = some (.string ax)) V := fun V hk hm0 hm1 hm2 hm3 => by obtain ⟨a0, a1, a2, a3, a4, a5⟩ := hk.row6; exact ⟨a0, a1, a2, a3, a4, a5, hm0, hm1, hm2, hm3⟩
 have SW := mkS _ I3.k.drew (n0) (n1) (n2) (n3)
 have J := I3.drew
 have QQ := hidP (Q3.out.below (Below.refl _ _).drew)
 have M0 : X3.drew.cell? ⟨(w1.heap.size + 1), 0, none⟩ = some (.int .i64 ac) /\ (w1.heap.size + 1) < X3.drew.heap.size := ⟨n0, ln⟩
 have M1 : X3.drew.cell? ⟨(w1.heap.size + 1), 1, none⟩ = some (.int .i64 aN) /\ (w1.heap.size + 1) < X3.drew.heap.size := ⟨n1, ln⟩
 have M2 : X3.drew.cell? ⟨(w1.heap.size + 1), 2, none⟩ = some (.string ak) /\ (w1.heap.size + 1) < X3.drew.heap.size := ⟨n2, ln⟩
 have M3 : X3.drew.cell? ⟨(w1.heap.size + 1), 3, none⟩ = some (.string ax) /\ (w1.heap.size + 1) < X3.drew.heap.size := ⟨n3, ln⟩
 refine wp_region_noPanic ?_
 refine wp_region_held_drew (S := (fun (V : World) => V.cell? ⟨w1.heap.size, 0, none⟩ = some (.slice rA9 rs9.length rc9) /\ V.cell? ⟨w1.heap.size, 1, none⟩ = some (.slice mA9 ms9.length mc9) /\ V.cell? ⟨w1.heap.size, 2, none⟩ = some (.slice gA9 gs9.length gc9) /\ V.cell? ⟨w1.heap.size, 3, none⟩ = some (.int .i64 time9) /\ V.cell? ⟨w1.heap.size, 4, none⟩ = some (.slice dA9 ds9.length dc9) /\ V.cell? ⟨w1.heap.size, 5, none⟩ = some (.slice lA9 ls9.length lc9) /\ V.cell? ⟨(w1.heap.size + 1), 0, none⟩ = some (.int .i64 ac) /\ V.cell? ⟨(w1.heap.size + 1), 1, none⟩ = some (.int .i64 aN) /\ V.cell? ⟨(w1.heap.size + 1), 2, none⟩ = some (.string ak) /\ V.cell? ⟨(w1.heap.size + 1), 3, none⟩ = some (.string ax))) (by kernel_rfl) ?_ (fun hH => ?_)
 . exact SW
 clear SW hH
 generalize X3.drew = XX at J QQ M0 M1 M2 M3 ⊢
 have hH := mkS XX J.k M0.1 M1.1 M2.1 M3.1
 have TT := hidP (Bx.told J (y := (⟨rA9, rc9, rs9, mA9, mc9, ms9, gA9, gc9, gs9, time9, dA9, dc9, ds9, lA9, lc9, ls9⟩ : KC)) (br := br) (bg := bg) (bd := bd) (bl := bl) (QQ.out) (⟨(ac), (aN), (ak), (ax)⟩ : An) (hv := rfl))
 obtain ⟨z0, z1, z2, z3, z4, z5⟩ := J.r1.row6
 have f0 := J.r1.thaw 0; have f1 := J.r1.thaw 1; have f2 := J.r1.thaw 2; have f3 := J.r1.thaw 3; have f4 := J.r1.thaw 4; have f5 := J.r1.thaw 5
 obtain ⟨k0, k1, k2, k3, k4, k5⟩ := J.k.row6
 have R2 := J.r2.only (Qac _ (w.heap.size + 1 + 1 + 1) (.slice rA9 rs9.length rc9) (.slice mA9 ms9.length mc9) (.slice gA9 gs9.length gc9) (.int .i64 time9) (.slice dA9 ds9.length dc9) (.slice lA9 ls9.length lc9)) (fun e => J.ne.2.2.2.2.2 e.symm)
 obtain ⟨y0, y1, y2, y3⟩ := R2.row4
 have ee0 := R2.thaw 0; have ee1 := R2.thaw 1; have ee2 := R2.thaw 2; have ee3 := R2.thaw 3
 have C1 := Qat J.r1 (.slice rA9 rs9.length rc9) (.slice mA9 ms9.length mc9) (.slice gA9 gs9.length gc9) (.int .i64 time9) (.slice dA9 ds9.length dc9) (.slice lA9 ls9.length lc9)
 have B1 := (Qax J.r1 (.slice rA9 rs9.length rc9) (.slice mA9 ms9.length mc9) (.slice gA9 gs9.length gc9) (.int .i64 time9) (.slice dA9 ds9.length dc9) (.slice lA9 ls9.length lc9)).only (Qah _ (w.heap.size + 1 + 1 + 1 + 1) (.int .i64 (ac)) (.int .i64 (aN)) (.string ak) (.string ax)) (fun e => J.ne.2.2.2.2.2 e)
 have C2 := Qau R2 (.int .i64 (ac)) (.int .i64 (aN)) (.string ak) (.string ax)
 obtain ⟨s0, s1, s2, s3, s4, s5⟩ := C1
 obtain ⟨t0, t1, t2, t3⟩ := C2
 obtain ⟨q0, q1, q2, q3, q4, q5⟩ := B1.row6
 have hne12 : (w.heap.size + 1 + 1 + 1) ≠ (w.heap.size + 1 + 1 + 1 + 1) := J.ne.2.2.2.2.2
 have hne21 : (w.heap.size + 1 + 1 + 1 + 1) ≠ (w.heap.size + 1 + 1 + 1) := fun e => J.ne.2.2.2.2.2 e.symm
 have SK := hidP (mkS _ (J.k.only (Qac _ (w.heap.size + 1 + 1 + 1) (.slice rA9 rs9.length rc9) (.slice mA9 ms9.length mc9) (.slice gA9 gs9.length gc9) (.int .i64 time9) (.slice dA9 ds9.length dc9) (.slice lA9 ls9.length lc9)) J.ne.2.1) (((Qac XX (w.heap.size + 1 + 1 + 1) (.slice rA9 rs9.length rc9) (.slice mA9 ms9.length mc9) (.slice gA9 gs9.length gc9) (.int .i64 time9) (.slice dA9 ds9.length dc9) (.slice lA9 ls9.length lc9)).cell (p := ⟨(w1.heap.size + 1), 0, none⟩) M0.2 (by show w1.heap.size + 1 ≠ _; omega)).trans M0.1) (((Qac XX (w.heap.size + 1 + 1 + 1) (.slice rA9 rs9.length rc9) (.slice mA9 ms9.length mc9) (.slice gA9 gs9.length gc9) (.int .i64 time9) (.slice dA9 ds9.length dc9) (.slice lA9 ls9.length lc9)).cell (p := ⟨(w1.heap.size + 1), 1, none⟩) M1.2 (by show w1.heap.size + 1 ≠ _; omega)).trans M1.1) (((Qac XX (w.heap.size + 1 + 1 + 1) (.slice rA9 rs9.length rc9) (.slice mA9 ms9.length mc9) (.slice gA9 gs9.length gc9) (.int .i64 time9) (.slice dA9 ds9.length dc9) (.slice lA9 ls9.length lc9)).cell (p := ⟨(w1.heap.size + 1), 2, none⟩) M2.2 (by show w1.heap.size + 1 ≠ _; omega)).trans M2.1) (((Qac XX (w.heap.size + 1 + 1 + 1) (.slice rA9 rs9.length rc9) (.slice mA9 ms9.length mc9) (.slice gA9 gs9.length gc9) (.int .i64 time9) (.slice dA9 ds9.length dc9) (.slice lA9 ls9.length lc9)).cell (p := ⟨(w1.heap.size + 1), 3, none⟩) M3.2 (by show w1.heap.size + 1 ≠ _; omega)).trans M3.1))
 have SN := hidP (mkS _ ((J.k.only (Qac _ (w.heap.size + 1 + 1 + 1) (.slice rA9 rs9.length rc9) (.slice mA9 ms9.length mc9) (.slice gA9 gs9.length gc9) (.int .i64 time9) (.slice dA9 ds9.length dc9) (.slice lA9 ls9.length lc9)) J.ne.2.1).only (Qah _ (w.heap.size + 1 + 1 + 1 + 1) (.int .i64 (ac)) (.int .i64 (aN)) (.string ak) (.string ax)) J.ne.2.2.1) (((Qah (putK XX (w.heap.size + 1 + 1 + 1) (.slice rA9 rs9.length rc9) (.slice mA9 ms9.length mc9) (.slice gA9 gs9.length gc9) (.int .i64 time9) (.slice dA9 ds9.length dc9) (.slice lA9 ls9.length lc9)) (w.heap.size + 1 + 1 + 1 + 1) (.int .i64 (ac)) (.int .i64 (aN)) (.string ak) (.string ax)).cell (p := ⟨(w1.heap.size + 1), 0, none⟩) (Nat.lt_of_lt_of_le M0.2 (Qac XX (w.heap.size + 1 + 1 + 1) (.slice rA9 rs9.length rc9) (.slice mA9 ms9.length mc9) (.slice gA9 gs9.length gc9) (.int .i64 time9) (.slice dA9 ds9.length dc9) (.slice lA9 ls9.length lc9)).size) (by show w1.heap.size + 1 ≠ _; omega)).trans (((Qac XX (w.heap.size + 1 + 1 + 1) (.slice rA9 rs9.length rc9) (.slice mA9 ms9.length mc9) (.slice gA9 gs9.length gc9) (.int .i64 time9) (.slice dA9 ds9.length dc9) (.slice lA9 ls9.length lc9)).cell (p := ⟨(w1.heap.size + 1), 0, none⟩) M0.2 (by show w1.heap.size + 1 ≠ _; omega)).trans M0.1)) (((Qah (putK XX (w.heap.size + 1 + 1 + 1) (.slice rA9 rs9.length rc9) (.slice mA9 ms9.length mc9) (.slice gA9 gs9.length gc9) (.int .i64 time9) (.slice dA9 ds9.length dc9) (.slice lA9 ls9.length lc9)) (w.heap.size + 1 + 1 + 1 + 1) (.int .i64 (ac)) (.int .i64 (aN)) (.string ak) (.string ax)).cell (p := ⟨(w1.heap.size + 1), 1, none⟩) (Nat.lt_of_lt_of_le M1.2 (Qac XX (w.heap.size + 1 + 1 + 1) (.slice rA9 rs9.length rc9) (.slice mA9 ms9.length mc9) (.slice gA9 gs9.length gc9) (.int .i64 time9) (.slice dA9 ds9.length dc9) (.slice lA9 ls9.length lc9)).size) (by show w1.heap.size + 1 ≠ _; omega)).trans (((Qac XX (w.heap.size + 1 + 1 + 1) (.slice rA9 rs9.length rc9) (.slice mA9 ms9.length mc9) (.slice gA9 gs9.length gc9) (.int .i64 time9) (.slice dA9 ds9.length dc9) (.slice lA9 ls9.length lc9)).cell (p := ⟨(w1.heap.size + 1), 1, none⟩) M1.2 (by show w1.heap.size + 1 ≠ _; omega)).trans M1.1)) (((Qah (putK XX (w.heap.size + 1 + 1 + 1) (.slice rA9 rs9.length rc9) (.slice mA9 ms9.length mc9) (.slice gA9 gs9.length gc9) (.int .i64 time9) (.slice dA9 ds9.length dc9) (.slice lA9 ls9.length lc9)) (w.heap.size + 1 + 1 + 1 + 1) (.int .i64 (ac)) (.int .i64 (aN)) (.string ak) (.string ax)).cell (p := ⟨(w1.heap.size + 1), 2, none⟩) (Nat.lt_of_lt_of_le M2.2 (Qac XX (w.heap.size + 1 + 1 + 1) (.slice rA9 rs9.length rc9) (.slice mA9 ms9.length mc9) (.slice gA9 gs9.length gc9) (.int .i64 time9) (.slice dA9 ds9.length dc9) (.slice lA9 ls9.length lc9)).size) (by show w1.heap.size + 1 ≠ _; omega)).trans (((Qac XX (w.heap.size + 1 + 1 + 1) (.slice rA9 rs9.length rc9) (.slice mA9 ms9.length mc9) (.slice gA9 gs9.length gc9) (.int .i64 time9) (.slice dA9 ds9.length dc9) (.slice lA9 ls9.length lc9)).cell (p := ⟨(w1.heap.size + 1), 2, none⟩) M2.2 (by show w1.heap.size + 1 ≠ _; omega)).trans M2.1)) (((Qah (putK XX (w.heap.size + 1 + 1 + 1) (.slice rA9 rs9.length rc9) (.slice mA9 ms9.length mc9) (.slice gA9 gs9.length gc9) (.int .i64 time9) (.slice dA9 ds9.length dc9) (.slice lA9 ls9.length lc9)) (w.heap.size + 1 + 1 + 1 + 1) (.int .i64 (ac)) (.int .i64 (aN)) (.string ak) (.string ax)).cell (p := ⟨(w1.heap.size + 1), 3, none⟩) (Nat.lt_of_lt_of_le M3.2 (Qac XX (w.heap.size + 1 + 1 + 1) (.slice rA9 rs9.length rc9) (.slice mA9 ms9.length mc9) (.slice gA9 gs9.length gc9) (.int .i64 time9) (.slice dA9 ds9.length dc9) (.slice lA9 ls9.length lc9)).size) (by show w1.heap.size + 1 ≠ _; omega)).trans (((Qac XX (w.heap.size + 1 + 1 + 1) (.slice rA9 rs9.length rc9) (.slice mA9 ms9.length mc9) (.slice gA9 gs9.length gc9) (.int .i64 time9) (.slice dA9 ds9.length dc9) (.slice lA9 ls9.length lc9)).cell (p := ⟨(w1.heap.size + 1), 3, none⟩) M3.2 (by show w1.heap.size + 1 ≠ _; omega)).trans M3.1)))
 clear mkS QQ
 refine ztk [0,1] ?_; repeat (refine ztn (hS := hH) (h := ?_); try simp only [zX,zY])
 refine zte ?_
 refine zR1 2 (fun K hK => ?_)
 simp only [zG]
 go_simp
 skip
 refine hK.out _ _ SK.out fun hH => ?_; clear hK K; try simp only [zX,zY]
 refine zR1 3 (fun K hK => ?_)
 simp only [zG]
 go_simp
 skip
 refine hK.out _ _ SN.out fun hH => ?_; clear hK K; try simp only [zX,zY]
 refine zdn ?_
 go_wp2
 exact bodyPost_ret (v := .tuple #[.agg (Qaa rA9 rs9.length rc9 mA9 ms9.length mc9 gA9 gs9.length gc9 time9 dA9 ds9.length dc9 lA9 ls9.length lc9), .agg (Qas (ac) (aN) ak ax)]) (by simp [results, Tryz.results86, go_sem, s0, s1, s2, s3, s4, s5, t0, t1, t2, t3, q0, q1, q2, q3, q4, q5]) rfl TT.out
theorem l6New_row (ro wi le ke : Int) (rA : Option Addr) (rc : Nat) (rs : List RC) (mA : Option Addr) (mc : Nat) (ms : List MC) (gA : Option Addr) (gc : Nat) (gs : List GC) (time : Int) (dA : Option Addr) (dc : Nat) (ds : List Int) (lA : Option Addr) (lc : Nat) (ls : List An) (who seq op ca cb cc : Int) (key text : ByteArray) (S : Nat -> Prop) (w : World) (hS : ∀ b, S b -> b < w.heap.size) (p : PK) (a : An) (h8 : ¬ op = 8) (hin : inB op 4 7 = false) (hca : ¬ ro <= ca)
 (hc : Calls Tryz.prog 93 #[.agg (Qan ro wi le ke), .agg (Qaa rA rs.length rc mA ms.length mc gA gs.length gc time dA ds.length dc lA ls.length lc), .agg (Qad who seq op ca cb cc key text)] (((((w.alloc (.cells (Qan ro wi le ke) 84)).alloc (.cells (Qaa rA rs.length rc mA ms.length mc gA gs.length gc time dA ds.length dc lA ls.length lc) 90)).alloc (.cells (Qad who seq op ca cb cc key text) 105)).alloc (.cells Qab 90)).alloc (.cells Qai 130)) fun e w' => Qbu S (((((w.alloc (.cells (Qan ro wi le ke) 84)).alloc (.cells (Qaa rA rs.length rc mA ms.length mc gA gs.length gc time dA ds.length dc lA ls.length lc) 90)).alloc (.cells (Qad who seq op ca cb cc key text) 105)).alloc (.cells Qab 90)).alloc (.cells Qai 130)) w' e p a) :
 Calls Tryz.prog 86 #[.agg (Qan ro wi le ke), .agg (Qaa rA rs.length rc mA ms.length mc gA gs.length gc time dA ds.length dc lA ls.length lc), .agg (Qad who seq op ca cb cc key text)] w fun e w' => Qbu S w w' e p a := by
 have HC := hidP hc
 clear hc
 obtain ⟨I0, S0, B0⟩ := Qa2 ro wi le ke rA rc rs mA mc ms gA gc gs time dA dc ds lA lc ls who seq op ca cb cc key text S w hS
 go_enter Tryz.func86, Tryz.ntmps86
 go_upto_region 1 with fail
 generalize ((((w.alloc (.cells (Qan ro wi le ke) 84)).alloc (.cells (Qaa rA rs.length rc mA ms.length mc gA gs.length gc time dA ds.length dc lA ls.length lc) 90)).alloc (.cells (Qad who seq op ca cb cc key text) 105)).alloc (.cells Qab 90)).alloc (.cells Qai 130) = X0 at HC I0 S0 B0 ⊢
 obtain ⟨k0, k1, k2, k3, k4, k5⟩ := I0.k.row6
 obtain ⟨c0, c1, c2, c3, c4, c5, c6, c7⟩ := I0.c.row8c
 obtain ⟨n0, n1, n2, n3⟩ := S0.row4
 go_upto_region 8 with fail
 go_wp2_with fail
 refine (Qbp op 4 7 _).mono ?_
 rw [hin]
 rintro e w' ⟨rfl, rfl⟩
 go_wp2_with fail
 clear k0 k1 k2 k3 k4 k5 c0 c1 c2 c3 c4 c5 c6 c7 n0 n1 n2 n3
 refine HC.out.mono ?_
 rintro e w1 ⟨y, br, bg, bd, bl, rfl, hp, hq1, ho⟩
 clear HC
 obtain (⟨rA9, rc9, rs9, mA9, mc9, ms9, gA9, gc9, gs9, time9, dA9, dc9, ds9, lA9, lc9, ls9⟩ : KC) := y
 obtain ⟨ac, aN, ak, ax⟩ := a
 subst hp
 simp only [KC.cells]
 have l0 : w.heap.size + 1 + 1 + 1 + 1 < w'.heap.size := I0.r2.lt
 have l1 : w'.heap.size <= w1.heap.size := ho.size
 have I2 := ((I0.turn ho (fun b e => .inl e)).alloc (.cells (Qaa rA9 rs9.length rc9 mA9 ms9.length mc9 gA9 gs9.length gc9 time9 dA9 ds9.length dc9 lA9 ls9.length lc9) 90)).alloc (.cells (Qas ac aN ak ax) 130)
 have E8 : Blk ((w1.alloc (.cells (Qaa rA9 rs9.length rc9 mA9 ms9.length mc9 gA9 gs9.length gc9 time9 dA9 ds9.length dc9 lA9 ls9.length lc9) 90)).alloc (.cells (Qas ac aN ak ax) 130)) w1.heap.size 90 (Qaa rA9 rs9.length rc9 mA9 ms9.length mc9 gA9 gs9.length gc9 time9 dA9 ds9.length dc9 lA9 ls9.length lc9) := (Blk.new w1 90 (Qaa rA9 rs9.length rc9 mA9 ms9.length mc9 gA9 gs9.length gc9 time9 dA9 ds9.length dc9 lA9 ls9.length lc9)).alloc (.cells (Qas ac aN ak ax) 130)
 have N3 : Blk ((w1.alloc (.cells (Qaa rA9 rs9.length rc9 mA9 ms9.length mc9 gA9 gs9.length gc9 time9 dA9 ds9.length dc9 lA9 ls9.length lc9) 90)).alloc (.cells (Qas ac aN ak ax) 130)) (w1.heap.size + 1) 130 (Qas ac aN ak ax) := by have := Blk.new (w1.alloc (.cells (Qaa rA9 rs9.length rc9 mA9 ms9.length mc9 gA9 gs9.length gc9 time9 dA9 ds9.length dc9 lA9 ls9.length lc9) 90)) 130 (Qas ac aN ak ax); simpa using this
 have I3 : Bx S w ((w1.alloc (.cells (Qaa rA9 rs9.length rc9 mA9 ms9.length mc9 gA9 gs9.length gc9 time9 dA9 ds9.length dc9 lA9 ls9.length lc9) 90)).alloc (.cells (Qas ac aN ak ax) 130)) w1.heap.size (w.heap.size + 1 + 1) (w.heap.size + 1 + 1 + 1) (w.heap.size + 1 + 1 + 1 + 1) (Qaa rA9 rs9.length rc9 mA9 ms9.length mc9 gA9 gs9.length gc9 time9 dA9 ds9.length dc9 lA9 ls9.length lc9) (Qad who seq op ca cb cc key text) := ⟨I2.off, E8, I2.c, I2.r1, I2.r2, by omega, by omega, I2.s⟩
 have Q3 : Hid (KQ ((w1.alloc (.cells (Qaa rA9 rs9.length rc9 mA9 ms9.length mc9 gA9 gs9.length gc9 time9 dA9 ds9.length dc9 lA9 ls9.length lc9) 90)).alloc (.cells (Qas ac aN ak ax) 130)) (⟨rA9, rc9, rs9, mA9, mc9, ms9, gA9, gc9, gs9, time9, dA9, dc9, ds9, lA9, lc9, ls9⟩ : KC) (fun b => S b ∨ (w.heap.size <= b /\ b ≠ (w.heap.size + 1 + 1 + 1) /\ b ≠ (w.heap.size + 1 + 1 + 1 + 1))) br bg bd bl) :=
  ((hq1.below (Qaf (Below.refl _ _) (.cells (Qaa rA9 rs9.length rc9 mA9 ms9.length mc9 gA9 gs9.length gc9 time9 dA9 ds9.length dc9 lA9 ls9.length lc9) 90))).below (Qaf (Below.refl _ _) (.cells (Qas ac aN ak ax) 130))).mono (fun b _ hb => hb.imp id (fun h => ⟨by omega, by omega, by omega⟩))
 clear I0 S0 B0 hq1 ho I2 E8
 go_upto_region 16 with fail
 generalize ((w1.alloc (.cells (Qaa rA9 rs9.length rc9 mA9 ms9.length mc9 gA9 gs9.length gc9 time9 dA9 ds9.length dc9 lA9 ls9.length lc9) 90)).alloc (.cells (Qas ac aN ak ax) 130)) = X3 at I3 N3 Q3 ⊢
 obtain ⟨n0, n1, n2, n3⟩ := N3.row4
 have ln := N3.lt
 have mkS : ∀ V : World, Blk V w1.heap.size 90 (Qaa rA9 rs9.length rc9 mA9 ms9.length mc9 gA9 gs9.length gc9 time9 dA9 ds9.length dc9 lA9 ls9.length lc9) -> V.cell? ⟨(w1.heap.size + 1), 0, none⟩ = some (.int .i64 ac) -> V.cell? ⟨(w1.heap.size + 1), 1, none⟩ = some (.int .i64 aN) -> V.cell? ⟨(w1.heap.size + 1), 2, none⟩ = some (.string ak) -> V.cell? ⟨(w1.heap.size + 1), 3, none⟩ = some (.string ax) -> (fun (V : World) => V.cell? ⟨w1.heap.size, 0, none⟩ = some (.slice rA9 rs9.length rc9) /\ V.cell? ⟨w1.heap.size, 1, none⟩ = some (.slice mA9 ms9.length mc9) /\ V.cell? ⟨w1.heap.size, 2, none⟩ = some (.slice gA9 gs9.length gc9) /\ V.cell? ⟨w1.heap.size, 3, none⟩ = some (.int .i64 time9) /\ V.cell? ⟨w1.heap.size, 4, none⟩ = some (.slice dA9 ds9.length dc9) /\ V.cell? ⟨w1.heap.size, 5, none⟩ = some (.slice lA9 ls9.length lc9) /\ V.cell? ⟨(w1.heap.size + 1), 0, none⟩ = some (.int .i64 ac) /\ V.cell? ⟨(w1.heap.size + 1), 1, none⟩ = some (.int .i64 aN) /\ V.cell? ⟨(w1.heap.size + 1), 2, none⟩ = some (.string ak) /\ V.cell? ⟨(w1.heap.size + 1), 3, none⟩ = some (.string ax)) V := fun V hk hm0 hm1 hm2 hm3 => by obtain ⟨a0, a1, a2, a3, a4, a5⟩ := hk.row6; exact ⟨a0, a1, a2, a3, a4, a5, hm0, hm1, hm2, hm3⟩
 have SW := mkS _ I3.k.drew (n0) (n1) (n2) (n3)
 have J := I3.drew
 have QQ := hidP (Q3.out.below (Below.refl _ _).drew)
 have M0 : X3.drew.cell? ⟨(w1.heap.size + 1), 0, none⟩ = some (.int .i64 ac) /\ (w1.heap.size + 1) < X3.drew.heap.size := ⟨n0, ln⟩
 have M1 : X3.drew.cell? ⟨(w1.heap.size + 1), 1, none⟩ = some (.int .i64 aN) /\ (w1.heap.size + 1) < X3.drew.heap.size := ⟨n1, ln⟩
 have M2 : X3.drew.cell? ⟨(w1.heap.size + 1), 2, none⟩ = some (.string ak) /\ (w1.heap.size + 1) < X3.drew.heap.size := ⟨n2, ln⟩
 have M3 : X3.drew.cell? ⟨(w1.heap.size + 1), 3, none⟩ = some (.string ax) /\ (w1.heap.size + 1) < X3.drew.heap.size := ⟨n3, ln⟩
 refine wp_region_noPanic ?_
 refine wp_region_held_drew (S := (fun (V : World) => V.cell? ⟨w1.heap.size, 0, none⟩ = some (.slice rA9 rs9.length rc9) /\ V.cell? ⟨w1.heap.size, 1, none⟩ = some (.slice mA9 ms9.length mc9) /\ V.cell? ⟨w1.heap.size, 2, none⟩ = some (.slice gA9 gs9.length gc9) /\ V.cell? ⟨w1.heap.size, 3, none⟩ = some (.int .i64 time9) /\ V.cell? ⟨w1.heap.size, 4, none⟩ = some (.slice dA9 ds9.length dc9) /\ V.cell? ⟨w1.heap.size, 5, none⟩ = some (.slice lA9 ls9.length lc9) /\ V.cell? ⟨(w1.heap.size + 1), 0, none⟩ = some (.int .i64 ac) /\ V.cell? ⟨(w1.heap.size + 1), 1, none⟩ = some (.int .i64 aN) /\ V.cell? ⟨(w1.heap.size + 1), 2, none⟩ = some (.string ak) /\ V.cell? ⟨(w1.heap.size + 1), 3, none⟩ = some (.string ax))) (by kernel_rfl) ?_ (fun hH => ?_)
 . exact SW
 clear SW hH
 generalize X3.drew = XX at J QQ M0 M1 M2 M3 ⊢
 have hH := mkS XX J.k M0.1 M1.1 M2.1 M3.1
 have TT := hidP (Bx.told J (y := (⟨rA9, rc9, rs9, mA9, mc9, ms9, gA9, gc9, gs9, time9, dA9, dc9, ds9, lA9, lc9, ls9⟩ : KC)) (br := br) (bg := bg) (bd := bd) (bl := bl) (QQ.out) (⟨(ac), (aN), (ak), (ax)⟩ : An) (hv := rfl))
 obtain ⟨z0, z1, z2, z3, z4, z5⟩ := J.r1.row6
 have f0 := J.r1.thaw 0; have f1 := J.r1.thaw 1; have f2 := J.r1.thaw 2; have f3 := J.r1.thaw 3; have f4 := J.r1.thaw 4; have f5 := J.r1.thaw 5
 obtain ⟨k0, k1, k2, k3, k4, k5⟩ := J.k.row6
 have R2 := J.r2.only (Qac _ (w.heap.size + 1 + 1 + 1) (.slice rA9 rs9.length rc9) (.slice mA9 ms9.length mc9) (.slice gA9 gs9.length gc9) (.int .i64 time9) (.slice dA9 ds9.length dc9) (.slice lA9 ls9.length lc9)) (fun e => J.ne.2.2.2.2.2 e.symm)
 obtain ⟨y0, y1, y2, y3⟩ := R2.row4
 have ee0 := R2.thaw 0; have ee1 := R2.thaw 1; have ee2 := R2.thaw 2; have ee3 := R2.thaw 3
 have C1 := Qat J.r1 (.slice rA9 rs9.length rc9) (.slice mA9 ms9.length mc9) (.slice gA9 gs9.length gc9) (.int .i64 time9) (.slice dA9 ds9.length dc9) (.slice lA9 ls9.length lc9)
 have B1 := (Qax J.r1 (.slice rA9 rs9.length rc9) (.slice mA9 ms9.length mc9) (.slice gA9 gs9.length gc9) (.int .i64 time9) (.slice dA9 ds9.length dc9) (.slice lA9 ls9.length lc9)).only (Qah _ (w.heap.size + 1 + 1 + 1 + 1) (.int .i64 (ac)) (.int .i64 (aN)) (.string ak) (.string ax)) (fun e => J.ne.2.2.2.2.2 e)
 have C2 := Qau R2 (.int .i64 (ac)) (.int .i64 (aN)) (.string ak) (.string ax)
 obtain ⟨s0, s1, s2, s3, s4, s5⟩ := C1
 obtain ⟨t0, t1, t2, t3⟩ := C2
 obtain ⟨q0, q1, q2, q3, q4, q5⟩ := B1.row6
 have hne12 : (w.heap.size + 1 + 1 + 1) ≠ (w.heap.size + 1 + 1 + 1 + 1) := J.ne.2.2.2.2.2
 have hne21 : (w.heap.size + 1 + 1 + 1 + 1) ≠ (w.heap.size + 1 + 1 + 1) := fun e => J.ne.2.2.2.2.2 e.symm
 have SK := hidP (mkS _ (J.k.only (Qac _ (w.heap.size + 1 + 1 + 1) (.slice rA9 rs9.length rc9) (.slice mA9 ms9.length mc9) (.slice gA9 gs9.length gc9) (.int .i64 time9) (.slice dA9 ds9.length dc9) (.slice lA9 ls9.length lc9)) J.ne.2.1) (((Qac XX (w.heap.size + 1 + 1 + 1) (.slice rA9 rs9.length rc9) (.slice mA9 ms9.length mc9) (.slice gA9 gs9.length gc9) (.int .i64 time9) (.slice dA9 ds9.length dc9) (.slice lA9 ls9.length lc9)).cell (p := ⟨(w1.heap.size + 1), 0, none⟩) M0.2 (by show w1.heap.size + 1 ≠ _; omega)).trans M0.1) (((Qac XX (w.heap.size + 1 + 1 + 1) (.slice rA9 rs9.length rc9) (.slice mA9 ms9.length mc9) (.slice gA9 gs9.length gc9) (.int .i64 time9) (.slice dA9 ds9.length dc9) (.slice lA9 ls9.length lc9)).cell (p := ⟨(w1.heap.size + 1), 1, none⟩) M1.2 (by show w1.heap.size + 1 ≠ _; omega)).trans M1.1) (((Qac XX (w.heap.size + 1 + 1 + 1) (.slice rA9 rs9.length rc9) (.slice mA9 ms9.length mc9) (.slice gA9 gs9.length gc9) (.int .i64 time9) (.slice dA9 ds9.length dc9) (.slice lA9 ls9.length lc9)).cell (p := ⟨(w1.heap.size + 1), 2, none⟩) M2.2 (by show w1.heap.size + 1 ≠ _; omega)).trans M2.1) (((Qac XX (w.heap.size + 1 + 1 + 1) (.slice rA9 rs9.length rc9) (.slice mA9 ms9.length mc9) (.slice gA9 gs9.length gc9) (.int .i64 time9) (.slice dA9 ds9.length dc9) (.slice lA9 ls9.length lc9)).cell (p := ⟨(w1.heap.size + 1), 3, none⟩) M3.2 (by show w1.heap.size + 1 ≠ _; omega)).trans M3.1))
 have SN := hidP (mkS _ ((J.k.only (Qac _ (w.heap.size + 1 + 1 + 1) (.slice rA9 rs9.length rc9) (.slice mA9 ms9.length mc9) (.slice gA9 gs9.length gc9) (.int .i64 time9) (.slice dA9 ds9.length dc9) (.slice lA9 ls9.length lc9)) J.ne.2.1).only (Qah _ (w.heap.size + 1 + 1 + 1 + 1) (.int .i64 (ac)) (.int .i64 (aN)) (.string ak) (.string ax)) J.ne.2.2.1) (((Qah (putK XX (w.heap.size + 1 + 1 + 1) (.slice rA9 rs9.length rc9) (.slice mA9 ms9.length mc9) (.slice gA9 gs9.length gc9) (.int .i64 time9) (.slice dA9 ds9.length dc9) (.slice lA9 ls9.length lc9)) (w.heap.size + 1 + 1 + 1 + 1) (.int .i64 (ac)) (.int .i64 (aN)) (.string ak) (.string ax)).cell (p := ⟨(w1.heap.size + 1), 0, none⟩) (Nat.lt_of_lt_of_le M0.2 (Qac XX (w.heap.size + 1 + 1 + 1) (.slice rA9 rs9.length rc9) (.slice mA9 ms9.length mc9) (.slice gA9 gs9.length gc9) (.int .i64 time9) (.slice dA9 ds9.length dc9) (.slice lA9 ls9.length lc9)).size) (by show w1.heap.size + 1 ≠ _; omega)).trans (((Qac XX (w.heap.size + 1 + 1 + 1) (.slice rA9 rs9.length rc9) (.slice mA9 ms9.length mc9) (.slice gA9 gs9.length gc9) (.int .i64 time9) (.slice dA9 ds9.length dc9) (.slice lA9 ls9.length lc9)).cell (p := ⟨(w1.heap.size + 1), 0, none⟩) M0.2 (by show w1.heap.size + 1 ≠ _; omega)).trans M0.1)) (((Qah (putK XX (w.heap.size + 1 + 1 + 1) (.slice rA9 rs9.length rc9) (.slice mA9 ms9.length mc9) (.slice gA9 gs9.length gc9) (.int .i64 time9) (.slice dA9 ds9.length dc9) (.slice lA9 ls9.length lc9)) (w.heap.size + 1 + 1 + 1 + 1) (.int .i64 (ac)) (.int .i64 (aN)) (.string ak) (.string ax)).cell (p := ⟨(w1.heap.size + 1), 1, none⟩) (Nat.lt_of_lt_of_le M1.2 (Qac XX (w.heap.size + 1 + 1 + 1) (.slice rA9 rs9.length rc9) (.slice mA9 ms9.length mc9) (.slice gA9 gs9.length gc9) (.int .i64 time9) (.slice dA9 ds9.length dc9) (.slice lA9 ls9.length lc9)).size) (by show w1.heap.size + 1 ≠ _; omega)).trans (((Qac XX (w.heap.size + 1 + 1 + 1) (.slice rA9 rs9.length rc9) (.slice mA9 ms9.length mc9) (.slice gA9 gs9.length gc9) (.int .i64 time9) (.slice dA9 ds9.length dc9) (.slice lA9 ls9.length lc9)).cell (p := ⟨(w1.heap.size + 1), 1, none⟩) M1.2 (by show w1.heap.size + 1 ≠ _; omega)).trans M1.1)) (((Qah (putK XX (w.heap.size + 1 + 1 + 1) (.slice rA9 rs9.length rc9) (.slice mA9 ms9.length mc9) (.slice gA9 gs9.length gc9) (.int .i64 time9) (.slice dA9 ds9.length dc9) (.slice lA9 ls9.length lc9)) (w.heap.size + 1 + 1 + 1 + 1) (.int .i64 (ac)) (.int .i64 (aN)) (.string ak) (.string ax)).cell (p := ⟨(w1.heap.size + 1), 2, none⟩) (Nat.lt_of_lt_of_le M2.2 (Qac XX (w.heap.size + 1 + 1 + 1) (.slice rA9 rs9.length rc9) (.slice mA9 ms9.length mc9) (.slice gA9 gs9.length gc9) (.int .i64 time9) (.slice dA9 ds9.length dc9) (.slice lA9 ls9.length lc9)).size) (by show w1.heap.size + 1 ≠ _; omega)).trans (((Qac XX (w.heap.size + 1 + 1 + 1) (.slice rA9 rs9.length rc9) (.slice mA9 ms9.length mc9) (.slice gA9 gs9.length gc9) (.int .i64 time9) (.slice dA9 ds9.length dc9) (.slice lA9 ls9.length lc9)).cell (p := ⟨(w1.heap.size + 1), 2, none⟩) M2.2 (by show w1.heap.size + 1 ≠ _; omega)).trans M2.1)) (((Qah (putK XX (w.heap.size + 1 + 1 + 1) (.slice rA9 rs9.length rc9) (.slice mA9 ms9.length mc9) (.slice gA9 gs9.length gc9) (.int .i64 time9) (.slice dA9 ds9.length dc9) (.slice lA9 ls9.length lc9)) (w.heap.size + 1 + 1 + 1 + 1) (.int .i64 (ac)) (.int .i64 (aN)) (.string ak) (.string ax)).cell (p := ⟨(w1.heap.size + 1), 3, none⟩) (Nat.lt_of_lt_of_le M3.2 (Qac XX (w.heap.size + 1 + 1 + 1) (.slice rA9 rs9.length rc9) (.slice mA9 ms9.length mc9) (.slice gA9 gs9.length gc9) (.int .i64 time9) (.slice dA9 ds9.length dc9) (.slice lA9 ls9.length lc9)).size) (by show w1.heap.size + 1 ≠ _; omega)).trans (((Qac XX (w.heap.size + 1 + 1 + 1) (.slice rA9 rs9.length rc9) (.slice mA9 ms9.length mc9) (.slice gA9 gs9.length gc9) (.int .i64 time9) (.slice dA9 ds9.length dc9) (.slice lA9 ls9.length lc9)).cell (p := ⟨(w1.heap.size + 1), 3, none⟩) M3.2 (by show w1.heap.size + 1 ≠ _; omega)).trans M3.1)))
 clear mkS QQ
 refine ztk [0,1] ?_; repeat (refine ztn (hS := hH) (h := ?_); try simp only [zX,zY])
 refine zte ?_
 refine zR1 2 (fun K hK => ?_)
 simp only [zG]
 go_simp
 skip
 refine hK.out _ _ SK.out fun hH => ?_; clear hK K; try simp only [zX,zY]
 refine zR1 3 (fun K hK => ?_)
 simp only [zG]
 go_simp
 skip
 refine hK.out _ _ SN.out fun hH => ?_; clear hK K; try simp only [zX,zY]
 refine zdn ?_
 go_wp2
 exact bodyPost_ret (v := .tuple #[.agg (Qaa rA9 rs9.length rc9 mA9 ms9.length mc9 gA9 gs9.length gc9 time9 dA9 ds9.length dc9 lA9 ls9.length lc9), .agg (Qas (ac) (aN) ak ax)]) (by simp [results, Tryz.results86, go_sem, s0, s1, s2, s3, s4, s5, t0, t1, t2, t3, q0, q1, q2, q3, q4, q5]) rfl TT.out
theorem gp_av {W : World} {a1 a2 a3 : Option Addr} {m b o : List Int} {F : List Nat} {S : Nat -> Prop} (h : Gp W a1 a2 a3 m b o F) (hS : ∀ x ∈ F, S x) : Av W a1 m S /\ Av W a2 b S /\ Av W a3 o S := by
 obtain ⟨F1, F2, F3, rfl, s1, s2, s3, _⟩ := h
 exact ⟨Av.of_sl s1 (fun x hx => hS x (by simp [hx])), Av.of_sl s2 (fun x hx => hS x (by simp [hx])), Av.of_sl s3 (fun x hx => hS x (by simp [hx]))⟩
theorem Qho (ro wi le ke : Int) (rA : Option Addr) (rc : Nat) (rs : List RC) (mA : Option Addr) (mc : Nat) (ms : List MC) (gA : Option Addr) (gc : Nat) (gs : List GC) (time : Int) (dA : Option Addr) (dc : Nat) (ds : List Int) (lA : Option Addr) (lc : Nat) (ls : List An) (who seq cb cc : Int) (n : Nat) (key text : ByteArray) (S : Nat -> Prop) (br bg bd bl : Nat) (w : World) (hS : ∀ b, S b -> b < w.heap.size) (hq : KQ w (⟨rA, rc, rs, mA, mc, ms, gA, gc, gs, time, dA, dc, ds, lA, lc, ls⟩ : KC) S br bg bd bl) (hn : n < gs.length) (hrl : gs.length <= 1000)
 (gen : Int) (a1 a2 a3 : Option Addr) (c1 c2 c3 : Nat) (m b o : List Int) (hy : gs[n] = ⟨gen, a1, c1, m, a2, c2, b, a3, c3, o⟩) (g2 : Int) (m2 b2 o2 : List Int)
 (hc : ∀ W : World, At W a1 m -> At W a2 b -> At W a3 o -> Calls Tryz.prog 97 #[.agg (Qak gen a1 m.length c1 a2 b.length c2 a3 o.length c3), .int .i64 who, .int .i64 time] W fun e w' => Qgz W w' e g2 m2 b2 o2) :
 Calls Tryz.prog 92 #[.agg (Qan ro wi le ke), .agg (Qaa rA rs.length rc mA ms.length mc gA gs.length gc time dA ds.length dc lA ls.length lc), .agg (Qad who seq 4 (n : Int) cb cc key text)] w fun e w' => Qbu S w w' e { KC.p (⟨rA, rc, rs, mA, mc, ms, gA, gc, gs, time, dA, dc, ds, lA, lc, ls⟩ : KC) with gs := (gs.map GC.p).set n ⟨g2, m2, b2, o2⟩ } ⟨0, g2, ⟨#[]⟩, ⟨#[]⟩⟩ := by
 obtain rfl : gA = (some ⟨bg, 0, none⟩) := hq.g.a
 have HQ := hidP hq
 have HC := hidP hc
 have hbr : br < w.heap.size /\ bg < w.heap.size /\ bd < w.heap.size /\ bl < w.heap.size := ⟨hq.r.lt, hq.g.lt, hq.d.lt, hq.l.lt⟩
 have HCl : Hid (∀ W : World, Below w.heap.size w W -> W.cell? ⟨bg, n * 4, none⟩ = some (.int .i64 gen) /\ W.cell? ⟨bg, n * 4 + 1, none⟩ = some (.slice a1 m.length c1) /\ W.cell? ⟨bg, n * 4 + 2, none⟩ = some (.slice a2 b.length c2) /\ W.cell? ⟨bg, n * 4 + 3, none⟩ = some (.slice a3 o.length c3)) := fun W g => by
  have h := (hq.g.i.below hq.g.lt g).getGC n hn
  rw [hy] at h
  simpa only [Nat.zero_add] using h
 have HA : Hid (∀ W : World, Below w.heap.size w W -> At W a1 m /\ At W a2 b /\ At W a3 o) := fun W g => by
  have h := hq.gi gs[n] (List.getElem_mem hn)
  rw [hy] at h
  exact ⟨h.1.at.below g, h.2.1.at.below g, h.2.2.at.below g⟩
 clear hc hy hq
 obtain ⟨I0, S0, B0⟩ := Qa2 ro wi le ke rA rc rs mA mc ms (some ⟨bg, 0, none⟩) gc gs time dA dc ds lA lc ls who seq 4 (n : Int) cb cc key text S w hS
 have hn0 : (0 : Int) <= (n : Int) := by omega
 have hn1 : (n : Int) < (gs.length : Int) := by omega
 go_enter Tryz.func92, Tryz.ntmps92
 go_upto_region 1 with fail
 generalize ((((w.alloc (.cells (Qan ro wi le ke) 84)).alloc (.cells (Qaa rA rs.length rc mA ms.length mc (some ⟨bg, 0, none⟩) gs.length gc time dA ds.length dc lA ls.length lc) 90)).alloc (.cells (Qad who seq 4 (n : Int) cb cc key text) 105)).alloc (.cells Qab 90)).alloc (.cells Qai 130) = X0 at I0 S0 B0 ⊢
 have l0 : w.heap.size + 1 + 1 + 1 + 1 < X0.heap.size := I0.r2.lt
 obtain ⟨k0, k1, k2, k3, k4, k5⟩ := I0.k.row6
 obtain ⟨d0, d1, d2, d3, d4, d5, d6, d7⟩ := I0.c.row8c
 obtain ⟨r0, r1, r2, r3⟩ := HCl.out _ B0
 go_upto_region 2 with fail
 clear k0 k1 k2 k3 k4 k5 d0 d1 d2 d3 d4 d5 d6 d7 r0 r1 r2 r3
 have I1 := I0.alloc (.cells (Qak gen a1 m.length c1 a2 b.length c2 a3 o.length c3) 128)
 have S1 := S0.alloc (.cells (Qak gen a1 m.length c1 a2 b.length c2 a3 o.length c3) 128)
 have B1 : Below w.heap.size w (X0.alloc (.cells (Qak gen a1 m.length c1 a2 b.length c2 a3 o.length c3) 128)) := Qaf B0 _
 have G1 := Blk.new X0 128 (Qak gen a1 m.length c1 a2 b.length c2 a3 o.length c3)
 have l1 : w.heap.size + 1 + 1 + 1 + 1 < (X0.alloc (.cells (Qak gen a1 m.length c1 a2 b.length c2 a3 o.length c3) 128)).heap.size := I1.r2.lt
 clear I0 S0 B0
 generalize hPG : X0.heap.size = PG at G1 l0 ⊢
 generalize (X0.alloc (.cells (Qak gen a1 m.length c1 a2 b.length c2 a3 o.length c3) 128)) = X2 at I1 S1 B1 G1 l1 ⊢
 clear hPG
 obtain ⟨c0, c1', c2', c3', c4, c5, c6, c7⟩ := I1.c.row8c
 have lpg := G1.lt
 go_upto_region 7 with fail
 clear c0 c1' c2' c3' c4 c5 c6 c7
 have mkS : ∀ V : World, Bx S w V (w.heap.size + 1) (w.heap.size + 1 + 1) (w.heap.size + 1 + 1 + 1) (w.heap.size + 1 + 1 + 1 + 1) (Qaa rA rs.length rc mA ms.length mc (some ⟨bg, 0, none⟩) gs.length gc time dA ds.length dc lA ls.length lc) (Qad who seq 4 (n : Int) cb cc key text) -> Blk V PG 128 (Qak gen a1 m.length c1 a2 b.length c2 a3 o.length c3) -> (fun (V : World) => V.cell? ⟨(w.heap.size + 1), 2, none⟩ = some (.slice (some ⟨bg, 0, none⟩) gs.length gc) /\ V.cell? ⟨(w.heap.size + 1), 3, none⟩ = some (.int .i64 time) /\ V.cell? ⟨(w.heap.size + 1 + 1), 3, none⟩ = some (.int .i64 (n : Int)) /\ V.cell? ⟨(w.heap.size + 1 + 1), 0, none⟩ = some (.int .i64 who) /\ V.cell? ⟨PG, 0, none⟩ = some (.int .i64 gen) /\ V.cell? ⟨PG, 1, none⟩ = some (.slice a1 m.length c1) /\ V.cell? ⟨PG, 2, none⟩ = some (.slice a2 b.length c2) /\ V.cell? ⟨PG, 3, none⟩ = some (.slice a3 o.length c3)) V := fun V q1 q2 => by
  obtain ⟨a0, a1, a2, a3, a4, a5⟩ := q1.k.row6
  obtain ⟨d0, d1, d2, d3, d4, d5, d6, d7⟩ := q1.c.row8c
  obtain ⟨n0, n1, n2, n3⟩ := q2.row4
  exact ⟨a2, a3, d3, d0, n0, n1, n2, n3⟩
 have J0 := I1.drew
 have T0 := G1.drew
 have D0 : Below w.heap.size w X2.drew := B1.drew
 have hH0 := mkS _ J0 T0
 have l2 : PG < X2.drew.heap.size := lpg
 clear I1 S1 G1 B1
 refine wp_region_noPanic ?_
 have hH : ((fun (V : World) => V.cell? ⟨(w.heap.size + 1), 2, none⟩ = some (.slice (some ⟨bg, 0, none⟩) gs.length gc) /\ V.cell? ⟨(w.heap.size + 1), 3, none⟩ = some (.int .i64 time) /\ V.cell? ⟨(w.heap.size + 1 + 1), 3, none⟩ = some (.int .i64 (n : Int)) /\ V.cell? ⟨(w.heap.size + 1 + 1), 0, none⟩ = some (.int .i64 who) /\ V.cell? ⟨PG, 0, none⟩ = some (.int .i64 gen) /\ V.cell? ⟨PG, 1, none⟩ = some (.slice a1 m.length c1) /\ V.cell? ⟨PG, 2, none⟩ = some (.slice a2 b.length c2) /\ V.cell? ⟨PG, 3, none⟩ = some (.slice a3 o.length c3))) _ := hH0
 refine Qbb 11 ((fun (V : World) => V.cell? ⟨(w.heap.size + 1), 2, none⟩ = some (.slice (some ⟨bg, 0, none⟩) gs.length gc) /\ V.cell? ⟨(w.heap.size + 1), 3, none⟩ = some (.int .i64 time) /\ V.cell? ⟨(w.heap.size + 1 + 1), 3, none⟩ = some (.int .i64 (n : Int)) /\ V.cell? ⟨(w.heap.size + 1 + 1), 0, none⟩ = some (.int .i64 who) /\ V.cell? ⟨PG, 0, none⟩ = some (.int .i64 gen) /\ V.cell? ⟨PG, 1, none⟩ = some (.slice a1 m.length c1) /\ V.cell? ⟨PG, 2, none⟩ = some (.slice a2 b.length c2) /\ V.cell? ⟨PG, 3, none⟩ = some (.slice a3 o.length c3))) (by kernel_rfl) ?_
 refine zpk [0,1,2,3,4,5,6,7,8] ?_; repeat (refine zpn (h := ?_); try simp only [zX,zY])
 refine zpe ?_
 refine Qar (i := 9) (by kernel_rfl) rfl (fun K hK => ?_)
 simp only [zG]
 go_simp; refine (HC.out _ (HA.out _ D0).1 (HA.out _ D0).2.1 (HA.out _ D0).2.2).mono ?_; rintro e w3 ⟨e1, e2, e3, f1, f2, f3, Ff, rfl, g3, hG, hFf⟩; have I3 := J0.below g3; have T3 := T0.below g3 T0.lt; have D3 : Below w.heap.size w w3 := via0 g3 D0; have hH3 := mkS _ I3 T3; obtain ⟨r0, r1, r2, r3⟩ := HCl.out _ D3; have hth := (HQ.out.below D3).g.th; have fz : ∀ j, j < 4 -> w3.frozen? ⟨bg, n * 4 + j, none⟩ = false := (fun j hj => by have h9 := (hth (n * 4 + j) (by show n * 4 + j < gs.length * 4; omega)).2; rwa [Nat.zero_add] at h9); have z0 : w3.frozen? ⟨bg, n * 4, none⟩ = false := fz 0 (by omega); have z1 := fz 1 (by omega); have z2 := fz 2 (by omega); have z3 := fz 3 (by omega); have hk6 : Only bg w3 ((((w3.setCell ⟨bg, n * 4, none⟩ (.int .i64 g2)).setCell ⟨bg, n * 4 + 1, none⟩ (.slice e1 m2.length f1)).setCell ⟨bg, n * 4 + 2, none⟩ (.slice e2 b2.length f2)).setCell ⟨bg, n * 4 + 3, none⟩ (.slice e3 o2.length f3)) := ((((Only.refl bg w3).set _ _).set _ _).set _ _).set _ _; have Q6 : Hid (KQ ((((w3.setCell ⟨bg, n * 4, none⟩ (.int .i64 g2)).setCell ⟨bg, n * 4 + 1, none⟩ (.slice e1 m2.length f1)).setCell ⟨bg, n * 4 + 2, none⟩ (.slice e2 b2.length f2)).setCell ⟨bg, n * 4 + 3, none⟩ (.slice e3 o2.length f3)) { (⟨rA, rc, rs, mA, mc, ms, (some ⟨bg, 0, none⟩), gc, gs, time, dA, dc, ds, lA, lc, ls⟩ : KC) with gs := gs.set n ⟨g2, e1, f1, m2, e2, f2, b2, e3, f3, o2⟩ } (fun b => S b ∨ (w.heap.size <= b /\ b ≠ (w.heap.size + 1 + 1 + 1) /\ b ≠ (w.heap.size + 1 + 1 + 1 + 1))) br bg bd bl) := (((HQ.out.below D3).mono (S' := fun b => S b ∨ (w.heap.size <= b /\ b ≠ (w.heap.size + 1 + 1 + 1) /\ b ≠ (w.heap.size + 1 + 1 + 1 + 1))) (fun b _ hb => .inl hb)).setG n hn ⟨g2, e1, f1, m2, e2, f2, b2, e3, f3, o2⟩ (gp_av hG (fun x hx => (by have h9 := hFf x hx; exact ⟨.inr (by omega), by omega, by omega, by omega, by omega⟩)))); have I6 := I3.turn (Offp.of_only hk6) (fun b e => .inl (by subst e; exact HQ.out.s.2.1)); have C6 : (((((w3.setCell ⟨bg, n * 4, none⟩ (.int .i64 g2)).setCell ⟨bg, n * 4 + 1, none⟩ (.slice e1 m2.length f1)).setCell ⟨bg, n * 4 + 2, none⟩ (.slice e2 b2.length f2)).setCell ⟨bg, n * 4 + 3, none⟩ (.slice e3 o2.length f3))).cell? ⟨bg, n * 4, none⟩ = some (.int .i64 g2) := (by have h := Q6.out.g.i.getGC n (by simpa using hn); simp only [List.getElem_set_self, Nat.zero_add] at h; exact h.1); clear hth fz hk6 g3 hG hFf I3 T3 D3
 refine hK.out _ _ (.inr hH3) ?_
 clear hK K
 try simp only [zX,zY]
 refine zp1 10 ?_; refine zpn (h := ?_); try simp only [zX,zY]
 refine zpe ?_
 refine Qar (i := 11) (by kernel_rfl) rfl (fun K hK => ?_)
 simp only [zG]
 go_simp
 refine hK.out _ _ (.inl rfl) ?_
 clear hK K
 try simp only [zX,zY]
 refine Qbn (by kernel_rfl) ?_ _
 refine NoPanic.normal ?_
 clear hH0 mkS
 clear J0 T0 D0 r0 r1 r2 r3 z0 z1 z2 z3
 generalize ((((w3.setCell ⟨bg, n * 4, none⟩ (.int .i64 g2)).setCell ⟨bg, n * 4 + 1, none⟩ (.slice e1 m2.length f1)).setCell ⟨bg, n * 4 + 2, none⟩ (.slice e2 b2.length f2)).setCell ⟨bg, n * 4 + 3, none⟩ (.slice e3 o2.length f3)) = X6 at Q6 I6 C6 ⊢
 go_upto_region 16 with fail
 obtain ⟨k0', k1', k2', k3', k4', k5', k6', k7'⟩ := I6.c.row8c
 have cl := I6.c.lt
 have bl9 := Q6.out.g.lt
 have mkS : ∀ V : World, Blk V (w.heap.size + 1) 90 (Qaa rA rs.length rc mA ms.length mc (some ⟨bg, 0, none⟩) gs.length gc time dA ds.length dc lA ls.length lc) -> V.cell? ⟨(w.heap.size + 1 + 1), 3, none⟩ = some (.int .i64 (n : Int)) -> V.cell? ⟨bg, n * 4, none⟩ = some (.int .i64 g2) -> (fun (V : World) => V.cell? ⟨(w.heap.size + 1), 0, none⟩ = some (.slice rA rs.length rc) /\ V.cell? ⟨(w.heap.size + 1), 1, none⟩ = some (.slice mA ms.length mc) /\ V.cell? ⟨(w.heap.size + 1), 2, none⟩ = some (.slice (some ⟨bg, 0, none⟩) gs.length gc) /\ V.cell? ⟨(w.heap.size + 1), 3, none⟩ = some (.int .i64 time) /\ V.cell? ⟨(w.heap.size + 1), 4, none⟩ = some (.slice dA ds.length dc) /\ V.cell? ⟨(w.heap.size + 1), 5, none⟩ = some (.slice lA ls.length lc) /\ V.cell? ⟨(w.heap.size + 1 + 1), 3, none⟩ = some (.int .i64 (n : Int)) /\ V.cell? ⟨bg, n * 4, none⟩ = some (.int .i64 g2)) V := fun V hk hm0 hm1 => by obtain ⟨a0, a1, a2, a3, a4, a5⟩ := hk.row6; exact ⟨a0, a1, a2, a3, a4, a5, hm0, hm1⟩
 have SW := mkS _ I6.k.drew (k3') (C6)
 have J := I6.drew
 have QQ := hidP (Q6.out.below (Below.refl _ _).drew)
 have M0 : X6.drew.cell? ⟨(w.heap.size + 1 + 1), 3, none⟩ = some (.int .i64 (n : Int)) /\ (w.heap.size + 1 + 1) < X6.drew.heap.size := ⟨k3', cl⟩
 have M1 : X6.drew.cell? ⟨bg, n * 4, none⟩ = some (.int .i64 g2) /\ bg < X6.drew.heap.size := ⟨C6, bl9⟩
 refine wp_region_noPanic ?_
 refine wp_region_held_drew (S := (fun (V : World) => V.cell? ⟨(w.heap.size + 1), 0, none⟩ = some (.slice rA rs.length rc) /\ V.cell? ⟨(w.heap.size + 1), 1, none⟩ = some (.slice mA ms.length mc) /\ V.cell? ⟨(w.heap.size + 1), 2, none⟩ = some (.slice (some ⟨bg, 0, none⟩) gs.length gc) /\ V.cell? ⟨(w.heap.size + 1), 3, none⟩ = some (.int .i64 time) /\ V.cell? ⟨(w.heap.size + 1), 4, none⟩ = some (.slice dA ds.length dc) /\ V.cell? ⟨(w.heap.size + 1), 5, none⟩ = some (.slice lA ls.length lc) /\ V.cell? ⟨(w.heap.size + 1 + 1), 3, none⟩ = some (.int .i64 (n : Int)) /\ V.cell? ⟨bg, n * 4, none⟩ = some (.int .i64 g2))) (by kernel_rfl) ?_ (fun hH => ?_)
 . exact SW
 clear SW hH
 generalize X6.drew = XX at J QQ M0 M1 ⊢
 have hH := mkS XX J.k M0.1 M1.1
 have TT := hidP (Bx.told J (y := ({ (⟨rA, rc, rs, mA, mc, ms, (some ⟨bg, 0, none⟩), gc, gs, time, dA, dc, ds, lA, lc, ls⟩ : KC) with gs := gs.set n ⟨g2, e1, f1, m2, e2, f2, b2, e3, f3, o2⟩ } : KC)) (br := br) (bg := bg) (bd := bd) (bl := bl) (QQ.out) (⟨(0), (g2), (⟨#[]⟩), (⟨#[]⟩)⟩ : An) (hv := show _ = (Qaa rA rs.length rc mA ms.length mc (some ⟨bg, 0, none⟩) gs.length gc time dA ds.length dc lA ls.length lc) by simp only [KC.cells, List.length_set]))
 obtain ⟨z0, z1, z2, z3, z4, z5⟩ := J.r1.row6
 have f0 := J.r1.thaw 0; have f1 := J.r1.thaw 1; have f2 := J.r1.thaw 2; have f3 := J.r1.thaw 3; have f4 := J.r1.thaw 4; have f5 := J.r1.thaw 5
 obtain ⟨k0, k1, k2, k3, k4, k5⟩ := J.k.row6
 have R2 := J.r2.only (Qac _ (w.heap.size + 1 + 1 + 1) (.slice rA rs.length rc) (.slice mA ms.length mc) (.slice (some ⟨bg, 0, none⟩) gs.length gc) (.int .i64 time) (.slice dA ds.length dc) (.slice lA ls.length lc)) (fun e => J.ne.2.2.2.2.2 e.symm)
 obtain ⟨y0, y1, y2, y3⟩ := R2.row4
 have ee0 := R2.thaw 0; have ee1 := R2.thaw 1; have ee2 := R2.thaw 2; have ee3 := R2.thaw 3
 have C1 := Qat J.r1 (.slice rA rs.length rc) (.slice mA ms.length mc) (.slice (some ⟨bg, 0, none⟩) gs.length gc) (.int .i64 time) (.slice dA ds.length dc) (.slice lA ls.length lc)
 have B1 := (Qax J.r1 (.slice rA rs.length rc) (.slice mA ms.length mc) (.slice (some ⟨bg, 0, none⟩) gs.length gc) (.int .i64 time) (.slice dA ds.length dc) (.slice lA ls.length lc)).only (Qah _ (w.heap.size + 1 + 1 + 1 + 1) (.int .i64 (0)) (.int .i64 (g2)) (.string ⟨#[]⟩) (.string ⟨#[]⟩)) (fun e => J.ne.2.2.2.2.2 e)
 have C2 := Qau R2 (.int .i64 (0)) (.int .i64 (g2)) (.string ⟨#[]⟩) (.string ⟨#[]⟩)
 obtain ⟨s0, s1, s2, s3, s4, s5⟩ := C1
 obtain ⟨t0, t1, t2, t3⟩ := C2
 obtain ⟨q0, q1, q2, q3, q4, q5⟩ := B1.row6
 have hne12 : (w.heap.size + 1 + 1 + 1) ≠ (w.heap.size + 1 + 1 + 1 + 1) := J.ne.2.2.2.2.2
 have hne21 : (w.heap.size + 1 + 1 + 1 + 1) ≠ (w.heap.size + 1 + 1 + 1) := fun e => J.ne.2.2.2.2.2 e.symm
 have SK := hidP (mkS _ (J.k.only (Qac _ (w.heap.size + 1 + 1 + 1) (.slice rA rs.length rc) (.slice mA ms.length mc) (.slice (some ⟨bg, 0, none⟩) gs.length gc) (.int .i64 time) (.slice dA ds.length dc) (.slice lA ls.length lc)) J.ne.2.1) (((Qac XX (w.heap.size + 1 + 1 + 1) (.slice rA rs.length rc) (.slice mA ms.length mc) (.slice (some ⟨bg, 0, none⟩) gs.length gc) (.int .i64 time) (.slice dA ds.length dc) (.slice lA ls.length lc)).cell (p := ⟨(w.heap.size + 1 + 1), 3, none⟩) M0.2 (by show w.heap.size + 1 + 1 ≠ _; omega)).trans M0.1) (((Qac XX (w.heap.size + 1 + 1 + 1) (.slice rA rs.length rc) (.slice mA ms.length mc) (.slice (some ⟨bg, 0, none⟩) gs.length gc) (.int .i64 time) (.slice dA ds.length dc) (.slice lA ls.length lc)).cell (p := ⟨bg, n * 4, none⟩) M1.2 (by show bg ≠ _; omega)).trans M1.1))
 have SN := hidP (mkS _ ((J.k.only (Qac _ (w.heap.size + 1 + 1 + 1) (.slice rA rs.length rc) (.slice mA ms.length mc) (.slice (some ⟨bg, 0, none⟩) gs.length gc) (.int .i64 time) (.slice dA ds.length dc) (.slice lA ls.length lc)) J.ne.2.1).only (Qah _ (w.heap.size + 1 + 1 + 1 + 1) (.int .i64 (0)) (.int .i64 (g2)) (.string ⟨#[]⟩) (.string ⟨#[]⟩)) J.ne.2.2.1) (((Qah (putK XX (w.heap.size + 1 + 1 + 1) (.slice rA rs.length rc) (.slice mA ms.length mc) (.slice (some ⟨bg, 0, none⟩) gs.length gc) (.int .i64 time) (.slice dA ds.length dc) (.slice lA ls.length lc)) (w.heap.size + 1 + 1 + 1 + 1) (.int .i64 (0)) (.int .i64 (g2)) (.string ⟨#[]⟩) (.string ⟨#[]⟩)).cell (p := ⟨(w.heap.size + 1 + 1), 3, none⟩) (Nat.lt_of_lt_of_le M0.2 (Qac XX (w.heap.size + 1 + 1 + 1) (.slice rA rs.length rc) (.slice mA ms.length mc) (.slice (some ⟨bg, 0, none⟩) gs.length gc) (.int .i64 time) (.slice dA ds.length dc) (.slice lA ls.length lc)).size) (by show w.heap.size + 1 + 1 ≠ _; omega)).trans (((Qac XX (w.heap.size + 1 + 1 + 1) (.slice rA rs.length rc) (.slice mA ms.length mc) (.slice (some ⟨bg, 0, none⟩) gs.length gc) (.int .i64 time) (.slice dA ds.length dc) (.slice lA ls.length lc)).cell (p := ⟨(w.heap.size + 1 + 1), 3, none⟩) M0.2 (by show w.heap.size + 1 + 1 ≠ _; omega)).trans M0.1)) (((Qah (putK XX (w.heap.size + 1 + 1 + 1) (.slice rA rs.length rc) (.slice mA ms.length mc) (.slice (some ⟨bg, 0, none⟩) gs.length gc) (.int .i64 time) (.slice dA ds.length dc) (.slice lA ls.length lc)) (w.heap.size + 1 + 1 + 1 + 1) (.int .i64 (0)) (.int .i64 (g2)) (.string ⟨#[]⟩) (.string ⟨#[]⟩)).cell (p := ⟨bg, n * 4, none⟩) (Nat.lt_of_lt_of_le M1.2 (Qac XX (w.heap.size + 1 + 1 + 1) (.slice rA rs.length rc) (.slice mA ms.length mc) (.slice (some ⟨bg, 0, none⟩) gs.length gc) (.int .i64 time) (.slice dA ds.length dc) (.slice lA ls.length lc)).size) (by show bg ≠ _; omega)).trans (((Qac XX (w.heap.size + 1 + 1 + 1) (.slice rA rs.length rc) (.slice mA ms.length mc) (.slice (some ⟨bg, 0, none⟩) gs.length gc) (.int .i64 time) (.slice dA ds.length dc) (.slice lA ls.length lc)).cell (p := ⟨bg, n * 4, none⟩) M1.2 (by show bg ≠ _; omega)).trans M1.1)))
 clear mkS QQ
 refine ztk [0,1,2,3,4,5,6,7,8] ?_; repeat (refine ztn (hS := hH) (h := ?_); try simp only [zX,zY])
 refine zte ?_
 refine zR1 9 (fun K hK => ?_)
 simp only [zG]
 go_simp
 skip
 refine hK.out _ _ SK.out fun hH => ?_; clear hK K; try simp only [zX,zY]
 refine zR1 10 (fun K hK => ?_)
 simp only [zG]
 go_simp
 skip
 refine hK.out _ _ SN.out fun hH => ?_; clear hK K; try simp only [zX,zY]
 refine zdn ?_
 go_wp2
 exact bodyPost_ret (v := .tuple #[.agg (Qaa rA rs.length rc mA ms.length mc (some ⟨bg, 0, none⟩) gs.length gc time dA ds.length dc lA ls.length lc), .agg (Qas (0) (g2) ⟨#[]⟩ ⟨#[]⟩)]) (by simp [results, Tryz.results92, go_sem, s0, s1, s2, s3, s4, s5, t0, t1, t2, t3, q0, q1, q2, q3, q4, q5]) rfl (by have h := TT.out; simp only [KC.p, List.map_set] at h; exact h)
theorem Qit {L : List Mb} (h : L.Pairwise fun x y => y.has = true -> x.has = true) : hasFirst L := fun i j hi hj hle hh => by
 rcases Nat.lt_or_ge j i with hlt | hge
 . exact (List.pairwise_iff_getElem.1 h) j i hj hi hlt hh
 . have : j = i := by omega
   subst this; exact hh
theorem mbs_pw (m b : List Int) : (mbs m b).Pairwise fun x y => y.has = true -> x.has = true := by
 rw [List.pairwise_iff_getElem]
 intro i j hi hj hij hh
 rw [Qbj] at hi hj
 rw [Qik hi]
 rw [Qik hj] at hh
 simp at hh ⊢; omega
def Qea (gen time : Int) (m b : List Int) : Int := if decide ((Qc3 time (mbs m b)).length < m.length) then upF gen else gen
def Qet (time : Int) (m b : List Int) : List Int := (Qc3 time (mbs m b)).map Mb.who
def Qfh (time : Int) (m b : List Int) : List Int := Qcd (Qc3 time (mbs m b)) ++ Qc5 m b
def kF (time : Int) (m b : List Int) (n : Nat) : List Mb := (mbs m b).take n ++ Qc3 time ((mbs m b).drop n)
theorem Qir (time : Int) (m b : List Int) : kF time m b 0 = Qc3 time (mbs m b) := by simp [kF]
theorem kF_all (time : Int) (m b : List Int) : kF time m b m.length = mbs m b := by
 have h := Qbj m b
 unfold kF
 rw [List.take_of_length_le (by omega), List.drop_eq_nil_of_le (by omega)]
 simp [Qc3]
theorem Qfu (time : Int) (m b : List Int) (n : Nat) : (kF time m b n).length <= m.length := by
 have h := Qbj m b
 have := keepF_le time ((mbs m b).drop n)
 simp [kF] at *; omega
theorem Qhp (time : Int) (m b : List Int) (n : Nat) (hn : n <= m.length) : n <= (kF time m b n).length := by
 have h := Qbj m b
 simp [kF]; omega
theorem kF_stay {time : Int} {m b : List Int} {j : Nat} (hj : j < m.length) (h' : j < (mbs m b).length) (hg : Qel time (mbs m b)[j] = false) : kF time m b (j + 1) = kF time m b j := by
 have e1 := List.take_succ_eq_append_getElem h'
 have e2 := List.drop_eq_getElem_cons h'
 generalize (mbs m b)[j] = x at *
 have e3 : Qc3 time (x :: (mbs m b).drop (j + 1)) = x :: Qc3 time ((mbs m b).drop (j + 1)) := by unfold Qc3; rw [List.filter_cons_of_pos (by simp [hg])]
 unfold kF
 rw [e2, e3, e1, List.append_assoc]; rfl
theorem kF_go {time : Int} {m b : List Int} {j : Nat} (hj : j < m.length) (h' : j < (mbs m b).length) (hg : Qel time (mbs m b)[j] = true) : kF time m b (j + 1) = (mbs m b).take j ++ (mbs m b)[j] :: Qc3 time ((mbs m b).drop (j + 1)) /\ kF time m b j = (mbs m b).take j ++ Qc3 time ((mbs m b).drop (j + 1)) := by
 have e1 := List.take_succ_eq_append_getElem h'
 have e2 := List.drop_eq_getElem_cons h'
 generalize (mbs m b)[j] = x at *
 have e3 : Qc3 time (x :: (mbs m b).drop (j + 1)) = Qc3 time ((mbs m b).drop (j + 1)) := by unfold Qc3; rw [List.filter_cons_of_neg (by simp [hg])]
 unfold kF
 exact ⟨by rw [e1, List.append_assoc]; rfl, by rw [e2, e3]⟩
theorem Qhz {α : Type} (l r : List α) (x : α) (n : Nat) (h : l.length = n) : (l ++ x :: r).eraseIdx n = l ++ r := by
 subst h
 rw [List.eraseIdx_append_of_length_le (by omega)]; simp
theorem kM_go {time : Int} {m b : List Int} {j : Nat} (hj : j < m.length) (hg : Qel time ((mbs m b).getD j default) = true) : ((kF time m b (j + 1)).map Mb.who).eraseIdx j = (kF time m b j).map Mb.who := by
 have h' : j < (mbs m b).length := by rw [Qbj]; exact hj
 have hg' : Qel time (mbs m b)[j] = true := by simpa [h'] using hg
 obtain ⟨e1, e2⟩ := kF_go hj h' hg'
 rw [e1, e2, List.map_append, List.map_cons, List.map_append]
 exact Qhz _ _ _ _ (by simp; omega)
theorem kB_go {time : Int} {m b : List Int} {j : Nat} (hj : j < m.length) (hg : Qel time ((mbs m b).getD j default) = true) : (Qcd (kF time m b (j + 1)) ++ Qc5 m b).eraseIdx j = Qcd (kF time m b j) ++ Qc5 m b := by
 have h' : j < (mbs m b).length := by rw [Qbj]; exact hj
 have hg' : Qel time (mbs m b)[j] = true := by simpa [h'] using hg
 obtain ⟨e1, e2⟩ := kF_go hj h' hg'
 have hh : (mbs m b)[j].has = true := by simp [Qel] at hg'; exact hg'.1
 have ht := Qgs (Qit (mbs_pw m b)) h' hh
 rw [e1, e2]
 unfold Qcd
 rw [List.filter_append, List.filter_cons_of_pos hh, List.filter_append, List.map_append, List.map_cons, List.map_append, List.append_assoc, List.cons_append, List.append_assoc]
 exact Qhz _ _ _ _ (by rw [ht]; simp; omega)
theorem kF_sub (time : Int) (m b : List Int) (n : Nat) : (kF time m b n).Sublist (mbs m b) := by
 have h := List.Sublist.append (List.Sublist.refl ((mbs m b).take n)) (List.filter_sublist (p := fun x => !Qel time x) (l := (mbs m b).drop n))
 rw [List.take_append_drop] at h
 exact h
theorem mbs_who (m b : List Int) : (mbs m b).map Mb.who = m := by
 apply List.ext_getElem
 . simp [Qbj]
 . intro i h1 h2
   simp [mbs, h2]
theorem Qfq (m b : List Int) : Qcd (mbs m b) ++ Qc5 m b = b := by
 have key : ∀ n, Qcd ((List.range n).map fun i => (⟨m.getD i 0, b.getD i 0, decide (i < b.length)⟩ : Mb)) = b.take n := by
  intro n
  induction n with
  | zero => simp [Qcd]
  | succ n ih =>
   rw [List.range_succ, List.map_append]
   unfold Qcd at ih ⊢
   rw [List.filter_append, List.map_append, ih]
   by_cases h : n < b.length
   . rw [List.take_succ_eq_append_getElem h]; simp [h]
   . rw [List.take_of_length_le (by omega), List.take_of_length_le (by omega)]; simp [h]
 show Qcd ((List.range m.length).map _) ++ b.drop m.length = b
 rw [key, List.take_append_drop]
theorem kB_le' (time : Int) (m b : List Int) (n : Nat) : (Qcd (kF time m b n) ++ Qc5 m b).length <= b.length := by
 have h := (((kF_sub time m b n).filter Mb.has).map Mb.beat).length_le
 have h2 := congrArg List.length (Qfq m b)
 rw [List.length_append] at h2 ⊢
 unfold Qcd at h2 ⊢
 omega
theorem Qfw {time : Int} {m b : List Int} {j : Nat} (hj : j < m.length) : Qel time ((mbs m b).getD j default) = (decide (j < b.length) && oldF (b.getD j 0) time) := by
 have h' : j < (mbs m b).length := by rw [Qbj]; exact hj
 rw [List.getD_eq_getElem?_getD, List.getElem?_eq_getElem h', Qik hj]
 rfl
theorem Qgr {time : Int} {m b : List Int} {j : Nat} (hj : j < m.length) (hg : Qel time ((mbs m b).getD j default) = false) : kF time m b (j + 1) = kF time m b j := by
 have h' : j < (mbs m b).length := by rw [Qbj]; exact hj
 exact kF_stay hj h' (by simpa [h'] using hg)
theorem gone_go {time : Int} {m b : List Int} {j : Nat} (hj : j < m.length) (hg : Qel time ((mbs m b).getD j default) = true) : decide ((kF time m b j).length < m.length) = true := by
 have h' : j < (mbs m b).length := by rw [Qbj]; exact hj
 obtain ⟨e1, e2⟩ := kF_go hj h' (by simpa [h'] using hg)
 have h1 := Qfu time m b (j + 1)
 rw [e1] at h1
 rw [e2]
 simp at h1 ⊢
 omega
theorem Wo.f1 {w W : World} {gen : Int} {vm vb vo : Value} {P : Nat} {x1 x2 x3 : Option Addr} {y1 y2 y3 : Nat} {l1 l2 l3 : List Int} (h : Wo w W gen vm vb vo P x1 x2 x3 y1 y2 y3 l1 l2 l3) : At W x1 l1 := by obtain ⟨F, hG, _⟩ := h.f; exact hG.at1
theorem Wo.f2 {w W : World} {gen : Int} {vm vb vo : Value} {P : Nat} {x1 x2 x3 : Option Addr} {y1 y2 y3 : Nat} {l1 l2 l3 : List Int} (h : Wo w W gen vm vb vo P x1 x2 x3 y1 y2 y3 l1 l2 l3) : At W x2 l2 := by obtain ⟨F, hG, _⟩ := h.f; exact hG.at2
theorem Wo.f3 {w W : World} {gen : Int} {vm vb vo : Value} {P : Nat} {x1 x2 x3 : Option Addr} {y1 y2 y3 : Nat} {l1 l2 l3 : List Int} (h : Wo w W gen vm vb vo P x1 x2 x3 y1 y2 y3 l1 l2 l3) : At W x3 l3 := by obtain ⟨F, hG, _⟩ := h.f; exact hG.at3
theorem Wo.put {w W W' : World} {gen : Int} {vm vb vo : Value} {P : Nat} {x1 x2 x3 a1 a2 a3 : Option Addr} {y1 y2 y3 c1 c2 c3 : Nat} {l1 l2 l3 m1 m2 m3 : List Int} {F : List Nat} (h : Wo w W gen vm vb vo P x1 x2 x3 y1 y2 y3 l1 l2 l3) (g : Below W.heap.size W W') (hG : Gp W' a1 a2 a3 m1 m2 m3 F) (hF : ∀ x ∈ F, W.heap.size <= x) (k1 : m1.length <= c1 /\ c1 <= 9223372036854775807) (k2 : m2.length <= c2 /\ c2 <= 9223372036854775807) :
 Wo w (putG W' P (.int .i64 gen) (.slice a1 m1.length c1) (.slice a2 m2.length c2) (.slice a3 m3.length c3)) gen vm vb vo P a1 a2 a3 c1 c2 c3 m1 m2 m3 := by
 have hPl := h.p.lt
 have hr := h.i.r.lt
 have hs := h.i.bl.size
 exact ⟨(h.i.below g).off (Qcb _ _ _ _ _ _) h.hp, blk_putG (h.p.below g h.p.lt) _ _ _ _, ⟨F, hG.off (Qcb _ _ _ _ _ _) (fun x hx => by have := hF x hx; simp; omega), fun x hx => by have := hF x hx; exact ⟨by omega, by omega, by omega⟩⟩, h.hp, k1, k2⟩
theorem spTick_any (gen time : Int) (hg : I64 gen) (ht : I64 time) (A B C : Option Addr) (ca cb cc : Nat) (m b o : List Int) (hm : m.length <= 1048576) (hb : b.length <= 1048576) (ho : o.length <= 1048576) (hbi : ∀ x ∈ b, I64 x) (w : World) (hA : At w A m) (hB : At w B b) (hC : At w C o) :
 Calls Tryz.prog 91 #[.agg (Qak gen A m.length ca B b.length cb C o.length cc), .int .i64 time] w fun e w' => Qgz w w' e (Qea gen time m b) (Qet time m b) (Qfh time m b) o := by
 have HA := hidP hA
 have HB := hidP hB
 have HC := hidP hC
 have Hbi := hidP hbi
 obtain ⟨tl, th⟩ := ht
 clear hA hB hC hbi
 go_enter Tryz.func91, Tryz.ntmps91
 go_wp2_with fail
 have I0 : Wi w ((w.alloc (.cells (Qak gen A m.length ca B b.length cb C o.length cc) 128)).alloc (.cells Qb0 128)) gen (.slice A m.length ca) (.slice B b.length cb) (.slice C o.length cc) := ⟨by repeat (first | exact Below.refl _ _ | assumption | refine via0 (by assumption) ?_ | refine Below.drew ?_ | refine Qaf ?_ _), (Blk.new w 128 (Qak gen A m.length ca B b.length cb C o.length cc)).alloc _, by have := Blk.new (w.alloc (.cells (Qak gen A m.length ca B b.length cb C o.length cc) 128)) 128 Qb0; rw [World.size_alloc] at this; exact this⟩
 refine (Qct gen A B C ca cb cc m b o hm hb ho _ (HA.out.below I0.bl) (HB.out.below I0.bl) (HC.out.below I0.bl)).mono ?_
 rintro e w1 ⟨a1, a2, a3, c1, c2, c3, F, rfl, g1, hG, hF, k1, k2⟩
 have I1 := I0.below g1
 have J1 : Wo w (w1.alloc (.cells (Qak gen a1 m.length c1 a2 b.length c2 a3 o.length c3) 128)) gen (.slice A m.length ca) (.slice B b.length cb) (.slice C o.length cc) w1.heap.size a1 a2 a3 c1 c2 c3 m b o :=
  ⟨I1.alloc _, Blk.new w1 128 _, ⟨F, hG.alloc _, fun x hx => by have := hF x hx; have := hG.lt x hx; simp at *; omega⟩, I1.r.lt, k1, k2⟩
 obtain ⟨g0, gm, gb, go⟩ := J1.i.s4
 clear hG hF k1 k2 g1 I0 I1
 go_wp2_with fail
 generalize w1.alloc (.cells (Qak gen a1 m.length c1 a2 b.length c2 a3 o.length c3) 128) = W1 at *
 generalize w1.heap.size = P at *
 have HJ1 := hidP J1
 clear J1
 go_wp2
 go_loopw [6, 7] (fun gone i W => ∃ (n n1 n2 : Nat) (x1 x2 x3 : Option Addr) (y1 y2 y3 : Nat), i = .int .i64 ((n : Int) - 1) /\ gone = .bool (decide ((kF time m b n).length < m.length)) /\ n <= m.length /\ Hid (n1 = ((kF time m b n).map Mb.who).length) /\ Hid (n2 = (Qcd (kF time m b n) ++ Qc5 m b).length) /\
  Hid (Wo w W gen (.slice A m.length ca) (.slice B b.length cb) (.slice C o.length cc) P x1 x2 x3 y1 y2 y3 ((kF time m b n).map Mb.who) (Qcd (kF time m b n) ++ Qc5 m b) o)) (fun _ i _ => (intOf i + 1).toNat)
 case atStart =>
  refine ⟨m.length, m.length, b.length, a1, a2, a3, c1, c2, c3, by simp, by rw [kF_all, Qbj]; simp, Nat.le_refl _, by show _ = _; rw [kF_all, mbs_who], by show _ = _; rw [kF_all, Qfq], ?_⟩
  show Wo _ _ _ _ _ _ _ _ _ _ _ _ _ _ _ _
  rw [kF_all, mbs_who, Qfq]
  exact HJ1.out
 case round =>
  obtain ⟨n, n1, n2, x1, x2, x3, y1, y2, y3, rfl, hgone, hn, hN1, hN2, HJ⟩ := hrel
  clear HJ1 g0 gm gb go
  obtain ⟨g0, gm, gb, go⟩ := HJ.out.i.s4
  have V := HJ.out.p
  rw [← hN1.out, ← hN2.out] at V
  obtain ⟨t0, t1, t2, t3⟩ := V.row4
  clear V
  have hBl := HJ.out.i.bl
  rcases Nat.eq_zero_or_pos n with hn0 | hn0
  . subst hn0
    rw [Qir] at hgone
    have hgd0 : ∃ c, decide ((Qc3 time (mbs m b)).length < m.length) = c := ⟨_, rfl⟩
    obtain ⟨gd, hgd0⟩ := hgd0
    rw [hgd0] at hgone
    have hgd := hidP hgd0
    subst hgone
    clear hgd0 t0 t1 t2 t3 g0 gm gb go
    have V := HJ.out.p
    have I := HJ.out.i
    rw [← hN1.out, ← hN2.out] at V
    obtain ⟨t0, t1, t2, t3⟩ := V.row4
    have y0 := V.thaw 0
    obtain ⟨g0, _, _, _⟩ := I.s4
    obtain ⟨r0, r1, r2, r3⟩ := I.r.row4
    have f0 := I.r.thaw 0
    have f1 := I.r.thaw 1
    have f2 := I.r.thaw 2
    have f3 := I.r.thaw 3
    have hPP := HJ.out.hp
    have hne1 : P ≠ w.heap.size + 1 := by omega
    have hne2 : w.heap.size + 1 ≠ P := by omega
    have hne3 : w.heap.size ≠ P := by omega
    have HI := hidP I
    have HV := hidP V
    clear I V
    cases gd
    . have HR := HI.out.r
      go_wp2
      have kk0 : Blk (wr.setCell ⟨w.heap.size + 1, 0, none⟩ (.int .i64 gen)) (w.heap.size + 1) 128 (Qak gen none 0 0 none 0 0 none 0 0) := HR.setAt 0 _
      have s0 : (wr.setCell ⟨w.heap.size + 1, 0, none⟩ (.int .i64 gen)).cell? ⟨w.heap.size + 1, 0, none⟩ = some (.int .i64 gen) := kk0.row4.1
      have kk1 : Blk ((wr.setCell ⟨w.heap.size + 1, 0, none⟩ (.int .i64 gen)).setCell ⟨w.heap.size + 1, 1, none⟩ (.slice x1 n1 y1)) (w.heap.size + 1) 128 (Qak gen x1 n1 y1 none 0 0 none 0 0) := kk0.setAt 1 _
      have s1 : ((wr.setCell ⟨w.heap.size + 1, 0, none⟩ (.int .i64 gen)).setCell ⟨w.heap.size + 1, 1, none⟩ (.slice x1 n1 y1)).cell? ⟨w.heap.size + 1, 1, none⟩ = some (.slice x1 n1 y1) := kk1.row4.2.1
      have kk2 : Blk (((wr.setCell ⟨w.heap.size + 1, 0, none⟩ (.int .i64 gen)).setCell ⟨w.heap.size + 1, 1, none⟩ (.slice x1 n1 y1)).setCell ⟨w.heap.size + 1, 2, none⟩ (.slice x2 n2 y2)) (w.heap.size + 1) 128 (Qak gen x1 n1 y1 x2 n2 y2 none 0 0) := kk1.setAt 2 _
      have s2 : (((wr.setCell ⟨w.heap.size + 1, 0, none⟩ (.int .i64 gen)).setCell ⟨w.heap.size + 1, 1, none⟩ (.slice x1 n1 y1)).setCell ⟨w.heap.size + 1, 2, none⟩ (.slice x2 n2 y2)).cell? ⟨w.heap.size + 1, 2, none⟩ = some (.slice x2 n2 y2) := kk2.row4.2.2.1
      have kk3 : Blk ((((wr.setCell ⟨w.heap.size + 1, 0, none⟩ (.int .i64 gen)).setCell ⟨w.heap.size + 1, 1, none⟩ (.slice x1 n1 y1)).setCell ⟨w.heap.size + 1, 2, none⟩ (.slice x2 n2 y2)).setCell ⟨w.heap.size + 1, 3, none⟩ (.slice x3 o.length y3)) (w.heap.size + 1) 128 (Qak gen x1 n1 y1 x2 n2 y2 x3 o.length y3) := kk2.setAt 3 _
      have s3 : ((((wr.setCell ⟨w.heap.size + 1, 0, none⟩ (.int .i64 gen)).setCell ⟨w.heap.size + 1, 1, none⟩ (.slice x1 n1 y1)).setCell ⟨w.heap.size + 1, 2, none⟩ (.slice x2 n2 y2)).setCell ⟨w.heap.size + 1, 3, none⟩ (.slice x3 o.length y3)).cell? ⟨w.heap.size + 1, 3, none⟩ = some (.slice x3 o.length y3) := kk3.row4.2.2.2
      refine bodyPost_ret (v := .agg (Qak gen x1 n1 y1 x2 n2 y2 x3 o.length y3)) (by simp [results, Tryz.results91, go_sem, s0, s1, s2, s3]) rfl ?_
      have hto := HJ.out.told
      rw [← hN1.out, ← hN2.out] at hto
      rw [Qir] at hto
      have hG : Qea gen time m b = gen := by unfold Qea; rw [hgd.out]; rfl
      rw [hG]
      exact hto.g
    . go_wp2_with (go_at_call 96; refine (Qfe gen hg _).mono ?_; rintro e w9 ⟨rfl, h9⟩; subst w9)
      have k1 : Off [P] wr (wr.setCell ⟨P, 0, none⟩ (.int .i64 (upF gen))) := Qbm (Off.refl _ _) P 0 _ (by simp)
      have J := HI.out.off k1 hPP
      have HR := J.r
      have kk0 : Blk ((wr.setCell ⟨P, 0, none⟩ (.int .i64 (upF gen))).setCell ⟨w.heap.size + 1, 0, none⟩ (.int .i64 (upF gen))) (w.heap.size + 1) 128 (Qak (upF gen) none 0 0 none 0 0 none 0 0) := HR.setAt 0 _
      have s0 : ((wr.setCell ⟨P, 0, none⟩ (.int .i64 (upF gen))).setCell ⟨w.heap.size + 1, 0, none⟩ (.int .i64 (upF gen))).cell? ⟨w.heap.size + 1, 0, none⟩ = some (.int .i64 (upF gen)) := kk0.row4.1
      have kk1 : Blk (((wr.setCell ⟨P, 0, none⟩ (.int .i64 (upF gen))).setCell ⟨w.heap.size + 1, 0, none⟩ (.int .i64 (upF gen))).setCell ⟨w.heap.size + 1, 1, none⟩ (.slice x1 n1 y1)) (w.heap.size + 1) 128 (Qak (upF gen) x1 n1 y1 none 0 0 none 0 0) := kk0.setAt 1 _
      have s1 : (((wr.setCell ⟨P, 0, none⟩ (.int .i64 (upF gen))).setCell ⟨w.heap.size + 1, 0, none⟩ (.int .i64 (upF gen))).setCell ⟨w.heap.size + 1, 1, none⟩ (.slice x1 n1 y1)).cell? ⟨w.heap.size + 1, 1, none⟩ = some (.slice x1 n1 y1) := kk1.row4.2.1
      have kk2 : Blk ((((wr.setCell ⟨P, 0, none⟩ (.int .i64 (upF gen))).setCell ⟨w.heap.size + 1, 0, none⟩ (.int .i64 (upF gen))).setCell ⟨w.heap.size + 1, 1, none⟩ (.slice x1 n1 y1)).setCell ⟨w.heap.size + 1, 2, none⟩ (.slice x2 n2 y2)) (w.heap.size + 1) 128 (Qak (upF gen) x1 n1 y1 x2 n2 y2 none 0 0) := kk1.setAt 2 _
      have s2 : ((((wr.setCell ⟨P, 0, none⟩ (.int .i64 (upF gen))).setCell ⟨w.heap.size + 1, 0, none⟩ (.int .i64 (upF gen))).setCell ⟨w.heap.size + 1, 1, none⟩ (.slice x1 n1 y1)).setCell ⟨w.heap.size + 1, 2, none⟩ (.slice x2 n2 y2)).cell? ⟨w.heap.size + 1, 2, none⟩ = some (.slice x2 n2 y2) := kk2.row4.2.2.1
      have kk3 : Blk (((((wr.setCell ⟨P, 0, none⟩ (.int .i64 (upF gen))).setCell ⟨w.heap.size + 1, 0, none⟩ (.int .i64 (upF gen))).setCell ⟨w.heap.size + 1, 1, none⟩ (.slice x1 n1 y1)).setCell ⟨w.heap.size + 1, 2, none⟩ (.slice x2 n2 y2)).setCell ⟨w.heap.size + 1, 3, none⟩ (.slice x3 o.length y3)) (w.heap.size + 1) 128 (Qak (upF gen) x1 n1 y1 x2 n2 y2 x3 o.length y3) := kk2.setAt 3 _
      have s3 : (((((wr.setCell ⟨P, 0, none⟩ (.int .i64 (upF gen))).setCell ⟨w.heap.size + 1, 0, none⟩ (.int .i64 (upF gen))).setCell ⟨w.heap.size + 1, 1, none⟩ (.slice x1 n1 y1)).setCell ⟨w.heap.size + 1, 2, none⟩ (.slice x2 n2 y2)).setCell ⟨w.heap.size + 1, 3, none⟩ (.slice x3 o.length y3)).cell? ⟨w.heap.size + 1, 3, none⟩ = some (.slice x3 o.length y3) := kk3.row4.2.2.2
      refine bodyPost_ret (v := .agg (Qak (upF gen) x1 n1 y1 x2 n2 y2 x3 o.length y3)) (by simp [results, Tryz.results91, go_sem, s0, s1, s2, s3]) rfl ?_
      obtain ⟨F, hGp, hF⟩ := HJ.out.f
      have e1 := hN1.out
      have e2 := hN2.out
      rw [Qir] at hGp e1 e2
      have hG : Qea gen time m b = upF gen := by unfold Qea; rw [hgd.out]; rfl
      rw [hG]
      refine ⟨x1, x2, x3, y1, y2, y3, F, by rw [e1, e2]; rfl, J.bl.trans ((Qcb _ (w.heap.size + 1) _ _ _ _).toBelow (by simp) J.bl.size), (hGp.off k1 (fun x hx => by simpa using (hF x hx).2.1)).off (Qcb _ (w.heap.size + 1) _ _ _ _) (fun x hx => by simpa using (hF x hx).2.2), fun x hx => (hF x hx).1⟩
  . obtain ⟨j, rfl⟩ : ∃ j, n = j + 1 := ⟨n - 1, by omega⟩
    have hjl : j < m.length := by omega
    have hij : (((j + 1 : Nat) : Int) - 1) = (j : Int) := by omega
    rw [hij]
    by_cases hjb : j < b.length
    . have hib : (j : Int) < (b.length : Int) := by omega
      obtain ⟨bB, oB, rfl, hbs, hin⟩ : ∃ b' o', B = some ⟨b', o', none⟩ /\ b' < w.heap.size /\ In w b' o' b := by
       rcases HB.out with h | h
       . subst h; simp at hjb
       . exact h
      have cB := (hin.below hbs hBl).getInt j hjb
      obtain ⟨bl, bh⟩ := Hbi.out b[j] (List.getElem_mem hjb)
      have hgd : b.getD j 0 = b[j] := by simp [hjb]
      by_cases h1 : time > b[j]
      . by_cases h2 : wrap64 (time - b[j]) > 50
        . have hgo : Qel time ((mbs m b).getD j default) = true := by rw [Qfw hjl]; have h2' := h2; unfold wrap64 at h2'; simp [hjb, hgd, oldF]; omega
          have Hgo := hidP hgo
          clear hgo
          go_wp2_with fail
          have hW := HJ.out
          have hcl := Qda gen x1 x2 x3 y1 y2 y3 ((kF time m b (j + 1)).map Mb.who) (Qcd (kF time m b (j + 1)) ++ Qc5 m b) o (by have := Qfu time m b (j + 1); simp; omega) (by have := kB_le' time m b (j + 1); omega) ho hW.k1 hW.k2 j (by have := Qhp time m b (j + 1) (by omega); simp; omega) wr hW.f1 hW.f2 hW.f3
          rw [← hN1.out, ← hN2.out, kM_go hjl Hgo.out, kB_go hjl Hgo.out] at hcl
          refine hcl.mono ?_
          rintro e w4 ⟨a1, a2, a3, c1, c2, c3, F, rfl, g4, hG, hF, k1, k2⟩
          have J4 := hW.put (c3 := c3) g4 hG hF k1 k2
          have V4 := hW.p.below g4 hW.p.lt
          rw [← hN1.out, ← hN2.out] at V4
          obtain ⟨v0, v1, v2, v3⟩ := V4.row4
          have f0 := V4.thaw 0
          have f1 := V4.thaw 1
          have f2 := V4.thaw 2
          have f3 := V4.thaw 3
          obtain ⟨q1, hq1⟩ : ∃ k, k = ((kF time m b j).map Mb.who).length := ⟨_, rfl⟩
          obtain ⟨q2, hq2⟩ : ∃ k, k = (Qcd (kF time m b j) ++ Qc5 m b).length := ⟨_, rfl⟩
          rw [← hq1, ← hq2] at J4 ⊢
          have Hq1 := hidP hq1
          have Hq2 := hidP hq2
          dsimp only [putG] at J4
          have HK := hidP J4
          clear hq1 hq2 hcl J4 V4 hG hF g4 k1 k2 hW
          go_wp2
          exact ⟨⟨j, q1, q2, a1, a2, a3, c1, c2, c3, by simp, by rw [gone_go hjl Hgo.out], by omega, Hq1, Hq2, HK⟩, by (simp [intOf])<;>omega⟩
        . by_cases h3 : wrap64 (time - b[j]) < 0
          . have hgo : Qel time ((mbs m b).getD j default) = true := by rw [Qfw hjl]; have h3' := h3; unfold wrap64 at h3'; simp [hjb, hgd, oldF]; omega
            have Hgo := hidP hgo
            clear hgo
            go_wp2_with fail
            have hW := HJ.out
            have hcl := Qda gen x1 x2 x3 y1 y2 y3 ((kF time m b (j + 1)).map Mb.who) (Qcd (kF time m b (j + 1)) ++ Qc5 m b) o (by have := Qfu time m b (j + 1); simp; omega) (by have := kB_le' time m b (j + 1); omega) ho hW.k1 hW.k2 j (by have := Qhp time m b (j + 1) (by omega); simp; omega) wr hW.f1 hW.f2 hW.f3
            rw [← hN1.out, ← hN2.out, kM_go hjl Hgo.out, kB_go hjl Hgo.out] at hcl
            refine hcl.mono ?_
            rintro e w4 ⟨a1, a2, a3, c1, c2, c3, F, rfl, g4, hG, hF, k1, k2⟩
            have J4 := hW.put (c3 := c3) g4 hG hF k1 k2
            have V4 := hW.p.below g4 hW.p.lt
            rw [← hN1.out, ← hN2.out] at V4
            obtain ⟨v0, v1, v2, v3⟩ := V4.row4
            have f0 := V4.thaw 0
            have f1 := V4.thaw 1
            have f2 := V4.thaw 2
            have f3 := V4.thaw 3
            obtain ⟨q1, hq1⟩ : ∃ k, k = ((kF time m b j).map Mb.who).length := ⟨_, rfl⟩
            obtain ⟨q2, hq2⟩ : ∃ k, k = (Qcd (kF time m b j) ++ Qc5 m b).length := ⟨_, rfl⟩
            rw [← hq1, ← hq2] at J4 ⊢
            have Hq1 := hidP hq1
            have Hq2 := hidP hq2
            dsimp only [putG] at J4
            have HK := hidP J4
            clear hq1 hq2 hcl J4 V4 hG hF g4 k1 k2 hW
            go_wp2
            exact ⟨⟨j, q1, q2, a1, a2, a3, c1, c2, c3, by simp, by rw [gone_go hjl Hgo.out], by omega, Hq1, Hq2, HK⟩, by (simp [intOf])<;>omega⟩
          . have hst := Qgr (time := time) (m := m) (b := b) hjl (by rw [Qfw hjl]; have h3' := h3; have h2' := h2; unfold wrap64 at h3' h2'; simp [hjb, hgd, oldF]; omega)
            rw [hst] at hN1 hN2 HJ hgone
            clear hst
            go_wp2
            exact ⟨⟨j, n1, n2, x1, x2, x3, y1, y2, y3, by simp, hgone, by omega, hN1, hN2, HJ⟩, by (simp [intOf])<;>omega⟩
      . have hst := Qgr (time := time) (m := m) (b := b) hjl (by rw [Qfw hjl]; simp [hjb, hgd, oldF]; omega)
        rw [hst] at hN1 hN2 HJ hgone
        clear hst
        go_wp2
        exact ⟨⟨j, n1, n2, x1, x2, x3, y1, y2, y3, by simp, hgone, by omega, hN1, hN2, HJ⟩, by (simp [intOf])<;>omega⟩
    . have hib : ¬ (j : Int) < (b.length : Int) := by omega
      have hst := Qgr (time := time) (m := m) (b := b) hjl (by rw [Qfw hjl]; simp [hjb])
      rw [hst] at hN1 hN2 HJ hgone
      clear hst
      go_wp2
      exact ⟨⟨j, n1, n2, x1, x2, x3, y1, y2, y3, by simp, hgone, by omega, hN1, hN2, HJ⟩, by (simp [intOf])<;>omega⟩
def tkP (T : Int) (p : PG) : PG := ⟨Qea p.gen T p.m p.b, Qet T p.m p.b, Qfh T p.m p.b, p.o⟩
theorem tick_at {l l' : List PG} {T : Int} {n : Nat} (h : l' = (l.take n).map (tkP T) ++ l.drop n) (hn : n < l.length) : l'[n]? = some l[n] := by
 have hl : ((l.take n).map (tkP T)).length = n := by simp; omega
 rw [h, List.getElem?_append_right (by omega), hl, Nat.sub_self, List.getElem?_drop, Nat.add_zero, List.getElem?_eq_getElem hn]
theorem tick_next {l l' : List PG} {T : Int} {n : Nat} (h : l' = (l.take n).map (tkP T) ++ l.drop n) (hn : n < l.length) : l'.set n (tkP T l[n]) = (l.take (n + 1)).map (tkP T) ++ l.drop (n + 1) := by
 have hl : ((l.take n).map (tkP T)).length = n := by simp; omega
 rw [h, List.set_append_right _ _ (by omega), hl, Nat.sub_self, List.drop_eq_getElem_cons hn, List.set_cons_zero, List.take_succ_eq_append_getElem hn, List.map_append, List.append_assoc]
 rfl
theorem min6_any (a b : Int) (w : World) : Calls Tryz.prog 26 #[.int .i64 a, .int .i64 b] w fun e w' => e = .returned (.int .i64 (min a b)) /\ w' = w := by
 by_cases h : a < b
 . rw [show min a b = a by omega]
   go_enter Tryz.func26, Tryz.ntmps26
   go_wp2
   go_ret
   exact ⟨rfl, rfl⟩
 . rw [show min a b = b by omega]
   go_enter Tryz.func26, Tryz.ntmps26
   go_wp2
   go_ret
   exact ⟨rfl, rfl⟩
theorem l6New_tick (ro wi le ke : Int) (rA : Option Addr) (rc : Nat) (rs : List RC) (mA : Option Addr) (mc : Nat) (ms : List MC) (gA : Option Addr) (gc : Nat) (gs : List GC) (time : Int) (dA : Option Addr) (dc : Nat) (ds : List Int) (lA : Option Addr) (lc : Nat) (ls : List An) (who seq ca cb cc : Int) (key text : ByteArray) (S : Nat -> Prop) (br bg bd bl : Nat) (w : World) (hS : ∀ b, S b -> b < w.heap.size) (hq : KQ w (⟨rA, rc, rs, mA, mc, ms, gA, gc, gs, time, dA, dc, ds, lA, lc, ls⟩ : KC) S br bg bd bl) (hgl : gs.length <= 1000) (ht : 0 <= time /\ time <= 100000) (hca : 0 <= ca /\ ca <= 2147483647)
 (hgi : ∀ y ∈ gs, y.m.length <= 1048576 /\ y.b.length <= 1048576 /\ y.o.length <= 1048576 /\ I64 y.gen /\ (∀ z ∈ y.b, I64 z)) :
 Calls Tryz.prog 86 #[.agg (Qan ro wi le ke), .agg (Qaa rA rs.length rc mA ms.length mc gA gs.length gc time dA ds.length dc lA ls.length lc), .agg (Qad who seq 8 ca cb cc key text)] w fun e w' => Qbu S w w' e { KC.p (⟨rA, rc, rs, mA, mc, ms, gA, gc, gs, time, dA, dc, ds, lA, lc, ls⟩ : KC) with time := min 100000 (time + ca), gs := (gs.map GC.p).map (tkP (min 100000 (time + ca))) } ⟨0, min 100000 (time + ca), ⟨#[]⟩, ⟨#[]⟩⟩ := by
 obtain rfl : gA = (some ⟨bg, 0, none⟩) := hq.g.a
 have HQ := hidP hq
 obtain ⟨T, hT⟩ : ∃ T, min 100000 (time + ca) = T := ⟨_, rfl⟩
 have hT64 : I64 T := by unfold I64; omega
 have HM : Hid (∀ W : World, Calls Tryz.prog 26 #[.int .i64 100000, .int .i64 (time + ca)] W fun e w' => e = .returned (.int .i64 T) /\ w' = W) := fun W => hT ▸ min6_any _ _ W
 rw [hT]
 have hbr : br < w.heap.size /\ bg < w.heap.size /\ bd < w.heap.size /\ bl < w.heap.size := ⟨hq.r.lt, hq.g.lt, hq.d.lt, hq.l.lt⟩
 have hgi' : ∀ p ∈ gs.map GC.p, p.m.length <= 1048576 /\ p.b.length <= 1048576 /\ p.o.length <= 1048576 /\ I64 p.gen /\ (∀ z ∈ p.b, I64 z) := by
  intro p hp
  obtain ⟨y, hy, rfl⟩ := List.mem_map.1 hp
  exact hgi y hy
 have Hgi := hidP hgi'
 obtain ⟨PGS, hPGS⟩ : ∃ P, gs.map GC.p = P := ⟨_, rfl⟩
 rw [hPGS]
 have hPl : PGS.length = gs.length := by rw [← hPGS]; simp
 rw [hPGS] at Hgi
 clear hq hT hgi hgi'
 obtain ⟨I0, S0, B0⟩ := Qa2 ro wi le ke rA rc rs mA mc ms (some ⟨bg, 0, none⟩) gc gs time dA dc ds lA lc ls who seq 8 ca cb cc key text S w hS
 go_enter Tryz.func86, Tryz.ntmps86
 go_upto_region 1 with fail
 generalize ((((w.alloc (.cells (Qan ro wi le ke) 84)).alloc (.cells (Qaa rA rs.length rc mA ms.length mc (some ⟨bg, 0, none⟩) gs.length gc time dA ds.length dc lA ls.length lc) 90)).alloc (.cells (Qad who seq 8 ca cb cc key text) 105)).alloc (.cells Qab 90)).alloc (.cells Qai 130) = X0 at I0 S0 B0 ⊢
 obtain ⟨k0, k1, k2, k3, k4, k5⟩ := I0.k.row6
 obtain ⟨c0, c1, c2, c3, c4, c5, c6, c7⟩ := I0.c.row8c
 have fk := I0.k.thaw 3
 go_upto_region 2 with fail
 go_wp2_with fail
 refine (HM.out _).mono ?_
 rintro e w' ⟨rfl, rfl⟩
 have l0 : w.heap.size + 1 + 1 + 1 + 1 < w'.heap.size := I0.r2.lt
 have I1 := I0.setK 3 (.int .i64 T)
 have I1 : Bx S w (w'.setCell ⟨(w.heap.size + 1), 3, none⟩ (.int .i64 T)) (w.heap.size + 1) (w.heap.size + 1 + 1) (w.heap.size + 1 + 1 + 1) (w.heap.size + 1 + 1 + 1 + 1) (Qaa rA rs.length rc mA ms.length mc (some ⟨bg, 0, none⟩) gs.length gc T dA ds.length dc lA ls.length lc) (Qad who seq 8 ca cb cc key text) := I1
 have Q1 := ((HQ.out.below B0).mono (S' := (fun b => S b ∨ (w.heap.size <= b /\ b ≠ (w.heap.size + 1) /\ b ≠ (w.heap.size + 1 + 1) /\ b ≠ (w.heap.size + 1 + 1 + 1) /\ b ≠ (w.heap.size + 1 + 1 + 1 + 1)))) (fun b _ hb => .inl hb)).setT T
 have Q1 := hidP (Q1.box (w.heap.size + 1) 3 (.int .i64 T) (by rintro (h | h); have := hS _ h; omega; omega))
 have hz1 : w'.heap.size = (w'.setCell ⟨(w.heap.size + 1), 3, none⟩ (.int .i64 T)).heap.size := by simp
 go_upto_region 3 with fail
 clear k0 k1 k2 k3 k4 k5 c0 c1 c2 c3 c4 c5 c6 c7 fk
 generalize w'.setCell ⟨(w.heap.size + 1), 3, none⟩ (.int .i64 T) = X1 at I1 Q1 hz1 ⊢
 have l1 : w.heap.size + 1 + 1 + 1 + 1 < X1.heap.size := by omega
 clear I0 S0 B0 hz1 l0
 have Hp0 : Hid (gs.map GC.p = (PGS.take 0).map (tkP T) ++ PGS.drop 0) := by show _ = _; simpa using hPGS
 clear hPGS
 go_wp2
 go_loopw [8] (fun i wx => ∃ (n : Nat) (gs' : List GC), i = .int .i64 (n : Int) /\ n <= gs.length /\ Hid (gs'.length = gs.length) /\ Hid (gs'.map GC.p = (PGS.take n).map (tkP T) ++ PGS.drop n) /\ Bx S w wx (w.heap.size + 1) (w.heap.size + 1 + 1) (w.heap.size + 1 + 1 + 1) (w.heap.size + 1 + 1 + 1 + 1) (Qaa rA rs.length rc mA ms.length mc (some ⟨bg, 0, none⟩) gs.length gc T dA ds.length dc lA ls.length lc) (Qad who seq 8 ca cb cc key text) /\ Hid (KQ wx (⟨rA, rc, rs, mA, mc, ms, (some ⟨bg, 0, none⟩), gc, gs', T, dA, dc, ds, lA, lc, ls⟩ : KC) (fun b => S b ∨ (w.heap.size <= b /\ b ≠ (w.heap.size + 1) /\ b ≠ (w.heap.size + 1 + 1) /\ b ≠ (w.heap.size + 1 + 1 + 1) /\ b ≠ (w.heap.size + 1 + 1 + 1 + 1))) br bg bd bl)) (fun i _ => gs.length - (intOf i).toNat)
 case atStart => exact ⟨0, gs, rfl, by omega, rfl, Hp0, I1, Q1⟩
 case round =>
  obtain ⟨n, gs', rfl, hn, hl, hp, IW, QW⟩ := hrel
  obtain ⟨k0, k1, k2, k3, k4, k5⟩ := IW.k.row6
  by_cases hlt : n < gs.length
  . have hnP : n < PGS.length := by omega
    have hng : n < gs'.length := by rw [hl.out]; exact hlt
    obtain ⟨⟨gen, a1, c1, m, a2, c2, b, a3, c3, o⟩, hy⟩ : ∃ y, gs'[n] = y := ⟨_, rfl⟩
    have hyp : PGS[n] = ⟨gen, m, b, o⟩ := by
     have h := tick_at hp.out hnP
     rw [List.getElem?_map, List.getElem?_eq_getElem hng, hy] at h
     simpa [GC.p] using h.symm
    have HG := hidP (Hgi.out PGS[n] (List.getElem_mem hnP))
    rw [hyp] at HG
    have HCl : Hid (wr.cell? ⟨bg, n * 4, none⟩ = some (.int .i64 gen) /\ wr.cell? ⟨bg, n * 4 + 1, none⟩ = some (.slice a1 m.length c1) /\ wr.cell? ⟨bg, n * 4 + 2, none⟩ = some (.slice a2 b.length c2) /\ wr.cell? ⟨bg, n * 4 + 3, none⟩ = some (.slice a3 o.length c3)) := by
     have h := QW.out.g.i.getGC n hng
     rw [hy] at h
     simp only [Nat.zero_add] at h
     exact h
    have HA : Hid (At wr a1 m /\ At wr a2 b /\ At wr a3 o) := by
     have h := QW.out.gi gs'[n] (List.getElem_mem hng)
     rw [hy] at h
     exact ⟨h.1.at, h.2.1.at, h.2.2.at⟩
    clear hy
    have hn0 : (0 : Int) <= (n : Int) := by omega
    have hn1 : (n : Int) < (gs.length : Int) := by omega
    have Hyp := hidP hyp
    clear hyp
    go_upto_region 6 with fail
    clear k0 k1 k2 k3 k4 k5
    have mkS : ∀ V : World, Bx S w V (w.heap.size + 1) (w.heap.size + 1 + 1) (w.heap.size + 1 + 1 + 1) (w.heap.size + 1 + 1 + 1 + 1) (Qaa rA rs.length rc mA ms.length mc (some ⟨bg, 0, none⟩) gs.length gc T dA ds.length dc lA ls.length lc) (Qad who seq 8 ca cb cc key text) -> Below wr.heap.size wr V -> (fun (V : World) => V.cell? ⟨(w.heap.size + 1), 2, none⟩ = some (.slice (some ⟨bg, 0, none⟩) gs.length gc) /\ V.cell? ⟨(w.heap.size + 1), 3, none⟩ = some (.int .i64 T) /\ V.cell? ⟨bg, n * 4, none⟩ = some (.int .i64 gen) /\ V.cell? ⟨bg, n * 4 + 1, none⟩ = some (.slice a1 m.length c1) /\ V.cell? ⟨bg, n * 4 + 2, none⟩ = some (.slice a2 b.length c2) /\ V.cell? ⟨bg, n * 4 + 3, none⟩ = some (.slice a3 o.length c3)) V := fun V q1 q2 => by
     obtain ⟨a0, a1, a2, a3, a4, a5⟩ := q1.k.row6
     have hb : bg < wr.heap.size := QW.out.g.lt
     obtain ⟨r0, r1, r2, r3⟩ := HCl.out
     exact ⟨a2, a3, (q2.cell (p := ⟨bg, n * 4, none⟩) hb).trans r0, (q2.cell (p := ⟨bg, n * 4 + 1, none⟩) hb).trans r1, (q2.cell (p := ⟨bg, n * 4 + 2, none⟩) hb).trans r2, (q2.cell (p := ⟨bg, n * 4 + 3, none⟩) hb).trans r3⟩
    have J0 := IW.drew
    have D0 : Below wr.heap.size wr wr.drew := (Below.refl _ _).drew
    have hH0 := mkS _ J0 D0
    have lw : w.heap.size + 1 + 1 + 1 + 1 < wr.heap.size := IW.r2.lt
    refine wp_region_noPanic ?_
    have hH : ((fun (V : World) => V.cell? ⟨(w.heap.size + 1), 2, none⟩ = some (.slice (some ⟨bg, 0, none⟩) gs.length gc) /\ V.cell? ⟨(w.heap.size + 1), 3, none⟩ = some (.int .i64 T) /\ V.cell? ⟨bg, n * 4, none⟩ = some (.int .i64 gen) /\ V.cell? ⟨bg, n * 4 + 1, none⟩ = some (.slice a1 m.length c1) /\ V.cell? ⟨bg, n * 4 + 2, none⟩ = some (.slice a2 b.length c2) /\ V.cell? ⟨bg, n * 4 + 3, none⟩ = some (.slice a3 o.length c3))) _ := hH0
    refine Qbb 12 ((fun (V : World) => V.cell? ⟨(w.heap.size + 1), 2, none⟩ = some (.slice (some ⟨bg, 0, none⟩) gs.length gc) /\ V.cell? ⟨(w.heap.size + 1), 3, none⟩ = some (.int .i64 T) /\ V.cell? ⟨bg, n * 4, none⟩ = some (.int .i64 gen) /\ V.cell? ⟨bg, n * 4 + 1, none⟩ = some (.slice a1 m.length c1) /\ V.cell? ⟨bg, n * 4 + 2, none⟩ = some (.slice a2 b.length c2) /\ V.cell? ⟨bg, n * 4 + 3, none⟩ = some (.slice a3 o.length c3))) (by kernel_rfl) ?_
    refine zpk [0,1,2,3,4,5,6,7,8,9] ?_; repeat (refine zpn (h := ?_); try simp only [zX,zY])
    refine zpe ?_
    refine Qar (i := 10) (by kernel_rfl) rfl (fun K hK => ?_)
    simp only [zG]
    go_simp; refine (spTick_any gen T HG.out.2.2.2.1 hT64 a1 a2 a3 c1 c2 c3 m b o HG.out.1 HG.out.2.1 HG.out.2.2.1 HG.out.2.2.2.2 _ (HA.out.1.below D0) (HA.out.2.1.below D0) (HA.out.2.2.below D0)).mono ?_; rintro e w3 ⟨e1, e2, e3, f1, f2, f3, Ff, rfl, g3, hG, hFf⟩; have I3 := J0.below g3; have D3 : Below wr.heap.size wr w3 := via0 g3 D0; have hH3 := mkS _ I3 D3; obtain ⟨r0, r1, r2, r3⟩ := hH3.2.2; have hth := (QW.out.below D3).g.th; have fz : ∀ j, j < 4 -> w3.frozen? ⟨bg, n * 4 + j, none⟩ = false := (fun j hj => by have h9 := (hth (n * 4 + j) (by show n * 4 + j < gs'.length * 4; rw [hl.out]; omega)).2; rwa [Nat.zero_add] at h9); have z0 : w3.frozen? ⟨bg, n * 4, none⟩ = false := fz 0 (by omega); have z1 := fz 1 (by omega); have z2 := fz 2 (by omega); have z3 := fz 3 (by omega); have hk6 : Only bg w3 ((((w3.setCell ⟨bg, n * 4, none⟩ (.int .i64 (Qea gen T m b))).setCell ⟨bg, n * 4 + 1, none⟩ (.slice e1 (Qet T m b).length f1)).setCell ⟨bg, n * 4 + 2, none⟩ (.slice e2 (Qfh T m b).length f2)).setCell ⟨bg, n * 4 + 3, none⟩ (.slice e3 o.length f3)) := ((((Only.refl bg w3).set _ _).set _ _).set _ _).set _ _; have hbw : bg < wr.heap.size := QW.out.g.lt; have Q6 : Hid (KQ ((((w3.setCell ⟨bg, n * 4, none⟩ (.int .i64 (Qea gen T m b))).setCell ⟨bg, n * 4 + 1, none⟩ (.slice e1 (Qet T m b).length f1)).setCell ⟨bg, n * 4 + 2, none⟩ (.slice e2 (Qfh T m b).length f2)).setCell ⟨bg, n * 4 + 3, none⟩ (.slice e3 o.length f3)) (⟨rA, rc, rs, mA, mc, ms, (some ⟨bg, 0, none⟩), gc, (gs'.set n ⟨Qea gen T m b, e1, f1, Qet T m b, e2, f2, Qfh T m b, e3, f3, o⟩), T, dA, dc, ds, lA, lc, ls⟩ : KC) (fun b => S b ∨ (w.heap.size <= b /\ b ≠ (w.heap.size + 1) /\ b ≠ (w.heap.size + 1 + 1) /\ b ≠ (w.heap.size + 1 + 1 + 1) /\ b ≠ (w.heap.size + 1 + 1 + 1 + 1))) br bg bd bl) := (((QW.out.below D3).setG n hng ⟨Qea gen T m b, e1, f1, Qet T m b, e2, f2, Qfh T m b, e3, f3, o⟩ (gp_av hG (fun x hx => (by have h9 := hFf x hx; have h8 := hbr; have h7 : wr.heap.size <= x := h9; exact ⟨.inr (by omega), by omega, by omega, by omega, by omega⟩))))); have I6 := I3.turn (Offp.of_only hk6) (fun b e => .inl (by subst e; rcases QW.out.s.2.1 with h | h; exact h; exact absurd h.1 (by omega))); clear hth fz hk6 g3 hG hFf I3 D3
    refine hK.out _ _ (.inr hH3) ?_
    clear hK K
    try simp only [zX,zY]
    refine zp1 11 ?_; refine zpn (h := ?_); try simp only [zX,zY]
    refine zpe ?_
    refine Qar (i := 12) (by kernel_rfl) rfl (fun K hK => ?_)
    simp only [zG]
    go_simp
    refine hK.out _ _ (.inl rfl) ?_
    clear hK K
    try simp only [zX,zY]
    refine Qbn (by kernel_rfl) ?_ _
    refine NoPanic.normal ?_
    clear hH0 mkS r0 r1 r2 r3 z0 z1 z2 z3
    go_wp2
    exact ⟨⟨n + 1, gs'.set n ⟨Qea gen T m b, e1, f1, Qet T m b, e2, f2, Qfh T m b, e3, f3, o⟩, by go_num, by omega, by show _ = _; simpa using hl.out, by show _ = _; rw [List.map_set, show GC.p ⟨Qea gen T m b, e1, f1, Qet T m b, e2, f2, Qfh T m b, e3, f3, o⟩ = tkP T PGS[n] by rw [Hyp.out]; rfl]; exact tick_next hp.out hnP, I6, Q6⟩, by simp [intOf]; omega⟩
  . obtain rfl : n = gs.length := by omega
    have hP : Hid (gs'.map GC.p = PGS.map (tkP T)) := by
     have h := hp.out
     rw [List.take_of_length_le (by omega), List.drop_of_length_le (by omega), List.append_nil] at h
     exact h
    have Q9 := hidP (QW.out.mono (S' := fun b => S b ∨ (w.heap.size <= b /\ b ≠ (w.heap.size + 1 + 1 + 1) /\ b ≠ (w.heap.size + 1 + 1 + 1 + 1))) (fun b _ hb => hb.imp id (fun h => ⟨h.1, h.2.2.2.1, h.2.2.2.2⟩)))
    have I9 := IW
    clear IW QW hp
    go_upto_region 7 with fail
    clear k0 k1 k2 k3 k4 k5
    have mkS : ∀ V : World, Blk V (w.heap.size + 1) 90 (Qaa rA rs.length rc mA ms.length mc (some ⟨bg, 0, none⟩) gs.length gc T dA ds.length dc lA ls.length lc) -> (fun (V : World) => V.cell? ⟨(w.heap.size + 1), 0, none⟩ = some (.slice rA rs.length rc) /\ V.cell? ⟨(w.heap.size + 1), 1, none⟩ = some (.slice mA ms.length mc) /\ V.cell? ⟨(w.heap.size + 1), 2, none⟩ = some (.slice (some ⟨bg, 0, none⟩) gs.length gc) /\ V.cell? ⟨(w.heap.size + 1), 3, none⟩ = some (.int .i64 T) /\ V.cell? ⟨(w.heap.size + 1), 4, none⟩ = some (.slice dA ds.length dc) /\ V.cell? ⟨(w.heap.size + 1), 5, none⟩ = some (.slice lA ls.length lc)) V := fun V hk => by obtain ⟨a0, a1, a2, a3, a4, a5⟩ := hk.row6; exact ⟨a0, a1, a2, a3, a4, a5⟩
    have SW := mkS _ I9.k.drew
    have J := I9.drew
    have QQ := hidP (Q9.out.below (Below.refl _ _).drew)
    refine wp_region_noPanic ?_
    refine wp_region_held_drew (S := (fun (V : World) => V.cell? ⟨(w.heap.size + 1), 0, none⟩ = some (.slice rA rs.length rc) /\ V.cell? ⟨(w.heap.size + 1), 1, none⟩ = some (.slice mA ms.length mc) /\ V.cell? ⟨(w.heap.size + 1), 2, none⟩ = some (.slice (some ⟨bg, 0, none⟩) gs.length gc) /\ V.cell? ⟨(w.heap.size + 1), 3, none⟩ = some (.int .i64 T) /\ V.cell? ⟨(w.heap.size + 1), 4, none⟩ = some (.slice dA ds.length dc) /\ V.cell? ⟨(w.heap.size + 1), 5, none⟩ = some (.slice lA ls.length lc))) (by kernel_rfl) ?_ (fun hH => ?_)
    . exact SW
    clear SW hH
    generalize wr.drew = XX at J QQ ⊢
    have hH := mkS XX J.k
    have TT := hidP (Bx.told J (y := (⟨rA, rc, rs, mA, mc, ms, (some ⟨bg, 0, none⟩), gc, gs', T, dA, dc, ds, lA, lc, ls⟩ : KC)) (br := br) (bg := bg) (bd := bd) (bl := bl) (QQ.out) (⟨(0), (T), (⟨#[]⟩), (⟨#[]⟩)⟩ : An) (hv := show _ = (Qaa rA rs.length rc mA ms.length mc (some ⟨bg, 0, none⟩) gs.length gc T dA ds.length dc lA ls.length lc) by simp only [KC.cells, hl.out]))
    obtain ⟨z0, z1, z2, z3, z4, z5⟩ := J.r1.row6
    have f0 := J.r1.thaw 0; have f1 := J.r1.thaw 1; have f2 := J.r1.thaw 2; have f3 := J.r1.thaw 3; have f4 := J.r1.thaw 4; have f5 := J.r1.thaw 5
    obtain ⟨k0, k1, k2, k3, k4, k5⟩ := J.k.row6
    have R2 := J.r2.only (Qac _ (w.heap.size + 1 + 1 + 1) (.slice rA rs.length rc) (.slice mA ms.length mc) (.slice (some ⟨bg, 0, none⟩) gs.length gc) (.int .i64 T) (.slice dA ds.length dc) (.slice lA ls.length lc)) (fun e => J.ne.2.2.2.2.2 e.symm)
    obtain ⟨y0, y1, y2, y3⟩ := R2.row4
    have ee0 := R2.thaw 0; have ee1 := R2.thaw 1; have ee2 := R2.thaw 2; have ee3 := R2.thaw 3
    have C1 := Qat J.r1 (.slice rA rs.length rc) (.slice mA ms.length mc) (.slice (some ⟨bg, 0, none⟩) gs.length gc) (.int .i64 T) (.slice dA ds.length dc) (.slice lA ls.length lc)
    have B1 := (Qax J.r1 (.slice rA rs.length rc) (.slice mA ms.length mc) (.slice (some ⟨bg, 0, none⟩) gs.length gc) (.int .i64 T) (.slice dA ds.length dc) (.slice lA ls.length lc)).only (Qah _ (w.heap.size + 1 + 1 + 1 + 1) (.int .i64 (0)) (.int .i64 (T)) (.string ⟨#[]⟩) (.string ⟨#[]⟩)) (fun e => J.ne.2.2.2.2.2 e)
    have C2 := Qau R2 (.int .i64 (0)) (.int .i64 (T)) (.string ⟨#[]⟩) (.string ⟨#[]⟩)
    obtain ⟨s0, s1, s2, s3, s4, s5⟩ := C1
    obtain ⟨t0, t1, t2, t3⟩ := C2
    obtain ⟨q0, q1, q2, q3, q4, q5⟩ := B1.row6
    have hne12 : (w.heap.size + 1 + 1 + 1) ≠ (w.heap.size + 1 + 1 + 1 + 1) := J.ne.2.2.2.2.2
    have hne21 : (w.heap.size + 1 + 1 + 1 + 1) ≠ (w.heap.size + 1 + 1 + 1) := fun e => J.ne.2.2.2.2.2 e.symm
    have SK := hidP (mkS _ (J.k.only (Qac _ (w.heap.size + 1 + 1 + 1) (.slice rA rs.length rc) (.slice mA ms.length mc) (.slice (some ⟨bg, 0, none⟩) gs.length gc) (.int .i64 T) (.slice dA ds.length dc) (.slice lA ls.length lc)) J.ne.2.1) )
    have SN := hidP (mkS _ ((J.k.only (Qac _ (w.heap.size + 1 + 1 + 1) (.slice rA rs.length rc) (.slice mA ms.length mc) (.slice (some ⟨bg, 0, none⟩) gs.length gc) (.int .i64 T) (.slice dA ds.length dc) (.slice lA ls.length lc)) J.ne.2.1).only (Qah _ (w.heap.size + 1 + 1 + 1 + 1) (.int .i64 (0)) (.int .i64 (T)) (.string ⟨#[]⟩) (.string ⟨#[]⟩)) J.ne.2.2.1) )
    clear mkS QQ
    refine ztk [0,1,2,3] ?_; repeat (refine ztn (hS := hH) (h := ?_); try simp only [zX,zY])
    refine zte ?_
    refine zR1 4 (fun K hK => ?_)
    simp only [zG]
    go_simp
    skip
    refine hK.out _ _ SK.out fun hH => ?_; clear hK K; try simp only [zX,zY]
    refine zR1 5 (fun K hK => ?_)
    simp only [zG]
    go_simp
    skip
    refine hK.out _ _ SN.out fun hH => ?_; clear hK K; try simp only [zX,zY]
    refine zdn ?_
    go_wp2
    exact bodyPost_ret (v := .tuple #[.agg (Qaa rA rs.length rc mA ms.length mc (some ⟨bg, 0, none⟩) gs.length gc T dA ds.length dc lA ls.length lc), .agg (Qas (0) (T) ⟨#[]⟩ ⟨#[]⟩)]) (by simp [results, Tryz.results86, go_sem, s0, s1, s2, s3, s4, s5, t0, t1, t2, t3, q0, q1, q2, q3, q4, q5]) rfl (by have h := TT.out; simp only [KC.p, hP.out] at h; exact h)
end Go.Proofs.YtlniljigeemnoaaGreat.Gen
namespace Go.Proofs.YtlniljigeemnoaaGreat.Items
open ChangeShapes WideShapes ChangeAt RowKit Shelf Base
theorem Qaq {B : Nat} {W W' : World} {v : Value} {t : TypeId} {k n : Nat} {xs : List Value} (h : W.ownsRow B t k v n xs) (hb : Below W.heap.size W W') : W'.ownsRow B t k v n xs := by
 refine ⟨h.1, ?_⟩
 rcases h.2 with ⟨rfl, rfl⟩ | ⟨g, c, cur, rfl, hB, hg, hc, hm, hsz, ht⟩
 . exact .inl ⟨rfl, rfl⟩
 . exact .inr ⟨g, c, cur, rfl, hB, Blk.below (show Blk W g t cur from hg) hb (Blk.lt (show Blk W g t cur from hg)), hc, hm, hsz, ht⟩
theorem Qav {B : Nat} {W : World} {v : Value} {t : TypeId} {k n : Nat} {xs : List Value} (h : W.ownsRow B t k v n xs) (o : Obj) : (W.alloc o).ownsRow B t k v n xs := Qaq h (Qaf (Below.refl _ _) _)
theorem Qaw {B C : Nat} {W : World} {v : Value} {t : TypeId} {k n : Nat} {xs : List Value} (h : W.ownsRow B t k v n xs) (hC : C <= B) : W.ownsRow C t k v n xs := by
 refine ⟨h.1, ?_⟩
 rcases h.2 with ⟨rfl, rfl⟩ | ⟨g, c, cur, rfl, hB, hg, hc, hm, hsz, ht⟩
 . exact .inl ⟨rfl, rfl⟩
 . exact .inr ⟨g, c, cur, rfl, by omega, hg, hc, hm, hsz, ht⟩
theorem Qbw {B : Nat} {W : World} {v : Value} {t : TypeId} {k n : Nat} {xs : List Value} (h : W.ownsRow B t k v n xs) {g : Nat} (hg : v.ownBlock = some g) : g < W.heap.size := by
 rcases h.2 with ⟨rfl, rfl⟩ | ⟨g', c, cur, rfl, hB, hb, _⟩
 . cases hg
 . have : g' = g := by simpa [Value.ownBlock] using hg
   subst this
   exact Blk.lt (show Blk W g' t cur from hb)
theorem Qci {B : Nat} {W : World} {a : Option Addr} {c : Nat} {t : TypeId} {l : List It} (h : W.ownsRow B t 5 (.slice a l.length c) l.length (flat l)) : At W a l := by
 obtain ⟨A, c', e, _, hA⟩ := Qa6 h
 cases e
 exact hA.imp id fun ⟨b, o, e, _, hb, hi, _⟩ => ⟨b, o, e, hb, hi⟩
def rowN (start next nb : Int) (l : List It) : Bool := Qa0 start nb l 0 && inB start 0 next && decide (next <= 100000) && decide (l.length <= 80)
theorem rowN_eq (start next : Int) (l : List It) (h0 : -9223372036854775808 <= next) (h1 : next <= 9223372036854775807) : rowN start next (IntKind.i64.wrap (next - 1)) l = rowB start next l := by
 by_cases h : next = -9223372036854775808
 . have e : inB start 0 next = false := by simp only [inB, decide_eq_false_iff_not]; omega
   simp [rowN, rowB, e]
 . have e : IntKind.i64.wrap (next - 1) = next - 1 := by rw [IntKind.wrap_i64]; omega
   rw [e]; rfl
theorem Qg3 (start next : Int) (A : Option Addr) (cap : Nat) (l : List It) (hl : l.length <= 9223372036854775807) (hs : ∀ x ∈ l, x.key.size <= 9223372036854775807 /\ x.text.size <= 9223372036854775807)
 (nb : Int) (hnb : Hid (IntKind.i64.wrap (next - 1) = nb)) (w : World) (hA : l = [] ∨ ∃ b o, A = some ⟨b, o, none⟩ /\ b < w.heap.size /\ In w b o l) :
 Calls Tryz.prog 112 #[.agg (Qaz start next A l.length cap)] w fun e w' => e = .returned (.bool (rowN start next nb l)) /\ Below w.heap.size w w' := by
 have HA : Hid (l = [] ∨ ∃ b o, A = some ⟨b, o, none⟩ /\ b < w.heap.size /\ In w b o l) := hA
 clear hA
 go_enter Tryz.func112, Tryz.ntmps112
 go_wp2
 go_loopw [3] (fun i w' => ∃ (n : Nat), i = .int .i64 (n : Int) /\ n <= l.length /\ Below w.heap.size w w' /\ w.heap.size < w'.heap.size /\ w'.cell? ⟨w.heap.size, 0, none⟩ = some (.int .i64 start) /\ w'.cell? ⟨w.heap.size, 1, none⟩ = some (.int .i64 next) /\ w'.cell? ⟨w.heap.size, 2, none⟩ = some (.slice A l.length cap) /\
  Hid (Qa0 start nb l n = Qa0 start nb l 0)) (fun i _ => l.length - (intOf i).toNat)
 case atStart => exact ⟨0, rfl, by omega, by repeat (first | exact Below.refl _ _ | refine via0 (by assumption) ?_ | refine Below.drew ?_ | refine Qaf ?_ _), by simp, by simp, by simp, by simp, rfl⟩
 case round =>
  obtain ⟨n, rfl, hn, hbl, hsz, b0, b1, b2, hch⟩ := hrel
  by_cases hlt : n < l.length
  . obtain ⟨b, o, rfl, hbs, hin⟩ : ∃ b o, A = some ⟨b, o, none⟩ /\ b < w.heap.size /\ In w b o l := by
     rcases HA.out with h | h
     . subst h; simp at hlt
     . exact h
    have hb1 : b < wr.heap.size := Nat.lt_of_lt_of_le hbs hbl.size
    have hIn := hin.below hbs hbl
    have hi0 : (0 : Int) <= (n : Int) := by omega
    have hi1 : (n : Int) < (l.length : Int) := by omega
    have hst := Qf8 (start := start) (nb := nb) hlt
    obtain ⟨c0, c1, c2, c3, c4⟩ := hIn.get n hlt
    obtain ⟨hk, ht⟩ := hs l[n] (List.getElem_mem hlt)
    cases hp : itemB l[n]
    . have h1 : Hid (partB l[n].key l[n].text l[n].who l[n].time = false) := hp
      have hF : Hid (Qa0 start nb l 0 = false) := by show Qa0 start nb l 0 = false; rw [← hch.out, hst, hp]; rfl
      clear hst hp
      go_wp2
      refine wp_region_noPanic ?_
      refine wp_region_held_drew (S := (fun w' => w'.cell? ⟨w.heap.size, 0, none⟩ = some (.int .i64 start) /\ w'.cell? ⟨w.heap.size, 1, none⟩ = some (.int .i64 next) /\ w'.cell? ⟨w.heap.size, 2, none⟩ = some (.slice (some ⟨b, o, none⟩) l.length cap) /\ w'.cell? ⟨b, o + n * 5, none⟩ = some (.int .i64 l[n].off) /\ w'.cell? ⟨b, o + n * 5 + 1, none⟩ = some (.string l[n].key) /\ w'.cell? ⟨b, o + n * 5 + 2, none⟩ = some (.string l[n].text) /\ w'.cell? ⟨b, o + n * 5 + 3, none⟩ = some (.int .i64 l[n].who) /\ w'.cell? ⟨b, o + n * 5 + 4, none⟩ = some (.int .i64 l[n].time) /\ w.heap.size < w'.heap.size /\ b < w'.heap.size)) (by kernel_rfl) ?_ (fun hH => ?_)
      . (refine ⟨?_, ?_, ?_, ?_, ?_, ?_, ?_, ?_, ?_, ?_⟩<;>first | assumption | (simp; done))
      refine ztk [0,1,2,3,4] ?_; repeat (refine ztn (h := ?_); try simp only [zX,zY])
      refine zte ?_
      refine zR1 5 (fun K hK => ?_)
      simp only [zG]
      go_simp
      (go_at_call 114; refine (Qcu false _ _ _ _ _ hk ht h1 _).mono ?_; rintro e w1 ⟨rfl, g1⟩; obtain ⟨k1, m1⟩ := Qfa g1; have s1 := g1.size)
      refine hK.out _ _ ?_ (fun hH => ?_)
      . first | (go_split_ands; refine ⟨?_, ?_, ?_, ?_, ?_, ?_, ?_, ?_, ?_, ?_⟩<;>assumption) | (go_split_ands; refine ⟨?_, ?_, ?_, ?_, ?_, ?_, ?_, ?_, ?_, ?_⟩<;>first | assumption | exact (k1 _ _ (by assumption)).trans (by assumption) | exact Nat.lt_of_lt_of_le (by assumption) s1)
      clear hK K
      try simp only [zX,zY]
      refine ztk [6,7,8,9,10,11,12,13,14,15,16,17,18,19,20,21,22,23,24,25,26,27,28,29,30,31,32,33,34,35,36,37,38,39,40,41] ?_; repeat ((first | refine ztn (h := ?_) | refine ztu (h := ?_)); try simp only [zX,zY])
      refine zte ?_
      refine zdn ?_
      go_wp2
      go_ret
      exact ⟨by rw [show rowN start next nb l = false from by unfold rowN; rw [hF.out]; rfl]; rfl, via0 g1 hbl.drew⟩
    . have h1 : Hid (partB l[n].key l[n].text l[n].who l[n].time = true) := hp
      cases h2' : inB l[n].off start nb
      . have h2 : Hid (inB l[n].off start nb = false) := h2'
        have hF : Hid (Qa0 start nb l 0 = false) := by show Qa0 start nb l 0 = false; rw [← hch.out, hst, hp, h2']; rfl
        clear hst hp h2'
        go_wp2
        refine wp_region_noPanic ?_
        refine wp_region_held_drew (S := (fun w' => w'.cell? ⟨w.heap.size, 0, none⟩ = some (.int .i64 start) /\ w'.cell? ⟨w.heap.size, 1, none⟩ = some (.int .i64 next) /\ w'.cell? ⟨w.heap.size, 2, none⟩ = some (.slice (some ⟨b, o, none⟩) l.length cap) /\ w'.cell? ⟨b, o + n * 5, none⟩ = some (.int .i64 l[n].off) /\ w'.cell? ⟨b, o + n * 5 + 1, none⟩ = some (.string l[n].key) /\ w'.cell? ⟨b, o + n * 5 + 2, none⟩ = some (.string l[n].text) /\ w'.cell? ⟨b, o + n * 5 + 3, none⟩ = some (.int .i64 l[n].who) /\ w'.cell? ⟨b, o + n * 5 + 4, none⟩ = some (.int .i64 l[n].time) /\ w.heap.size < w'.heap.size /\ b < w'.heap.size)) (by kernel_rfl) ?_ (fun hH => ?_)
        . (refine ⟨?_, ?_, ?_, ?_, ?_, ?_, ?_, ?_, ?_, ?_⟩<;>first | assumption | (simp; done))
        refine ztk [0,1,2,3,4] ?_; repeat (refine ztn (h := ?_); try simp only [zX,zY])
        refine zte ?_
        refine zR1 5 (fun K hK => ?_)
        simp only [zG]
        go_simp
        (go_at_call 114; refine (Qcu true _ _ _ _ _ hk ht h1 _).mono ?_; rintro e w1 ⟨rfl, g1⟩; obtain ⟨k1, m1⟩ := Qfa g1; have s1 := g1.size)
        refine hK.out _ _ ?_ (fun hH => ?_)
        . first | (go_split_ands; refine ⟨?_, ?_, ?_, ?_, ?_, ?_, ?_, ?_, ?_, ?_⟩<;>assumption) | (go_split_ands; refine ⟨?_, ?_, ?_, ?_, ?_, ?_, ?_, ?_, ?_, ?_⟩<;>first | assumption | exact (k1 _ _ (by assumption)).trans (by assumption) | exact Nat.lt_of_lt_of_le (by assumption) s1)
        clear hK K
        try simp only [zX,zY]
        refine ztk [6,7,8,9,10,11,12,13,14,15,16,17] ?_; repeat (refine ztn (h := ?_); try simp only [zX,zY])
        refine zte ?_
        refine' wpAnyH_take (i := 18) (v := _) rfl (by kernel_rfl) (by kernel_rfl) (by kernel_rfl) (fun _ _ _ h => h) (Or.inl ⟨by rfl, ?hy28⟩) (by assumption) ?rest28
        case hy28 => (intro w hSw; (try dsimp only at hSw); go_simp<;>(rw [hnb.out]<;>with_reducible rfl))
        try simp only [zX,zY]
        refine zR1 19 (fun K hK => ?_)
        simp only [zG]
        go_simp
        (go_at_call 30; refine (in_is false _ _ _ h2 _).mono ?_; rintro e w' ⟨rfl, rfl⟩)
        refine hK.out _ _ ?_ (fun hH => ?_)
        . first | (go_split_ands; refine ⟨?_, ?_, ?_, ?_, ?_, ?_, ?_, ?_, ?_, ?_⟩<;>assumption) | (go_split_ands; refine ⟨?_, ?_, ?_, ?_, ?_, ?_, ?_, ?_, ?_, ?_⟩<;>first | assumption | exact (k1 _ _ (by assumption)).trans (by assumption) | exact Nat.lt_of_lt_of_le (by assumption) s1)
        clear hK K
        try simp only [zX,zY]
        refine ztk [20,21,22,23,24,25,26,27,28,29,30,31,32,33,34,35,36,37,38,39,40,41] ?_; repeat ((first | refine ztn (h := ?_) | refine ztu (h := ?_)); try simp only [zX,zY])
        refine zte ?_
        refine zdn ?_
        go_wp2
        go_ret
        exact ⟨by rw [show rowN start next nb l = false from by unfold rowN; rw [hF.out]; rfl]; rfl, via0 g1 hbl.drew⟩
      . have h2 : Hid (inB l[n].off start nb = true) := h2'
        by_cases hz : n = 0
        . have ho : ordB l n l[n].off = true := by subst hz; exact ordB_zero l _
          have hd : Hid (decide (0 < n) = false) := decide_eq_false (by omega)
          have hF : Hid (Qa0 start nb l (n + 1) = Qa0 start nb l 0) := by show Qa0 start nb l (n + 1) = Qa0 start nb l 0; rw [← hch.out, hst, hp, h2', ho]; rfl
          clear hst hp h2' ho hz
          go_wp2
          refine wp_region_noPanic ?_
          refine wp_region_held_drew (S := (fun w' => w'.cell? ⟨w.heap.size, 0, none⟩ = some (.int .i64 start) /\ w'.cell? ⟨w.heap.size, 1, none⟩ = some (.int .i64 next) /\ w'.cell? ⟨w.heap.size, 2, none⟩ = some (.slice (some ⟨b, o, none⟩) l.length cap) /\ w'.cell? ⟨b, o + n * 5, none⟩ = some (.int .i64 l[n].off) /\ w'.cell? ⟨b, o + n * 5 + 1, none⟩ = some (.string l[n].key) /\ w'.cell? ⟨b, o + n * 5 + 2, none⟩ = some (.string l[n].text) /\ w'.cell? ⟨b, o + n * 5 + 3, none⟩ = some (.int .i64 l[n].who) /\ w'.cell? ⟨b, o + n * 5 + 4, none⟩ = some (.int .i64 l[n].time) /\ w.heap.size < w'.heap.size /\ b < w'.heap.size)) (by kernel_rfl) ?_ (fun hH => ?_)
          . (refine ⟨?_, ?_, ?_, ?_, ?_, ?_, ?_, ?_, ?_, ?_⟩<;>first | assumption | (simp; done))
          refine ztk [0,1,2,3,4] ?_; repeat (refine ztn (h := ?_); try simp only [zX,zY])
          refine zte ?_
          refine zR1 5 (fun K hK => ?_)
          simp only [zG]
          go_simp
          (go_at_call 114; refine (Qcu true _ _ _ _ _ hk ht h1 _).mono ?_; rintro e w1 ⟨rfl, g1⟩; obtain ⟨k1, m1⟩ := Qfa g1; have s1 := g1.size)
          refine hK.out _ _ ?_ (fun hH => ?_)
          . first | (go_split_ands; refine ⟨?_, ?_, ?_, ?_, ?_, ?_, ?_, ?_, ?_, ?_⟩<;>assumption) | (go_split_ands; refine ⟨?_, ?_, ?_, ?_, ?_, ?_, ?_, ?_, ?_, ?_⟩<;>first | assumption | exact (k1 _ _ (by assumption)).trans (by assumption) | exact Nat.lt_of_lt_of_le (by assumption) s1)
          clear hK K
          try simp only [zX,zY]
          refine ztk [6,7,8,9,10,11,12,13,14,15,16,17] ?_; repeat (refine ztn (h := ?_); try simp only [zX,zY])
          refine zte ?_
          refine' wpAnyH_take (i := 18) (v := _) rfl (by kernel_rfl) (by kernel_rfl) (by kernel_rfl) (fun _ _ _ h => h) (Or.inl ⟨by rfl, ?hy50⟩) (by assumption) ?rest50
          case hy50 => (intro w hSw; (try dsimp only at hSw); go_simp<;>(rw [hnb.out]<;>with_reducible rfl))
          try simp only [zX,zY]
          refine zR1 19 (fun K hK => ?_)
          simp only [zG]
          go_simp
          (go_at_call 30; refine (in_is true _ _ _ h2 _).mono ?_; rintro e w' ⟨rfl, rfl⟩)
          refine hK.out _ _ ?_ (fun hH => ?_)
          . first | (go_split_ands; refine ⟨?_, ?_, ?_, ?_, ?_, ?_, ?_, ?_, ?_, ?_⟩<;>assumption) | (go_split_ands; refine ⟨?_, ?_, ?_, ?_, ?_, ?_, ?_, ?_, ?_, ?_⟩<;>first | assumption | exact (k1 _ _ (by assumption)).trans (by assumption) | exact Nat.lt_of_lt_of_le (by assumption) s1)
          clear hK K
          try simp only [zX,zY]
          refine ztk [20,21,22,23] ?_; repeat (refine ztn (h := ?_); try simp only [zX,zY])
          refine zte ?_
          refine' wpAnyH_take (i := 24) (v := _) rfl (by kernel_rfl) (by kernel_rfl) (by kernel_rfl) (fun _ _ _ h => h) (Or.inl ⟨by rfl, ?hy55⟩) (by assumption) ?rest55
          case hy55 => (intro w hSw; (try dsimp only at hSw); go_simp<;>(rw [hd.out]<;>with_reducible rfl))
          try simp only [zX,zY]
          refine ztk [25,26,27,28,29,30,31,32,33,34,35,36,37,38,39,40,41] ?_; repeat ((first | refine ztn (h := ?_) | refine ztu (h := ?_)); try simp only [zX,zY])
          refine zte ?_
          refine zdn ?_
          go_split_ands
          go_wp2
          exact ⟨⟨n + 1, by go_num, by omega, via0 g1 hbl.drew, by assumption, by assumption, by assumption, by assumption, hF⟩, by simp [intOf]; omega⟩
        . obtain ⟨p, hpn⟩ : ∃ p, n = p + 1 := ⟨n - 1, by omega⟩
          have hpl : p < l.length := by omega
          obtain ⟨p0, _⟩ := hIn.get p hpl
          have ho : ordB l n l[n].off = decide (l[p].off < l[n].off) := by rw [← ordB_succ hpl, ← hpn]
          have hd : Hid (decide (0 < n) = true) := decide_eq_true (by omega)
          have j0 : (0 : Int) <= (p : Int) := by omega
          have j1 : (p : Int) < (l.length : Int) := by omega
          have jw : Hid (IntKind.i64.wrap ((n : Int) - 1) = (p : Int)) := by
           show IntKind.i64.wrap ((n : Int) - 1) = (p : Int)
           rw [IntKind.wrap_i64]; omega
          clear hpn hz
          by_cases h4 : l[p].off < l[n].off
          . rw [decide_eq_true h4] at ho
            have hF : Hid (Qa0 start nb l (n + 1) = Qa0 start nb l 0) := by show Qa0 start nb l (n + 1) = Qa0 start nb l 0; rw [← hch.out, hst, hp, h2', ho]; rfl
            have h5 : ¬ l[p].off >= l[n].off := by omega
            clear hst hp h2' ho h4
            go_wp2
            refine wp_region_noPanic ?_
            refine wp_region_held_drew (S := (fun w' => w'.cell? ⟨w.heap.size, 0, none⟩ = some (.int .i64 start) /\ w'.cell? ⟨w.heap.size, 1, none⟩ = some (.int .i64 next) /\ w'.cell? ⟨w.heap.size, 2, none⟩ = some (.slice (some ⟨b, o, none⟩) l.length cap) /\ w'.cell? ⟨b, o + n * 5, none⟩ = some (.int .i64 l[n].off) /\ w'.cell? ⟨b, o + n * 5 + 1, none⟩ = some (.string l[n].key) /\ w'.cell? ⟨b, o + n * 5 + 2, none⟩ = some (.string l[n].text) /\ w'.cell? ⟨b, o + n * 5 + 3, none⟩ = some (.int .i64 l[n].who) /\ w'.cell? ⟨b, o + n * 5 + 4, none⟩ = some (.int .i64 l[n].time) /\ w'.cell? ⟨b, o + p * 5, none⟩ = some (.int .i64 l[p].off) /\ w.heap.size < w'.heap.size /\ b < w'.heap.size)) (by kernel_rfl) ?_ (fun hH => ?_)
            . (refine ⟨?_, ?_, ?_, ?_, ?_, ?_, ?_, ?_, ?_, ?_, ?_⟩<;>first | assumption | (simp; done))
            refine ztk [0,1,2,3,4] ?_; repeat (refine ztn (h := ?_); try simp only [zX,zY])
            refine zte ?_
            refine zR1 5 (fun K hK => ?_)
            simp only [zG]
            go_simp
            (go_at_call 114; refine (Qcu true _ _ _ _ _ hk ht h1 _).mono ?_; rintro e w1 ⟨rfl, g1⟩; obtain ⟨k1, m1⟩ := Qfa g1; have s1 := g1.size)
            refine hK.out _ _ ?_ (fun hH => ?_)
            . first | (go_split_ands; refine ⟨?_, ?_, ?_, ?_, ?_, ?_, ?_, ?_, ?_, ?_, ?_⟩<;>assumption) | (go_split_ands; refine ⟨?_, ?_, ?_, ?_, ?_, ?_, ?_, ?_, ?_, ?_, ?_⟩<;>first | assumption | exact (k1 _ _ (by assumption)).trans (by assumption) | exact Nat.lt_of_lt_of_le (by assumption) s1)
            clear hK K
            try simp only [zX,zY]
            refine ztk [6,7,8,9,10,11,12,13,14,15,16,17] ?_; repeat (refine ztn (h := ?_); try simp only [zX,zY])
            refine zte ?_
            refine' wpAnyH_take (i := 18) (v := _) rfl (by kernel_rfl) (by kernel_rfl) (by kernel_rfl) (fun _ _ _ h => h) (Or.inl ⟨by rfl, ?hy76⟩) (by assumption) ?rest76
            case hy76 => (intro w hSw; (try dsimp only at hSw); go_simp<;>(rw [hnb.out]<;>with_reducible rfl))
            try simp only [zX,zY]
            refine zR1 19 (fun K hK => ?_)
            simp only [zG]
            go_simp
            (go_at_call 30; refine (in_is true _ _ _ h2 _).mono ?_; rintro e w' ⟨rfl, rfl⟩)
            refine hK.out _ _ ?_ (fun hH => ?_)
            . first | (go_split_ands; refine ⟨?_, ?_, ?_, ?_, ?_, ?_, ?_, ?_, ?_, ?_, ?_⟩<;>assumption) | (go_split_ands; refine ⟨?_, ?_, ?_, ?_, ?_, ?_, ?_, ?_, ?_, ?_, ?_⟩<;>first | assumption | exact (k1 _ _ (by assumption)).trans (by assumption) | exact Nat.lt_of_lt_of_le (by assumption) s1)
            clear hK K
            try simp only [zX,zY]
            refine ztk [20,21,22,23] ?_; repeat (refine ztn (h := ?_); try simp only [zX,zY])
            refine zte ?_
            refine' wpAnyH_take (i := 24) (v := _) rfl (by kernel_rfl) (by kernel_rfl) (by kernel_rfl) (fun _ _ _ h => h) (Or.inl ⟨by rfl, ?hy81⟩) (by assumption) ?rest81
            case hy81 => (intro w hSw; (try dsimp only at hSw); go_simp<;>(rw [hd.out]<;>with_reducible rfl))
            try simp only [zX,zY]
            refine ztk [25,26,27,28] ?_; repeat (refine ztn (h := ?_); try simp only [zX,zY])
            refine zte ?_
            refine' wpAnyH_take (i := 29) (v := _) rfl (by kernel_rfl) (by kernel_rfl) (by kernel_rfl) (fun _ _ _ h => h) (Or.inl ⟨by rfl, ?hy86⟩) (by assumption) ?rest86
            case hy86 => (intro w hSw; (try dsimp only at hSw); go_simp<;>(rw [jw.out]<;>with_reducible rfl))
            try simp only [zX,zY]
            refine ztk [30,31,32,33,34,35,36,37,38,39,40,41] ?_; repeat (refine ztn (h := ?_); try simp only [zX,zY])
            refine zte ?_
            refine zdn ?_
            go_split_ands
            go_wp2
            exact ⟨⟨n + 1, by go_num, by omega, via0 g1 hbl.drew, by assumption, by assumption, by assumption, by assumption, hF⟩, by simp [intOf]; omega⟩
          . rw [decide_eq_false h4] at ho
            have hF : Hid (Qa0 start nb l 0 = false) := by show Qa0 start nb l 0 = false; rw [← hch.out, hst, hp, h2', ho]; rfl
            have h5 : l[p].off >= l[n].off := by omega
            clear hst hp h2' ho h4
            go_wp2
            refine wp_region_noPanic ?_
            refine wp_region_held_drew (S := (fun w' => w'.cell? ⟨w.heap.size, 0, none⟩ = some (.int .i64 start) /\ w'.cell? ⟨w.heap.size, 1, none⟩ = some (.int .i64 next) /\ w'.cell? ⟨w.heap.size, 2, none⟩ = some (.slice (some ⟨b, o, none⟩) l.length cap) /\ w'.cell? ⟨b, o + n * 5, none⟩ = some (.int .i64 l[n].off) /\ w'.cell? ⟨b, o + n * 5 + 1, none⟩ = some (.string l[n].key) /\ w'.cell? ⟨b, o + n * 5 + 2, none⟩ = some (.string l[n].text) /\ w'.cell? ⟨b, o + n * 5 + 3, none⟩ = some (.int .i64 l[n].who) /\ w'.cell? ⟨b, o + n * 5 + 4, none⟩ = some (.int .i64 l[n].time) /\ w'.cell? ⟨b, o + p * 5, none⟩ = some (.int .i64 l[p].off) /\ w.heap.size < w'.heap.size /\ b < w'.heap.size)) (by kernel_rfl) ?_ (fun hH => ?_)
            . (refine ⟨?_, ?_, ?_, ?_, ?_, ?_, ?_, ?_, ?_, ?_, ?_⟩<;>first | assumption | (simp; done))
            refine ztk [0,1,2,3,4] ?_; repeat (refine ztn (h := ?_); try simp only [zX,zY])
            refine zte ?_
            refine zR1 5 (fun K hK => ?_)
            simp only [zG]
            go_simp
            (go_at_call 114; refine (Qcu true _ _ _ _ _ hk ht h1 _).mono ?_; rintro e w1 ⟨rfl, g1⟩; obtain ⟨k1, m1⟩ := Qfa g1; have s1 := g1.size)
            refine hK.out _ _ ?_ (fun hH => ?_)
            . first | (go_split_ands; refine ⟨?_, ?_, ?_, ?_, ?_, ?_, ?_, ?_, ?_, ?_, ?_⟩<;>assumption) | (go_split_ands; refine ⟨?_, ?_, ?_, ?_, ?_, ?_, ?_, ?_, ?_, ?_, ?_⟩<;>first | assumption | exact (k1 _ _ (by assumption)).trans (by assumption) | exact Nat.lt_of_lt_of_le (by assumption) s1)
            clear hK K
            try simp only [zX,zY]
            refine ztk [6,7,8,9,10,11,12,13,14,15,16,17] ?_; repeat (refine ztn (h := ?_); try simp only [zX,zY])
            refine zte ?_
            refine' wpAnyH_take (i := 18) (v := _) rfl (by kernel_rfl) (by kernel_rfl) (by kernel_rfl) (fun _ _ _ h => h) (Or.inl ⟨by rfl, ?hy116⟩) (by assumption) ?rest116
            case hy116 => (intro w hSw; (try dsimp only at hSw); go_simp<;>(rw [hnb.out]<;>with_reducible rfl))
            try simp only [zX,zY]
            refine zR1 19 (fun K hK => ?_)
            simp only [zG]
            go_simp
            (go_at_call 30; refine (in_is true _ _ _ h2 _).mono ?_; rintro e w' ⟨rfl, rfl⟩)
            refine hK.out _ _ ?_ (fun hH => ?_)
            . first | (go_split_ands; refine ⟨?_, ?_, ?_, ?_, ?_, ?_, ?_, ?_, ?_, ?_, ?_⟩<;>assumption) | (go_split_ands; refine ⟨?_, ?_, ?_, ?_, ?_, ?_, ?_, ?_, ?_, ?_, ?_⟩<;>first | assumption | exact (k1 _ _ (by assumption)).trans (by assumption) | exact Nat.lt_of_lt_of_le (by assumption) s1)
            clear hK K
            try simp only [zX,zY]
            refine ztk [20,21,22,23] ?_; repeat (refine ztn (h := ?_); try simp only [zX,zY])
            refine zte ?_
            refine' wpAnyH_take (i := 24) (v := _) rfl (by kernel_rfl) (by kernel_rfl) (by kernel_rfl) (fun _ _ _ h => h) (Or.inl ⟨by rfl, ?hy121⟩) (by assumption) ?rest121
            case hy121 => (intro w hSw; (try dsimp only at hSw); go_simp<;>(rw [hd.out]<;>with_reducible rfl))
            try simp only [zX,zY]
            refine ztk [25,26,27,28] ?_; repeat (refine ztn (h := ?_); try simp only [zX,zY])
            refine zte ?_
            refine' wpAnyH_take (i := 29) (v := _) rfl (by kernel_rfl) (by kernel_rfl) (by kernel_rfl) (fun _ _ _ h => h) (Or.inl ⟨by rfl, ?hy126⟩) (by assumption) ?rest126
            case hy126 => (intro w hSw; (try dsimp only at hSw); go_simp<;>(rw [jw.out]<;>with_reducible rfl))
            try simp only [zX,zY]
            refine ztk [30,31,32,33,34,35,36,37,38,39,40,41] ?_; repeat (refine ztn (h := ?_); try simp only [zX,zY])
            refine zte ?_
            refine zdn ?_
            go_wp2
            go_ret
            exact ⟨by rw [show rowN start next nb l = false from by unfold rowN; rw [hF.out]; rfl]; rfl, via0 g1 hbl.drew⟩
  . have hT : Qa0 start nb l 0 = true := by rw [← hch.out, Qgx (by omega)]
    have HT : Hid (Qa0 start nb l 0 = true) := hT
    clear hT hch
    cases h1 : inB start 0 next
    . have hR : Hid (rowN start next nb l = false) := by show rowN start next nb l = false; unfold rowN; rw [h1]; simp
      go_wp2_with (go_at_call 30; refine (Qbp _ _ _ _).mono ?_; rintro e w' ⟨rfl, rfl⟩)
      go_ret
      exact ⟨by rw [hR.out]; rfl, hbl⟩
    . by_cases h2 : next <= 100000
      . by_cases h3 : (l.length : Int) <= 80
        . have hR : Hid (rowN start next nb l = true) := by
           show rowN start next nb l = true
           have h3' : l.length <= 80 := by omega
           unfold rowN; rw [HT.out, h1]; simp [h2, h3']
          go_wp2_with (go_at_call 30; refine (Qbp _ _ _ _).mono ?_; rintro e w' ⟨rfl, rfl⟩)
          go_ret
          exact ⟨by rw [hR.out]; rfl, hbl⟩
        . have hR : Hid (rowN start next nb l = false) := by
           show rowN start next nb l = false
           have h3' : ¬ l.length <= 80 := by omega
           unfold rowN; simp [h3']
          have h3d : decide ((l.length : Int) <= 80) = false := decide_eq_false h3
          go_wp2_with (go_at_call 30; refine (Qbp _ _ _ _).mono ?_; rintro e w' ⟨rfl, rfl⟩)
          go_ret
          exact ⟨by first | (rw [hR.out]; rfl) | (rw [hR.out, ← h3d]; rfl), hbl⟩
      . have hR : Hid (rowN start next nb l = false) := by show rowN start next nb l = false; unfold rowN; simp [h2]
        go_wp2_with (go_at_call 30; refine (Qbp _ _ _ _).mono ?_; rintro e w' ⟨rfl, rfl⟩)
        go_ret
        exact ⟨by rw [hR.out]; rfl, hbl⟩
theorem Qby (start next : Int) (A : Option Addr) (cap : Nat) (l : List It) (hl : l.length <= 9223372036854775807) (hs : ∀ x ∈ l, x.key.size <= 9223372036854775807 /\ x.text.size <= 9223372036854775807)
 (h0 : -9223372036854775808 <= next) (h1 : next <= 9223372036854775807) (w : World) (hA : l = [] ∨ ∃ b o, A = some ⟨b, o, none⟩ /\ b < w.heap.size /\ In w b o l) :
 Calls Tryz.prog 112 #[.agg (Qaz start next A l.length cap)] w fun e w' => e = .returned (.bool (rowB start next l)) /\ Below w.heap.size w w' := by
 rw [← rowN_eq start next l h0 h1]
 exact Qg3 start next A cap l hl hs _ rfl w hA
end Go.Proofs.YtlniljigeemnoaaGreat.Items
namespace Go.Proofs.YtlniljigeemnoaaGreat.Gen
open ChangeShapes WideShapes ChangeAt RowKit Joins Deep Base
def putD (epoch last : Int) (l : List Mk) (ep seq : Int) : Bool := decide (askC epoch last l ep seq = 0)
def putE (epoch last : Int) (l : List Mk) (ep seq : Int) : Int := if putD epoch last l ep seq then ep else epoch
def putS (epoch last : Int) (l : List Mk) (ep seq : Int) : Int := if putD epoch last l ep seq then seq else last
def putB (epoch : Int) (l : List Mk) (ep : Int) : List Mk := if ep > epoch then [] else l
def Qhk (window : Int) (L : List Mk) : List Mk := L.drop (L.length - window.toNat)
def putM (window epoch last : Int) (l : List Mk) (ep seq off : Int) : List Mk := if putD epoch last l ep seq then Qhk window (putB epoch l ep ++ [⟨seq, off⟩]) else l
theorem askC_epoch {epoch last : Int} {l : List Mk} {ep seq : Int} (h : askC epoch last l ep seq = 0) : epoch <= ep := by
 unfold askC at h
 split at h
 . omega
 . omega
end Go.Proofs.YtlniljigeemnoaaGreat.Gen
