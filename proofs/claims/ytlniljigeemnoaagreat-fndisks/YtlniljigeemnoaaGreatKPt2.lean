/-
  spec.l6Put of a keeper of one's own, where the maker may put: what it tells. Condition: KLen.
-/
import Derived.Test.YtlniljigeemnoaaGreatKRp
import Derived.Test.YtlniljigeemnoaaGreatSpecPut
set_option linter.unusedVariables false
set_option linter.unusedSimpArgs false
set_option maxRecDepth 100000
set_option maxHeartbeats 8000000
namespace Go.Proofs.YtlniljigeemnoaaGreat.Gen
open ChangeShapes WideShapes ChangeAt RowKit Joins Deep Base
open Items (It)
structure Ps (S : Nat -> Prop) (w W : World) (pk pc p1 p2 : Nat) (kc cc sc mc : Array Value) (PM B : Nat) (b1 : Option Addr) (e1 : Nat) (mm : List Mk) : Prop where
  bx : Bx S w W pk pc p1 p2 kc cc
  mb : Blk W PM 124 mc
  sb : Blk W w.heap.size 84 sc
  bl : Below w.heap.size w W
  om : W.ownsRow B 126 2 (.slice b1 mm.length e1) mm.length (flat mm)
section
variable {S : Nat -> Prop} {w W W' : World} {pk pc p1 p2 : Nat} {kc cc sc mc : Array Value} {PM B : Nat} {b1 : Option Addr} {e1 : Nat} {mm : List Mk}
theorem Ps.below (h : Ps S w W pk pc p1 p2 kc cc sc mc PM B b1 e1 mm) (g : Below W.heap.size W W') : Ps S w W' pk pc p1 p2 kc cc sc mc PM B b1 e1 mm :=
 ⟨h.bx.below g, h.mb.below g h.mb.lt, h.sb.below g h.sb.lt, via0 g h.bl, Qaq h.om g⟩
theorem Ps.alloc (h : Ps S w W pk pc p1 p2 kc cc sc mc PM B b1 e1 mm) (ob : Obj) : Ps S w (W.alloc ob) pk pc p1 p2 kc cc sc mc PM B b1 e1 mm := h.below (Qaf (Below.refl _ _) _)
theorem Ps.drew (h : Ps S w W pk pc p1 p2 kc cc sc mc PM B b1 e1 mm) : Ps S w W.drew pk pc p1 p2 kc cc sc mc PM B b1 e1 mm := h.below (Below.refl _ _).drew
theorem Ps.only {q : Nat} (h : Ps S w W pk pc p1 p2 kc cc sc mc PM B b1 e1 mm) (k : Only q W W') (hq : w.heap.size < q /\ q ≠ pk /\ q ≠ pc /\ q ≠ p1 /\ q ≠ p2 /\ q ≠ PM) (hm : (Value.slice b1 mm.length e1).ownBlock ≠ some q) : Ps S w W' pk pc p1 p2 kc cc sc mc PM B b1 e1 mm :=
 ⟨h.bx.turn (Offp.of_only k) (fun b e => .inr (by subst e; exact ⟨by omega, hq.2.1, hq.2.2.1, hq.2.2.2.1, hq.2.2.2.2.1⟩)), h.mb.only k (fun e => hq.2.2.2.2.2 e.symm), h.sb.only k (by omega), h.bl.trans ((Off.of_only k).toBelow (by simp; omega) h.bl.size), Qa9 h.om (Offp.of_only k) (fun x hx e => hm (by rw [hx, e]))⟩
end
theorem putM_lenK (window epoch last : Int) (l : List Mk) (ep seq off : Int) : (putM window epoch last l ep seq off).length <= l.length + 1 := by
 unfold putM Qhk putB
 split
 . rw [List.length_drop]; split<;>simp<;>omega
 . omega
abbrev putR (Y : World) (p : Nat) (v0 v1 v2 : Value) : World := ((Y.setCell ⟨p, 0, none⟩ v0).setCell ⟨p, 1, none⟩ v1).setCell ⟨p, 2, none⟩ v2
theorem Qee (Y : World) (p : Nat) (v0 v1 v2 : Value) : Only p Y (putR Y p v0 v1 v2) := (((Only.refl p Y).set 0 v0).set 1 v1).set 2 v2
theorem blk_putR {Y : World} {p : Nat} {t : TypeId} {x0 x1 x2 : Value} (h : Blk Y p t #[x0, x1, x2]) (v0 v1 v2 : Value) : Blk (putR Y p v0 v1 v2) p t #[v0, v1, v2] := ((h.setAt 0 v0).setAt 1 v1).setAt 2 v2
def putP (x : KC) (wi : Int) (n : Nat) (who cb cc : Int) (key text : ByteArray) : PK × An :=
  let r := x.rs.getD n default
  let m := mofP x.ms (n : Int) who
  if rpOk r.start r.next r.its key text who x.time then
    ({ x.p with rs := x.p.rs.set n ⟨r.start, rpX r.start r.next r.its key text who x.time, rpL r.start r.next r.its key text who x.time⟩, ms := setS (x.ms.map MC.p) ⟨m.row, m.who, putE m.epoch m.last m.ms cc cb, putS m.epoch m.last m.ms cc cb, putM wi m.epoch m.last m.ms cc cb (rpN r.start r.next r.its key text who x.time)⟩ }, ⟨0, rpN r.start r.next r.its key text who x.time, ⟨#[]⟩, ⟨#[]⟩⟩)
  else (x.p, ⟨8, 0, ⟨#[]⟩, ⟨#[]⟩⟩)
theorem l6Put_go (ro wi le ke : Int) (rA : Option Addr) (rc : Nat) (rs : List RC) (mA : Option Addr) (mc : Nat) (ms : List MC) (gA : Option Addr) (gc : Nat) (gs : List GC) (time : Int) (dA : Option Addr) (dc : Nat) (ds : List Int) (lA : Option Addr) (lc : Nat) (ls : List An) (who seq op cb cc : Int) (n : Nat) (key text : ByteArray) (S : Nat -> Prop) (br bg bd bl : Nat) (hlen : KLen (⟨rA, rc, rs, mA, mc, ms, gA, gc, gs, time, dA, dc, ds, lA, lc, ls⟩ : KC)) (w : World) (hS : ∀ b, S b -> b < w.heap.size) (hq : KQ w (⟨rA, rc, rs, mA, mc, ms, gA, gc, gs, time, dA, dc, ds, lA, lc, ls⟩ : KC) S br bg bd bl) (hn : n < rs.length) (hks : key.size <= 30) (hts : text.size <= 30) (hw : I64 wi) (hk : askC (mofP ms (n : Int) who).epoch (mofP ms (n : Int) who).last (mofP ms (n : Int) who).ms cc cb = 0) :
 Calls Tryz.prog 100 #[.agg (Qan ro wi le ke), .agg (Qaa rA rs.length rc mA ms.length mc gA gs.length gc time dA ds.length dc lA ls.length lc), .agg (Qad who seq op (n : Int) cb cc key text)] w fun e w' => Qbu S w w' e (putP (⟨rA, rc, rs, mA, mc, ms, gA, gc, gs, time, dA, dc, ds, lA, lc, ls⟩ : KC) wi n who cb cc key text).1 (putP (⟨rA, rc, rs, mA, mc, ms, gA, gc, gs, time, dA, dc, ds, lA, lc, ls⟩ : KC) wi n who cb cc key text).2 := by
 obtain rfl : rA = (some ⟨br, 0, none⟩) := hq.r.a
 have HQ := hidP hq
 have HM : Hid (∀ W : World, Below w.heap.size w W -> Calls Tryz.prog 107 (Qe7 mA ms.length mc (n : Int) who) W fun e w' => ∃ v, e = .returned (.agg #[.int .i64 (mofP ms (n : Int) who).row, .int .i64 (mofP ms (n : Int) who).who, .int .i64 (mofP ms (n : Int) who).epoch, .int .i64 (mofP ms (n : Int) who).last, v]) /\ w'.ownsRow W.heap.size 126 2 v (mofP ms (n : Int) who).ms.length (flat (mofP ms (n : Int) who).ms) /\ Below W.heap.size W w') :=
  fun W g => Qbg mA mc ms (n : Int) who (by have := hlen.ml; simp only at this; omega) (fun y hy => by have := hlen.mi y hy; omega) W ((KQ.at hq).below g).ma ((KQ.at hq).below g).me
 have hmm : (mofP ms (n : Int) who).ms.length <= 1048576 := by
  unfold mofP
  split
  . rename_i x hx
    have := hlen.mi x (List.mem_of_find?_eq_some hx)
    simp only [MC.p]; omega
  . simp
 have hmm2 : (mofP ms (n : Int) who).ms.length <= 1000 := by
  unfold mofP
  split
  . rename_i x hx
    have := hlen.mi x (List.mem_of_find?_eq_some hx)
    simp only [MC.p]; omega
  . simp
 have hrow : (rs.getD n default) = rs[n] := by simp [hn]
 have hri := hlen.ri rs[n] (List.getElem_mem hn)
 have hat := hq.ri rs[n] (List.getElem_mem hn)
 have hlt0 := hq.r.lt
 have hcell := fun (W : World) (g : Below w.heap.size w W) => (hq.r.i.below hq.r.lt g).getRC n hn
 have hbr : br < w.heap.size /\ bg < w.heap.size /\ bd < w.heap.size /\ bl < w.heap.size := ⟨hq.r.lt, hq.g.lt, hq.d.lt, hq.l.lt⟩
 have hP : Hid (putP (⟨(some ⟨br, 0, none⟩), rc, rs, mA, mc, ms, gA, gc, gs, time, dA, dc, ds, lA, lc, ls⟩ : KC) wi n who cb cc key text = (if rpOk rs[n].start rs[n].next rs[n].its key text who time then
  ({ KC.p (⟨(some ⟨br, 0, none⟩), rc, rs, mA, mc, ms, gA, gc, gs, time, dA, dc, ds, lA, lc, ls⟩ : KC) with rs := (rs.map RC.p).set n ⟨rs[n].start, rpX rs[n].start rs[n].next rs[n].its key text who time, rpL rs[n].start rs[n].next rs[n].its key text who time⟩, ms := setS (ms.map MC.p) ⟨(mofP ms (n : Int) who).row, (mofP ms (n : Int) who).who, putE (mofP ms (n : Int) who).epoch (mofP ms (n : Int) who).last (mofP ms (n : Int) who).ms cc cb, putS (mofP ms (n : Int) who).epoch (mofP ms (n : Int) who).last (mofP ms (n : Int) who).ms cc cb, putM wi (mofP ms (n : Int) who).epoch (mofP ms (n : Int) who).last (mofP ms (n : Int) who).ms cc cb (rpN rs[n].start rs[n].next rs[n].its key text who time)⟩ }, (⟨0, rpN rs[n].start rs[n].next rs[n].its key text who time, ⟨#[]⟩, ⟨#[]⟩⟩ : An))
  else (KC.p (⟨(some ⟨br, 0, none⟩), rc, rs, mA, mc, ms, gA, gc, gs, time, dA, dc, ds, lA, lc, ls⟩ : KC), (⟨8, 0, ⟨#[]⟩, ⟨#[]⟩⟩ : An)))) := by
  show _ = _
  simp only [putP, hrow]
  split<;>rfl
 have HRP : Hid (∀ W : World, Below w.heap.size w W -> Calls Tryz.prog 109 #[.agg (Qaz rs[n].start rs[n].next rs[n].A rs[n].its.length rs[n].cap), .string key, .string text, .int .i64 who, .int .i64 time] W fun e w' => ∃ a c, e = .returned (.tuple #[.agg (Qaz rs[n].start (rpX rs[n].start rs[n].next rs[n].its key text who time) a (rpL rs[n].start rs[n].next rs[n].its key text who time).length c), .int .i64 (rpN rs[n].start rs[n].next rs[n].its key text who time), .bool (rpOk rs[n].start rs[n].next rs[n].its key text who time)]) /\
  w'.ownsRow W.heap.size 121 5 (.slice a (rpL rs[n].start rs[n].next rs[n].its key text who time).length c) (rpL rs[n].start rs[n].next rs[n].its key text who time).length (flat (rpL rs[n].start rs[n].next rs[n].its key text who time)) /\ Below W.heap.size W w') :=
  fun W g => Qf0 _ _ who time key text _ _ _ (by have := hri.1; omega) (fun x hx => by have := hri.2.1 x hx; omega) hri.2.2 (by omega) (by omega) W (hat.at.below g)
 have HSt : Hid (∀ (W : World) (mr mw e2 l2 : Int) (b2 : Option Addr) (f2 : Nat) (mm2 : List Mk), mm2.length <= 1048576 -> At W b2 mm2 -> At W mA ms -> Each W ms -> Calls Tryz.prog 110 #[.slice mA ms.length mc, .agg (Qam mr mw e2 l2 b2 mm2.length f2)] W fun e w' => ∃ g c O, e = .returned (.slice (some ⟨g, 0, none⟩) O.length c) /\ O.map MC.p = setS (ms.map MC.p) ⟨mr, mw, e2, l2, mm2⟩ /\ Out W.heap.size w' (.slice (some ⟨g, 0, none⟩) O.length c) O /\ Below W.heap.size W w') := by
  intro W mr mw e2 l2 b2 f2 mm2 hl2 h2 h3 h4
  exact Qfj mA mc ms mr mw e2 l2 b2 f2 mm2 (by have := hlen.ml; simp only at this; omega) (fun y hy => by have := hlen.mi y hy; omega) hl2 W h3 h4 h2
 generalize putP (⟨(some ⟨br, 0, none⟩), rc, rs, mA, mc, ms, gA, gc, gs, time, dA, dc, ds, lA, lc, ls⟩ : KC) wi n who cb cc key text = PP at hP ⊢
 generalize rs[n] = y at hP HRP hcell
 obtain ⟨st, nt, yA, yc, ym⟩ := y
 simp only [Nat.zero_add] at hP HRP hcell
 generalize rpOk st nt ym key text who time = ok at hP HRP
 generalize rpX st nt ym key text who time = nx at hP HRP
 generalize rpN st nt ym key text who time = nn at hP HRP
 generalize rpL st nt ym key text who time = LL at hP HRP
 have HCl := hidP hcell
 clear hri hat hrow hcell
 generalize mofP ms (n : Int) who = M at HM hmm hk hP hmm2 ⊢
 obtain ⟨mr, mw, me, ml, mm⟩ := M
 simp only at HM hmm hk hP hmm2 ⊢
 clear hq hlen
 obtain ⟨I0, S0, B0⟩ := Qa2 ro wi le ke (some ⟨br, 0, none⟩) rc rs mA mc ms gA gc gs time dA dc ds lA lc ls who seq op (n : Int) cb cc key text S w hS
 go_enter Tryz.func100, Tryz.ntmps100
 go_wp2_with fail
 generalize ((((w.alloc (.cells (Qan ro wi le ke) 84)).alloc (.cells (Qaa (some ⟨br, 0, none⟩) rs.length rc mA ms.length mc gA gs.length gc time dA ds.length dc lA ls.length lc) 90)).alloc (.cells (Qad who seq op (n : Int) cb cc key text) 105)).alloc (.cells Qab 90)).alloc (.cells Qai 130) = X0 at I0 S0 B0 ⊢
 refine (HM.out _ B0).mono ?_
 rintro e w1 ⟨v1, rfl, ho1, g1⟩
 obtain ⟨b1, e1, rfl, _⟩ := Qao ho1
 have I1 := (I0.below g1).alloc (.cells (Qam mr mw me ml b1 mm.length e1) 124)
 have MB := Blk.new w1 124 (Qam mr mw me ml b1 mm.length e1)
 have SB := (S0.below g1 S0.lt).alloc (.cells (Qam mr mw me ml b1 mm.length e1) 124)
 have B1 : Below w.heap.size w (w1.alloc (.cells (Qam mr mw me ml b1 mm.length e1) 124)) := Qaf (via0 g1 B0) _
 have lm : w.heap.size + 1 + 1 + 1 + 1 < w1.heap.size := Nat.lt_of_lt_of_le I0.r2.lt g1.size
 have HO1 := hidP (Qav ho1 (.cells (Qam mr mw me ml b1 mm.length e1) 124))
 have lx0 : w.heap.size + 1 + 1 + 1 + 1 < X0.heap.size := I0.r2.lt
 clear I0 g1 ho1 S0 B0
 obtain ⟨c0, c1, c2, c3, c4, c5, c6, c7⟩ := I1.c.row8c
 obtain ⟨m0, m1, m2, m3, m4⟩ := MB.row5
 have qc := I1.c.lt
 have qm := MB.lt
 go_upto_region 2 with fail
 generalize w1.alloc (.cells (Qam mr mw me ml b1 mm.length e1) 124) = X1 at *
 generalize w1.heap.size = PM at *
 go_wp2_with fail
 refine (Qcg mr mw me ml cc cb b1 e1 mm hmm _ (Qci rfl HO1.out)).mono ?_
 rintro e w2 ⟨rfl, g2⟩
 have B2 := via0 g2 B1
 have I2 := I1.below g2
 have MB2 := MB.below g2 MB.lt
 have SB2 := SB.below g2 SB.lt
 have HO2 := hidP (Qaq HO1.out g2)
 clear c0 c1 c2 c3 c4 c5 c6 c7 m0 m1 m2 m3 m4 qc qm I1 MB SB g2 B1 HO1
 rw [hk]
 have lx1 : w.heap.size + 1 + 1 + 1 + 1 < PM := lm
 have hn0 : (0 : Int) <= (n : Int) := by omega
 have hn1 : (n : Int) < (rs.length : Int) := by omega
 obtain ⟨cc0, cc1, cc2, cc3, cc4, cc5, cc6, cc7⟩ := I2.c.row8c
 go_upto_region 12 with fail
 have P : Ps S w w2.drew (w.heap.size + 1) (w.heap.size + 1 + 1) (w.heap.size + 1 + 1 + 1) (w.heap.size + 1 + 1 + 1 + 1) (Qaa (some ⟨br, 0, none⟩) rs.length rc mA ms.length mc gA gs.length gc time dA ds.length dc lA ls.length lc) (Qad who seq op (n : Int) cb cc key text) (Qan ro wi le ke) (Qam mr mw me ml b1 mm.length e1) PM X0.heap.size b1 e1 mm := Ps.drew ⟨I2, MB2, SB2, B2, HO2.out⟩
 have Psv := hidP P
 clear I2 MB2 SB2 B2 HO2 cc0 cc1 cc2 cc3 cc4 cc5 cc6 cc7
 have mkS : ∀ V : World, Ps S w V (w.heap.size + 1) (w.heap.size + 1 + 1) (w.heap.size + 1 + 1 + 1) (w.heap.size + 1 + 1 + 1 + 1) (Qaa (some ⟨br, 0, none⟩) rs.length rc mA ms.length mc gA gs.length gc time dA ds.length dc lA ls.length lc) (Qad who seq op (n : Int) cb cc key text) (Qan ro wi le ke) (Qam mr mw me ml b1 mm.length e1) PM X0.heap.size b1 e1 mm -> (fun (V : World) => V.cell? ⟨(w.heap.size + 1), 0, none⟩ = some (.slice (some ⟨br, 0, none⟩) rs.length rc) /\ V.cell? ⟨(w.heap.size + 1), 3, none⟩ = some (.int .i64 time) /\ V.cell? ⟨(w.heap.size + 1 + 1), 0, none⟩ = some (.int .i64 who) /\ V.cell? ⟨(w.heap.size + 1 + 1), 3, none⟩ = some (.int .i64 (n : Int)) /\ V.cell? ⟨(w.heap.size + 1 + 1), 6, none⟩ = some (.string key) /\ V.cell? ⟨(w.heap.size + 1 + 1), 7, none⟩ = some (.string text) /\ V.cell? ⟨br, n * 3, none⟩ = some (.int .i64 st) /\ V.cell? ⟨br, n * 3 + 1, none⟩ = some (.int .i64 nt) /\ V.cell? ⟨br, n * 3 + 2, none⟩ = some (.slice yA ym.length yc)) V := fun V q => by
  obtain ⟨a0, a1, a2, a3, a4, a5⟩ := q.bx.k.row6
  obtain ⟨d0, d1, d2, d3, d4, d5, d6, d7⟩ := q.bx.c.row8c
  obtain ⟨r0, r1, r2⟩ := HCl.out V q.bl
  exact ⟨a0, a3, d0, d3, d6, d7, r0, r1, r2⟩
 go_cut [11, 12, 13] from 48 to 66 (fun p nv ov wx => ∃ (PR : Nat) (a5 : Option Addr) (c5 : Nat), p = .pointer (some ⟨PR, 0, none⟩) /\ nv = .int .i64 nn /\ ov = .bool ok /\ Ps S w wx (w.heap.size + 1) (w.heap.size + 1 + 1) (w.heap.size + 1 + 1 + 1) (w.heap.size + 1 + 1 + 1 + 1) (Qaa (some ⟨br, 0, none⟩) rs.length rc mA ms.length mc gA gs.length gc time dA ds.length dc lA ls.length lc) (Qad who seq op (n : Int) cb cc key text) (Qan ro wi le ke) (Qam mr mw me ml b1 mm.length e1) PM X0.heap.size b1 e1 mm /\ Blk wx PR 118 (Qaz st nx a5 LL.length c5) /\ wx.ownsRow w2.heap.size 121 5 (.slice a5 LL.length c5) LL.length (flat LL) /\ (w.heap.size < PR /\ PR ≠ (w.heap.size + 1) /\ PR ≠ (w.heap.size + 1 + 1) /\ PR ≠ (w.heap.size + 1 + 1 + 1) /\ PR ≠ (w.heap.size + 1 + 1 + 1 + 1) /\ PR ≠ PM) /\ (Value.slice a5 LL.length c5).ownBlock ≠ some PR)
 case first =>
  refine wp_region_noPanic ?_
  refine wp_region_held_drew (S := (fun (V : World) => V.cell? ⟨(w.heap.size + 1), 0, none⟩ = some (.slice (some ⟨br, 0, none⟩) rs.length rc) /\ V.cell? ⟨(w.heap.size + 1), 3, none⟩ = some (.int .i64 time) /\ V.cell? ⟨(w.heap.size + 1 + 1), 0, none⟩ = some (.int .i64 who) /\ V.cell? ⟨(w.heap.size + 1 + 1), 3, none⟩ = some (.int .i64 (n : Int)) /\ V.cell? ⟨(w.heap.size + 1 + 1), 6, none⟩ = some (.string key) /\ V.cell? ⟨(w.heap.size + 1 + 1), 7, none⟩ = some (.string text) /\ V.cell? ⟨br, n * 3, none⟩ = some (.int .i64 st) /\ V.cell? ⟨br, n * 3 + 1, none⟩ = some (.int .i64 nt) /\ V.cell? ⟨br, n * 3 + 2, none⟩ = some (.slice yA ym.length yc))) (by kernel_rfl) ?_ (fun hH => ?_)
  . exact mkS _ P
  refine ztk [0,1,2,3,4,5,6,7,8,9,10,11,12,13] ?_; repeat (refine ztn (hS := hH) (h := ?_); try simp only [zX,zY])
  refine zte ?_
  refine zR2 14 19 (fun K hK => ?_) (fun K hK => ?_)
  focus
   simp only [zG]
   go_simp
   refine (HRP.out _ P.bl).mono ?_; rintro e w3 ⟨a5, c5, rfl, ho5, g3⟩; have P := P.below g3; have ho5p := fun x (hx : (Value.slice a5 LL.length c5).ownBlock = some x) => Qbw ho5 hx; have hom := fun x (hx : (Value.slice b1 mm.length e1).ownBlock = some x) => Qbw P.om hx; have P3l : PM < w3.heap.size := P.mb.lt; have hle9 : w2.heap.size <= w2.drew.heap.size := Nat.le_refl _
   refine hK.out _ _ (mkS _ P) fun hH => ?_; clear hK K; try simp only [zX,zY]
   refine ztk [15,16,17,18] ?_; repeat (refine ztn (hS := hH) (h := ?_); try simp only [zX,zY])
   refine zte ?_
   refine zR1 19 (fun K hK => ?_)
   simp only [zG]
   go_simp
   have RB := Blk.new w3 118 Qbx; have P := P.alloc (.cells Qbx 118); have ho5 := Qav ho5 (.cells Qbx 118); have h5 : (Value.slice a5 LL.length c5).ownBlock ≠ some w3.heap.size := fun e => Nat.lt_irrefl _ (ho5p _ e); have hPR : w.heap.size < w3.heap.size /\ w3.heap.size ≠ (w.heap.size + 1) /\ w3.heap.size ≠ (w.heap.size + 1 + 1) /\ w3.heap.size ≠ (w.heap.size + 1 + 1 + 1) /\ w3.heap.size ≠ (w.heap.size + 1 + 1 + 1 + 1) /\ w3.heap.size ≠ PM := (by have := P3l; omega); have hPM : (Value.slice b1 mm.length e1).ownBlock ≠ some w3.heap.size := fun e => Nat.lt_irrefl _ (hom _ e)
   refine hK.out _ _ (mkS _ P) fun hH => ?_; clear hK K; try simp only [zX,zY]
   generalize w3.alloc (.cells Qbx 118) = w4 at *
   generalize w3.heap.size = PR at *
   obtain ⟨z0, z1, z2⟩ := RB.row3
   have f0 := RB.thaw 0; have f1 := RB.thaw 1; have f2 := RB.thaw 2
   have P9 := P.only (Qee w4 PR (.int .i64 st) (.int .i64 nx) (.slice a5 LL.length c5)) hPR hPM
   have B9 := blk_putR RB (.int .i64 st) (.int .i64 nx) (.slice a5 LL.length c5)
   have O9 := Qa9 ho5 (Offp.of_only (Qee w4 PR (.int .i64 st) (.int .i64 nx) (.slice a5 LL.length c5))) (fun x hx e => h5 (by rw [← e]; exact hx))
  rotate_left
  focus
   simp only [zG]
   go_simp
   have RB : Blk (w2.drew.alloc (.cells Qbx 118)) w2.heap.size 118 Qbx := Blk.new w2.drew 118 Qbx; have hom0 : (Value.slice b1 mm.length e1).ownBlock ≠ some w2.heap.size := fun e => Nat.lt_irrefl _ (Qbw P.om e); have P2l : PM < w2.heap.size := P.mb.lt; have P := P.alloc (.cells Qbx 118)
   refine hK.out _ _ (mkS _ P) fun hH => ?_; clear hK K; try simp only [zX,zY]
   refine zR1 14 (fun K hK => ?_)
   simp only [zG]
   go_simp
   refine (HRP.out _ P.bl).mono ?_; rintro e w3 ⟨a5, c5, rfl, ho5, g3⟩; have P := P.below g3; have RB := RB.below g3 (by simp); have h5 : (Value.slice a5 LL.length c5).ownBlock ≠ some w2.heap.size := fun e => (by have h9 := (ho5.lt _ e).1; rw [World.size_alloc] at h9; have h10 : w2.heap.size + 1 <= w2.heap.size := h9; omega); have hPR : w.heap.size < w2.heap.size /\ w2.heap.size ≠ (w.heap.size + 1) /\ w2.heap.size ≠ (w.heap.size + 1 + 1) /\ w2.heap.size ≠ (w.heap.size + 1 + 1 + 1) /\ w2.heap.size ≠ (w.heap.size + 1 + 1 + 1 + 1) /\ w2.heap.size ≠ PM := (by omega); have hPM := hom0; have hle9 : w2.heap.size <= (w2.drew.alloc (.cells Qbx 118)).heap.size := (by rw [World.size_alloc]; exact Nat.le_succ _)
   refine hK.out _ _ (mkS _ P) fun hH => ?_; clear hK K; try simp only [zX,zY]
   refine ztk [15,16,17,18] ?_; repeat (refine ztn (hS := hH) (h := ?_); try simp only [zX,zY])
   refine zte ?_
   obtain ⟨z0, z1, z2⟩ := RB.row3
   have f0 := RB.thaw 0; have f1 := RB.thaw 1; have f2 := RB.thaw 2
   have P9 := P.only (Qee w3 w2.heap.size (.int .i64 st) (.int .i64 nx) (.slice a5 LL.length c5)) hPR hPM
   have B9 := blk_putR RB (.int .i64 st) (.int .i64 nx) (.slice a5 LL.length c5)
   have O9 := Qa9 ho5 (Offp.of_only (Qee w3 w2.heap.size (.int .i64 st) (.int .i64 nx) (.slice a5 LL.length c5))) (fun x hx e => h5 (by rw [← e]; exact hx))
  all_goals
   refine zR1 20 (fun K hK => ?_)
   simp only [zG]
   go_simp
   refine hK.out _ _ (mkS _ P9) fun hH => ?_; clear hK K; try simp only [zX,zY]
   refine ztk [21,22] ?_; repeat (refine ztn (hS := hH) (h := ?_); try simp only [zX,zY])
   refine zte ?_
   refine zdn ?_
   go_wp2_with fail
   go_meet
   exact ⟨_, _, _, rfl, rfl, rfl, P9, B9, Qaw O9 hle9, hPR, h5⟩
 case rest =>
  obtain ⟨PR, a5, c5, rfl, rfl, rfl, P5, B5, O5, hPR, h5⟩ := hcut
  have lP2 : PM < w2.heap.size := Psv.out.mb.lt
  clear mkS Psv P
  have lw2 := hidP lm
  cases ok
  . have ePP := hP.out
    subst ePP
    have HQ5 := hidP ((HQ.out.below P5.bl).mono (S' := fun b => S b ∨ (w.heap.size <= b /\ b ≠ (w.heap.size + 1 + 1 + 1) /\ b ≠ (w.heap.size + 1 + 1 + 1 + 1))) (fun b _ hb => .inl hb))
    have I5 := P5.bx
    clear P5 B5 O5
    have TT := hidP (Bx.told I5 (y := (⟨(some ⟨br, 0, none⟩), rc, rs, mA, mc, ms, gA, gc, gs, time, dA, dc, ds, lA, lc, ls⟩ : KC)) (br := br) (bg := bg) (bd := bd) (bl := bl) (HQ5.out) (⟨(8), (0), (⟨#[]⟩), (⟨#[]⟩)⟩ : An) (hv := rfl))
    obtain ⟨z0, z1, z2, z3, z4, z5⟩ := I5.r1.row6
    have f0 := I5.r1.thaw 0; have f1 := I5.r1.thaw 1; have f2 := I5.r1.thaw 2; have f3 := I5.r1.thaw 3; have f4 := I5.r1.thaw 4; have f5 := I5.r1.thaw 5
    obtain ⟨k0, k1, k2, k3, k4, k5⟩ := I5.k.row6
    have R2 := I5.r2.only (Qac _ (w.heap.size + 1 + 1 + 1) (.slice (some ⟨br, 0, none⟩) rs.length rc) (.slice mA ms.length mc) (.slice gA gs.length gc) (.int .i64 time) (.slice dA ds.length dc) (.slice lA ls.length lc)) (fun e => I5.ne.2.2.2.2.2 e.symm)
    obtain ⟨y0, y1, y2, y3⟩ := R2.row4
    have ee0 := R2.thaw 0; have ee1 := R2.thaw 1; have ee2 := R2.thaw 2; have ee3 := R2.thaw 3
    have C1 := Qat I5.r1 (.slice (some ⟨br, 0, none⟩) rs.length rc) (.slice mA ms.length mc) (.slice gA gs.length gc) (.int .i64 time) (.slice dA ds.length dc) (.slice lA ls.length lc)
    have B1 := (Qax I5.r1 (.slice (some ⟨br, 0, none⟩) rs.length rc) (.slice mA ms.length mc) (.slice gA gs.length gc) (.int .i64 time) (.slice dA ds.length dc) (.slice lA ls.length lc)).only (Qah _ (w.heap.size + 1 + 1 + 1 + 1) (.int .i64 (8)) (.int .i64 (0)) (.string ⟨#[]⟩) (.string ⟨#[]⟩)) (fun e => I5.ne.2.2.2.2.2 e)
    have C2 := Qau R2 (.int .i64 (8)) (.int .i64 (0)) (.string ⟨#[]⟩) (.string ⟨#[]⟩)
    obtain ⟨s0, s1, s2, s3, s4, s5⟩ := C1
    obtain ⟨t0, t1, t2, t3⟩ := C2
    obtain ⟨q0, q1, q2, q3, q4, q5⟩ := B1.row6
    have hne12 : (w.heap.size + 1 + 1 + 1) ≠ (w.heap.size + 1 + 1 + 1 + 1) := I5.ne.2.2.2.2.2
    have hne21 : (w.heap.size + 1 + 1 + 1 + 1) ≠ (w.heap.size + 1 + 1 + 1) := fun e => I5.ne.2.2.2.2.2 e.symm
    go_wp2
    exact bodyPost_ret (v := .tuple #[.agg (Qaa (some ⟨br, 0, none⟩) rs.length rc mA ms.length mc gA gs.length gc time dA ds.length dc lA ls.length lc), .agg (Qas (8) (0) ⟨#[]⟩ ⟨#[]⟩)]) (by simp [results, Tryz.results100, go_sem, s0, s1, s2, s3, s4, s5, t0, t1, t2, t3, q0, q1, q2, q3, q4, q5]) rfl TT.out
  . obtain ⟨z0, z1, z2⟩ := B5.row3
    obtain ⟨k0, k1, k2, k3, k4, k5⟩ := P5.bx.k.row6
    obtain ⟨d0, d1, d2, d3, d4, d5, d6, d7⟩ := P5.bx.c.row8c
    obtain ⟨r0, r1, r2⟩ := HCl.out _ P5.bl
    have hth := (HQ.out.below P5.bl).r.th
    have fz : ∀ j, j < 3 -> wc.frozen? ⟨br, n * 3 + j, none⟩ = false := fun j hj => by
     have h9 := (hth (n * 3 + j) (by show n * 3 + j < rs.length * 3; omega)).2
     rwa [Nat.zero_add] at h9
    have f0 : wc.frozen? ⟨br, n * 3, none⟩ = false := fz 0 (by omega)
    have f1 := fz 1 (by omega)
    have f2 := fz 2 (by omega)
    have hk6 : Only br wc (((wc.setCell ⟨br, n * 3, none⟩ (.int .i64 st)).setCell ⟨br, n * 3 + 1, none⟩ (.int .i64 nx)).setCell ⟨br, n * 3 + 2, none⟩ (.slice a5 LL.length c5)) := (((Only.refl br wc).set _ _).set _ _).set _ _
    have Q6 : KQ (((wc.setCell ⟨br, n * 3, none⟩ (.int .i64 st)).setCell ⟨br, n * 3 + 1, none⟩ (.int .i64 nx)).setCell ⟨br, n * 3 + 2, none⟩ (.slice a5 LL.length c5)) { (⟨(some ⟨br, 0, none⟩), rc, rs, mA, mc, ms, gA, gc, gs, time, dA, dc, ds, lA, lc, ls⟩ : KC) with rs := rs.set n ⟨st, nx, a5, c5, LL⟩ } (fun b => S b ∨ PM < b) br bg bd bl :=
     ((HQ.out.below P5.bl).mono (S' := fun b => S b ∨ PM < b) (fun b _ hb => .inl hb)).setR n hn ⟨st, nx, a5, c5, LL⟩ (Av.of_own O5 (fun x hx => ⟨.inr (by omega), by omega, by omega, by omega, by omega⟩))
    have I6 := P5.bx.turn (Offp.of_only hk6) (fun b e => .inl (by subst e; exact HQ.out.s.1))
    have M6 := P5.mb.only hk6 (by omega)
    have S6 := P5.sb.only hk6 (by omega)
    have O6 := Qa9 P5.om (Offp.of_only hk6) (fun x hx e => by have := (P5.om.lt _ hx).1; omega)
    go_upto_region 16 with fail
    clear z0 z1 z2 k0 k1 k2 k3 k4 k5 d0 d1 d2 d3 d4 d5 d6 d7 r0 r1 r2 f0 f1 f2 fz hth hk6 P5 B5 O5
    generalize ((wc.setCell ⟨br, n * 3, none⟩ (.int .i64 st)).setCell ⟨br, n * 3 + 1, none⟩ (.int .i64 nx)).setCell ⟨br, n * 3 + 2, none⟩ (.slice a5 LL.length c5) = X6 at Q6 I6 M6 S6 O6 ⊢
    have J6 := I6.drew
    have M6 := M6.drew
    have S6 := S6.drew
    have Q6 := hidP (Q6.below (Below.refl _ _).drew)
    have O6 := hidP (Qaq O6 (Below.refl _ _).drew)
    have lM6 := M6.lt
    have mkS7 : ∀ V : World, Bx S w V (w.heap.size + 1) (w.heap.size + 1 + 1) (w.heap.size + 1 + 1 + 1) (w.heap.size + 1 + 1 + 1 + 1) (Qaa (some ⟨br, 0, none⟩) rs.length rc mA ms.length mc gA gs.length gc time dA ds.length dc lA ls.length lc) (Qad who seq op (n : Int) cb cc key text) -> Blk V PM 124 (Qam mr mw me ml b1 mm.length e1) -> Blk V w.heap.size 84 (Qan ro wi le ke) -> (fun (V : World) => V.cell? ⟨(w.heap.size + 1), 1, none⟩ = some (.slice mA ms.length mc) /\ V.cell? ⟨PM, 0, none⟩ = some (.int .i64 mr) /\ V.cell? ⟨PM, 1, none⟩ = some (.int .i64 mw) /\ V.cell? ⟨PM, 2, none⟩ = some (.int .i64 me) /\ V.cell? ⟨PM, 3, none⟩ = some (.int .i64 ml) /\ V.cell? ⟨PM, 4, none⟩ = some (.slice b1 mm.length e1) /\ V.cell? ⟨w.heap.size, 1, none⟩ = some (.int .i64 wi) /\ V.cell? ⟨(w.heap.size + 1 + 1), 5, none⟩ = some (.int .i64 cc) /\ V.cell? ⟨(w.heap.size + 1 + 1), 4, none⟩ = some (.int .i64 cb)) V := fun V q1 q2 q3 => by
     obtain ⟨a0, a1, a2, a3, a4, a5⟩ := q1.k.row6
     obtain ⟨d0, d1, d2, d3, d4, d5, d6, d7⟩ := q1.c.row8c
     obtain ⟨m0, m1, m2, m3, m4⟩ := q2.row5
     obtain ⟨n0, n1, n2, n3⟩ := q3.row4
     exact ⟨a1, m0, m1, m2, m3, m4, n1, d5, d4⟩
    have hH6 := mkS7 _ J6 M6 S6
    clear I6
    refine wp_region_noPanic ?_
    have hH : ((fun (V : World) => V.cell? ⟨(w.heap.size + 1), 1, none⟩ = some (.slice mA ms.length mc) /\ V.cell? ⟨PM, 0, none⟩ = some (.int .i64 mr) /\ V.cell? ⟨PM, 1, none⟩ = some (.int .i64 mw) /\ V.cell? ⟨PM, 2, none⟩ = some (.int .i64 me) /\ V.cell? ⟨PM, 3, none⟩ = some (.int .i64 ml) /\ V.cell? ⟨PM, 4, none⟩ = some (.slice b1 mm.length e1) /\ V.cell? ⟨w.heap.size, 1, none⟩ = some (.int .i64 wi) /\ V.cell? ⟨(w.heap.size + 1 + 1), 5, none⟩ = some (.int .i64 cc) /\ V.cell? ⟨(w.heap.size + 1 + 1), 4, none⟩ = some (.int .i64 cb))) _ := hH6
    refine Qbb 13 ((fun (V : World) => V.cell? ⟨(w.heap.size + 1), 1, none⟩ = some (.slice mA ms.length mc) /\ V.cell? ⟨PM, 0, none⟩ = some (.int .i64 mr) /\ V.cell? ⟨PM, 1, none⟩ = some (.int .i64 mw) /\ V.cell? ⟨PM, 2, none⟩ = some (.int .i64 me) /\ V.cell? ⟨PM, 3, none⟩ = some (.int .i64 ml) /\ V.cell? ⟨PM, 4, none⟩ = some (.slice b1 mm.length e1) /\ V.cell? ⟨w.heap.size, 1, none⟩ = some (.int .i64 wi) /\ V.cell? ⟨(w.heap.size + 1 + 1), 5, none⟩ = some (.int .i64 cc) /\ V.cell? ⟨(w.heap.size + 1 + 1), 4, none⟩ = some (.int .i64 cb))) (by kernel_rfl) ?_
    refine zpk [0,1,2,3,4,5,6,7,8,9] ?_; repeat (refine zpn (h := ?_); try simp only [zX,zY])
    refine zpe ?_
    refine Qar (i := 10) (by kernel_rfl) rfl (fun K hK => ?_)
    simp only [zG]
    go_simp; refine (Qie mr mw me ml wi cc cb nn hw b1 e1 mm hmm _ (Qci rfl O6.out)).mono ?_; rintro e w7 ⟨v7, rfl, ho7, g7⟩; obtain ⟨b7, e7, rfl, _⟩ := Qao ho7; have I7 := J6.below g7; have M7 := M6.below g7 M6.lt; have S7 := S6.below g7 S6.lt; have Q7 := hidP (Q6.out.below g7); have hH7 := mkS7 _ I7 M7 S7
    refine hK.out _ _ (.inr hH7) ?_
    clear hK K
    try simp only [zX,zY]
    refine Qar (i := 11) (by kernel_rfl) rfl (fun K hK => ?_)
    simp only [zG]
    go_simp; refine (HSt.out _ mr mw _ _ b7 e7 _ (by have := putM_lenK wi me ml mm cc cb nn; omega) (Qci rfl ho7) (KQ.at Q7.out).ma (KQ.at Q7.out).me).mono ?_; rintro e w8 ⟨g, c, O, rfl, hO, hOut, g8⟩; have I8 := I7.below g8; have M8 := M7.below g8 M7.lt; have S8 := S7.below g8 S7.lt; have l7 := M7.lt; obtain ⟨o1, o2⟩ := Out.av (S := fun b => (S b ∨ PM < b) /\ b ≠ br /\ b ≠ bg /\ b ≠ bd /\ b ≠ bl) hOut (fun x hx _ => ⟨.inr (by omega), by omega, by omega, by omega, by omega⟩); have Q8 := hidP ((Q7.out.below g8).setM (some ⟨g, 0, none⟩) c O o1 o2); have HO := hidP hO; have hH8 := mkS7 _ I8 M8 S8; clear hOut o1 o2 hO; obtain ⟨kk0, kk1, kk2, kk3, kk4, kk5⟩ := I8.k.row6; have fk := I8.k.thaw 1
    refine hK.out _ _ (.inr hH8) ?_
    clear hK K
    try simp only [zX,zY]
    refine zp1 12 ?_; refine zpn (h := ?_); try simp only [zX,zY]
    refine zpe ?_
    refine Qar (i := 13) (by kernel_rfl) rfl (fun K hK => ?_)
    simp only [zG]
    go_simp
    refine hK.out _ _ (.inl rfl) ?_
    clear hK K
    try simp only [zX,zY]
    refine Qbn (by kernel_rfl) ?_ _
    refine NoPanic.normal ?_
    clear hH6 mkS7
    have I9 := I8.setK 1 (.slice (some ⟨g, 0, none⟩) O.length c)
    have Q9 := Q8.out.box (w.heap.size + 1) 1 (.slice (some ⟨g, 0, none⟩) O.length c) (by rintro (h | h); have := hS _ h; omega; omega)
    have HQ9 := hidP (Q9.mono (S' := fun b => S b ∨ (w.heap.size <= b /\ b ≠ (w.heap.size + 1 + 1 + 1) /\ b ≠ (w.heap.size + 1 + 1 + 1 + 1))) (fun b _ hb => hb.imp id (fun h => ⟨by omega, by omega, by omega⟩)))
    clear Q9 Q8 fk kk0 kk1 kk2 kk3 kk4 kk5 I8 J6 M6 S6 Q6 O6
    generalize w8.setCell ⟨(w.heap.size + 1), 1, none⟩ (.slice (some ⟨g, 0, none⟩) O.length c) = X9 at I9 HQ9 ⊢
    have ePP := hP.out
    subst ePP
    have TT := hidP (Bx.told I9 (y := ({ (⟨(some ⟨br, 0, none⟩), rc, rs, mA, mc, ms, gA, gc, gs, time, dA, dc, ds, lA, lc, ls⟩ : KC) with rs := rs.set n ⟨st, nx, a5, c5, LL⟩, mA := some ⟨g, 0, none⟩, mc := c, ms := O } : KC)) (br := br) (bg := bg) (bd := bd) (bl := bl) (HQ9.out) (⟨(0), (nn), (⟨#[]⟩), (⟨#[]⟩)⟩ : An) (hv := show _ = (Qaa (some ⟨br, 0, none⟩) rs.length rc (some ⟨g, 0, none⟩) O.length c gA gs.length gc time dA ds.length dc lA ls.length lc) by simp only [KC.cells, List.length_set]))
    obtain ⟨z0, z1, z2, z3, z4, z5⟩ := I9.r1.row6
    have f0 := I9.r1.thaw 0; have f1 := I9.r1.thaw 1; have f2 := I9.r1.thaw 2; have f3 := I9.r1.thaw 3; have f4 := I9.r1.thaw 4; have f5 := I9.r1.thaw 5
    obtain ⟨k0, k1, k2, k3, k4, k5⟩ := I9.k.row6
    have R2 := I9.r2.only (Qac _ (w.heap.size + 1 + 1 + 1) (.slice (some ⟨br, 0, none⟩) rs.length rc) (.slice (some ⟨g, 0, none⟩) O.length c) (.slice gA gs.length gc) (.int .i64 time) (.slice dA ds.length dc) (.slice lA ls.length lc)) (fun e => I9.ne.2.2.2.2.2 e.symm)
    obtain ⟨y0, y1, y2, y3⟩ := R2.row4
    have ee0 := R2.thaw 0; have ee1 := R2.thaw 1; have ee2 := R2.thaw 2; have ee3 := R2.thaw 3
    have C1 := Qat I9.r1 (.slice (some ⟨br, 0, none⟩) rs.length rc) (.slice (some ⟨g, 0, none⟩) O.length c) (.slice gA gs.length gc) (.int .i64 time) (.slice dA ds.length dc) (.slice lA ls.length lc)
    have B1 := (Qax I9.r1 (.slice (some ⟨br, 0, none⟩) rs.length rc) (.slice (some ⟨g, 0, none⟩) O.length c) (.slice gA gs.length gc) (.int .i64 time) (.slice dA ds.length dc) (.slice lA ls.length lc)).only (Qah _ (w.heap.size + 1 + 1 + 1 + 1) (.int .i64 (0)) (.int .i64 (nn)) (.string ⟨#[]⟩) (.string ⟨#[]⟩)) (fun e => I9.ne.2.2.2.2.2 e)
    have C2 := Qau R2 (.int .i64 (0)) (.int .i64 (nn)) (.string ⟨#[]⟩) (.string ⟨#[]⟩)
    obtain ⟨s0, s1, s2, s3, s4, s5⟩ := C1
    obtain ⟨t0, t1, t2, t3⟩ := C2
    obtain ⟨q0, q1, q2, q3, q4, q5⟩ := B1.row6
    have hne12 : (w.heap.size + 1 + 1 + 1) ≠ (w.heap.size + 1 + 1 + 1 + 1) := I9.ne.2.2.2.2.2
    have hne21 : (w.heap.size + 1 + 1 + 1 + 1) ≠ (w.heap.size + 1 + 1 + 1) := fun e => I9.ne.2.2.2.2.2 e.symm
    go_wp2
    exact bodyPost_ret (v := .tuple #[.agg (Qaa (some ⟨br, 0, none⟩) rs.length rc (some ⟨g, 0, none⟩) O.length c gA gs.length gc time dA ds.length dc lA ls.length lc), .agg (Qas (0) (nn) ⟨#[]⟩ ⟨#[]⟩)]) (by simp [results, Tryz.results100, go_sem, s0, s1, s2, s3, s4, s5, t0, t1, t2, t3, q0, q1, q2, q3, q4, q5]) rfl (by have h := TT.out; simp only [KC.p, HO.out, List.map_set] at h; exact h)
def ownF (m : List Int) (row : Int) : Int := if m.length = 0 ∨ row < 0 then -1 else m.getD (row % (m.length : Int)).toNat 0
theorem Qhc {m : List Int} {row : Int} (h : m.length = 0 ∨ row < 0) : ownF m row = -1 := by rw [ownF, if_pos h]
theorem ownF_some {m : List Int} {row : Int} (h : ¬ (m.length = 0 ∨ row < 0)) {n : Nat} (hn : (row % (m.length : Int)) = n) (hlt : n < m.length) : ownF m row = m[n] := by
 unfold ownF
 rw [if_neg h, hn]
 simp [hlt]
theorem Qgj (gen row : Int) (A B C : Option Addr) (ca cb cc : Nat) (m b o : List Int) (hm : m.length <= 1048576) (hr : ∀ x ∈ m, I64 x) (w : World) (hA : At w A m) (hB : At w B b) (hC : At w C o) :
 Calls Tryz.prog 106 #[.agg (Qak gen A m.length ca B b.length cb C o.length cc), .int .i64 row] w fun e w' => e = .returned (.int .i64 (ownF m row)) /\ Below w.heap.size w w' := by
 have HA := hidP hA
 clear hA hB hC
 by_cases h0 : m.length = 0
 . have hF : Hid (ownF m row = -1) := Qhc (.inl h0)
   have h0' : (m.length : Int) = 0 := by omega
   go_enter Tryz.func106, Tryz.ntmps106
   go_wp2
   go_ret
   exact ⟨by rw [hF.out]; rfl, by repeat (first | exact Below.refl _ _ | assumption | refine via0 (by assumption) ?_ | refine Below.drew ?_ | refine Qaf ?_ _)⟩
 have h0' : ((m.length : Int) == 0) = false := by simp only [beq_eq_false_iff_ne]; omega
 have h0c : decide ((m.length : Int) = 0) = false := decide_eq_false (by omega)
 by_cases h1 : row < 0
 . have hF : Hid (ownF m row = -1) := Qhc (.inr h1)
   go_enter Tryz.func106, Tryz.ntmps106
   go_wp2
   go_ret
   exact ⟨by rw [hF.out]; rfl, by repeat (first | exact Below.refl _ _ | assumption | refine via0 (by assumption) ?_ | refine Below.drew ?_ | refine Qaf ?_ _)⟩
 have h1' : decide (row < 0) = false := decide_eq_false h1
 obtain ⟨n, hn⟩ : ∃ n : Nat, row % (m.length : Int) = n := ⟨(row % (m.length : Int)).toNat, by rw [Int.toNat_of_nonneg (Int.emod_nonneg _ (by omega))]⟩
 have hlt : n < m.length := by have := Int.emod_lt_of_pos row (show (0 : Int) < (m.length : Int) by omega); omega
 have hF : Hid (ownF m row = m[n]) := ownF_some (by omega) hn hlt
 obtain ⟨b', o', rfl, hbs, hin⟩ : ∃ b o, A = some ⟨b, o, none⟩ /\ b < w.heap.size /\ In w b o m := by
  rcases HA.out with h | h
  . subst h; simp at hlt
  . exact h
 have c0 := hin.getInt n hlt
 have hi0 : (0 : Int) <= (n : Int) := by omega
 have hi1 : (n : Int) < (m.length : Int) := by omega
 have ht : row.tmod (m.length : Int) = n := by rw [Int.tmod_eq_emod_of_nonneg (by omega)]; exact hn
 go_enter Tryz.func106, Tryz.ntmps106
 go_wp2
 go_region
 all_goals
  go_wp2
  go_ret
  exact ⟨by rw [hF.out]; rfl, by repeat (first | exact Below.refl _ _ | assumption | refine via0 (by assumption) ?_ | refine Below.drew ?_ | refine Qaf ?_ _)⟩
end Go.Proofs.YtlniljigeemnoaaGreat.Gen
namespace Go.Proofs.YtlniljigeemnoaaGreat.Items
open ChangeShapes WideShapes ChangeAt RowKit Shelf Base
def dv (off len : Int) : Int := wrap64 (Int.tdiv off len)
def lenAt (W : World) (B : Nat) : Nat := match W.cell? ⟨B, 2, none⟩ with | some (.slice _ n _) => n | _ => 0
theorem lenAt_is {W : World} {B n c : Nat} {a : Option Addr} (h : W.cell? ⟨B, 2, none⟩ = some (.slice a n c)) : lenAt W B = n := by simp [lenAt, h]
theorem In.tail {w : World} {b o : Nat} {x : It} {l : List It} (h : In w b o (x :: l)) : In w b (o + 5) l := fun j v hv => by
 have := h (5 + j) v (by rw [Qb2, List.getElem?_append_right (by rw [It.cs_length]; omega), It.cs_length]; simpa using hv)
 rwa [← Nat.add_assoc] at this
def Qez (off length : Int) : Int := wrap64 (wrap64 (dv off length + 1) * length)
theorem endOf_is {off length : Int} (h0 : 0 <= off) (h1 : off <= 100000) (h2 : 1 <= length) (h3 : length <= 9223372036854775807) : Qez off length = (off / length + 1) * length /\ off < (off / length + 1) * length := by
 have e1 : Int.tdiv off length = off / length := Int.tdiv_eq_ediv_of_nonneg h0
 have q0 : 0 <= off / length := Int.ediv_nonneg h0 (by omega)
 have q1 : off / length <= off := Int.ediv_le_self _ h0
 have q2 : off / length * length <= off := Int.ediv_mul_le _ (by omega)
 have lt : off < (off / length + 1) * length := Int.lt_ediv_add_one_mul_self off (by omega)
 have ex : (off / length + 1) * length = off / length * length + length := by rw [Int.add_mul, Int.one_mul]
 have up : (off / length + 1) * length <= 9223372036854775807 := by
  by_cases hz : off / length = 0
  . rw [hz]; omega
  . have : length <= off := by
     have hq : 1 <= off / length := by omega
     have : 1 * length <= off / length * length := Int.mul_le_mul_of_nonneg_right hq (by omega)
     omega
    omega
 refine ⟨?_, lt⟩
 have w1 : dv off length = off / length := by unfold dv; rw [e1]; unfold wrap64; omega
 have w2 : wrap64 (off / length + 1) = off / length + 1 := by unfold wrap64; omega
 unfold Qez
 rw [w1, w2]
 have : 0 <= (off / length + 1) * length := by omega
 generalize (off / length + 1) * length = z at *
 unfold wrap64; omega
def Qii (l : List It) : Prop := ∀ x ∈ l, 0 <= x.off /\ x.off <= 100000
def trimF (next length keep : Int) : Nat -> Int -> List It -> Int × List It
  | 0, st, m => (st, m)
  | n + 1, st, [] => (st, [])
  | n + 1, st, x :: t => if keep < ((x :: t).length : Int) /\ ¬ dv x.off length = dv (IntKind.i64.wrap (next - 1)) length then trimF next length keep n (Qez x.off length) ((x :: t).dropWhile fun y => decide (y.off < Qez x.off length)) else (st, x :: t)
theorem hidP {p : Prop} (h : p) : Hid p := h
theorem drop_le (p : It -> Bool) (l : List It) : (l.dropWhile p).length <= l.length := (List.dropWhile_sublist p).length_le
def up (l : List It) : Prop := l.Pairwise fun x y => x.off < y.off
theorem chain_up (start nb : Int) : ∀ (l : List It) (p : Option Int), Qe0 start nb p l = true -> up l /\ (∀ x ∈ l, start <= x.off /\ x.off <= nb) /\ (∀ o, p = some o -> ∀ x ∈ l, o < x.off)
 | [], p, h => ⟨List.Pairwise.nil, by simp, by simp⟩
 | y :: l, p, h => by
  have hs : Qe0 start nb (some y.off) l = true /\ (start <= y.off /\ y.off <= nb) /\ (∀ o, p = some o -> o < y.off) := by
   cases p with
   | none => simp only [Qe0, Bool.and_eq_true, inB, decide_eq_true_eq] at h; exact ⟨h.2, h.1.1.2, by simp⟩
   | some o => simp only [Qe0, Bool.and_eq_true, inB, decide_eq_true_eq] at h; exact ⟨h.2, h.1.1.2, fun o' e => by cases e; exact h.1.2⟩
  obtain ⟨i1, i2, i3⟩ := chain_up start nb l (some y.off) hs.1
  refine ⟨List.Pairwise.cons (fun x hx => i3 _ rfl x hx) i1, ?_, ?_⟩
  . intro x hx
    rcases List.mem_cons.1 hx with rfl | hx
    . exact hs.2.1
    . exact i2 x hx
  . intro o ho x hx
    rcases List.mem_cons.1 hx with rfl | hx
    . exact hs.2.2 o ho
    . have := hs.2.2 o ho; have := i3 _ rfl x hx; omega
theorem rowB_up {start next : Int} {l : List It} (h : rowB start next l = true) : up l /\ Qii l /\ l.length <= 80 := by
 simp only [rowB, Bool.and_eq_true, inB, decide_eq_true_eq] at h
 obtain ⟨i1, i2, _⟩ := chain_up start (next - 1) l none h.1.1.1
 exact ⟨i1, fun x hx => by have := i2 x hx; omega, h.2⟩
theorem Qd0 {p q : It -> Bool} : ∀ {l : List It}, (∀ y ∈ l, p y = q y) -> l.dropWhile p = l.dropWhile q
 | [], _ => rfl
 | y :: l, h => by
  have hy := h y (by simp)
  have := Qd0 (l := l) (fun z hz => h z (by simp [hz]))
  simp only [List.dropWhile_cons, hy, this]
theorem dv_is {off length : Int} (h0 : 0 <= off) (h1 : off <= 100000) (h2 : 1 <= length) : dv off length = off / length := by
 have e1 : Int.tdiv off length = off / length := Int.tdiv_eq_ediv_of_nonneg h0
 have q0 : 0 <= off / length := Int.ediv_nonneg h0 (by omega)
 have q1 : off / length <= off := Int.ediv_le_self _ h0
 unfold dv; rw [e1]; unfold wrap64; omega
theorem drop_same {x : It} {t : List It} {length : Int} (hu : up (x :: t)) (ho : Qii (x :: t)) (h1 : 1 <= length) (h2 : length <= 9223372036854775807) :
 (x :: t).dropWhile (fun y => decide (y.off < Qez x.off length)) = (x :: t).dropWhile (fun y => decide (dv y.off length = dv x.off length)) := by
 apply Qd0
 intro y hy
 have hx := ho x (by simp)
 have hy' := ho y hy
 have hle : x.off <= y.off := by
  rcases List.mem_cons.1 hy with rfl | hy
  . exact Int.le_refl _
  . exact Int.le_of_lt ((List.pairwise_cons.1 hu).1 y hy)
 obtain ⟨he, _⟩ := endOf_is hx.1 hx.2 h1 h2
 rw [he, dv_is hx.1 hx.2 h1, dv_is hy'.1 hy'.2 h1]
 have hm : x.off / length <= y.off / length := Int.ediv_le_ediv (by omega) hle
 have hi : y.off < (x.off / length + 1) * length ↔ y.off / length < x.off / length + 1 := (Int.ediv_lt_iff_lt_mul (by omega)).symm
 rw [decide_eq_decide, hi]
 omega
theorem up_drop {l : List It} (h : up l) (p : It -> Bool) : up (l.dropWhile p) := List.Pairwise.sublist (List.dropWhile_sublist p) h
theorem off_drop {l : List It} (h : Qii l) (p : It -> Bool) : Qii (l.dropWhile p) := fun y hy => h y ((List.dropWhile_sublist p).subset hy)
theorem wrapq (x : Int) : IntKind.i64.wrap x = wrap64 x := by rw [IntKind.wrap_i64]; unfold wrap64; rfl
def Qde (key : List UInt8) (l : List It) : Bool := l.any fun y => y.key.toList == key
def Qdg (nb length : Int) (x : It) (t : List It) : Bool := x.key.toList == [] || !Qde x.key.toList t || (dv x.off length == dv nb length)
def packF (nb length : Int) : List It -> List It
  | [] => []
  | x :: t => if Qdg nb length x t then x :: packF nb length t else packF nb length t
theorem Qfl {nb length : Int} {l : List It} {n : Nat} (h : n < l.length) (hs : Qdg nb length l[n] (l.drop (n + 1)) = true) : packF nb length (l.drop n) = l[n] :: packF nb length (l.drop (n + 1)) := by
 rw [List.drop_eq_getElem_cons h, packF, if_pos hs]
theorem packF_no {nb length : Int} {l : List It} {n : Nat} (h : n < l.length) (hs : Qdg nb length l[n] (l.drop (n + 1)) = false) : packF nb length (l.drop n) = packF nb length (l.drop (n + 1)) := by
 rw [List.drop_eq_getElem_cons h, packF, if_neg (by simp [hs])]
theorem Qfm (nb length : Int) : ∀ l : List It, (packF nb length l).Sublist l
 | [] => List.Sublist.slnil
 | x :: t => by
  unfold packF
  split
  . exact (Qfm nb length t).cons_cons x
  . exact (Qfm nb length t).cons x
def packB (start next length : Int) (l : List It) : Bool := decide (1 <= length) && rowB start next l
def packL (start next length : Int) (l : List It) : List It := if packB start next length l then packF (IntKind.i64.wrap (next - 1)) length l else l
theorem Qis {key : List UInt8} {l : List It} {k : Nat} (h : k < l.length) : Qde key (l.drop k) = (l[k].key.toList == key || Qde key (l.drop (k + 1))) := by
 unfold Qde
 rw [List.drop_eq_getElem_cons h, List.any_cons]
theorem Qh7 (start nb : Int) : ∀ (l : List It) (p : Option Int), Qe0 start nb p l = true ↔ (∀ x ∈ l, itemB x = true /\ start <= x.off /\ x.off <= nb) /\ up l /\ (∀ o, p = some o -> ∀ x ∈ l, o < x.off)
 | [], p => by simp [Qe0, up]
 | y :: l, p => by
  have ih := Qh7 start nb l (some y.off)
  have hp : Qe0 start nb p (y :: l) = true ↔ (itemB y = true /\ (start <= y.off /\ y.off <= nb)) /\ (∀ o, p = some o -> o < y.off) /\ Qe0 start nb (some y.off) l = true := by
   cases p with
   | none => simp only [Qe0, Bool.and_eq_true, inB, decide_eq_true_eq]; simp
   | some o => simp only [Qe0, Bool.and_eq_true, inB, decide_eq_true_eq]; simp [and_assoc]
  rw [hp, ih]
  constructor
  . rintro ⟨⟨h1, h2⟩, h3, h4, h5, h6⟩
    refine ⟨?_, List.Pairwise.cons (fun x hx => h6 _ rfl x hx) h5, ?_⟩
    . intro x hx
      rcases List.mem_cons.1 hx with rfl | hx
      . exact ⟨h1, h2⟩
      . exact h4 x hx
    . intro o ho x hx
      rcases List.mem_cons.1 hx with rfl | hx
      . exact h3 o ho
      . have := h3 o ho; have := h6 _ rfl x hx; omega
  . rintro ⟨h1, h2, h3⟩
    have hu := List.pairwise_cons.1 h2
    exact ⟨⟨(h1 y (by simp)).1, (h1 y (by simp)).2⟩, fun o ho => h3 o ho y (by simp), fun x hx => h1 x (by simp [hx]), hu.2, fun o ho x hx => by cases ho; exact hu.1 x hx⟩
theorem rowB_iff (start next : Int) (l : List It) : rowB start next l = true ↔ (∀ x ∈ l, itemB x = true /\ start <= x.off /\ x.off <= next - 1) /\ up l /\ 0 <= start /\ start <= next /\ next <= 100000 /\ l.length <= 80 := by
 have hc : Qa0 start (next - 1) l 0 = Qe0 start (next - 1) none l := by simp [Qa0, Qih]
 simp only [rowB, Bool.and_eq_true, inB, decide_eq_true_eq, hc, Qh7]
 constructor
 . rintro ⟨⟨⟨⟨h1, h2, _⟩, h3, h4⟩, h5⟩, h6⟩
   exact ⟨h1, h2, h3, h4, h5, h6⟩
 . rintro ⟨h1, h2, h3, h4, h5, h6⟩
   exact ⟨⟨⟨⟨h1, h2, by simp⟩, h3, h4⟩, h5⟩, h6⟩
theorem right_sub {start next : Int} {l m : List It} (h : rowB start next l = true) (hs : m.Sublist l) : rowB start next m = true := by
 rw [rowB_iff] at h ⊢
 exact ⟨fun x hx => h.1 x (hs.subset hx), List.Pairwise.sublist hs h.2.1, h.2.2.1, h.2.2.2.1, h.2.2.2.2.1, Nat.le_trans hs.length_le h.2.2.2.2.2⟩
theorem right_pack {start next length : Int} {l : List It} (h : rowB start next l = true) : rowB start next (packF (IntKind.i64.wrap (next - 1)) length l) = true := right_sub h (Qfm _ _ _)
theorem right_trim (next length keep : Int) (hl : 1 <= length) (hl' : length <= 9223372036854775807) : ∀ (n : Nat) (st : Int) (m : List It), rowB st next m = true -> rowB (trimF next length keep n st m).1 next (trimF next length keep n st m).2 = true /\ st <= (trimF next length keep n st m).1
 | 0, st, m, h => ⟨h, Int.le_refl _⟩
 | n + 1, st, [], h => ⟨h, Int.le_refl _⟩
 | n + 1, st, x :: t, h => by
  simp only [trimF]
  split
  . rename_i hc
    have hr := (rowB_iff _ _ _).1 h
    obtain ⟨h1, h2, h3, h4, h5, h6⟩ := hr
    have hx := (h1 x (by simp)).2
    have hx0 : 0 <= x.off := by omega
    have hx1 : x.off <= 100000 := by omega
    obtain ⟨he, hlt⟩ := endOf_is hx0 hx1 hl hl'
    have hw : IntKind.i64.wrap (next - 1) = next - 1 := by rw [IntKind.wrap_i64]; omega
    have hd : ¬ x.off / length = (next - 1) / length := by
     have := hc.2
     rw [hw, dv_is hx0 hx1 hl, dv_is (by omega) (by omega) hl] at this
     exact this
    have hle : x.off / length <= (next - 1) / length := Int.ediv_le_ediv (by omega) hx.2
    have hE : Qez x.off length <= next - 1 := by
     rw [he]
     have h1' : x.off / length + 1 <= (next - 1) / length := by omega
     have h2' : (x.off / length + 1) * length <= (next - 1) / length * length := Int.mul_le_mul_of_nonneg_right h1' (by omega)
     have h3' : (next - 1) / length * length <= next - 1 := Int.ediv_mul_le _ (by omega)
     omega
    have hE0 : st <= Qez x.off length := by rw [he]; omega
    generalize Qez x.off length = E at *
    have hD : rowB E next ((x :: t).dropWhile fun y => decide (y.off < E)) = true := by
     rw [rowB_iff]
     have hsub : ((x :: t).dropWhile fun y => decide (y.off < E)).Sublist (x :: t) := List.dropWhile_sublist _
     refine ⟨?_, List.Pairwise.sublist hsub h2, by omega, by omega, h5, Nat.le_trans hsub.length_le h6⟩
     have key : ∀ (l : List It), up l -> ∀ y ∈ l.dropWhile (fun y => decide (y.off < E)), E <= y.off := by
      intro l
      induction l with
      | nil => intro _ y hy; simp at hy
      | cons z l ih =>
       intro hu y hy
       have hu' := List.pairwise_cons.1 hu
       by_cases hz : z.off < E
       . rw [List.dropWhile_cons_of_pos (by simpa using hz)] at hy
         exact ih hu'.2 y hy
       . rw [List.dropWhile_cons_of_neg (by simpa using hz)] at hy
         rcases List.mem_cons.1 hy with rfl | hy
         . omega
         . have := hu'.1 y hy; omega
     intro y hy
     have := h1 y (hsub.subset hy)
     exact ⟨this.1, key _ h2 y hy, this.2.2⟩
    have := right_trim next length keep hl hl' n E _ hD
    exact ⟨this.1, by omega⟩
  . exact ⟨h, Int.le_refl _⟩
def findFrom (l : List It) (off : Int) (n : Nat) : Option It := (l.drop n).find? fun x => decide (off <= x.off)
theorem Qhy {l : List It} {off : Int} {n : Nat} (h : l.length <= n) : findFrom l off n = none := by
 unfold findFrom; rw [List.drop_eq_nil_of_le h]; rfl
theorem Qhx {l : List It} {off : Int} {n : Nat} (h : n < l.length) (hx : off <= l[n].off) : findFrom l off n = some l[n] := by
 unfold findFrom; rw [List.drop_eq_getElem_cons h, List.find?_cons_of_pos (by simpa using hx)]
theorem Qgt {l : List It} {off : Int} {n : Nat} (h : n < l.length) (hx : ¬ off <= l[n].off) : findFrom l off n = findFrom l off (n + 1) := by
 unfold findFrom; rw [List.drop_eq_getElem_cons h, List.find?_cons_of_neg (by simpa using hx)]
def getIt (start : Int) (l : List It) (off : Int) : It := if off < start then It.zero else (findFrom l off 0).getD It.zero
def getHow (start : Int) (l : List It) (off : Int) : Int := if off < start then 1 else if (findFrom l off 0).isSome then 0 else 2
theorem specRowGet_any (start next off : Int) (A : Option Addr) (cap : Nat) (l : List It) (hl : l.length <= 1048576) (w : World) (hA : l = [] ∨ ∃ b o, A = some ⟨b, o, none⟩ /\ b < w.heap.size /\ In w b o l) :
 Calls Tryz.prog 102 #[.agg (Qaz start next A l.length cap), .int .i64 off] w
  fun e w' => e = .returned (.tuple #[(getIt start l off).v, .int .i64 (getHow start l off)]) /\ Below w.heap.size w w' := by
 by_cases h0 : off < start
 . have e1 : getIt start l off = It.zero := by simp [getIt, h0]
   have e2 : getHow start l off = 1 := by simp [getHow, h0]
   rw [e1, e2]
   go_enter Tryz.func102, Tryz.ntmps102
   go_wp2
   exact bodyPost_ret (v := .tuple #[It.zero.v, .int .i64 1]) (by simp [results, Tryz.results102, go_sem, It.zero, It.v]) rfl ⟨rfl, by repeat (first | exact Below.refl _ _ | assumption | refine via0 (by assumption) ?_ | refine Below.drew ?_ | refine Qaf ?_ _ | refine Below.setCell ?_ (by first | exact Nat.le_refl _ | (simp; done) | (simp; omega)) _)⟩
 . have e1 : getIt start l off = (findFrom l off 0).getD It.zero := by simp [getIt, h0]
   have e2 : getHow start l off = if (findFrom l off 0).isSome then 0 else 2 := by simp [getHow, h0]
   have E1 : Hid (getIt start l off = (findFrom l off 0).getD It.zero) := e1
   have E2 : Hid (getHow start l off = if (findFrom l off 0).isSome then 0 else 2) := e2
   have HA : Hid (l = [] ∨ ∃ b o, A = some ⟨b, o, none⟩ /\ b < w.heap.size /\ In w b o l) := hA
   clear hA e1 e2
   go_enter Tryz.func102, Tryz.ntmps102
   go_wp2
   go_loopw [6] (fun i w' => ∃ (n : Nat), i = .int .i64 (n : Int) /\ n <= l.length /\ w' = (w.alloc (.cells (Qaz start next A l.length cap) 118)).alloc (.cells Qc1 121) /\ Hid (findFrom l off n = findFrom l off 0)) (fun i _ => l.length - (intOf i).toNat)
   case atStart => exact ⟨0, rfl, by omega, rfl, rfl⟩
   case round =>
    obtain ⟨n, rfl, hn, rfl, hf⟩ := hrel
    by_cases hlt : n < l.length
    . obtain ⟨b, o, rfl, hbs, hin⟩ : ∃ b o, A = some ⟨b, o, none⟩ /\ b < w.heap.size /\ In w b o l := by
       rcases HA.out with h | h
       . subst h; simp at hlt
       . exact h
      obtain ⟨c0, c1, c2, c3, c4⟩ := hin.get n hlt
      by_cases hx : l[n].off >= off
      . have hF : Hid (findFrom l off 0 = some l[n]) := by show findFrom l off 0 = some l[n]; rw [← hf.out, Qhx hlt hx]
        go_wp2
        exact bodyPost_ret (v := .tuple #[l[n].v, .int .i64 0]) (by simp [results, Tryz.results102, go_sem, It.v]) rfl ⟨by rw [E1.out, E2.out, hF.out]; rfl, by repeat (first | exact Below.refl _ _ | assumption | refine via0 (by assumption) ?_ | refine Below.drew ?_ | refine Qaf ?_ _ | refine Below.setCell ?_ (by first | exact Nat.le_refl _ | (simp; done) | (simp; omega)) _)⟩
      . have hF : Hid (findFrom l off (n + 1) = findFrom l off 0) := by show findFrom l off (n + 1) = findFrom l off 0; rw [← hf.out, Qgt hlt hx]
        go_wp2
        exact ⟨⟨n + 1, by go_num, by omega, by first | trivial | rfl, hF⟩, by simp [intOf]; omega⟩
    . have hF : Hid (findFrom l off 0 = none) := by show findFrom l off 0 = none; rw [← hf.out, Qhy (by omega)]
      go_wp2
      exact bodyPost_ret (v := .tuple #[It.zero.v, .int .i64 2]) (by simp [results, Tryz.results102, go_sem, It.zero, It.v]) rfl ⟨by rw [E1.out, E2.out, hF.out]; rfl, by repeat (first | exact Below.refl _ _ | assumption | refine via0 (by assumption) ?_ | refine Below.drew ?_ | refine Qaf ?_ _ | refine Below.setCell ?_ (by first | exact Nat.le_refl _ | (simp; done) | (simp; omega)) _)⟩
theorem Qg0 (x : Int) : IntKind.i64.wrap x = wrap64 x := by rw [IntKind.wrap_i64]; unfold wrap64; rfl
def STrim (w wr : World) (B : Nat) (start next length keep : Int) (A : Option Addr) (cap : Nat) (l : List It) : Prop :=
  ∃ (m : List It) (st : Int) (a : Option Addr) (c n : Nat), Hid (Blk wr w.heap.size 118 (Qaz start next A l.length cap)) /\ Hid (Blk wr (w.heap.size + 1) 118 Qbx) /\ Hid (Blk wr B 118 (Qaz st next a m.length c)) /\
    Hid (wr.ownsRow (w.heap.size + 1 + 1) 121 5 (.slice a m.length c) m.length (flat m)) /\ Hid (some B ≠ (Value.slice a m.length c).ownBlock) /\ Hid (Below w.heap.size w wr) /\ Hid (m.length <= 80) /\ Hid (Qii m) /\ Hid (up m) /\ Hid (m.length <= n) /\ Hid (trimF next length keep n st m = trimF next length keep l.length start l)
theorem In.drop {w : World} {b o : Nat} : ∀ (j : Nat) {l : List It}, In w b o l -> In w b (o + j * 5) (l.drop j)
 | 0, l, h => by simpa using h
 | j + 1, [], h => by intro k v hv; simp [flat] at hv
 | j + 1, x :: l, h => by
  have := In.drop j h.tail
  rw [List.drop_succ_cons, show o + (j + 1) * 5 = o + 5 + j * 5 by omega]
  exact this
theorem Qib {w wr w3 : World} {start next length keep st : Int} {A : Option Addr} {cap : Nat} {l t D : List It} {x : It} {B c n c' k k' : Nat} {a a' : Option Addr} (h1 : 1 <= length) (h2 : length <= 9223372036854775807) (hoff : Qii (x :: t)) (hup : up (x :: t)) (hg : keep < ((x :: t).length : Int))
 (hv : ¬ wrap64 (x.off.tdiv length) = wrap64 ((wrap64 (next - 1)).tdiv length)) (hlen : lenAt wr B = t.length + 1) (hm : (x :: t).length <= 80) (hmn : (x :: t).length <= n)
 (hd : trimF next length keep n st (x :: t) = trimF next length keep l.length start l) (hBB : w.heap.size + 1 < B) (hD : D = (x :: t).dropWhile (fun y => decide (dv y.off length = dv x.off length))) (hk' : k' = D.length)
 (y0 : Blk w3 w.heap.size 118 (Qaz start next A l.length cap)) (y1 : Blk w3 (w.heap.size + 1) 118 Qbx) (y2 : Blk w3 B 118 (Qaz st next a k c))
 (hown : w3.ownsRow (w.heap.size + 1 + 1) 121 5 (.slice a' k' c') k' (flat D)) (hfar : some B ≠ (Value.slice a' k' c').ownBlock) (hB : Below w.heap.size w w3) :
 STrim w ((w3.setCell ⟨B, 2, none⟩ (.slice a' k' c')).setCell ⟨B, 0, none⟩ (.int .i64 (Qez x.off length))) B start next length keep A cap l /\
 lenAt ((w3.setCell ⟨B, 2, none⟩ (.slice a' k' c')).setCell ⟨B, 0, none⟩ (.int .i64 (Qez x.off length))) B < lenAt wr B := by
 subst hk'
 have hx := hoff x (by simp)
 have hsame := drop_same hup hoff h1 h2
 have hDt : D = t.dropWhile (fun y => decide (dv y.off length = dv x.off length)) := by rw [hD]; exact List.dropWhile_cons_of_pos (by simp)
 have hDl : D.length <= t.length := by rw [hDt]; exact drop_le _ _
 have z2 : Blk _ B 118 (Qaz (Qez x.off length) next a' D.length c') := (y2.setAt 2 (.slice a' D.length c')).setAt 0 (.int .i64 (Qez x.off length))
 refine ⟨⟨D, Qez x.off length, a', c', n - 1, (y0.other (by omega) _ _).other (by omega) _ _, (y1.other (by omega) _ _).other (by omega) _ _, z2, Qaj (Qaj hown hfar) hfar, hfar, Qal (Qal hB (by omega) _) (by omega) _, ?_, ?_, ?_, ?_, ?_⟩, ?_⟩
 . show _ <= _; simp at hm; omega
 . show Qii D
   rw [hD]; exact off_drop hoff _
 . show up D
   rw [hD]; exact up_drop hup _
 . show _ <= _; simp at hmn; omega
 . show _ = _
   rw [← hd]
   cases n with
   | zero => simp at hmn
   | succ n =>
    simp only [trimF]
    rw [if_pos ⟨hg, fun h => hv (by rw [Qg0] at h; exact h)⟩, hsame, ← hD]
    rfl
 . rw [lenAt_is z2.row.2.2, hlen]
   omega
theorem specRowTrim_yes (start next length keep : Int) (h1 : 1 <= length) (h2 : length <= 9223372036854775807) (hk : 0 <= keep) (A : Option Addr) (cap : Nat) (l : List It) (hl : l.length <= 1048576) (hs : ∀ x ∈ l, x.key.size <= 9223372036854775807 /\ x.text.size <= 9223372036854775807) (hn : I64 next)
 (hr : rowB start next l = true) (w : World) (hA : At w A l) :
 Calls Tryz.prog 103 #[.agg (Qaz start next A l.length cap), .int .i64 length, .int .i64 keep] w fun e w' => ∃ v, e = .returned (.agg #[.int .i64 (trimF next length keep l.length start l).1, .int .i64 next, v]) /\
  w'.ownsRow w.heap.size 121 5 v (trimF next length keep l.length start l).2.length (flat (trimF next length keep l.length start l).2) /\ Below w.heap.size w w' := by
 have HA : Hid (At w A l) := hA
 have Hs : Hid (∀ x ∈ l, x.key.size <= 9223372036854775807 /\ x.text.size <= 9223372036854775807) := hs
 have Hn : Hid (I64 next) := hn
 have HR := hidP hr
 have Hup := hidP (rowB_up hr)
 clear hA hs hn hr
 go_enter Tryz.func103, Tryz.ntmps103
 go_wp2_with fail
 refine (l3Copy_any start next A cap l (by omega) _ (HA.out.below (Qaf (Qaf (Below.refl _ w) _) _))).mono ?_
 rintro e w1 ⟨v, rfl, hown, g1⟩
 have B1 : Below w.heap.size w w1 := via0 g1 (Qaf (Qaf (Below.refl _ w) _) _)
 have p0 := ((Blk.new w 118 (Qaz start next A l.length cap)).alloc (.cells Qbx 118)).below g1 (by simp; omega)
 have p1 := (Blk.new (w.alloc (.cells (Qaz start next A l.length cap) 118)) 118 Qbx).below g1 (by simp)
 rw [World.size_alloc] at p1
 obtain ⟨a, c, rfl, hc⟩ := Qao hown
 simp only [World.size_alloc] at hown
 have Hown : Hid (w1.ownsRow (w.heap.size + 1 + 1) 121 5 (.slice a l.length c) l.length (flat l)) := hown
 clear hown hc
 obtain ⟨u0, u1, u2⟩ := p0.row
 have q0 := p0.lt
 have q1 := p1.lt
 have hx : ¬ length < 1 := by omega
 have hy : ¬ keep < 0 := by omega
 go_wp2_with fail
 refine (Qby start next _ _ l (by omega) Hs.out Hn.out.1 Hn.out.2 _ (HA.out.below (Qaf B1 _))).mono ?_
 rintro e w2 ⟨rfl, g2⟩
 rw [HR.out]
 have B2 : Below w.heap.size w w2 := via0 g2 (Qaf B1 _)
 have r0 := (p0.alloc (.cells (Qaz start next a l.length c) 118)).below g2 (p0.alloc _).lt
 have r1 := (p1.alloc (.cells (Qaz start next a l.length c) 118)).below g2 (p1.alloc _).lt
 have r2 := (Blk.new w1 118 (Qaz start next a l.length c)).below g2 (by simp)
 have far2 : some w1.heap.size ≠ (Value.slice a l.length c).ownBlock := fun h => by have := Qbw Hown.out h.symm; omega
 have S0 : Hid (STrim w w2 w1.heap.size start next length keep A cap l) :=
  ⟨l, start, a, c, l.length, r0, r1, r2, Qaq (Qav Hown.out _) g2, far2, B2, Hup.out.2.2, Hup.out.2.1, Hup.out.1, Nat.le_refl _, rfl⟩
 have hB1 : w.heap.size + 1 < w1.heap.size := q1
 clear u0 u1 u2 p0 p1 r0 r1 r2 far2 Hown g1 g2 B1 B2 q0 q1 HA
 generalize hBB : w1.heap.size = B at *
 clear hBB
 go_wp2_with fail
 go_loopw [] (fun wr => STrim w wr B start next length keep A cap l) (fun wr => lenAt wr B)
 case atStart => exact S0.out
 case round =>
  obtain ⟨m, st, a, c, n, b0, b1, b2, hown, hfar, hB, hm, hoff, hup, hmn, hd⟩ := hrel
  obtain ⟨v0, v1, v2⟩ := b0.out.row
  obtain ⟨c0, c1, c2⟩ := b2.out.row
  have q0 := b0.out.lt
  have q1 := b1.out.lt
  have q2 := b2.out.lt
  have hlen := lenAt_is c2
  obtain ⟨n0, n1, n2⟩ := b1.out.row
  have k0 := b1.out.thaw 0
  have k1 := b1.out.thaw 1
  have k2 := b1.out.thaw 2
  have far := hidP (Qay hown.out (show w.heap.size + 1 < w.heap.size + 1 + 1 by omega))
  by_cases hg : keep < (m.length : Int)
  . obtain ⟨x, t, rfl⟩ : ∃ x t, m = x :: t := by cases m with | nil => simp at hg; omega | cons x t => exact ⟨x, t, rfl⟩
    obtain ⟨b, o, rfl, hb, hin⟩ : ∃ b o, a = some ⟨b, o, none⟩ /\ b < wr.heap.size /\ In wr b o (x :: t) := (Qci hown.out).resolve_left (by simp)
    obtain ⟨x0, x1, x2, x3, x4⟩ := hin.get 0 (by simp)
    simp only [Nat.zero_mul, Nat.add_zero, List.getElem_cons_zero] at x0 x1 x2 x3 x4
    have Hin := hidP hin
    clear hin
    have hz : ¬ length = 0 := by omega
    have Hg := hidP hg
    simp only [List.length_cons] at hg hlen c2
    by_cases hv : wrap64 (x.off.tdiv length) = wrap64 ((wrap64 (next - 1)).tdiv length)
    . have E9 : Hid (trimF next length keep l.length start l = (st, x :: t)) := by
       show trimF next length keep l.length start l = (st, x :: t)
       rw [← hd.out]
       cases n with
       | zero => rfl
       | succ n => simp only [trimF]; rw [if_neg (fun h => h.2 (by rw [Qg0]; exact hv))]
      go_wp2
      have z : Blk _ (w.heap.size + 1) 118 (Qaz st next (some ⟨b, o, none⟩) (t.length + 1) c) := ((b1.out.setAt 0 (.int .i64 st)).setAt 1 (.int .i64 next)).setAt 2 (.slice (some ⟨b, o, none⟩) (t.length + 1) c)
      obtain ⟨e0, e1, e2⟩ := z.row
      exact bodyPost_ret (v := .agg (Qaz st next (some ⟨b, o, none⟩) (t.length + 1) c)) (by simp [results, Tryz.results103, go_sem, e0, e1, e2]) rfl
       ⟨_, by rw [E9.out], by rw [E9.out]; exact Qaw (Qaj (Qaj (Qaj hown.out far.out) far.out) far.out) (by omega), Qal (Qal (Qal hB.out (by omega) _) (by omega) _) (by omega) _⟩
    . have Hv := hidP hv
      go_wp2_with fail
      go_loopw [9] (fun k wr' => ∃ j : Nat, k = .int .i64 (j : Int) /\ j <= t.length + 1 /\ wr' = wr /\ Hid (((x :: t).drop j).dropWhile (fun y => decide (dv y.off length = dv x.off length)) = (x :: t).dropWhile (fun y => decide (dv y.off length = dv x.off length)))) (fun k _ => t.length + 1 - (intOf k).toNat)
      case atStart => exact ⟨0, rfl, by omega, rfl, rfl⟩
      case round =>
       obtain ⟨j, rfl, hj, rfl, hD⟩ := hrel
       by_cases hc : j < t.length + 1 /\ ∀ h : j < (x :: t).length, wrap64 (((x :: t)[j]).off.tdiv length) = wrap64 (x.off.tdiv length)
       . obtain ⟨hlt, hy⟩ := hc
         have hj0 : (0 : Int) <= (j : Int) := by omega
         have hj1 : (j : Int) < (t.length : Int) + 1 := by omega
         have hj2 : (j : Int) <= 1048576 := by have : t.length + 1 <= 80 := hm.out; omega
         have hjl : j < (x :: t).length := by simpa using hlt
         obtain ⟨y0, _, _, _, _⟩ := Hin.out.get j hjl
         have hy' := hy hjl
         have hD' : Hid (((x :: t).drop (j + 1)).dropWhile (fun y => decide (dv y.off length = dv x.off length)) = (x :: t).dropWhile (fun y => decide (dv y.off length = dv x.off length))) := by
          show _ = _
          rw [← hD.out, List.drop_eq_getElem_cons hjl, List.dropWhile_cons_of_pos (by exact decide_eq_true hy')]
         clear hD hy
         go_wp2
         exact ⟨⟨j + 1, by go_num, by omega, trivial, hD'⟩, by simp [intOf]; omega⟩
       . have hD' : Hid ((x :: t).drop j = (x :: t).dropWhile (fun y => decide (dv y.off length = dv x.off length))) := by
          show _ = _
          rw [← hD.out]
          by_cases hlt : j < (x :: t).length
          . rw [List.drop_eq_getElem_cons hlt, List.dropWhile_cons_of_neg]
            intro h
            exact hc ⟨by simpa using hlt, fun _ => of_decide_eq_true h⟩
          . rw [List.drop_eq_nil_of_le (by omega)]; rfl
         have Hc := hidP hc
         clear hD hc
         have hcl : t.length + 1 <= c := by
          rcases hown.out.2 with ⟨h, _⟩ | ⟨g', c1, cur, h, _, _, h', _⟩
          . cases h
          . cases h; exact h'
         generalize hDD : (x :: t).drop j = D at *
         have hDl : D.length = t.length + 1 - j := by rw [← hDD]; simp
         have hWB : Below w.heap.size w (wr.alloc (.cells #[] 121)) := Qaf hB.out _
         have hatD : At (wr.alloc (.cells #[] 121)) (if c = j then some ⟨b, o, none⟩ else some ⟨b, o + j * 5, none⟩) D := by
          by_cases h : c = j
          . left; exact List.length_eq_zero_iff.1 (by omega)
          . rw [if_neg h]
            by_cases h0 : D = []
            . exact .inl h0
            . exact .inr ⟨b, _, rfl, by simp; omega, by rw [← hDD]; exact (Hin.out.drop j).below hb (Qaf (Below.refl _ _) _)⟩
         obtain ⟨v', w3, hr, hown3, hgrow, hat⟩ := Qb8 (w.heap.size + 1 + 1) (.slice (some ⟨wr.heap.size, 0, none⟩) 0 0) [] D (if c = j then some ⟨b, o, none⟩ else some ⟨b, o + j * 5, none⟩) (c - j) (wr.alloc (.cells #[] 121)) (by simp; omega)
          ⟨rfl, .inr ⟨wr.heap.size, 0, #[], rfl, by omega, World.alloc_heap_new wr _, Nat.le_refl _, by simp [maxLen], rfl, rfl⟩⟩ hatD (by have := hm.out; simp at this ⊢; omega)
         simp only [List.length_nil, Nat.zero_add, List.nil_append] at hown3
         rw [hDl] at hr
         have Y0 := (b0.out.alloc (.cells #[] 121)).kept hgrow (by intro h; have : w.heap.size = wr.heap.size := Option.some.inj h; omega)
         have Y1 := (b1.out.alloc (.cells #[] 121)).kept hgrow (by intro h; have : w.heap.size + 1 = wr.heap.size := Option.some.inj h; omega)
         have Y2 := (b2.out.alloc (.cells #[] 121)).kept hgrow (by intro h; have : B = wr.heap.size := Option.some.inj h; omega)
         have B3 : Below w.heap.size w w3 := hWB.grown hgrow hWB.size (fun k e => by have : wr.heap.size = k := Option.some.inj e; omega)
         obtain ⟨a', c', rfl, _⟩ := Qao hown3
         have hfar3 : some B ≠ (Value.slice a' D.length c').ownBlock := by
          rcases hat with e | e
          . rw [e]; intro h; have : B = wr.heap.size := Option.some.inj h; omega
          . rw [e]; intro h; have := Option.some.inj h; simp at this; omega
         have RND := hidP (Qib h1 h2 hoff.out hup.out Hg.out Hv.out hlen hm.out hmn.out hd.out hB1 hD'.out hDl.symm Y0 Y1 Y2 (by rw [← hDl]; exact hown3) (by rw [← hDl]; exact hfar3) B3)
         obtain ⟨i0, i1, i2⟩ := Y2.row
         have j0 := Y2.thaw 0
         have j1 := Y2.thaw 1
         have j2 := Y2.thaw 2
         rw [hDl] at hr
         clear hgrow hat hown3 hfar3 hatD hWB B3 Y0 Y1 Y2 hDD hDl hD'
         by_cases hcj : c = j
         . rw [if_pos hcj] at hr
           have hlt : ¬ j < t.length + 1 := by omega
           have hj' : j = t.length + 1 := by omega
           have hc' : c = t.length + 1 := by omega
           clear hcj hj hcl
           subst hj' hc'
           have RND' := RND.out
           rw [Nat.sub_self] at hr RND'
           have RND2 := hidP RND'
           clear RND RND'
           go_wp2_with (at_builtin; refine Qae rfl _ _ _ rfl _ _ _ rfl rfl hr ?_)
           exact RND2.out
         . rw [if_neg hcj] at hr
           by_cases hlt : j < t.length + 1
           . have hj0 : (0 : Int) <= (j : Int) := by omega
             have hj1 : (j : Int) < (t.length : Int) + 1 := by omega
             obtain ⟨y0, _, _, _, _⟩ := Hin.out.get j (by simpa using hlt)
             have hy' : ¬ wrap64 (((x :: t)[j]'(by simpa using hlt)).off.tdiv length) = wrap64 (x.off.tdiv length) := fun h => Hc.out ⟨hlt, fun _ => h⟩
             go_wp2_with (at_builtin; refine Qae rfl _ _ _ rfl _ _ _ rfl rfl hr ?_)
             exact RND.out
           . go_wp2_with (at_builtin; refine Qae rfl _ _ _ rfl _ _ _ rfl rfl hr ?_)
             exact RND.out
  . have E9 : Hid (trimF next length keep l.length start l = (st, m)) := by
     show trimF next length keep l.length start l = (st, m)
     rw [← hd.out]
     cases n with
     | zero => rfl
     | succ n => cases m with
      | nil => rfl
      | cons y t => simp only [trimF]; rw [if_neg (fun h => by have := h.1; omega)]
    go_wp2
    have z : Blk _ (w.heap.size + 1) 118 (Qaz st next a m.length c) := ((b1.out.setAt 0 (.int .i64 st)).setAt 1 (.int .i64 next)).setAt 2 (.slice a m.length c)
    obtain ⟨e0, e1, e2⟩ := z.row
    exact bodyPost_ret (v := .agg (Qaz st next a m.length c)) (by simp [results, Tryz.results103, go_sem, e0, e1, e2]) rfl
     ⟨_, by rw [E9.out], by rw [E9.out]; exact Qaw (Qaj (Qaj (Qaj hown.out far.out) far.out) far.out) (by omega), Qal (Qal (Qal hB.out (by omega) _) (by omega) _) (by omega) _⟩
theorem Qe2 (start next : Int) (i : Nat) (A : Option Addr) (cap : Nat) (l : List It) (hl : l.length <= 1048576) (hi : i < l.length) (w : World) (hA : At w A l) :
 Calls Tryz.prog 113 #[.agg (Qaz start next A l.length cap), .int .i64 (i : Int)] w fun e w' => e = .returned (.bool (Qde l[i].key.toList (l.drop (i + 1)))) /\ Below w.heap.size w w' := by
 obtain ⟨b, o, rfl, hb, hin⟩ : ∃ b o, A = some ⟨b, o, none⟩ /\ b < w.heap.size /\ In w b o l := hA.resolve_left (fun h => by rw [h] at hi; simp at hi)
 have Hin := hidP hin
 clear hA hin
 have hi0 : (0 : Int) <= (i : Int) := by omega
 have hi1 : (i : Int) < (l.length : Int) := by omega
 have hi2 : (i : Int) <= 1048576 := by omega
 go_enter Tryz.func113, Tryz.ntmps113
 go_wp2
 have P0 := Blk.new w 118 (Qaz start next (some ⟨b, o, none⟩) l.length cap)
 go_loopw [5] (fun k w' => ∃ n : Nat, k = .int .i64 (n : Int) /\ i + 1 <= n /\ n <= l.length /\ Hid (Blk w' w.heap.size 118 (Qaz start next (some ⟨b, o, none⟩) l.length cap)) /\ Below w.heap.size w w' /\ Hid (Qde l[i].key.toList (l.drop n) = Qde l[i].key.toList (l.drop (i + 1)))) (fun k _ => l.length - (intOf k).toNat)
 case atStart => exact ⟨i + 1, by go_num, Nat.le_refl _, hi, P0, Qaf (Below.refl _ _) _, rfl⟩
 case round =>
  obtain ⟨n, rfl, hn1, hn2, b0, hbl, hk⟩ := hrel
  obtain ⟨s0, s1, s2⟩ := b0.out.row
  by_cases hlt : n < l.length
  . have hn0 : (0 : Int) <= (n : Int) := by omega
    have hn3 : (n : Int) < (l.length : Int) := by omega
    obtain ⟨c0, c1, c2, c3, c4⟩ := (Hin.out.below hb hbl).get n hlt
    obtain ⟨d0, d1, d2, d3, d4⟩ := (Hin.out.below hb hbl).get i hi
    have hst := Qis (key := l[i].key.toList) hlt
    by_cases hx : l[n].key.toList = l[i].key.toList
    . have hF : Hid (Qde l[i].key.toList (l.drop (i + 1)) = true) := by show _ = _; rw [← hk.out, hst]; simp [hx]
      have hx' : (l[n].key.toList == l[i].key.toList) = true := by simpa using hx
      clear hst hx
      go_wp2
      go_region_held3 (fun w' => w'.cell? ⟨w.heap.size, 2, none⟩ = some (.slice (some ⟨b, o, none⟩) l.length cap) /\ w'.cell? ⟨b, o + n * 5 + 1, none⟩ = some (.string l[n].key) /\ w'.cell? ⟨b, o + i * 5 + 1, none⟩ = some (.string l[i].key)) (first | exact ⟨s2, c1, d1⟩ | go_keep) (fail)
      all_goals
       go_wp2
       go_ret
       exact ⟨by rw [hF.out]; rfl, hbl.drew⟩
    . have hx' : (l[n].key.toList == l[i].key.toList) = false := by simpa using hx
      have hF : Hid (Qde l[i].key.toList (l.drop (n + 1)) = Qde l[i].key.toList (l.drop (i + 1))) := by show _ = _; rw [← hk.out, hst, hx']; rfl
      clear hst hx
      go_wp2
      go_region_held3 (fun w' => w'.cell? ⟨w.heap.size, 2, none⟩ = some (.slice (some ⟨b, o, none⟩) l.length cap) /\ w'.cell? ⟨b, o + n * 5 + 1, none⟩ = some (.string l[n].key) /\ w'.cell? ⟨b, o + i * 5 + 1, none⟩ = some (.string l[i].key)) (first | exact ⟨s2, c1, d1⟩ | go_keep) (fail)
      all_goals
       go_wp2
       exact ⟨⟨n + 1, by go_num, by omega, by omega, b0.out.drew, hbl.drew, hF⟩, by simp [intOf]; omega⟩
  . have hF : Hid (Qde l[i].key.toList (l.drop (i + 1)) = false) := by show _ = _; rw [← hk.out, List.drop_eq_nil_of_le (by omega)]; rfl
    go_wp2
    go_ret
    exact ⟨by rw [hF.out]; rfl, hbl⟩
theorem specPack_no (start next length : Int) (A : Option Addr) (cap : Nat) (l : List It) (hl : l.length <= 1048576) (hs : ∀ x ∈ l, x.key.size <= 9223372036854775807 /\ x.text.size <= 9223372036854775807) (hn : I64 next)
 (h1 : packB start next length l = false) (w : World) (hA : At w A l) :
 Calls Tryz.prog 104 #[.agg (Qaz start next A l.length cap), .int .i64 length] w fun e w' => ∃ v, e = .returned (.agg #[.int .i64 start, .int .i64 next, v]) /\ w'.ownsRow w.heap.size 121 5 v l.length (flat l) /\ Below w.heap.size w w' := by
 have HA : Hid (At w A l) := hA
 have Hs := hidP hs
 have Hn := hidP hn
 clear hA hs hn
 have B0 : Below w.heap.size w ((w.alloc (.cells (Qaz start next A l.length cap) 118)).alloc (.cells Qbx 118)) := Qaf (Qaf (Below.refl _ _) _) _
 have p0 := (Blk.new w 118 (Qaz start next A l.length cap)).alloc (.cells Qbx 118)
 have p1 := Blk.new (w.alloc (.cells (Qaz start next A l.length cap) 118)) 118 Qbx
 rw [World.size_alloc] at p1
 have tail : ∀ w1 : World, Below w.heap.size w w1 -> Blk w1 (w.heap.size + 1) 118 Qbx -> Calls Tryz.prog 88 #[.agg (Qaz start next A l.length cap)] w1 fun e w2 => ∃ a c, e = .returned (.agg (Qaz start next a l.length c)) /\ Hid (w2.ownsRow w1.heap.size 121 5 (.slice a l.length c) l.length (flat l)) /\ Hid (Below w.heap.size w w2) /\ Hid (Blk w2 (w.heap.size + 1) 118 Qbx) /\ Hid (some (w.heap.size + 1) ≠ (Value.slice a l.length c).ownBlock) := by
  intro w1 hw b1
  refine (l3Copy_any start next A cap l hl _ (HA.out.below hw)).mono ?_
  rintro e w2 ⟨v, rfl, hown, g2⟩
  obtain ⟨a, c, rfl, _⟩ := Qao hown
  exact ⟨a, c, rfl, hown, via0 g2 hw, b1.below g2 b1.lt, Qay hown b1.lt⟩
 have Tail := hidP tail
 clear tail
 by_cases hx : length < 1
 . go_enter Tryz.func104, Tryz.ntmps104
   go_wp2_with fail
   refine (Tail.out _ B0 p1).mono ?_
   rintro e w2 ⟨a, c, rfl, Hown, B2, z1, Far⟩
   obtain ⟨n0, n1, n2⟩ := z1.out.row
   have k0 := z1.out.thaw 0
   have k1 := z1.out.thaw 1
   have k2 := z1.out.thaw 2
   go_wp2
   have z : Blk _ (w.heap.size + 1) 118 (Qaz start next a l.length c) := ((z1.out.setAt 0 (.int .i64 start)).setAt 1 (.int .i64 next)).setAt 2 (.slice a l.length c)
   obtain ⟨e0, e1, e2⟩ := z.row
   exact bodyPost_ret (v := .agg (Qaz start next a l.length c)) (by simp [results, Tryz.results104, go_sem, e0, e1, e2]) rfl
    ⟨_, rfl, Qaw (Qaj (Qaj (Qaj Hown.out Far.out) Far.out) Far.out) B0.size, Qal (Qal (Qal B2.out (by omega) _) (by omega) _) (by omega) _⟩
 have hr : rowB start next l = false := by
  simp only [packB, Bool.and_eq_false_iff, decide_eq_false_iff_not] at h1
  rcases h1 with h | h
  . omega
  . exact h
 have HR := hidP hr
 clear hr h1
 go_enter Tryz.func104, Tryz.ntmps104
 go_wp2_with fail
 refine (Qby start next A cap l (by omega) Hs.out Hn.out.1 Hn.out.2 _ (HA.out.below B0)).mono ?_
 rintro e w1 ⟨rfl, g1⟩
 rw [HR.out]
 have B1 : Below w.heap.size w w1 := via0 g1 B0
 have r0 := p0.below g1 p0.lt
 have r1 := p1.below g1 p1.lt
 obtain ⟨u0, u1, u2⟩ := r0.row
 go_wp2_with fail
 refine (Tail.out _ B1 r1).mono ?_
 rintro e w2 ⟨a, c, rfl, Hown, B2, z1, Far⟩
 obtain ⟨n0, n1, n2⟩ := z1.out.row
 have k0 := z1.out.thaw 0
 have k1 := z1.out.thaw 1
 have k2 := z1.out.thaw 2
 clear u0 u1 u2
 go_wp2
 have z : Blk _ (w.heap.size + 1) 118 (Qaz start next a l.length c) := ((z1.out.setAt 0 (.int .i64 start)).setAt 1 (.int .i64 next)).setAt 2 (.slice a l.length c)
 obtain ⟨e0, e1, e2⟩ := z.row
 exact bodyPost_ret (v := .agg (Qaz start next a l.length c)) (by simp [results, Tryz.results104, go_sem, e0, e1, e2]) rfl
  ⟨_, rfl, Qaw (Qaj (Qaj (Qaj Hown.out Far.out) Far.out) Far.out) B1.size, Qal (Qal (Qal B2.out (by omega) _) (by omega) _) (by omega) _⟩
def SPack (w wr : World) (B : Nat) (start next length : Int) (A : Option Addr) (cap : Nat) (l : List It) (n : Nat) : Prop :=
  ∃ (M : List It) (a : Option Addr) (c : Nat), Blk wr w.heap.size 118 (Qaz start next A l.length cap) /\ Blk wr (w.heap.size + 1) 118 Qbx /\ Blk wr B 118 (Qaz start next a M.length c) /\
    wr.ownsRow (w.heap.size + 1 + 1) 121 5 (.slice a M.length c) M.length (flat M) /\ some B ≠ (Value.slice a M.length c).ownBlock /\ Below w.heap.size w wr /\ M.length <= n /\ M ++ packF (IntKind.i64.wrap (next - 1)) length (l.drop n) = packF (IntKind.i64.wrap (next - 1)) length l
theorem specPack_yes (start next length : Int) (A : Option Addr) (cap : Nat) (l : List It) (hl : l.length <= 1048576) (hs : ∀ x ∈ l, x.key.size <= 9223372036854775807 /\ x.text.size <= 9223372036854775807) (hn : I64 next)
 (h1 : packB start next length l = true) (w : World) (hA : At w A l) :
 Calls Tryz.prog 104 #[.agg (Qaz start next A l.length cap), .int .i64 length] w fun e w' => ∃ v, e = .returned (.agg #[.int .i64 start, .int .i64 next, v]) /\ w'.ownsRow w.heap.size 121 5 v (packF (IntKind.i64.wrap (next - 1)) length l).length (flat (packF (IntKind.i64.wrap (next - 1)) length l)) /\ Below w.heap.size w w' := by
 have HA : Hid (At w A l) := hA
 have Hs := hidP hs
 have Hn := hidP hn
 simp only [packB, Bool.and_eq_true, decide_eq_true_eq] at h1
 obtain ⟨h1, hr⟩ := h1
 have HR := hidP hr
 clear hA hs hn hr
 have B0 : Below w.heap.size w ((w.alloc (.cells (Qaz start next A l.length cap) 118)).alloc (.cells Qbx 118)) := Qaf (Qaf (Below.refl _ _) _) _
 have p0 := (Blk.new w 118 (Qaz start next A l.length cap)).alloc (.cells Qbx 118)
 have p1 := Blk.new (w.alloc (.cells (Qaz start next A l.length cap) 118)) 118 Qbx
 rw [World.size_alloc] at p1
 have hx : ¬ length < 1 := by omega
 have hz : ¬ length = 0 := by omega
 go_enter Tryz.func104, Tryz.ntmps104
 go_wp2_with fail
 refine (Qby start next A cap l (by omega) Hs.out Hn.out.1 Hn.out.2 _ (HA.out.below B0)).mono ?_
 rintro e w1 ⟨rfl, g1⟩
 rw [HR.out]
 have B1 : Below w.heap.size w w1 := via0 g1 B0
 have r0 := p0.below g1 p0.lt
 have r1 := p1.below g1 p1.lt
 have q1 := r1.lt
 obtain ⟨u0, u1, u2⟩ := r0.row
 go_wp2_with fail
 have S0 : Hid (SPack w (w1.alloc (.cells (Qaz start next none 0 0) 118)) w1.heap.size start next length A cap l 0) :=
  ⟨[], none, 0, r0.alloc _, r1.alloc _, Blk.new w1 _ _, World.ownsRow_nil _ _ _ _, by simp [Value.ownBlock], Qaf B1 _, Nat.le_refl _, by simp⟩
 generalize w1.alloc (.cells (Qaz start next none 0 0) 118) = W0 at *
 generalize hBB : w1.heap.size = B at *
 have hB1 : w.heap.size + 1 < B := q1
 clear hBB u0 u1 u2 r0 r1 p0 p1 B0 B1 g1 q1
 go_loopw [6] (fun i wr => ∃ n : Nat, i = .int .i64 (n : Int) /\ n <= l.length /\ SPack w wr B start next length A cap l n) (fun i _ => l.length - (intOf i).toNat)
 case atStart => exact ⟨0, rfl, by omega, S0.out⟩
 case round =>
  obtain ⟨n, rfl, hn, M, a, c, b0, b1, bB, hown, hfar, hB, hM, hpk⟩ := hrel
  have hpk := hidP hpk
  have hown := hidP hown
  have hB := hidP hB
  obtain ⟨v0, v1, v2⟩ := b0.row
  obtain ⟨m0, m1, m2⟩ := bB.row
  by_cases hlt : n < l.length
  . obtain ⟨b, o, rfl, hb, hin⟩ : ∃ b o, A = some ⟨b, o, none⟩ /\ b < w.heap.size /\ In w b o l := HA.out.resolve_left (fun h => by rw [h] at hlt; simp at hlt)
    have Hin := hidP hin
    obtain ⟨x0, x1, x2, x3, x4⟩ := (hin.below hb hB.out).get n hlt
    have hi0 : (0 : Int) <= (n : Int) := by omega
    have hi1 : (n : Int) < (l.length : Int) := by omega
    clear hin
    go_wp2_with fail
    have bX := Blk.new wr 121 (Qba l[n].off l[n].key l[n].text l[n].who l[n].time)
    have HB1 := hidP (Qaf hB.out (.cells (Qba l[n].off l[n].key l[n].text l[n].who l[n].time) 121))
    have Hown := hidP (Qav hown.out (.cells (Qba l[n].off l[n].key l[n].text l[n].who l[n].time) 121))
    have b0 := b0.alloc (.cells (Qba l[n].off l[n].key l[n].text l[n].who l[n].time) 121)
    have b1 := b1.alloc (.cells (Qba l[n].off l[n].key l[n].text l[n].who l[n].time) 121)
    have bB := bB.alloc (.cells (Qba l[n].off l[n].key l[n].text l[n].who l[n].time) 121)
    generalize wr.alloc (.cells (Qba l[n].off l[n].key l[n].text l[n].who l[n].time) 121) = W1 at *
    generalize hXX : wr.heap.size = X at *
    clear v0 v1 v2 m0 m1 m2 x0 x1 x2 x3 x4 hXX
    obtain ⟨v0, v1, v2⟩ := b0.row
    obtain ⟨x0, x1, x2, x3, x4⟩ := bX.item
    have qX := bX.lt
    have q0 := b0.lt
    have SE : Hid ((fun w' => w'.cell? ⟨w.heap.size, 0, none⟩ = some (.int .i64 start) /\ w'.cell? ⟨w.heap.size, 1, none⟩ = some (.int .i64 next) /\ w'.cell? ⟨w.heap.size, 2, none⟩ = some (.slice (some ⟨b, o, none⟩) l.length cap) /\ w'.cell? ⟨X, 0, none⟩ = some (.int .i64 l[n].off) /\ w'.cell? ⟨X, 1, none⟩ = some (.string l[n].key)) W1.drew) := ⟨v0, v1, v2, x0, x1⟩
    have SK : ∀ w2, Below W1.drew.heap.size W1.drew w2 -> (fun w' => w'.cell? ⟨w.heap.size, 0, none⟩ = some (.int .i64 start) /\ w'.cell? ⟨w.heap.size, 1, none⟩ = some (.int .i64 next) /\ w'.cell? ⟨w.heap.size, 2, none⟩ = some (.slice (some ⟨b, o, none⟩) l.length cap) /\ w'.cell? ⟨X, 0, none⟩ = some (.int .i64 l[n].off) /\ w'.cell? ⟨X, 1, none⟩ = some (.string l[n].key)) w2 := fun w2 g => by
     obtain ⟨k1, _⟩ := Qfa g
     exact ⟨(k1 _ _ q0).trans v0, (k1 _ _ q0).trans v1, (k1 _ _ q0).trans v2, (k1 _ _ qX).trans x0, (k1 _ _ qX).trans x1⟩
    by_cases hE : l[n].key.toList = []
    . have G : Hid (l[n].key.toList.isEmpty = true) := by show _ = _; simp [hE]
      have HST : Hid (Qdg (IntKind.i64.wrap (next - 1)) length l[n] (l.drop (n + 1)) = true) := by show _ = _; simp [Qdg, hE]
      clear hE
      refine wp_region_noPanic ?_
      refine wp_region_held_drew (S := fun w' => w'.cell? ⟨w.heap.size, 0, none⟩ = some (.int .i64 start) /\ w'.cell? ⟨w.heap.size, 1, none⟩ = some (.int .i64 next) /\ w'.cell? ⟨w.heap.size, 2, none⟩ = some (.slice (some ⟨b, o, none⟩) l.length cap) /\ w'.cell? ⟨X, 0, none⟩ = some (.int .i64 l[n].off) /\ w'.cell? ⟨X, 1, none⟩ = some (.string l[n].key)) (by kernel_rfl) ?_ (fun hH => ?_)
      . exact SE.out
      refine ztk [0,1] ?_; repeat (refine ztn (h := ?_); try simp only [zX,zY])
      refine zte ?_
      refine' wpAnyH_take (i := 2) (v := _) rfl (by kernel_rfl) (by kernel_rfl) (by kernel_rfl) (fun _ _ _ h => h) (Or.inl ⟨by rfl, ?hy3⟩) (by assumption) ?rest3
      case hy3 => (intro w hSw; (try dsimp only at hSw); go_simp<;>((first | rw [G.out] | simp only [G.out] | skip)<;>with_reducible rfl))
      try simp only [zX,zY]
      refine ztk [3,4,5,6,7,8,9,10,11,12,13,14,15,16,17,18,19,20] ?_; repeat ((first | refine ztn (h := ?_) | refine ztu (h := ?_)); try simp only [zX,zY])
      refine zte ?_
      refine zdn ?_
      have c0 := b0.drew
      have c1 := b1.drew
      have cB := bB.drew
      have cX := bX.drew
      have HOW : Hid (W1.drew.ownsRow (w.heap.size + 1 + 1) 121 5 (.slice a M.length c) M.length (flat M)) := Hown.out
      have HB2 := hidP HB1.out.drew
      generalize W1.drew = W2 at *
      clear SE SK
      obtain ⟨m0, m1, m2⟩ := cB.row
      obtain ⟨x0, x1, x2, x3, x4⟩ := cX.item
      have th := cB.thaw 2
      have qB := cB.lt
      have qX := cX.lt
      have q0 := c0.lt
      have q1 := c1.lt
      have bx := Blk.new W2 121 (Qba l[n].off l[n].key l[n].text l[n].who l[n].time)
      have far0 : some w.heap.size ≠ (Value.slice a M.length c).ownBlock := Qay HOW.out (by omega)
      have far1 : some (w.heap.size + 1) ≠ (Value.slice a M.length c).ownBlock := Qay HOW.out (by omega)
      obtain ⟨v', w3, hr, hown3, hgrow, hat⟩ := Qb8 (w.heap.size + 1 + 1) (.slice a M.length c) M [l[n]] (some ⟨W2.heap.size, 0, none⟩) 1 (W2.alloc (.cells (Qba l[n].off l[n].key l[n].text l[n].who l[n].time) 121)) (by simp; omega) (Qav HOW.out _) (.inr ⟨W2.heap.size, 0, rfl, by simp, fun j u hu => bx.cell (i := 0 + j) (by simpa [flat, It.cs] using hu)⟩) (by simp; omega)
      simp only [List.length_cons, List.length_nil, Nat.zero_add] at hown3 hr
      obtain ⟨a', c', rfl, _⟩ := Qao hown3
      have sz2 : (W2.alloc (.cells (Qba l[n].off l[n].key l[n].text l[n].who l[n].time) 121)).heap.size = W2.heap.size + 1 := World.size_alloc _ _
      have farB : some B ≠ (Value.slice a' (M.length + 1) c').ownBlock := by
       rcases hat with e | e
       . rw [e]; exact hfar
       . rw [e, sz2]; intro h; have : B = W2.heap.size + 1 := Option.some.inj h; omega
      have e0 := (c0.alloc _).kept hgrow far0
      have e1 := (c1.alloc _).kept hgrow far1
      have eB := (cB.alloc _).kept hgrow hfar
      have B3 := hidP ((Qaf HB2.out _).grown hgrow (Qaf HB2.out _).size (fun k e => Nat.le_of_not_lt fun h => Qay HOW.out (show k < w.heap.size + 1 + 1 by omega) e.symm))
      have Hown3 := hidP hown3
      obtain ⟨i0, i1, i2⟩ := eB.row
      have th3 := eB.thaw 2
      clear hgrow hat hown3 bx far0 far1
      go_wp2_with (at_builtin; refine Qae rfl _ _ _ rfl _ _ _ rfl rfl hr ?_)
      have zB : Blk _ B 118 (Qaz start next a' (M.length + 1) c') := eB.setAt 2 (.slice a' (M.length + 1) c')
      have el : (M ++ [l[n]]).length = M.length + 1 := by simp
      refine ⟨⟨n + 1, by go_num, by omega, M ++ [l[n]], a', c', e0.other (by omega) _ _, e1.other (by omega) _ _, by rw [el]; exact zB, by rw [el]; exact Qaj Hown3.out farB, by rw [el]; exact farB, Qal B3.out (by omega) _, by rw [el]; omega, ?_⟩, by simp [intOf]; omega⟩
      rw [List.append_assoc, List.singleton_append, ← Qfl hlt HST.out]
      exact hpk.out
    have G : Hid (l[n].key.toList.isEmpty = false) := by show _ = _; simpa using hE
    have Gq : Hid ((l[n].key.toList == []) = false) := by show _ = _; simpa using hE
    cases hK : Qde l[n].key.toList (l.drop (n + 1))
    . have HK := hidP hK
      have HST : Hid (Qdg (IntKind.i64.wrap (next - 1)) length l[n] (l.drop (n + 1)) = true) := by show _ = _; simp [Qdg, hK]
      clear hE hK
      refine wp_region_noPanic ?_
      refine wp_region_held_drew (S := fun w' => w'.cell? ⟨w.heap.size, 0, none⟩ = some (.int .i64 start) /\ w'.cell? ⟨w.heap.size, 1, none⟩ = some (.int .i64 next) /\ w'.cell? ⟨w.heap.size, 2, none⟩ = some (.slice (some ⟨b, o, none⟩) l.length cap) /\ w'.cell? ⟨X, 0, none⟩ = some (.int .i64 l[n].off) /\ w'.cell? ⟨X, 1, none⟩ = some (.string l[n].key)) (by kernel_rfl) ?_ (fun hH => ?_)
      . exact SE.out
      refine ztk [0,1] ?_; repeat (refine ztn (h := ?_); try simp only [zX,zY])
      refine zte ?_
      refine' wpAnyH_take (i := 2) (v := _) rfl (by kernel_rfl) (by kernel_rfl) (by kernel_rfl) (fun _ _ _ h => h) (Or.inl ⟨by rfl, ?hy10⟩) (by assumption) ?rest10
      case hy10 => (intro w hSw; (try dsimp only at hSw); go_simp<;>((first | rw [G.out] | simp only [G.out] | skip)<;>with_reducible rfl))
      try simp only [zX,zY]
      refine ztk [3,4,5] ?_; repeat (refine ztn (h := ?_); try simp only [zX,zY])
      refine zte ?_
      refine zR1 6 (fun K hK => ?_)
      simp only [zG]
      go_simp
      (go_at_call 113; refine (Qe2 start next n (some ⟨b, o, none⟩) cap l (by omega) hlt _ (.inr ⟨b, o, rfl, Nat.lt_of_lt_of_le hb HB1.out.drew.size, Hin.out.below hb HB1.out.drew⟩)).mono ?_; rw [HK.out]; rintro e w2 ⟨rfl, g2⟩)
      refine hK.out _ _ (SK w2 g2) fun hH => ?_; clear hK K; try simp only [zX,zY]
      refine ztk [7,8,9,10,11,12,13,14,15,16,17,18,19,20] ?_; repeat ((first | refine ztn (h := ?_) | refine ztu (h := ?_)); try simp only [zX,zY])
      refine zte ?_
      refine zdn ?_
      have c0 := b0.drew.below g2 b0.drew.lt
      have c1 := b1.drew.below g2 b1.drew.lt
      have cB := bB.drew.below g2 bB.drew.lt
      have cX := bX.drew.below g2 bX.drew.lt
      have HOW : Hid (w2.ownsRow (w.heap.size + 1 + 1) 121 5 (.slice a M.length c) M.length (flat M)) := Qaq (show W1.drew.ownsRow _ _ _ _ _ _ from Hown.out) g2
      have HB2 := hidP (via0 g2 HB1.out.drew)
      generalize w2 = W2 at *
      clear SE SK
      obtain ⟨m0, m1, m2⟩ := cB.row
      obtain ⟨x0, x1, x2, x3, x4⟩ := cX.item
      have th := cB.thaw 2
      have qB := cB.lt
      have qX := cX.lt
      have q0 := c0.lt
      have q1 := c1.lt
      have bx := Blk.new W2 121 (Qba l[n].off l[n].key l[n].text l[n].who l[n].time)
      have far0 : some w.heap.size ≠ (Value.slice a M.length c).ownBlock := Qay HOW.out (by omega)
      have far1 : some (w.heap.size + 1) ≠ (Value.slice a M.length c).ownBlock := Qay HOW.out (by omega)
      obtain ⟨v', w3, hr, hown3, hgrow, hat⟩ := Qb8 (w.heap.size + 1 + 1) (.slice a M.length c) M [l[n]] (some ⟨W2.heap.size, 0, none⟩) 1 (W2.alloc (.cells (Qba l[n].off l[n].key l[n].text l[n].who l[n].time) 121)) (by simp; omega) (Qav HOW.out _) (.inr ⟨W2.heap.size, 0, rfl, by simp, fun j u hu => bx.cell (i := 0 + j) (by simpa [flat, It.cs] using hu)⟩) (by simp; omega)
      simp only [List.length_cons, List.length_nil, Nat.zero_add] at hown3 hr
      obtain ⟨a', c', rfl, _⟩ := Qao hown3
      have sz2 : (W2.alloc (.cells (Qba l[n].off l[n].key l[n].text l[n].who l[n].time) 121)).heap.size = W2.heap.size + 1 := World.size_alloc _ _
      have farB : some B ≠ (Value.slice a' (M.length + 1) c').ownBlock := by
       rcases hat with e | e
       . rw [e]; exact hfar
       . rw [e, sz2]; intro h; have : B = W2.heap.size + 1 := Option.some.inj h; omega
      have e0 := (c0.alloc _).kept hgrow far0
      have e1 := (c1.alloc _).kept hgrow far1
      have eB := (cB.alloc _).kept hgrow hfar
      have B3 := hidP ((Qaf HB2.out _).grown hgrow (Qaf HB2.out _).size (fun k e => Nat.le_of_not_lt fun h => Qay HOW.out (show k < w.heap.size + 1 + 1 by omega) e.symm))
      have Hown3 := hidP hown3
      obtain ⟨i0, i1, i2⟩ := eB.row
      have th3 := eB.thaw 2
      clear hgrow hat hown3 bx far0 far1
      go_wp2_with (at_builtin; refine Qae rfl _ _ _ rfl _ _ _ rfl rfl hr ?_)
      have zB : Blk _ B 118 (Qaz start next a' (M.length + 1) c') := eB.setAt 2 (.slice a' (M.length + 1) c')
      have el : (M ++ [l[n]]).length = M.length + 1 := by simp
      refine ⟨⟨n + 1, by go_num, by omega, M ++ [l[n]], a', c', e0.other (by omega) _ _, e1.other (by omega) _ _, by rw [el]; exact zB, by rw [el]; exact Qaj Hown3.out farB, by rw [el]; exact farB, Qal B3.out (by omega) _, by rw [el]; omega, ?_⟩, by simp [intOf]; omega⟩
      rw [List.append_assoc, List.singleton_append, ← Qfl hlt HST.out]
      exact hpk.out
    have HK := hidP hK
    cases hV : (dv l[n].off length == dv (IntKind.i64.wrap (next - 1)) length)
    . have HV : Hid ((IntKind.i64.wrap (l[n].off.tdiv length) == IntKind.i64.wrap ((IntKind.i64.wrap (next - 1)).tdiv length)) = false) := by show _ = _; rw [wrapq (l[n].off.tdiv length), wrapq ((IntKind.i64.wrap (next - 1)).tdiv length)]; exact hV
      have HST : Hid (Qdg (IntKind.i64.wrap (next - 1)) length l[n] (l.drop (n + 1)) = false) := by show _ = _; simp only [Qdg, hK, hV, Gq.out]; rfl
      clear hE hK hV
      refine wp_region_noPanic ?_
      refine wp_region_held_drew (S := fun w' => w'.cell? ⟨w.heap.size, 0, none⟩ = some (.int .i64 start) /\ w'.cell? ⟨w.heap.size, 1, none⟩ = some (.int .i64 next) /\ w'.cell? ⟨w.heap.size, 2, none⟩ = some (.slice (some ⟨b, o, none⟩) l.length cap) /\ w'.cell? ⟨X, 0, none⟩ = some (.int .i64 l[n].off) /\ w'.cell? ⟨X, 1, none⟩ = some (.string l[n].key)) (by kernel_rfl) ?_ (fun hH => ?_)
      . exact SE.out
      refine ztk [0,1] ?_; repeat (refine ztn (h := ?_); try simp only [zX,zY])
      refine zte ?_
      refine' wpAnyH_take (i := 2) (v := _) rfl (by kernel_rfl) (by kernel_rfl) (by kernel_rfl) (fun _ _ _ h => h) (Or.inl ⟨by rfl, ?hy20⟩) (by assumption) ?rest20
      case hy20 => (intro w hSw; (try dsimp only at hSw); go_simp<;>((first | rw [G.out] | simp only [G.out] | skip)<;>with_reducible rfl))
      try simp only [zX,zY]
      refine ztk [3,4,5] ?_; repeat (refine ztn (h := ?_); try simp only [zX,zY])
      refine zte ?_
      refine zR1 6 (fun K hK => ?_)
      simp only [zG]
      go_simp
      (go_at_call 113; refine (Qe2 start next n (some ⟨b, o, none⟩) cap l (by omega) hlt _ (.inr ⟨b, o, rfl, Nat.lt_of_lt_of_le hb HB1.out.drew.size, Hin.out.below hb HB1.out.drew⟩)).mono ?_; rw [HK.out]; rintro e w2 ⟨rfl, g2⟩)
      refine hK.out _ _ (SK w2 g2) fun hH => ?_; clear hK K; try simp only [zX,zY]
      refine ztk [7,8,9,10,11,12,13,14,15,16,17,18] ?_; repeat (refine ztn (h := ?_); try simp only [zX,zY])
      refine zte ?_
      refine' wpAnyH_take (i := 19) (v := _) rfl (by kernel_rfl) (by kernel_rfl) (by kernel_rfl) (fun _ _ _ h => h) (Or.inl ⟨by rfl, ?hy36⟩) (by assumption) ?rest36
      case hy36 => (intro w hSw; (try dsimp only at hSw); go_simp<;>((first | rw [HV.out] | simp only [HV.out] | skip)<;>with_reducible rfl))
      try simp only [zX,zY]
      refine zt1 20 ?_; refine ztn (h := ?_); try simp only [zX,zY]
      refine zte ?_
      refine zdn ?_
      have c0 := b0.drew.below g2 b0.drew.lt
      have c1 := b1.drew.below g2 b1.drew.lt
      have cB := bB.drew.below g2 bB.drew.lt
      have cX := bX.drew.below g2 bX.drew.lt
      have HOW : Hid (w2.ownsRow (w.heap.size + 1 + 1) 121 5 (.slice a M.length c) M.length (flat M)) := Qaq (show W1.drew.ownsRow _ _ _ _ _ _ from Hown.out) g2
      have HB2 := hidP (via0 g2 HB1.out.drew)
      generalize w2 = W2 at *
      clear SE SK
      go_wp2
      refine ⟨⟨n + 1, by go_num, by omega, M, a, c, c0, c1, cB, HOW.out, hfar, HB2.out, by omega, ?_⟩, by simp [intOf]; omega⟩
      rw [← packF_no hlt HST.out]
      exact hpk.out
    . have HV : Hid ((IntKind.i64.wrap (l[n].off.tdiv length) == IntKind.i64.wrap ((IntKind.i64.wrap (next - 1)).tdiv length)) = true) := by show _ = _; rw [wrapq (l[n].off.tdiv length), wrapq ((IntKind.i64.wrap (next - 1)).tdiv length)]; exact hV
      have HST : Hid (Qdg (IntKind.i64.wrap (next - 1)) length l[n] (l.drop (n + 1)) = true) := by show _ = _; simp only [Qdg, hK, hV, Gq.out]; rfl
      clear hE hK hV
      refine wp_region_noPanic ?_
      refine wp_region_held_drew (S := fun w' => w'.cell? ⟨w.heap.size, 0, none⟩ = some (.int .i64 start) /\ w'.cell? ⟨w.heap.size, 1, none⟩ = some (.int .i64 next) /\ w'.cell? ⟨w.heap.size, 2, none⟩ = some (.slice (some ⟨b, o, none⟩) l.length cap) /\ w'.cell? ⟨X, 0, none⟩ = some (.int .i64 l[n].off) /\ w'.cell? ⟨X, 1, none⟩ = some (.string l[n].key)) (by kernel_rfl) ?_ (fun hH => ?_)
      . exact SE.out
      refine ztk [0,1] ?_; repeat (refine ztn (h := ?_); try simp only [zX,zY])
      refine zte ?_
      refine' wpAnyH_take (i := 2) (v := _) rfl (by kernel_rfl) (by kernel_rfl) (by kernel_rfl) (fun _ _ _ h => h) (Or.inl ⟨by rfl, ?hy40⟩) (by assumption) ?rest40
      case hy40 => (intro w hSw; (try dsimp only at hSw); go_simp<;>((first | rw [G.out] | simp only [G.out] | skip)<;>with_reducible rfl))
      try simp only [zX,zY]
      refine ztk [3,4,5] ?_; repeat (refine ztn (h := ?_); try simp only [zX,zY])
      refine zte ?_
      refine zR1 6 (fun K hK => ?_)
      simp only [zG]
      go_simp
      (go_at_call 113; refine (Qe2 start next n (some ⟨b, o, none⟩) cap l (by omega) hlt _ (.inr ⟨b, o, rfl, Nat.lt_of_lt_of_le hb HB1.out.drew.size, Hin.out.below hb HB1.out.drew⟩)).mono ?_; rw [HK.out]; rintro e w2 ⟨rfl, g2⟩)
      refine hK.out _ _ (SK w2 g2) fun hH => ?_; clear hK K; try simp only [zX,zY]
      refine ztk [7,8,9,10,11,12,13,14,15,16,17,18] ?_; repeat (refine ztn (h := ?_); try simp only [zX,zY])
      refine zte ?_
      refine' wpAnyH_take (i := 19) (v := _) rfl (by kernel_rfl) (by kernel_rfl) (by kernel_rfl) (fun _ _ _ h => h) (Or.inl ⟨by rfl, ?hy56⟩) (by assumption) ?rest56
      case hy56 => (intro w hSw; (try dsimp only at hSw); go_simp<;>((first | rw [HV.out] | simp only [HV.out] | skip)<;>with_reducible rfl))
      try simp only [zX,zY]
      refine zt1 20 ?_; refine ztn (h := ?_); try simp only [zX,zY]
      refine zte ?_
      refine zdn ?_
      have c0 := b0.drew.below g2 b0.drew.lt
      have c1 := b1.drew.below g2 b1.drew.lt
      have cB := bB.drew.below g2 bB.drew.lt
      have cX := bX.drew.below g2 bX.drew.lt
      have HOW : Hid (w2.ownsRow (w.heap.size + 1 + 1) 121 5 (.slice a M.length c) M.length (flat M)) := Qaq (show W1.drew.ownsRow _ _ _ _ _ _ from Hown.out) g2
      have HB2 := hidP (via0 g2 HB1.out.drew)
      generalize w2 = W2 at *
      clear SE SK
      obtain ⟨m0, m1, m2⟩ := cB.row
      obtain ⟨x0, x1, x2, x3, x4⟩ := cX.item
      have th := cB.thaw 2
      have qB := cB.lt
      have qX := cX.lt
      have q0 := c0.lt
      have q1 := c1.lt
      have bx := Blk.new W2 121 (Qba l[n].off l[n].key l[n].text l[n].who l[n].time)
      have far0 : some w.heap.size ≠ (Value.slice a M.length c).ownBlock := Qay HOW.out (by omega)
      have far1 : some (w.heap.size + 1) ≠ (Value.slice a M.length c).ownBlock := Qay HOW.out (by omega)
      obtain ⟨v', w3, hr, hown3, hgrow, hat⟩ := Qb8 (w.heap.size + 1 + 1) (.slice a M.length c) M [l[n]] (some ⟨W2.heap.size, 0, none⟩) 1 (W2.alloc (.cells (Qba l[n].off l[n].key l[n].text l[n].who l[n].time) 121)) (by simp; omega) (Qav HOW.out _) (.inr ⟨W2.heap.size, 0, rfl, by simp, fun j u hu => bx.cell (i := 0 + j) (by simpa [flat, It.cs] using hu)⟩) (by simp; omega)
      simp only [List.length_cons, List.length_nil, Nat.zero_add] at hown3 hr
      obtain ⟨a', c', rfl, _⟩ := Qao hown3
      have sz2 : (W2.alloc (.cells (Qba l[n].off l[n].key l[n].text l[n].who l[n].time) 121)).heap.size = W2.heap.size + 1 := World.size_alloc _ _
      have farB : some B ≠ (Value.slice a' (M.length + 1) c').ownBlock := by
       rcases hat with e | e
       . rw [e]; exact hfar
       . rw [e, sz2]; intro h; have : B = W2.heap.size + 1 := Option.some.inj h; omega
      have e0 := (c0.alloc _).kept hgrow far0
      have e1 := (c1.alloc _).kept hgrow far1
      have eB := (cB.alloc _).kept hgrow hfar
      have B3 := hidP ((Qaf HB2.out _).grown hgrow (Qaf HB2.out _).size (fun k e => Nat.le_of_not_lt fun h => Qay HOW.out (show k < w.heap.size + 1 + 1 by omega) e.symm))
      have Hown3 := hidP hown3
      obtain ⟨i0, i1, i2⟩ := eB.row
      have th3 := eB.thaw 2
      clear hgrow hat hown3 bx far0 far1
      go_wp2_with (at_builtin; refine Qae rfl _ _ _ rfl _ _ _ rfl rfl hr ?_)
      have zB : Blk _ B 118 (Qaz start next a' (M.length + 1) c') := eB.setAt 2 (.slice a' (M.length + 1) c')
      have el : (M ++ [l[n]]).length = M.length + 1 := by simp
      refine ⟨⟨n + 1, by go_num, by omega, M ++ [l[n]], a', c', e0.other (by omega) _ _, e1.other (by omega) _ _, by rw [el]; exact zB, by rw [el]; exact Qaj Hown3.out farB, by rw [el]; exact farB, Qal B3.out (by omega) _, by rw [el]; omega, ?_⟩, by simp [intOf]; omega⟩
      rw [List.append_assoc, List.singleton_append, ← Qfl hlt HST.out]
      exact hpk.out
  . have hEnd : Hid (packF (IntKind.i64.wrap (next - 1)) length l = M) := by show _ = _; rw [← hpk.out, List.drop_eq_nil_of_le (by omega)]; simp [packF]
    obtain ⟨n0, n1, n2⟩ := b1.row
    have k0 := b1.thaw 0
    have k1 := b1.thaw 1
    have k2 := b1.thaw 2
    have far := hidP (Qay hown.out (show w.heap.size + 1 < w.heap.size + 1 + 1 by omega))
    have hne : B ≠ w.heap.size + 1 := by omega
    have hne' : w.heap.size + 1 ≠ B := by omega
    go_wp2
    have z : Blk _ (w.heap.size + 1) 118 (Qaz start next a M.length c) := ((b1.setAt 0 (.int .i64 start)).setAt 1 (.int .i64 next)).setAt 2 (.slice a M.length c)
    obtain ⟨e0, e1, e2⟩ := z.row
    exact bodyPost_ret (v := .agg (Qaz start next a M.length c)) (by simp [results, Tryz.results104, go_sem, e0, e1, e2]) rfl
     ⟨_, rfl, by rw [hEnd.out]; exact Qaw (Qaj (Qaj (Qaj hown.out far.out) far.out) far.out) (by omega), Qal (Qal (Qal hB.out (by omega) _) (by omega) _) (by omega) _⟩
end Go.Proofs.YtlniljigeemnoaaGreat.Items
