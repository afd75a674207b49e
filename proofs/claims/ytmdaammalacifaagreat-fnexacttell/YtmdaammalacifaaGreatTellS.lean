/-
  The specification's Tell. No condition but that the node and the message fit.
-/
import Derived.Test.YtmdaammalacifaaGreatL12c
set_option linter.unusedVariables false
set_option linter.unusedSimpArgs false
set_option maxRecDepth 100000
set_option maxHeartbeats 8000000
namespace Go.Proofs.YtmdaammalacifaaGreat.Gen
open ChangeShapes WideShapes ChangeAt RowKit Joins Deep Base
structure Tw (w W : World) (p q : PC) (r : RpC) (zs : Array Value) (P B : Nat) (vs : Array Value) : Prop where
  b : Bx3 w W p r zs
  o : Blk W P 59 vs
  hP : w.heap.size + 1 + 1 < P
  po : POwn W ({ q with hs := [] } : PC) (fun z => w.heap.size + 1 + 1 < z /\ z < B)
  hB : w.heap.size + 1 + 1 < B
  bp : B <= P
theorem Tw.offp {w W W' : World} {p q : PC} {r : RpC} {zs : Array Value} {P B : Nat} {vs : Array Value} {T : Nat -> Prop} (h : Tw w W p q r zs P B vs) (k : Offp T W W') (hT : ∀ z, T z -> B <= z /\ z ≠ P) : Tw w W' p q r zs P B vs := by
 have hb := h.hB
 exact ⟨⟨h.b.bl.trans (k.toBelow (fun x hx => by have := hT x hx; omega) h.b.bl.size), h.b.p1.offp k (fun e => by have := hT _ e; omega), h.b.p2.offp k (fun e => by have := hT _ e; omega), h.b.p3.offp k (fun e => by have := hT _ e; omega)⟩, h.o.offp k (fun e => (hT _ e).2 rfl), h.hP, h.po.offp k (fun z hz e => by have := hT z e; omega), h.hB, h.bp⟩
theorem Tw.set {w W : World} {p q : PC} {r : RpC} {zs : Array Value} {P B : Nat} {vs : Array Value} (h : Tw w W p q r zs P B vs) (i : Nat) (v : Value) : Tw w (W.setCell ⟨P, i, none⟩ v) p q r zs P B (vs.setIfInBounds i v) := by
 have hb := h.hP
 have hq := h.bp
 exact ⟨⟨Qal h.b.bl (by omega) v, h.b.p1.other (by omega) i v, h.b.p2.other (by omega) i v, h.b.p3.other (by omega) i v⟩, h.o.setAt i v, h.hP, h.po.offp (Offp.of_only ((Only.refl P W).set i v)) (fun z hz e => by omega), h.hB, h.bp⟩
theorem Tw.below {w W W' : World} {p q : PC} {r : RpC} {zs : Array Value} {P B : Nat} {vs : Array Value} (h : Tw w W p q r zs P B vs) (g : Below W.heap.size W W') : Tw w W' p q r zs P B vs := ⟨h.b.below g, h.o.below g h.o.lt, h.hP, h.po.below g, h.hB, h.bp⟩
theorem Qfj (p : PC) (r : RpC) (hf : PFit p) (hr : r.l.length <= 1048576) (w : World) (hp : PAt w p) (ha : At w r.A r.l) :
 Calls Tryz.prog 6 #[.agg (Qaf p), .agg (rpcC r)] w fun e w' => ToldT w w' e p r := by
 have CP : Hid (∀ W : World, Below w.heap.size w W -> Calls Tryz.prog 22 #[.agg (Qaf p)] W fun e w' => ∃ v, e = .returned v /\ NewG W w' v p /\ Below W.heap.size W w') := fun W g => Qg3 p hf W (hp.below g)
 have HR := hidP ha
 clear hp ha
 have I := Bx3.new w p r #[.int .i64 0, .int .i64 0, .int .i64 0, .int .i64 0, .int .i64 0, .slice none 0 0, .slice none 0 0, .slice none 0 0, .slice none 0 0, .int .i64 0, .slice none 0 0, .slice none 0 0, .int .i64 0, .slice none 0 0, .slice none 0 0, .slice none 0 0, .int .i64 0, .slice none 0 0, .slice none 0 0, .slice none 0 0, .int .i64 0, .slice none 0 0, .slice none 0 0, .slice none 0 0, .int .i64 0, .slice none 0 0]
 go_enter Tryz.func6, Tryz.ntmps6
 go_upto_region 1 with fail
 have ZS : Hid ((#[.int .i64 0, .int .i64 0, .int .i64 0, .int .i64 0, .int .i64 0, .slice none 0 0, .slice none 0 0, .slice none 0 0, .slice none 0 0, .int .i64 0, .slice none 0 0, .slice none 0 0, .int .i64 0, .slice none 0 0, .slice none 0 0, .slice none 0 0, .int .i64 0, .slice none 0 0, .slice none 0 0, .slice none 0 0, .int .i64 0, .slice none 0 0, .slice none 0 0, .slice none 0 0, .int .i64 0, .slice none 0 0] : Array Value).size = 26) := hidP rfl
 generalize (((w.alloc (.cells (Qaf p) 59)).alloc (.cells (rpcC r) 64)).alloc (.cells #[.int .i64 0, .int .i64 0, .int .i64 0, .int .i64 0, .int .i64 0, .slice none 0 0, .slice none 0 0, .slice none 0 0, .slice none 0 0, .int .i64 0, .slice none 0 0, .slice none 0 0, .int .i64 0, .slice none 0 0, .slice none 0 0, .slice none 0 0, .int .i64 0, .slice none 0 0, .slice none 0 0, .slice none 0 0, .int .i64 0, .slice none 0 0, .slice none 0 0, .slice none 0 0, .int .i64 0, .slice none 0 0] 59)) = v0 at I ⊢
 obtain ⟨zs, hzs⟩ : ∃ z : Array Value, z = #[.int .i64 0, .int .i64 0, .int .i64 0, .int .i64 0, .int .i64 0, .slice none 0 0, .slice none 0 0, .slice none 0 0, .slice none 0 0, .int .i64 0, .slice none 0 0, .slice none 0 0, .int .i64 0, .slice none 0 0, .slice none 0 0, .slice none 0 0, .int .i64 0, .slice none 0 0, .slice none 0 0, .slice none 0 0, .int .i64 0, .slice none 0 0, .slice none 0 0, .slice none 0 0, .int .i64 0, .slice none 0 0] := ⟨_, rfl⟩
 rw [← hzs] at I ZS
 have HI := hidP I
 clear I hzs
 refine wp_region_lit ?_
 refine Qag rfl 59 _ rfl (b := w.heap.size) rfl HI.out.p1 Tryz.underlying59 (by kernel_rfl) ?_
 go_wp2_with fail
 refine (CP.out _ HI.out.bl).mono ?_
 rintro e w1 ⟨v1, rfl, ⟨q, B, rfl, sq, po, hB, gu⟩, g1⟩
 have I1 := HI.out.below g1
 have z0 := HI.out.p3.lt
 have z1 := gu.hB
 have O1 : Blk (w1.alloc (.cells #[.int .i64 0, .int .i64 0, .int .i64 0, .int .i64 0, .int .i64 0, .slice none 0 0, .slice none 0 0, .slice none 0 0, .slice none 0 0, .int .i64 0, .slice none 0 0, .slice none 0 0, .int .i64 0, .slice none 0 0, .slice none 0 0, .slice none 0 0, .int .i64 0, .slice none 0 0, .slice none 0 0, .slice none 0 0, .int .i64 0, .slice none 0 0, .slice none 0 0, .slice none 0 0, .int .i64 0, .slice none 0 0] 59)) w1.heap.size 59 #[.int .i64 0, .int .i64 0, .int .i64 0, .int .i64 0, .int .i64 0, .slice none 0 0, .slice none 0 0, .slice none 0 0, .slice none 0 0, .int .i64 0, .slice none 0 0, .slice none 0 0, .int .i64 0, .slice none 0 0, .slice none 0 0, .slice none 0 0, .int .i64 0, .slice none 0 0, .slice none 0 0, .slice none 0 0, .int .i64 0, .slice none 0 0, .slice none 0 0, .slice none 0 0, .int .i64 0, .slice none 0 0] := Blk.new w1 _ _
 have O2 := O1.row (Qaf q)
 have HO := hidP O1
 have gA : Below w1.heap.size w1 ((w1.alloc (.cells #[.int .i64 0, .int .i64 0, .int .i64 0, .int .i64 0, .int .i64 0, .slice none 0 0, .slice none 0 0, .slice none 0 0, .slice none 0 0, .int .i64 0, .slice none 0 0, .slice none 0 0, .int .i64 0, .slice none 0 0, .slice none 0 0, .slice none 0 0, .int .i64 0, .slice none 0 0, .slice none 0 0, .slice none 0 0, .int .i64 0, .slice none 0 0, .slice none 0 0, .slice none 0 0, .int .i64 0, .slice none 0 0] 59)).setRow w1.heap.size (Qaf q)) := Qbx (Qab (Below.refl _ w1) _) (Nat.le_refl _) _
 have HU := hidP (gu.gs.below Qan gA)
 have T1 : Hid (Tw w ((w1.alloc (.cells #[.int .i64 0, .int .i64 0, .int .i64 0, .int .i64 0, .int .i64 0, .slice none 0 0, .slice none 0 0, .slice none 0 0, .slice none 0 0, .int .i64 0, .slice none 0 0, .slice none 0 0, .int .i64 0, .slice none 0 0, .slice none 0 0, .slice none 0 0, .int .i64 0, .slice none 0 0, .slice none 0 0, .slice none 0 0, .int .i64 0, .slice none 0 0, .slice none 0 0, .slice none 0 0, .int .i64 0, .slice none 0 0] 59)).setRow w1.heap.size (Qaf q)) p q r zs w1.heap.size B (Qaf q)) := hidP ⟨I1.below gA, O2, by have := I1.p3.lt; omega, (po.below gA).mono (fun z hz => ⟨by have := hz.1; omega, hz.2⟩), by omega, z1⟩
 have HSq := hidP sq
 clear I1 z0 O1 O2 gA g1 po sq gu HI CP
 go_upto_region 2 with (refine Qam rfl 59 _ _ rfl (g := w1.heap.size) (cells := Qaf q) rfl rfl HO.out (by kernel_rfl) rfl (Qa5 _) ?_)
 generalize (w1.alloc (.cells #[.int .i64 0, .int .i64 0, .int .i64 0, .int .i64 0, .int .i64 0, .slice none 0 0, .slice none 0 0, .slice none 0 0, .slice none 0 0, .int .i64 0, .slice none 0 0, .slice none 0 0, .int .i64 0, .slice none 0 0, .slice none 0 0, .slice none 0 0, .int .i64 0, .slice none 0 0, .slice none 0 0, .slice none 0 0, .int .i64 0, .slice none 0 0, .slice none 0 0, .slice none 0 0, .int .i64 0, .slice none 0 0] 59)).setRow w1.heap.size (Qaf q) = w2 at T1 HU ⊢
 clear HO
 generalize w1.heap.size = P at *
 have Hlq := hidP (Qb3 HSq.out.hs)
 have u25 := T1.out.b.p1.cell (i := 25) (v := .slice p.hA p.hs.length p.hc) rfl
 by_cases h40 : 40 <= p.hs.length
 . go_upto_region 3 with fail
   refine wp_region_lit ?_
   refine Qag rfl 59 _ rfl (b := P) rfl T1.out.o Tryz.underlying59 (by kernel_rfl) ?_
   refine Qam rfl 59 _ _ rfl (g := w.heap.size + 1 + 1) (cells := Qaf q) rfl rfl T1.out.b.p3 (by kernel_rfl) ZS.out (Qa5 _) ?_
   have HB := hidP (T1.out.b.p3.row (Qaf q))
   clear u25
   go_wp2
   refine bodyPost_ret (v := .tuple #[.agg (Qaf q), .bool false]) (Qb8 (fn := Tryz.f6) (p := 4) (q := 5) (by rfl) rfl rfl HB.out Tryz.underlying59 (by kernel_rfl)) rfl ?_
   have k := (Offp.refl (fun z => z = w.heap.size + 1 + 1) w2).row (b := w.heap.size + 1 + 1) rfl (Qaf q)
   have hk := k.size
   have hb := T1.out.hB
   have hq := T1.out.bp
   have ho := T1.out.o.lt
   have hu := (HU.out.offp Qan k (fun z hz e => by omega)).toOwn
   refine ⟨_, by rw [decide_eq_false (by omega)], ⟨q, rfl, by unfold Qco; rw [if_pos h40]; exact HSq.out, ?_⟩, Qbx T1.out.b.bl (by omega) _⟩
   exact (T1.out.po.offp k (fun z hz e => by omega)).hold2 (a := q.hA) (c := q.hc) (hs' := q.hs) (fun z hz => hz.2) (fun z hz => ⟨by omega, by omega⟩) (hu.mono (fun z hz => ⟨hz.1, by omega⟩)) (fun z h1 h2 => ⟨by omega, h2⟩)
 . go_upto_region 4 with fail
   clear u25
   refine wp_region_noPanic ?_
   refine Qbc 7 (fun (W : World) => W.cell? ⟨P, 25, none⟩ = some (.slice q.hA q.hs.length q.hc) /\ Blk W (w.heap.size + 1) 64 (rpcC r)) (by kernel_rfl) ?_
   have K0 := T1.out.below (Below.refl _ w2).drew
   have hH : (fun (W : World) => W.cell? ⟨P, 25, none⟩ = some (.slice q.hA q.hs.length q.hc) /\ Blk W (w.heap.size + 1) 64 (rpcC r)) w2.drew := ⟨K0.o.cell (i := 25) rfl, K0.b.p2⟩
   have HUd := hidP (HU.out.below Qan (Below.refl _ w2).drew)
   clear HU T1
   generalize w2.drew = u2 at *
   have KD := hidP K0
   clear K0
   refine zpk [0,1] ?_; repeat (refine zpn (h := ?_); try simp only [zX,zY])
   refine zpe ?_
   refine Qdc (i := 2) (v := .agg (rpcC r)) (by kernel_rfl) rfl (by kernel_rfl) (by decide) (by kernel_rfl) (by kernel_rfl) (fun _ _ _ h => h) (Or.inl ⟨by rfl, fun w' hSw => Qa4 (op := { dst := some 16, op := Op.load 64 (Operand.tmp 3), type := 64, pos := _, after := _, guard := none }) rfl rfl hSw.2 Tryz.underlying64 (by kernel_rfl)⟩) (by assumption) ?_
   try simp only [zX,zY]
   refine Qai (i := 3) (by kernel_rfl) rfl (fun K hK => ?_)
   simp only [zG]
   go_simp
   refine (Qeo r hr _ (HR.out.below KD.out.b.bl)).mono ?_
   rintro e v1w ⟨b1, e1, rfl, g1, s1⟩
   obtain ⟨a2, c2, X, hr1, g2, k2⟩ := HUd.out.app Qan (pg := Tryz.prog) (ts := 57) (z := .agg #[.int .i64 0, .int .i64 0, .int .i64 0, .int .i64 0, .int .i64 0, .int .i64 0, .int .i64 0, .slice none 0 0, .bool false, .string ⟨#[]⟩]) Tryz.underlying57 Qc2 rfl (by decide) (by decide) (fun y hy => Nat.lt_trans hy.2 KD.out.o.lt) g1 (⟨r.kind, r.frm, r.too, r.term, r.index, r.iterm, r.commit, b1, e1, r.l, r.ok, r.snap⟩ : RpC) s1 #[.int .i64 r.kind, .int .i64 r.frm, .int .i64 r.too, .int .i64 r.term, .int .i64 r.index, .int .i64 r.iterm, .int .i64 r.commit, .slice b1 r.l.length e1, .bool r.ok, .string r.snap] rfl (by have := Hlq.out; omega)
   have K1 := KD.out.below g1
   have T1 : (fun (W : World) => W.cell? ⟨P, 25, none⟩ = some (.slice q.hA q.hs.length q.hc) /\ Blk W (w.heap.size + 1) 64 (rpcC r)) v1w := ⟨K1.o.cell (i := 25) rfl, K1.b.p2⟩
   have gA := Qab (Below.refl _ v1w) (.cells #[.int .i64 r.kind, .int .i64 r.frm, .int .i64 r.too, .int .i64 r.term, .int .i64 r.index, .int .i64 r.iterm, .int .i64 r.commit, .slice b1 r.l.length e1, .bool r.ok, .string r.snap] 64)
   have K2 := K1.below gA
   have T2 : (fun (W : World) => W.cell? ⟨P, 25, none⟩ = some (.slice q.hA q.hs.length q.hc) /\ Blk W (w.heap.size + 1) 64 (rpcC r)) (v1w.alloc (.cells #[.int .i64 r.kind, .int .i64 r.frm, .int .i64 r.too, .int .i64 r.term, .int .i64 r.index, .int .i64 r.iterm, .int .i64 r.commit, .slice b1 r.l.length e1, .bool r.ok, .string r.snap] 64)) := ⟨K2.o.cell (i := 25) rfl, K2.b.p2⟩
   have KX := K2.offp k2 (fun z hz => ⟨hz.1, by omega⟩)
   have T3 : (fun (W : World) => W.cell? ⟨P, 25, none⟩ = some (.slice q.hA q.hs.length q.hc) /\ Blk W (w.heap.size + 1) 64 (rpcC r)) X := ⟨KX.o.cell (i := 25) rfl, KX.b.p2⟩
   have fX := KX.o.thaw 25
   have hr1' := hidP hr1
   have HX := hidP KX
   have HG := hidP g2
   have hPu := KD.out.o.lt
   clear hr1 KX g2 k2 K1 K2 gA g1 s1
   refine hK.out _ _ (Or.inr T1) ?_
   clear hK K
   try simp only [zX,zY]
   refine Qai (i := 4) (by kernel_rfl) rfl (fun K hK => ?_)
   simp only [zG]
   go_simp
   refine hK.out _ _ (Or.inr T2) ?_
   clear hK K
   try simp only [zX,zY]
   refine Qai (i := 5) (by kernel_rfl) rfl (fun K hK => ?_)
   simp only [zG]
   rw [if_pos (by rfl)]; refine Qaa _ _ _ (by rfl) _ _ _ (by rfl) (by rfl) hr1'.out ?_
   refine hK.out _ _ (Or.inr T3) ?_
   clear hK K
   try simp only [zX,zY]
   refine zp1 6 ?_; refine zpn (h := ?_); try simp only [zX,zY]
   refine zpe ?_
   obtain ⟨t0, t1⟩ := T3
   refine Qai (i := 7) (by kernel_rfl) rfl (fun K hK => ?_)
   simp only [zG]
   go_simp
   refine hK.out _ _ (Or.inl rfl) ?_
   clear hK K
   try simp only [zX,zY]
   refine Qbr (by kernel_rfl) ?_ _
   refine NoPanic.normal ?_
   have Y := HX.out.set 25 (.slice a2 (q.hs.length + 1) c2)
   have e9 : (Qaf q).setIfInBounds 25 (.slice a2 (q.hs.length + 1) c2) = Qaf ({ q with hA := a2, hc := c2, hs := q.hs ++ [(⟨r.kind, r.frm, r.too, r.term, r.index, r.iterm, r.commit, b1, e1, r.l, r.ok, r.snap⟩ : RpC)] } : PC) := by unfold Qaf Qbp; rw [List.length_append]; rfl
   rw [e9] at Y
   have ow := (HG.out.offp Qan (Offp.of_only ((Only.refl P X).set 25 (.slice a2 (q.hs.length + 1) c2))) (fun z hz e => by omega)).toOwn
   have HY := hidP Y
   have HOw := hidP ow
   clear T1 T2 t0 t1 fX hr1' HX HG hH KD HUd Y ow e9
   have hz9 : X.heap.size <= (X.setCell ⟨P, 25, none⟩ (.slice a2 (q.hs.length + 1) c2)).heap.size := by rw [World.size_setCell]; exact Nat.le_refl _
   generalize X.setCell ⟨P, 25, none⟩ (.slice a2 (q.hs.length + 1) c2) = Z at *
   go_upto_region 5 with fail
   refine wp_region_lit ?_
   refine Qag rfl 59 _ rfl (b := P) rfl HY.out.o Tryz.underlying59 (by kernel_rfl) ?_
   refine Qam rfl 59 _ _ rfl (g := w.heap.size + 1 + 1) (cells := Qaf ({ q with hA := a2, hc := c2, hs := q.hs ++ [(⟨r.kind, r.frm, r.too, r.term, r.index, r.iterm, r.commit, b1, e1, r.l, r.ok, r.snap⟩ : RpC)] } : PC)) rfl rfl HY.out.b.p3 (by kernel_rfl) ZS.out (Qa5 _) ?_
   have HB := hidP (HY.out.b.p3.row (Qaf ({ q with hA := a2, hc := c2, hs := q.hs ++ [(⟨r.kind, r.frm, r.too, r.term, r.index, r.iterm, r.commit, b1, e1, r.l, r.ok, r.snap⟩ : RpC)] } : PC)))
   go_wp2
   refine bodyPost_ret (v := .tuple #[.agg (Qaf ({ q with hA := a2, hc := c2, hs := q.hs ++ [(⟨r.kind, r.frm, r.too, r.term, r.index, r.iterm, r.commit, b1, e1, r.l, r.ok, r.snap⟩ : RpC)] } : PC)), .bool true]) (Qb8 (fn := Tryz.f6) (p := 4) (q := 5) (by rfl) rfl rfl HB.out Tryz.underlying59 (by kernel_rfl)) rfl ?_
   have k := (Offp.refl (fun z => z = w.heap.size + 1 + 1) Z).row (b := w.heap.size + 1 + 1) rfl (Qaf ({ q with hA := a2, hc := c2, hs := q.hs ++ [(⟨r.kind, r.frm, r.too, r.term, r.index, r.iterm, r.commit, b1, e1, r.l, r.ok, r.snap⟩ : RpC)] } : PC))
   have hk := k.size
   have hb := HY.out.hB
   have hq := HY.out.bp
   have ho := HY.out.o.lt
   refine ⟨_, by rw [decide_eq_true (by omega)], ⟨({ q with hA := a2, hc := c2, hs := q.hs ++ [(⟨r.kind, r.frm, r.too, r.term, r.index, r.iterm, r.commit, b1, e1, r.l, r.ok, r.snap⟩ : RpC)] } : PC), rfl, ?_, ?_⟩, Qbx HY.out.b.bl (by omega) _⟩
   . unfold Qco; rw [if_neg h40]; have sq := HSq.out; exact ⟨sq.id, sq.te, sq.vo, sq.base, sq.bt, sq.l, sq.x, sq.role, sq.vs, sq.ns, sq.ps, sq.com, sq.y, sq.db, sq.su, by show (q.hs ++ [(⟨r.kind, r.frm, r.too, r.term, r.index, r.iterm, r.commit, b1, e1, r.l, r.ok, r.snap⟩ : RpC)]).map RpC.p = (p.hs ++ [r]).map RpC.p; rw [List.map_append, List.map_append, sq.hs]; rfl⟩
   . exact (HY.out.po.offp k (fun z hz e => by omega)).hold2 (a := a2) (c := c2) (hs' := q.hs ++ [(⟨r.kind, r.frm, r.too, r.term, r.index, r.iterm, r.commit, b1, e1, r.l, r.ok, r.snap⟩ : RpC)]) (fun z hz => hz.2) (fun z hz => ⟨by omega, by omega⟩) ((HOw.out.offp Qan k (fun z hz e => by omega)).mono (fun z hz => ⟨by omega, by omega⟩)) (fun z h1 h2 => ⟨by omega, h2⟩)
end Go.Proofs.YtmdaammalacifaaGreat.Gen
