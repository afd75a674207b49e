/-
  The program's copies of lists, in memory of their own. No condition but that there are at most 1048576.
-/
import Derived.Test.YtmdaammalacifaaGreatKQs
set_option linter.unusedVariables false
set_option linter.unusedSimpArgs false
set_option maxRecDepth 100000
set_option maxHeartbeats 8000000
namespace Go.Proofs.YtmdaammalacifaaGreat.Gen
open ChangeShapes WideShapes ChangeAt RowKit Joins Deep Base
theorem cpBools (A : Option Addr) (cap : Nat) (l : List Bool) (hl : l.length <= 1048576) (w : World) (hA : At w A l) :
 Calls Tryz.prog 74 #[.slice A l.length cap] w fun e w' => ∃ (a : Option Addr) (c : Nat), e = .returned (.slice a l.length c) /\ Below w.heap.size w w' /\ Sub w' a l (fun z => w.heap.size <= z /\ z < w'.heap.size) := by
 obtain ⟨v, w1, hr, hown, hgrow, hat⟩ := Qa0 (P := Tryz.prog) Tryz.underlying34 Qak rfl (by decide) (by decide) w.heap.size (.slice none 0 0) ([] : List Bool) l A cap w (Nat.le_refl _) (World.ownsRow_nil _ _ _ _) hA (by simp; omega)
 simp only [List.length_nil, Nat.zero_add, List.nil_append] at hown
 obtain ⟨a, c, rfl, _⟩ := Qar hown
 have HS := hidP (Qbk hown)
 have HG := hidP ((Below.refl w.heap.size w).grown hgrow (Nat.le_refl _) (fun k e => by cases e))
 clear hown hgrow hat hA
 go_enter Tryz.func74, Tryz.ntmps74
 go_wp2_with (at_builtin; refine Qaj rfl _ _ _ rfl _ _ _ rfl rfl hr ?_)
 go_ret
 exact ⟨a, c, rfl, HG.out, HS.out⟩
theorem Qgj (A : Option Addr) (cap : Nat) (l : List Int) (hl : l.length <= 1048576) (w : World) (hA : At w A l) :
 Calls Tryz.prog 75 #[.slice A l.length cap] w fun e w' => ∃ (a : Option Addr) (c : Nat), e = .returned (.slice a l.length c) /\ Below w.heap.size w w' /\ Sub w' a l (fun z => w.heap.size <= z /\ z < w'.heap.size) := by
 obtain ⟨v, w1, hr, hown, hgrow, hat⟩ := Qa0 (P := Tryz.prog) Tryz.underlying28 Qac rfl (by decide) (by decide) w.heap.size (.slice none 0 0) ([] : List Int) l A cap w (Nat.le_refl _) (World.ownsRow_nil _ _ _ _) hA (by simp; omega)
 simp only [List.length_nil, Nat.zero_add, List.nil_append] at hown
 obtain ⟨a, c, rfl, _⟩ := Qar hown
 have HS := hidP (Qbk hown)
 have HG := hidP ((Below.refl w.heap.size w).grown hgrow (Nat.le_refl _) (fun k e => by cases e))
 clear hown hgrow hat hA
 go_enter Tryz.func75, Tryz.ntmps75
 go_wp2_with (at_builtin; refine Qaj rfl _ _ _ rfl _ _ _ rfl rfl hr ?_)
 go_ret
 exact ⟨a, c, rfl, HG.out, HS.out⟩
theorem cpEnts (A : Option Addr) (cap : Nat) (l : List En) (hl : l.length <= 1048576) (w : World) (hA : At w A l) :
 Calls Tryz.prog 120 #[.slice A l.length cap] w fun e w' => ∃ (a : Option Addr) (c : Nat), e = .returned (.slice a l.length c) /\ Below w.heap.size w w' /\ Sub w' a l (fun z => w.heap.size <= z /\ z < w'.heap.size) := by
 obtain ⟨v, w1, hr, hown, hgrow, hat⟩ := Qa0 (P := Tryz.prog) Tryz.underlying45 infoEn rfl (by decide) (by decide) w.heap.size (.slice none 0 0) ([] : List En) l A cap w (Nat.le_refl _) (World.ownsRow_nil _ _ _ _) hA (by simp; omega)
 simp only [List.length_nil, Nat.zero_add, List.nil_append] at hown
 obtain ⟨a, c, rfl, _⟩ := Qar hown
 have HS := hidP (Qbk hown)
 have HG := hidP ((Below.refl w.heap.size w).grown hgrow (Nat.le_refl _) (fun k e => by cases e))
 clear hown hgrow hat hA
 go_enter Tryz.func120, Tryz.ntmps120
 go_wp2_with (at_builtin; refine Qaj rfl _ _ _ rfl _ _ _ rfl rfl hr ?_)
 go_ret
 exact ⟨a, c, rfl, HG.out, HS.out⟩
theorem cpRpcs (A : Option Addr) (cap : Nat) (l : List RpC) (hl : l.length <= 1048576) (w : World) (hA : At w A l) :
 Calls Tryz.prog 119 #[.slice A l.length cap] w fun e w' => ∃ (a : Option Addr) (c : Nat), e = .returned (.slice a l.length c) /\ Below w.heap.size w w' /\ Sub w' a l (fun z => w.heap.size <= z /\ z < w'.heap.size) := by
 obtain ⟨v, w1, hr, hown, hgrow, hat⟩ := Qa0 (P := Tryz.prog) Tryz.underlying57 Qc2 rfl (by decide) (by decide) w.heap.size (.slice none 0 0) ([] : List RpC) l A cap w (Nat.le_refl _) (World.ownsRow_nil _ _ _ _) hA (by simp; omega)
 simp only [List.length_nil, Nat.zero_add, List.nil_append] at hown
 obtain ⟨a, c, rfl, _⟩ := Qar hown
 have HS := hidP (Qbk hown)
 have HG := hidP ((Below.refl w.heap.size w).grown hgrow (Nat.le_refl _) (fun k e => by cases e))
 clear hown hgrow hat hA
 go_enter Tryz.func119, Tryz.ntmps119
 go_wp2_with (at_builtin; refine Qaj rfl _ _ _ rfl _ _ _ rfl rfl hr ?_)
 go_ret
 exact ⟨a, c, rfl, HG.out, HS.out⟩
end Go.Proofs.YtmdaammalacifaaGreat.Gen
namespace Go.Proofs.YtmdaammalacifaaGreat.Gen
open ChangeShapes WideShapes ChangeAt RowKit Joins Deep Base
structure Bx2 (w W : World) (t : TypeId) (zs vs : Array Value) : Prop where
  bl : Below w.heap.size w W
  p1 : Blk W w.heap.size t vs
  p2 : Blk W (w.heap.size + 1) t zs
theorem Bx2.below {w W W' : World} {t : TypeId} {zs vs : Array Value} (m : Bx2 w W t zs vs) (g : Below W.heap.size W W') : Bx2 w W' t zs vs := ⟨via0 g m.bl, m.p1.below g m.p1.lt, m.p2.below g m.p2.lt⟩
theorem Bx2.new (w : World) (t : TypeId) (zs vs : Array Value) : Bx2 w ((w.alloc (.cells vs t)).alloc (.cells zs t)).drew t zs vs := ⟨by repeat (first | exact Below.refl _ _ | assumption | refine via0 (by assumption) ?_ | refine Below.drew ?_ | refine Qab ?_ _), ((Blk.new w _ _).alloc _).drew, by have := (Blk.new (w.alloc (.cells vs t)) t zs).drew; rwa [World.size_alloc] at this⟩
theorem Qe1 (gen : Int) (A B C : Option Addr) (ca cb cc : Nat) (m b o : List Int) (hm : m.length <= 1048576) (hb : b.length <= 1048576) (ho : o.length <= 1048576) (w : World) (hA : At w A m) (hB : At w B b) (hC : At w C o) :
 Calls Tryz.prog 118 #[.agg #[.int .i64 gen, .slice A m.length ca, .slice B b.length cb, .slice C o.length cc]] w fun e w' => ∃ (a1 : Option Addr) (c1 : Nat) (a2 : Option Addr) (c2 : Nat) (a3 : Option Addr) (c3 : Nat), e = .returned (.agg #[.int .i64 gen, .slice a1 m.length c1, .slice a2 b.length c2, .slice a3 o.length c3]) /\ Below w.heap.size w w' /\ grpP w' (⟨gen, a1, c1, m, a2, c2, b, a3, c3, o⟩ : GC) (fun z => w.heap.size <= z /\ z < w'.heap.size) := by
 have HA := hidP hA
 have HB := hidP hB
 have HC := hidP hC
 clear hA hB hC
 have I := Bx2.new w 173 #[.int .i64 0, .slice none 0 0, .slice none 0 0, .slice none 0 0] #[.int .i64 gen, .slice A m.length ca, .slice B b.length cb, .slice C o.length cc]
 have z0 : w.heap.size + 2 <= ((w.alloc (.cells #[.int .i64 gen, .slice A m.length ca, .slice B b.length cb, .slice C o.length cc] 173)).alloc (.cells #[.int .i64 0, .slice none 0 0, .slice none 0 0, .slice none 0 0] 173)).drew.heap.size := by simp
 go_enter Tryz.func118, Tryz.ntmps118
 go_wp2_with fail
 refine wp_region_noPanic ?_
 have hH : (fun (W : World) => W.cell? ⟨w.heap.size, 0, none⟩ = some (.int .i64 gen) /\ W.cell? ⟨w.heap.size, 1, none⟩ = some (.slice A m.length ca) /\ W.cell? ⟨w.heap.size, 2, none⟩ = some (.slice B b.length cb) /\ W.cell? ⟨w.heap.size, 3, none⟩ = some (.slice C o.length cc)) _ := I.p1.row4
 refine Qbc 12 (fun (W : World) => W.cell? ⟨w.heap.size, 0, none⟩ = some (.int .i64 gen) /\ W.cell? ⟨w.heap.size, 1, none⟩ = some (.slice A m.length ca) /\ W.cell? ⟨w.heap.size, 2, none⟩ = some (.slice B b.length cb) /\ W.cell? ⟨w.heap.size, 3, none⟩ = some (.slice C o.length cc)) (by kernel_rfl) ?_
 refine zpk [0,1,2,3,5,6,8,9] ?_; repeat (refine zpn (h := ?_); try simp only [zX,zY])
 refine zpe ?_
 refine Qai (i := 4) (by kernel_rfl) rfl (fun K hK => ?_)
 simp only [zG]
 go_simp
 refine (Qgj A ca m hm _ (HA.out.below I.bl)).mono ?_
 rintro e w1 ⟨a1, c1, rfl, g1, F1⟩
 have G1 := hidP F1
 have z1 := g1.size
 replace I := I.below g1
 have T1 := I.p1.row4
 clear g1 F1
 refine hK.out _ _ (Or.inr T1) ?_
 clear hK K
 try simp only [zX,zY]
 refine Qai (i := 7) (by kernel_rfl) rfl (fun K hK => ?_)
 simp only [zG]
 go_simp
 refine (Qgj B cb b hb _ (HB.out.below I.bl)).mono ?_
 rintro e w2 ⟨a2, c2, rfl, g2, F2⟩
 replace G1 := hidP (G1.out.below g2)
 have G2 := hidP F2
 have z2 := g2.size
 replace I := I.below g2
 have T2 := I.p1.row4
 clear g2 F2
 refine hK.out _ _ (Or.inr T2) ?_
 clear hK K
 try simp only [zX,zY]
 refine Qai (i := 10) (by kernel_rfl) rfl (fun K hK => ?_)
 simp only [zG]
 go_simp
 refine (Qgj C cc o ho _ (HC.out.below I.bl)).mono ?_
 rintro e w3 ⟨a3, c3, rfl, g3, F3⟩
 replace G1 := hidP (G1.out.below g3)
 replace G2 := hidP (G2.out.below g3)
 have G3 := hidP F3
 have z3 := g3.size
 replace I := I.below g3
 have T3 := I.p1.row4
 clear g3 F3
 refine hK.out _ _ (Or.inr T3) ?_
 clear hK K
 try simp only [zX,zY]
 refine zp1 11 ?_; refine zpn (h := ?_); try simp only [zX,zY]
 refine zpe ?_
 refine Qai (i := 12) (by kernel_rfl) rfl (fun K hK => ?_)
 simp only [zG]
 obtain ⟨y0, y1, y2, y3⟩ := I.p2.row4
 have f0 := I.p2.thaw 0; have f1 := I.p2.thaw 1; have f2 := I.p2.thaw 2; have f3 := I.p2.thaw 3
 go_simp
 refine hK.out _ _ (Or.inl rfl) ?_
 clear hK K
 try simp only [zX,zY]
 refine Qbr (by kernel_rfl) ?_ _
 refine NoPanic.normal ?_
 have Q9 := ((((I.p2.setAt 0 (.int .i64 gen)).setAt 1 (.slice a1 m.length c1)).setAt 2 (.slice a2 b.length c2)).setAt 3 (.slice a3 o.length c3))
 obtain ⟨e0, e1, e2, e3⟩ := (show Blk _ _ _ #[.int .i64 gen, .slice a1 m.length c1, .slice a2 b.length c2, .slice a3 o.length c3] from Q9).row4
 go_wp2
 refine bodyPost_ret (v := .agg #[.int .i64 gen, .slice a1 m.length c1, .slice a2 b.length c2, .slice a3 o.length c3]) (by simp [results, Tryz.results118, go_sem, e0, e1, e2, e3]) rfl ?_
 have k := Offp.of_only ((((((Only.refl (w.heap.size + 1) w3).set 0 (.int .i64 gen)).set 1 (.slice a1 m.length c1)).set 2 (.slice a2 b.length c2)).set 3 (.slice a3 o.length c3)))
 have hs := k.size
 refine ⟨a1, c1, a2, c2, a3, c3, rfl, I.bl.trans (k.toBelow (fun x hx => by omega) I.bl.size), ?_⟩
 refine ⟨fun z => w.heap.size + 2 <= z /\ z < w1.heap.size, fun z => w1.heap.size <= z /\ z < w2.heap.size, fun z => w2.heap.size <= z /\ z < w3.heap.size, fun y hy => ?_, fun y hy => ?_, fun y hy => ?_, fun y h1 h2 => ?_, fun y h1 h2 => ?_, fun y h1 h2 => ?_, (G1.out.mono (fun y hy => ⟨by omega, hy.2⟩)).offp k (fun y hy e => ?_), G2.out.offp k (fun y hy e => ?_), G3.out.offp k (fun y hy e => ?_)⟩<;>omega
end Go.Proofs.YtmdaammalacifaaGreat.Gen
namespace Go.Proofs.YtmdaammalacifaaGreat.Gen
open ChangeShapes WideShapes ChangeAt RowKit Joins Deep Base
structure Kd (w W : World) (kc : Array Value) : Prop where
  bl : Below w.heap.size w W
  k : Blk W w.heap.size 53 kc
  r : Blk W (w.heap.size + 1) 53 #[.slice none 0 0, .slice none 0 0, .slice none 0 0, .int .i64 0, .slice none 0 0, .slice none 0 0]
theorem Kd.below {w W W' : World} {kc : Array Value} (h : Kd w W kc) (g : Below W.heap.size W W') : Kd w W' kc := ⟨via0 g h.bl, h.k.below g h.k.lt, h.r.below g h.r.lt⟩
theorem Kd.alloc {w W : World} {kc : Array Value} (h : Kd w W kc) (ob : Obj) : Kd w (W.alloc ob) kc := h.below (Qab (Below.refl _ _) _)
theorem Kd.kept {w W W' : World} {kc : Array Value} (h : Kd w W kc) (k : ∀ p vs, Blk W p 53 vs -> Blk W' p 53 vs) (hb : Below (w.heap.size + 2) W W') : Kd w W' kc :=
 ⟨h.bl.trans ⟨hb.os, hb.tape, hb.output, hb.size, fun i hi => hb.block i (by omega)⟩, k _ _ h.k, k _ _ h.r⟩
theorem Kd.offp {w W W' : World} {kc : Array Value} {T : Nat -> Prop} (h : Kd w W kc) (k : Offp T W W') (hp : ∀ x, T x -> w.heap.size + 1 < x) : Kd w W' kc :=
 ⟨h.bl.trans (k.toBelow (fun x hx => by have := hp x hx; omega) h.bl.size), h.k.offp k (fun e => by have := hp _ e; omega), h.r.offp k (fun e => by have := hp _ e; omega)⟩
structure Du (q : Nat) (W : World) (v1 v2 : Value) (l1 : List Int) (l2 : List An) : Prop where
  o1 : W.ownsRow q 3 1 v1 l1.length (flat l1)
  o2 : W.ownsRow q 178 4 v2 l2.length (flat l2)
  q : q <= W.heap.size
section
variable {q : Nat} {W : World} {v1 v2 : Value} {l1 : List Int} {l2 : List An}
theorem Du.nil (q : Nat) (W : World) (hq : q <= W.heap.size) : Du q W (.slice none 0 0) (.slice none 0 0) [] [] := ⟨World.ownsRow_nil _ _ _ _, World.ownsRow_nil _ _ _ _, hq⟩
theorem Du.alloc (h : Du q W v1 v2 l1 l2) (ob : Obj) : Du q (W.alloc ob) v1 v2 l1 l2 := ⟨Qbn h.o1 _, Qbn h.o2 _, by have := h.q; simp; omega⟩
theorem Du.new1 {g : Nat} (h : Du q W (.slice none 0 0) v2 [] l2) (hg : W.heap.size = g) : Du q (W.alloc (.cells #[] 3)) (.slice (some ⟨g, 0, none⟩) 0 0) v2 [] l2 := by
 subst hg
 exact ⟨Qch (World.ownsRow_made W #[] 0 (Nat.le_refl _) (by simp [maxLen]) rfl) h.q, Qbn h.o2 _, by have := h.q; simp; omega⟩
theorem Du.new2 {g : Nat} (h : Du q W v1 (.slice none 0 0) l1 []) (hg : W.heap.size = g) : Du q (W.alloc (.cells #[] 178)) v1 (.slice (some ⟨g, 0, none⟩) 0 0) l1 [] := by
 subst hg
 exact ⟨Qbn h.o1 _, Qch (World.ownsRow_made W #[] 0 (Nat.le_refl _) (by simp [maxLen]) rfl) h.q, by have := h.q; simp; omega⟩
theorem Du.out {g : Nat} (h : Du q W v1 v2 l1 l2) (hg : W.heap.size = g) : Blk (W.alloc (.cells #[.slice none 0 0, .slice none 0 0, .slice none 0 0, .int .i64 0, .slice none 0 0, .slice none 0 0] 53)) g 53 #[.slice none 0 0, .slice none 0 0, .slice none 0 0, .int .i64 0, .slice none 0 0, .slice none 0 0] := by subst hg; exact Blk.new W _ _
theorem Du.app1 {A : Option Addr} {cap : Nat} {m : List Int} (h : Du q W v1 v2 [] l2) (hA : At W A m) (hm : m.length <= 1048576) :
 ∃ a c w', (Builtin.append_ #[28, 28] 28 #[v1, .slice A m.length cap]).run Tryz.prog W = .ok (.slice a m.length c) w' /\ Du q w' (.slice a m.length c) v2 m l2 /\ (∀ p vs, Blk W p 53 vs -> Blk w' p 53 vs) /\ Below q W w' := by
 obtain ⟨v, w1, hr, hown, hgrow, hat⟩ := Qa0 (P := Tryz.prog) Tryz.underlying28 Qac rfl (by decide) (by decide) q v1 ([] : List Int) m A cap W h.q h.o1 hA (by simp; omega)
 simp only [List.length_nil, Nat.zero_add, List.nil_append] at hown
 obtain ⟨a, c, rfl, _⟩ := Qar hown
 refine ⟨a, c, w1, hr, ⟨hown, Qcu h.o2 hgrow (fun x hx e => ?_), Nat.le_trans h.q hgrow.size⟩, fun p vs hp => hp.kept hgrow (fun e => Qbz h.o1 hp (by decide) p e.symm rfl), (Below.refl _ W).grown hgrow h.q (fun k e => (h.o1.lt k e).1)⟩
 rcases h.o2.2 with ⟨rfl, _⟩ | ⟨g, c', cur, rfl, _, hg, _⟩
 . cases hx
 . have e1 : g = x := by simpa [Value.ownBlock] using hx
   subst e1
   exact Qbz h.o1 (show Blk W g 178 cur from hg) (by decide) g e.symm rfl
theorem Du.app2 {A : Option Addr} {cap : Nat} {m : List An} (h : Du q W v1 v2 l1 []) (hA : At W A m) (hm : m.length <= 1048576) :
 ∃ a c w', (Builtin.append_ #[51, 51] 51 #[v2, .slice A m.length cap]).run Tryz.prog W = .ok (.slice a m.length c) w' /\ Du q w' v1 (.slice a m.length c) l1 m /\ (∀ p vs, Blk W p 53 vs -> Blk w' p 53 vs) /\ Below q W w' := by
 obtain ⟨v, w1, hr, hown, hgrow, hat⟩ := Qa0 (P := Tryz.prog) Tryz.underlying51 infoAn rfl (by decide) (by decide) q v2 ([] : List An) m A cap W h.q h.o2 hA (by simp; omega)
 simp only [List.length_nil, Nat.zero_add, List.nil_append] at hown
 obtain ⟨a, c, rfl, _⟩ := Qar hown
 refine ⟨a, c, w1, hr, ⟨Qcu h.o1 hgrow (fun x hx e => ?_), hown, Nat.le_trans h.q hgrow.size⟩, fun p vs hp => hp.kept hgrow (fun e => Qbz h.o2 hp (by decide) p e.symm rfl), (Below.refl _ W).grown hgrow h.q (fun k e => (h.o2.lt k e).1)⟩
 rcases h.o1.2 with ⟨rfl, _⟩ | ⟨g, c', cur, rfl, _, hg, _⟩
 . cases hx
 . have e1 : g = x := by simpa [Value.ownBlock] using hx
   subst e1
   exact Qbz h.o2 (show Blk W g 3 cur from hg) (by decide) g e.symm rfl
end
abbrev putK (Y : World) (p : Nat) (v0 v1 v2 v3 v4 v5 : Value) : World := (((((Y.setCell ⟨p, 0, none⟩ v0).setCell ⟨p, 1, none⟩ v1).setCell ⟨p, 2, none⟩ v2).setCell ⟨p, 3, none⟩ v3).setCell ⟨p, 4, none⟩ v4).setCell ⟨p, 5, none⟩ v5
theorem Qaz (Y : World) (p : Nat) (v0 v1 v2 v3 v4 v5 : Value) : Only p Y (putK Y p v0 v1 v2 v3 v4 v5) := (((((((Only.refl p Y).set 0 v0).set 1 v1).set 2 v2).set 3 v3).set 4 v4).set 5 v5)
theorem Qe6 {Y : World} {p : Nat} {t : TypeId} {x0 x1 x2 x3 x4 x5 : Value} (h : Blk Y p t #[x0, x1, x2, x3, x4, x5]) (v0 v1 v2 v3 v4 v5 : Value) : Blk (putK Y p v0 v1 v2 v3 v4 v5) p t #[v0, v1, v2, v3, v4, v5] := (((((h.setAt 0 v0).setAt 1 v1).setAt 2 v2).setAt 3 v3).setAt 4 v4).setAt 5 v5
theorem Qek {W : World} {p : Nat} {t : TypeId} {x0 x1 x2 x3 x4 x5 : Value} (h : Blk W p t #[x0, x1, x2, x3, x4, x5]) (v0 v1 v2 v3 v4 v5 : Value) :
 (W.setCell ⟨p, 0, none⟩ v0).cell? ⟨p, 0, none⟩ = some v0 /\ ((W.setCell ⟨p, 0, none⟩ v0).setCell ⟨p, 1, none⟩ v1).cell? ⟨p, 1, none⟩ = some v1 /\ (((W.setCell ⟨p, 0, none⟩ v0).setCell ⟨p, 1, none⟩ v1).setCell ⟨p, 2, none⟩ v2).cell? ⟨p, 2, none⟩ = some v2 /\
  ((((W.setCell ⟨p, 0, none⟩ v0).setCell ⟨p, 1, none⟩ v1).setCell ⟨p, 2, none⟩ v2).setCell ⟨p, 3, none⟩ v3).cell? ⟨p, 3, none⟩ = some v3 /\ (((((W.setCell ⟨p, 0, none⟩ v0).setCell ⟨p, 1, none⟩ v1).setCell ⟨p, 2, none⟩ v2).setCell ⟨p, 3, none⟩ v3).setCell ⟨p, 4, none⟩ v4).cell? ⟨p, 4, none⟩ = some v4 /\
  (putK W p v0 v1 v2 v3 v4 v5).cell? ⟨p, 5, none⟩ = some v5 :=
 ⟨(h.setAt 0 v0).cell (by rfl), ((h.setAt 0 v0).setAt 1 v1).cell (by rfl), (((h.setAt 0 v0).setAt 1 v1).setAt 2 v2).cell (by rfl), ((((h.setAt 0 v0).setAt 1 v1).setAt 2 v2).setAt 3 v3).cell (by rfl), (((((h.setAt 0 v0).setAt 1 v1).setAt 2 v2).setAt 3 v3).setAt 4 v4).cell (by rfl), (Qe6 h v0 v1 v2 v3 v4 v5).cell (by rfl)⟩
structure KP {α : Type} [Cel α] (Pr : World -> α -> (Nat -> Prop) -> Prop) (t : TypeId) (Pk : World -> Prop) (B : Nat) (w W : World) (kc : Array Value) (P : Nat) (vs : Array Value) (a : Option Addr) (cp : Nat) (xs : List α) : Prop where
  kd : Kd w W kc
  box : Blk W P 53 vs
  hp : w.heap.size + 1 < P
  pb : P < B
  gu : GU Pr t B B W a cp xs
  pk : Pk W
  stay : Stay2 P B Pk
section
variable {α : Type} [Cel α] {Pr : World -> α -> (Nat -> Prop) -> Prop} {t : TypeId} {Pk : World -> Prop} {B : Nat} {w W W1 : World} {kc vs : Array Value} {P : Nat} {a : Option Addr} {cp : Nat} {xs : List α}
theorem KP.drew (hP : Firm Pr) (h : KP Pr t Pk B w W kc P vs a cp xs) : KP Pr t Pk B w W.drew kc P vs a cp xs :=
 ⟨h.kd.below (Below.refl _ _).drew, h.box.drew, h.hp, h.pb, h.gu.offp hP (Offp.of_below (S := fun _ => False) (Below.refl _ _).drew) (fun _ e => e.elim), h.stay _ _ (fun _ => False) h.pk (Offp.of_below (Below.refl _ _).drew) (fun _ e => e.elim), h.stay⟩
theorem KP.below (hP : Firm Pr) (h : KP Pr t Pk B w W kc P vs a cp xs) (k : Below W.heap.size W W1) : KP Pr t Pk B w W1 kc P vs a cp xs :=
 ⟨h.kd.below k, h.box.below k h.box.lt, h.hp, h.pb, h.gu.offp hP (Offp.of_below (S := fun _ => False) k) (fun _ e => e.elim), h.stay _ _ (fun _ => False) h.pk (Offp.of_below k) (fun _ e => e.elim), h.stay⟩
theorem KP.round (hP : Firm Pr) {pg : Program} {ts : TypeId} {z : Value} {bytes : Nat} (hu : pg.underlying ts = some (.slice t)) (hinfo : (pg.info? t).map (fun i => (i.zero, i.size, i.bytes)) = some (some z, Cel.k α, bytes)) (hz : z.cells.size = Cel.k α) (hk : 0 < Cel.k α) (hby : bytes <= 1000)
 (h : KP Pr t Pk B w W kc P vs a cp xs) (k : Below W.heap.size W W1) (x : α) (hy : Pr W1 x (fun b => W.heap.size <= b /\ b < W1.heap.size)) (cs : Array Value) (hcs : cs.toList = Cel.cs x) (hx : xs.length <= 2000000) (f : Nat) :
 ∃ a2 c2 W2, (Builtin.append_ #[ts, ts] ts #[.slice a xs.length cp, .slice (some ⟨W1.heap.size, 0, none⟩) 1 1]).run pg (W1.alloc (.cells cs t)) = .ok (.slice a2 (xs.length + 1) c2) W2 /\ Blk W2 P 53 vs /\ Kd w W2 kc /\
  KP Pr t Pk B w (W2.setCell ⟨P, f, none⟩ (.slice a2 (xs.length + 1) c2)) kc P (vs.setIfInBounds f (.slice a2 (xs.length + 1) c2)) a2 c2 (xs ++ [x]) := by
 have h1 := h.below hP k
 have hPl := h.pb
 obtain ⟨a2, c2, W2, hr, hg, ko⟩ := h.gu.app hP hu hinfo hz hk hby (Offp.of_below (S := fun _ => False) k) (fun _ e => e.elim) x hy (fun y hy => hy) cs hcs hx
 have kb := Qab (Below.refl _ W1) (.cells cs t)
 have h2 := h1.kd.below kb
 have b2 : Blk W2 P 53 vs := (h1.box.below kb h1.box.lt).offp ko (by omega)
 have d2 : Kd w W2 kc := h2.offp ko (fun x hx => by have := h.hp; omega)
 have kc' := Offp.of_only ((Only.refl P W2).set f (.slice a2 (xs.length + 1) c2))
 refine ⟨a2, c2, W2, hr, b2, d2, ⟨d2.offp kc' (fun x hx => by subst hx; exact h.hp), b2.setAt f _, h.hp, h.pb, hg.offp hP kc' (fun y e => by subst e; exact h.pb), ?_, h.stay⟩⟩
 exact h.stay _ _ _ (h.stay _ _ _ (h.stay _ _ _ h1.pk (Offp.of_below (S := fun _ => False) kb) (fun _ e => e.elim)) ko (fun y e => .inr e)) kc' (fun y e => .inl e)
theorem KP.next {β : Type} [Cel β] {Q : World -> β -> (Nat -> Prop) -> Prop} {u : TypeId} (hP : Firm Pr) (h : KP Pr t Pk B w W kc P vs a cp xs) : KP (α := β) Q u (fun V => Pk V /\ Own Pr V a xs (fun b => B <= b /\ b < W.heap.size)) W.heap.size w W kc P vs none 0 [] := by
 have hB := h.gu.hB
 refine ⟨h.kd, h.box, h.hp, by have := h.pb; omega, GU.start (Nat.le_refl _) (Nat.le_refl _), ⟨h.pk, h.gu.toOwn⟩, ?_⟩
 rintro V V' T ⟨p1, p2⟩ k hT
 refine ⟨h.stay _ _ _ p1 k (fun x hx => (hT x hx).imp id (fun e => by omega)), p2.offp hP k (fun x hx e => ?_)⟩
 rcases hT x e with e1 | e1
 . have := h.pb; omega
 . omega
end
end Go.Proofs.YtmdaammalacifaaGreat.Gen
