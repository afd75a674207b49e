/-
  The program's copy of a group, each list in memory of its own. No condition but that there are at most 1048576 numbers in each.
-/
import Derived.Test.YtengolneibbdfaaGreatKeepV
import Derived.Test.YtengolneibbdfaaGreatAnsList
namespace Go.Proofs.YtengolneibbdfaaGreat.Gen
open Go.ChangeShapes Go.WideShapes Go.ChangeAt Go.RowKit Go.Joins Go.Deep Base
set_option linter.unusedVariables false
set_option linter.unusedSimpArgs false
structure Bx2 (w W : World) (t : TypeId) (zs vs : Array Value) : Prop where
  bl : Below w.heap.size w W
  p1 : Blk W w.heap.size t vs
  p2 : Blk W (w.heap.size + 1) t zs
theorem Bx2.below {w W W' : World} {t : TypeId} {zs vs : Array Value} (m : Bx2 w W t zs vs) (g : Below W.heap.size W W') : Bx2 w W' t zs vs := ⟨via0 g m.bl, m.p1.below g m.p1.lt, m.p2.below g m.p2.lt⟩
theorem Bx2.new (w : World) (t : TypeId) (zs vs : Array Value) : Bx2 w ((w.alloc (.cells vs t)).alloc (.cells zs t)).drew t zs vs := ⟨by repeat (first | exact Below.refl _ _ | assumption | refine via0 (by assumption) ?_ | refine Below.drew ?_ | refine alloc0 ?_ _), ((Blk.new w _ _).alloc _).drew, by have := (Blk.new (w.alloc (.cells vs t)) t zs).drew; rwa [World.size_alloc] at this⟩
set_option maxRecDepth 100000 in
set_option maxHeartbeats 4000000 in
theorem grpCopied_any (gen : Int) (A B C : Option Addr) (ca cb cc : Nat) (m b o : List Int) (hm : m.length <= 1048576) (hb : b.length <= 1048576) (ho : o.length <= 1048576) (w : World) (hA : At w A m) (hB : At w B b) (hC : At w C o) :
    Calls Tryz.prog 175 #[.agg #[.int .i64 gen, .slice A m.length ca, .slice B b.length cb, .slice C o.length cc]] w fun e w' => ∃ (a1 : Option Addr) (c1 : Nat) (a2 : Option Addr) (c2 : Nat) (a3 : Option Addr) (c3 : Nat), e = .returned (.agg #[.int .i64 gen, .slice a1 m.length c1, .slice a2 b.length c2, .slice a3 o.length c3]) /\ Below w.heap.size w w' /\ grpP w' (⟨gen, a1, c1, m, a2, c2, b, a3, c3, o⟩ : GC) (fun z => w.heap.size <= z /\ z < w'.heap.size) := by
  have HA := hidP hA
  have HB := hidP hB
  have HC := hidP hC
  clear hA hB hC
  have I := Bx2.new w 139 #[.int .i64 0, .slice none 0 0, .slice none 0 0, .slice none 0 0] #[.int .i64 gen, .slice A m.length ca, .slice B b.length cb, .slice C o.length cc]
  have z0 : w.heap.size + 2 <= ((w.alloc (.cells #[.int .i64 gen, .slice A m.length ca, .slice B b.length cb, .slice C o.length cc] 139)).alloc (.cells #[.int .i64 0, .slice none 0 0, .slice none 0 0, .slice none 0 0] 139)).drew.heap.size := by simp
  go_enter Tryz.func175, Tryz.ntmps175
  go_wp2_with fail
  refine wp_region_noPanic ?_
  have hH : (fun (W : World) => W.cell? ⟨w.heap.size, 0, none⟩ = some (.int .i64 gen) /\ W.cell? ⟨w.heap.size, 1, none⟩ = some (.slice A m.length ca) /\ W.cell? ⟨w.heap.size, 2, none⟩ = some (.slice B b.length cb) /\ W.cell? ⟨w.heap.size, 3, none⟩ = some (.slice C o.length cc)) _ := I.p1.row4
  refine region_upTo 12 (fun (W : World) => W.cell? ⟨w.heap.size, 0, none⟩ = some (.int .i64 gen) /\ W.cell? ⟨w.heap.size, 1, none⟩ = some (.slice A m.length ca) /\ W.cell? ⟨w.heap.size, 2, none⟩ = some (.slice B b.length cb) /\ W.cell? ⟨w.heap.size, 3, none⟩ = some (.slice C o.length cc)) (by kernel_rfl) ?_
  refine zpk [0,1,2,3,5,6,8,9] ?_; repeat (refine zpn (h := ?_); try simp only [zX,zY])
  refine zpe ?_
  refine upTo_next (i := 4) (by kernel_rfl) rfl (fun K hK => ?_)
  simp only [zG]
  go_simp
  refine (cpInts A ca m hm _ (HA.out.below I.bl)).mono ?_
  rintro e w1 ⟨a1, c1, rfl, g1, F1⟩
  have G1 := hidP F1
  have z1 := g1.size
  replace I := I.below g1
  have T1 := I.p1.row4
  clear g1 F1
  refine hK.out _ _ (Or.inr T1) ?_
  clear hK K
  try simp only [zX,zY]
  refine upTo_next (i := 7) (by kernel_rfl) rfl (fun K hK => ?_)
  simp only [zG]
  go_simp
  refine (cpInts B cb b hb _ (HB.out.below I.bl)).mono ?_
  rintro e w2 ⟨a2, c2, rfl, g2, F2⟩
  replace G1 := hidP (G1.out.below g2)
  have G2 := hidP F2
  have z2 := g2.size
  replace I := I.below g2
  have T2 := I.p1.row4
  clear g2 F2
  refine hK.out _ _ (Or.inr T2) ?_
  clear hK K
  try simp only [zX,zY]
  refine upTo_next (i := 10) (by kernel_rfl) rfl (fun K hK => ?_)
  simp only [zG]
  go_simp
  refine (cpInts C cc o ho _ (HC.out.below I.bl)).mono ?_
  rintro e w3 ⟨a3, c3, rfl, g3, F3⟩
  replace G1 := hidP (G1.out.below g3)
  replace G2 := hidP (G2.out.below g3)
  have G3 := hidP F3
  have z3 := g3.size
  replace I := I.below g3
  have T3 := I.p1.row4
  clear g3 F3
  refine hK.out _ _ (Or.inr T3) ?_
  clear hK K
  try simp only [zX,zY]
  refine zp1 11 ?_; refine zpn (h := ?_); try simp only [zX,zY]
  refine zpe ?_
  refine upTo_next (i := 12) (by kernel_rfl) rfl (fun K hK => ?_)
  simp only [zG]
  obtain ⟨y0, y1, y2, y3⟩ := I.p2.row4
  have f0 := I.p2.thaw 0; have f1 := I.p2.thaw 1; have f2 := I.p2.thaw 2; have f3 := I.p2.thaw 3
  go_simp
  refine hK.out _ _ (Or.inl rfl) ?_
  clear hK K
  try simp only [zX,zY]
  refine upTo_done (by kernel_rfl) ?_ _
  refine NoPanic.normal ?_
  have Q9 := ((((I.p2.setAt 0 (.int .i64 gen)).setAt 1 (.slice a1 m.length c1)).setAt 2 (.slice a2 b.length c2)).setAt 3 (.slice a3 o.length c3))
  obtain ⟨e0, e1, e2, e3⟩ := (show Blk _ _ _ #[.int .i64 gen, .slice a1 m.length c1, .slice a2 b.length c2, .slice a3 o.length c3] from Q9).row4
  go_wp2
  refine bodyPost_ret (v := .agg #[.int .i64 gen, .slice a1 m.length c1, .slice a2 b.length c2, .slice a3 o.length c3]) (by simp [results, Tryz.results175, go_sem, e0, e1, e2, e3]) rfl ?_
  have k := Offp.of_only ((((((Only.refl (w.heap.size + 1) w3).set 0 (.int .i64 gen)).set 1 (.slice a1 m.length c1)).set 2 (.slice a2 b.length c2)).set 3 (.slice a3 o.length c3)))
  have hs := k.size
  refine ⟨a1, c1, a2, c2, a3, c3, rfl, I.bl.trans (k.toBelow (fun x hx => by omega) I.bl.size), ?_⟩
  refine ⟨fun z => w.heap.size + 2 <= z /\ z < w1.heap.size, fun z => w1.heap.size <= z /\ z < w2.heap.size, fun z => w2.heap.size <= z /\ z < w3.heap.size, fun y hy => ?_, fun y hy => ?_, fun y hy => ?_, fun y h1 h2 => ?_, fun y h1 h2 => ?_, fun y h1 h2 => ?_, (G1.out.mono (fun y hy => ⟨by omega, hy.2⟩)).offp k (fun y hy e => ?_), G2.out.offp k (fun y hy e => ?_), G3.out.offp k (fun y hy e => ?_)⟩<;>omega
end Go.Proofs.YtengolneibbdfaaGreat.Gen
