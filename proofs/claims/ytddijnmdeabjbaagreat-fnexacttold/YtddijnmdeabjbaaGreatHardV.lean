/-
  What a node must keep (Hard): what the laws' eq, mark and held functions of it do. No condition but the sizes of its lists.
-/
import Derived.Test.YtddijnmdeabjbaaGreatKeepV
import Derived.Test.YtddijnmdeabjbaaGreatLogV
set_option linter.unusedVariables false
set_option linter.unusedSimpArgs false
set_option maxRecDepth 100000
set_option maxHeartbeats 8000000
namespace Go.Proofs.YtddijnmdeabjbaaGreat.Gen
open ChangeShapes WideShapes ChangeAt RowKit Joins Deep Base
theorem Blk.row11 {W : World} {B : Nat} {t : TypeId} {a b c d e f g h i j k : Value} (p : Blk W B t #[a, b, c, d, e, f, g, h, i, j, k]) :
 W.cell? ⟨B, 0, none⟩ = some a /\ W.cell? ⟨B, 1, none⟩ = some b /\ W.cell? ⟨B, 2, none⟩ = some c /\ W.cell? ⟨B, 2 + 1, none⟩ = some d /\ W.cell? ⟨B, 2 + 2, none⟩ = some e /\ W.cell? ⟨B, 5, none⟩ = some f /\ W.cell? ⟨B, 5 + 1, none⟩ = some g /\ W.cell? ⟨B, 5 + 2, none⟩ = some h /\ W.cell? ⟨B, 5 + 3, none⟩ = some i /\ W.cell? ⟨B, 5 + 4, none⟩ = some j /\ W.cell? ⟨B, 5 + 5, none⟩ = some k :=
 ⟨p.cell (by rfl), p.cell (by rfl), p.cell (by rfl), p.cell (by rfl), p.cell (by rfl), p.cell (by rfl), p.cell (by rfl), p.cell (by rfl), p.cell (by rfl), p.cell (by rfl), p.cell (by rfl)⟩
theorem Qc1 (x y : KC) (hf : KFit x) (hp : y.p = x.p) (w : World) (hx : KAt w x) (hy : KAt w y) :
 Calls Tryz.prog 104 #[.agg #[.slice x.rA x.rs.length x.rc, .slice x.mA x.ms.length x.mc, .slice x.gA x.gs.length x.gc, .int .i64 x.time, .slice x.dA x.ds.length x.dc, .slice x.lA x.ls.length x.lc], .agg #[.slice y.rA y.rs.length y.rc, .slice y.mA y.ms.length y.mc, .slice y.gA y.gs.length y.gc, .int .i64 y.time, .slice y.dA y.ds.length y.dc, .slice y.lA y.ls.length y.lc]] w fun e w' => e = .returned (.bool true) /\ Below w.heap.size w w' := by
 have h := Qdo x y hf hp w hx hy
 obtain ⟨l1, l2, l3, l4, l5, l6⟩ := KC.p_len hp
 rw [← l1, ← l2, ← l3, ← l4] at h
 rw [l5, l6]
 rw [← l1, ← l2, ← l3, ← l4]
 exact h
theorem Qdq (te vo base bt : Int) (A A' : Option Addr) (cap cap' : Nat) (l : List En) (hl : l.length <= 9223372036854775807) (x y : KC) (hf : KFit x) (hp : y.p = x.p) (w : World) (hA : At w A l) (hA' : At w A' l) (hx : KAt w x) (hy : KAt w y) :
 Calls Tryz.prog 102 #[.agg #[.int .i64 te, .int .i64 vo, .int .i64 base, .int .i64 bt, .slice A l.length cap, .slice x.rA x.rs.length x.rc, .slice x.mA x.ms.length x.mc, .slice x.gA x.gs.length x.gc, .int .i64 x.time, .slice x.dA x.ds.length x.dc, .slice x.lA x.ls.length x.lc], .agg #[.int .i64 te, .int .i64 vo, .int .i64 base, .int .i64 bt, .slice A' l.length cap', .slice y.rA y.rs.length y.rc, .slice y.mA y.ms.length y.mc, .slice y.gA y.gs.length y.gc, .int .i64 y.time, .slice y.dA y.ds.length y.dc, .slice y.lA y.ls.length y.lc]] w fun e w' => e = .returned (.bool true) /\ Below w.heap.size w w' := by
 have E1 : Hid (∀ W : World, Below w.heap.size w W -> Calls Tryz.prog 131 #[.agg #[.int .i64 base, .int .i64 bt, .slice A l.length cap], .agg #[.int .i64 base, .int .i64 bt, .slice A' l.length cap']] W fun e w' => e = .returned (.bool true) /\ Below W.heap.size W w') := fun W g =>
  eqLog_same base bt A A' cap cap' l hl W (hA.below g) (hA'.below g)
 have E2 : Hid (∀ W : World, Below w.heap.size w W -> Calls Tryz.prog 104 #[.agg #[.slice x.rA x.rs.length x.rc, .slice x.mA x.ms.length x.mc, .slice x.gA x.gs.length x.gc, .int .i64 x.time, .slice x.dA x.ds.length x.dc, .slice x.lA x.ls.length x.lc], .agg #[.slice y.rA y.rs.length y.rc, .slice y.mA y.ms.length y.mc, .slice y.gA y.gs.length y.gc, .int .i64 y.time, .slice y.dA y.ds.length y.dc, .slice y.lA y.ls.length y.lc]] W fun e w' => e = .returned (.bool true) /\ Below W.heap.size W w') := fun W g =>
  Qc1 x y hf hp W (hx.below g) (hy.below g)
 clear hA hA' hx hy hf hp
 go_enter Tryz.func102, Tryz.ntmps102
 go_wp2_with fail
 have p0 : Blk ((w.alloc (.cells #[.int .i64 te, .int .i64 vo, .int .i64 base, .int .i64 bt, .slice A l.length cap, .slice x.rA x.rs.length x.rc, .slice x.mA x.ms.length x.mc, .slice x.gA x.gs.length x.gc, .int .i64 x.time, .slice x.dA x.ds.length x.dc, .slice x.lA x.ls.length x.lc] 62)).alloc (.cells #[.int .i64 te, .int .i64 vo, .int .i64 base, .int .i64 bt, .slice A' l.length cap', .slice y.rA y.rs.length y.rc, .slice y.mA y.ms.length y.mc, .slice y.gA y.gs.length y.gc, .int .i64 y.time, .slice y.dA y.ds.length y.dc, .slice y.lA y.ls.length y.lc] 62)) w.heap.size 62 #[.int .i64 te, .int .i64 vo, .int .i64 base, .int .i64 bt, .slice A l.length cap, .slice x.rA x.rs.length x.rc, .slice x.mA x.ms.length x.mc, .slice x.gA x.gs.length x.gc, .int .i64 x.time, .slice x.dA x.ds.length x.dc, .slice x.lA x.ls.length x.lc] := (Blk.new w _ _).alloc _
 have r0 : Blk ((w.alloc (.cells #[.int .i64 te, .int .i64 vo, .int .i64 base, .int .i64 bt, .slice A l.length cap, .slice x.rA x.rs.length x.rc, .slice x.mA x.ms.length x.mc, .slice x.gA x.gs.length x.gc, .int .i64 x.time, .slice x.dA x.ds.length x.dc, .slice x.lA x.ls.length x.lc] 62)).alloc (.cells #[.int .i64 te, .int .i64 vo, .int .i64 base, .int .i64 bt, .slice A' l.length cap', .slice y.rA y.rs.length y.rc, .slice y.mA y.ms.length y.mc, .slice y.gA y.gs.length y.gc, .int .i64 y.time, .slice y.dA y.ds.length y.dc, .slice y.lA y.ls.length y.lc] 62)) (w.heap.size + 1) 62 #[.int .i64 te, .int .i64 vo, .int .i64 base, .int .i64 bt, .slice A' l.length cap', .slice y.rA y.rs.length y.rc, .slice y.mA y.ms.length y.mc, .slice y.gA y.gs.length y.gc, .int .i64 y.time, .slice y.dA y.ds.length y.dc, .slice y.lA y.ls.length y.lc] := by have := Blk.new (w.alloc (.cells #[.int .i64 te, .int .i64 vo, .int .i64 base, .int .i64 bt, .slice A l.length cap, .slice x.rA x.rs.length x.rc, .slice x.mA x.ms.length x.mc, .slice x.gA x.gs.length x.gc, .int .i64 x.time, .slice x.dA x.ds.length x.dc, .slice x.lA x.ls.length x.lc] 62)) 62 #[.int .i64 te, .int .i64 vo, .int .i64 base, .int .i64 bt, .slice A' l.length cap', .slice y.rA y.rs.length y.rc, .slice y.mA y.ms.length y.mc, .slice y.gA y.gs.length y.gc, .int .i64 y.time, .slice y.dA y.ds.length y.dc, .slice y.lA y.ls.length y.lc]; simpa using this
 have B0 : Below w.heap.size w ((w.alloc (.cells #[.int .i64 te, .int .i64 vo, .int .i64 base, .int .i64 bt, .slice A l.length cap, .slice x.rA x.rs.length x.rc, .slice x.mA x.ms.length x.mc, .slice x.gA x.gs.length x.gc, .int .i64 x.time, .slice x.dA x.ds.length x.dc, .slice x.lA x.ls.length x.lc] 62)).alloc (.cells #[.int .i64 te, .int .i64 vo, .int .i64 base, .int .i64 bt, .slice A' l.length cap', .slice y.rA y.rs.length y.rc, .slice y.mA y.ms.length y.mc, .slice y.gA y.gs.length y.gc, .int .i64 y.time, .slice y.dA y.ds.length y.dc, .slice y.lA y.ls.length y.lc] 62)) := by repeat (first | exact Below.refl _ _ | assumption | refine via0 (by assumption) ?_ | refine Below.drew ?_ | refine Qaa ?_ _)
 refine (E1.out _ B0).mono ?_
 rintro e w1 ⟨rfl, g1⟩
 have p1 := p0.below g1 p0.lt
 have r1 := r0.below g1 r0.lt
 have B1 : Below w.heap.size w w1 := via0 g1 B0
 obtain ⟨u0, u1, u2, u3, u4, u5, u6, u7, u8, u9, u10⟩ := p1.row11
 obtain ⟨v0, v1, v2, v3, v4, v5, v6, v7, v8, v9, v10⟩ := r1.row11
 have q1 := p1.lt
 have t1 := r1.lt
 clear p0 r0 B0 g1
 go_wp2_with fail
 refine (E2.out _ B1).mono ?_
 rintro e w2 ⟨rfl, g2⟩
 have B2 : Below w.heap.size w w2 := via0 g2 B1
 go_wp2
 go_ret
 exact ⟨rfl, B2⟩
end Go.Proofs.YtddijnmdeabjbaaGreat.Gen
