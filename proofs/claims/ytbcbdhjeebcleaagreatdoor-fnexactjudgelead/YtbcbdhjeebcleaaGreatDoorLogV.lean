/-
  Logs: what the laws' sz, to and eq functions of them do; a log opened. No condition but that there are at most 1048576 entries, and the length that every text has.
-/
import Derived.Test.YtbcbdhjeebcleaaGreatDoorEnt
import Derived.Test.YtbcbdhjeebcleaaGreatDoorGpList
set_option linter.unusedVariables false
set_option linter.unusedSimpArgs false
set_option maxRecDepth 100000
set_option maxHeartbeats 8000000
namespace Go.Proofs.YtbcbdhjeebcleaaGreatDoor.Gen
open ChangeShapes WideShapes ChangeAt RowKit Joins Deep Base
theorem At.hid {α : Type} [Cel α] {w : World} {A : Option Addr} {l : List α} (hA : At w A l) : Hid (∀ W : World, Below w.heap.size w W -> At W A l) := fun W hW => hA.below hW
theorem szLog_any (base bt : Int) (A : Option Addr) (cap : Nat) (l : List En) (hl : l.length <= 9223372036854775807) (hr : ∀ x ∈ l, x.fit) (left : Int) (h0 : 0 <= left) (h1 : left <= 1048576) (w : World) (hA : At w A l) :
 Calls Tryz.prog 94 #[.agg #[.int .i64 base, .int .i64 bt, .slice A l.length cap], .int .i64 left] w fun e w' => (∃ r : Int, e = .returned (.int .i64 r) /\ (r < 0 ∨ (0 <= r /\ r = left - (l.length : Int) - (Qah szEn l : Int)))) /\ Below w.heap.size w w' := by
 have HA := hA.hid
 have Hr := hidP hr
 clear hA hr
 go_enter Tryz.func94, Tryz.ntmps94
 go_wp2_with fail
 refine (Qdc A cap l hl Hr.out left h0 h1 _ (HA.out _ (by repeat (first | exact Below.refl _ _ | assumption | refine via0 (by assumption) ?_ | refine Below.drew ?_ | refine Qaa ?_ _)))).mono ?_
 rintro e w1 ⟨⟨r, rfl, hr⟩, g1⟩
 have HR := hidP hr
 have B1 : Below w.heap.size w w1 := by repeat (first | exact Below.refl _ _ | assumption | refine via0 (by assumption) ?_ | refine Below.drew ?_ | refine Qaa ?_ _)
 clear hr
 by_cases hn : r < 0
 . go_wp2
   go_ret
   exact ⟨⟨-1, rfl, .inl (by omega)⟩, B1⟩
 . go_wp2
   go_ret
   exact ⟨⟨r, rfl, HR.out⟩, B1⟩
theorem toLog_any (base bt : Int) (A : Option Addr) (cap : Nat) (l : List En) (hl : l.length <= 1048576) (w : World) (hA : At w A l) :
 Calls Tryz.prog 105 #[.agg #[.int .i64 base, .int .i64 bt, .slice A l.length cap]] w
  fun e w' => ∃ b, e = .returned (.agg #[.int .i64 base, .int .i64 bt, .slice (some ⟨b, 0, none⟩) l.length l.length]) /\ Below w.heap.size w w' /\ w.heap.size <= b /\ b < w'.heap.size /\ In w' b 0 l /\ w'.there b 0 (l.length * 9) := by
 have HA := hA.hid
 clear hA
 go_enter Tryz.func105, Tryz.ntmps105
 go_wp2_with (go_at_call 69; refine (Qda A cap l hl _ (HA.out _ ?_)).mono ?_; (repeat (first | exact Below.refl _ _ | assumption | refine via0 (by assumption) ?_ | refine Below.drew ?_ | refine Qaa ?_ _)); rintro e w1 ⟨rfl, g1, s1, i1, t1⟩; obtain ⟨k1, m1⟩ := Qaf g1)
 have i2 : In w1 (w.heap.size + 1 + 1 + 1) 0 l := by simpa using i1
 have t2 : w1.there (w.heap.size + 1 + 1 + 1) 0 (l.length * 9) := by simpa using t1
 have s2 : w.heap.size + 1 + 1 + 1 < w1.heap.size := by simpa using s1
 have g2 : Below w.heap.size w w1 := via0 g1 (by repeat (first | exact Below.refl _ _ | assumption | refine via0 (by assumption) ?_ | refine Below.drew ?_ | refine Qaa ?_ _))
 refine bodyPost_ret (v := .agg #[.int .i64 base, .int .i64 bt, .slice (some ⟨w.heap.size + 1 + 1 + 1, 0, none⟩) l.length l.length]) (by simp [results, Tryz.results105, go_sem, k1]) rfl ⟨w.heap.size + 1 + 1 + 1, rfl, ?_, by omega, by simp; omega, ?_, ?_⟩
 . exact Qam (Qam (Qam (Qam (g2) (by omega) _) (by omega) _) (by omega) _) (by omega) _
 . exact In.set (In.set (In.set (In.set (i2) _ _ (by simp)) _ _ (by simp)) _ _ (by simp)) _ _ (by simp)
 . exact Qac (Qac (Qac (Qac (t2) _ _ _) _ _ _) _ _ _) _ _ _
theorem eqLog_same (base bt : Int) (A A' : Option Addr) (cap cap' : Nat) (l : List En) (hl : l.length <= 9223372036854775807) (w : World) (hA : At w A l) (hA' : At w A' l) :
 Calls Tryz.prog 124 #[.agg #[.int .i64 base, .int .i64 bt, .slice A l.length cap], .agg #[.int .i64 base, .int .i64 bt, .slice A' l.length cap']] w fun e w' => e = .returned (.bool true) /\ Below w.heap.size w w' := by
 have HA := hA.hid
 have HA' := hA'.hid
 clear hA hA'
 go_enter Tryz.func124, Tryz.ntmps124
 go_wp2_with (go_at_call 92; refine (Qcz A A' cap cap' l hl _ (HA.out _ ?_) (HA'.out _ ?_)).mono ?_; (repeat (first | exact Below.refl _ _ | assumption | refine via0 (by assumption) ?_ | refine Below.drew ?_ | refine Qaa ?_ _)); (repeat (first | exact Below.refl _ _ | assumption | refine via0 (by assumption) ?_ | refine Below.drew ?_ | refine Qaa ?_ _)); rintro e w1 ⟨rfl, g1⟩)
 go_ret
 refine ⟨rfl, ?_⟩
 repeat (first | exact Below.refl _ _ | assumption | refine via0 (by assumption) ?_ | refine Below.drew ?_ | refine Qaa ?_ _)
end Go.Proofs.YtbcbdhjeebcleaaGreatDoor.Gen
namespace Go.Proofs.YtbcbdhjeebcleaaGreatDoor.Gen
open ChangeShapes WideShapes ChangeAt RowKit Joins Deep Base
theorem Blk.row11 {W : World} {B : Nat} {t : TypeId} {a b c d e f g h i j k : Value} (p : Blk W B t #[a, b, c, d, e, f, g, h, i, j, k]) :
 W.cell? ⟨B, 0, none⟩ = some a /\ W.cell? ⟨B, 1, none⟩ = some b /\ W.cell? ⟨B, 2, none⟩ = some c /\ W.cell? ⟨B, 2 + 1, none⟩ = some d /\ W.cell? ⟨B, 2 + 2, none⟩ = some e /\ W.cell? ⟨B, 5, none⟩ = some f /\ W.cell? ⟨B, 5 + 1, none⟩ = some g /\ W.cell? ⟨B, 5 + 2, none⟩ = some h /\ W.cell? ⟨B, 5 + 3, none⟩ = some i /\ W.cell? ⟨B, 5 + 4, none⟩ = some j /\ W.cell? ⟨B, 5 + 5, none⟩ = some k :=
 ⟨p.cell (by rfl), p.cell (by rfl), p.cell (by rfl), p.cell (by rfl), p.cell (by rfl), p.cell (by rfl), p.cell (by rfl), p.cell (by rfl), p.cell (by rfl), p.cell (by rfl), p.cell (by rfl)⟩
theorem Qg5 (x y : KC) (hf : KFit x) (hp : y.p = x.p) (w : World) (hx : KAt w x) (hy : KAt w y) :
 Calls Tryz.prog 90 #[.agg #[.slice x.rA x.rs.length x.rc, .slice x.mA x.ms.length x.mc, .slice x.gA x.gs.length x.gc, .int .i64 x.time, .slice x.dA x.ds.length x.dc, .slice x.lA x.ls.length x.lc], .agg #[.slice y.rA y.rs.length y.rc, .slice y.mA y.ms.length y.mc, .slice y.gA y.gs.length y.gc, .int .i64 y.time, .slice y.dA y.ds.length y.dc, .slice y.lA y.ls.length y.lc]] w fun e w' => e = .returned (.bool true) /\ Below w.heap.size w w' := by
 have h := Qh9 x y hf hp w hx hy
 obtain ⟨l1, l2, l3, l4, l5, l6⟩ := KC.p_len hp
 rw [← l1, ← l2, ← l3, ← l4] at h
 rw [l5, l6]
 rw [← l1, ← l2, ← l3, ← l4]
 exact h
theorem Qib (te vo base bt : Int) (A A' : Option Addr) (cap cap' : Nat) (l : List En) (hl : l.length <= 9223372036854775807) (x y : KC) (hf : KFit x) (hp : y.p = x.p) (w : World) (hA : At w A l) (hA' : At w A' l) (hx : KAt w x) (hy : KAt w y) :
 Calls Tryz.prog 88 #[.agg #[.int .i64 te, .int .i64 vo, .int .i64 base, .int .i64 bt, .slice A l.length cap, .slice x.rA x.rs.length x.rc, .slice x.mA x.ms.length x.mc, .slice x.gA x.gs.length x.gc, .int .i64 x.time, .slice x.dA x.ds.length x.dc, .slice x.lA x.ls.length x.lc], .agg #[.int .i64 te, .int .i64 vo, .int .i64 base, .int .i64 bt, .slice A' l.length cap', .slice y.rA y.rs.length y.rc, .slice y.mA y.ms.length y.mc, .slice y.gA y.gs.length y.gc, .int .i64 y.time, .slice y.dA y.ds.length y.dc, .slice y.lA y.ls.length y.lc]] w fun e w' => e = .returned (.bool true) /\ Below w.heap.size w w' := by
 have E1 : Hid (∀ W : World, Below w.heap.size w W -> Calls Tryz.prog 124 #[.agg #[.int .i64 base, .int .i64 bt, .slice A l.length cap], .agg #[.int .i64 base, .int .i64 bt, .slice A' l.length cap']] W fun e w' => e = .returned (.bool true) /\ Below W.heap.size W w') := fun W g =>
  eqLog_same base bt A A' cap cap' l hl W (hA.below g) (hA'.below g)
 have E2 : Hid (∀ W : World, Below w.heap.size w W -> Calls Tryz.prog 90 #[.agg #[.slice x.rA x.rs.length x.rc, .slice x.mA x.ms.length x.mc, .slice x.gA x.gs.length x.gc, .int .i64 x.time, .slice x.dA x.ds.length x.dc, .slice x.lA x.ls.length x.lc], .agg #[.slice y.rA y.rs.length y.rc, .slice y.mA y.ms.length y.mc, .slice y.gA y.gs.length y.gc, .int .i64 y.time, .slice y.dA y.ds.length y.dc, .slice y.lA y.ls.length y.lc]] W fun e w' => e = .returned (.bool true) /\ Below W.heap.size W w') := fun W g =>
  Qg5 x y hf hp W (hx.below g) (hy.below g)
 clear hA hA' hx hy hf hp
 go_enter Tryz.func88, Tryz.ntmps88
 go_wp2_with fail
 have p0 : Blk ((w.alloc (.cells #[.int .i64 te, .int .i64 vo, .int .i64 base, .int .i64 bt, .slice A l.length cap, .slice x.rA x.rs.length x.rc, .slice x.mA x.ms.length x.mc, .slice x.gA x.gs.length x.gc, .int .i64 x.time, .slice x.dA x.ds.length x.dc, .slice x.lA x.ls.length x.lc] 58)).alloc (.cells #[.int .i64 te, .int .i64 vo, .int .i64 base, .int .i64 bt, .slice A' l.length cap', .slice y.rA y.rs.length y.rc, .slice y.mA y.ms.length y.mc, .slice y.gA y.gs.length y.gc, .int .i64 y.time, .slice y.dA y.ds.length y.dc, .slice y.lA y.ls.length y.lc] 58)) w.heap.size 58 #[.int .i64 te, .int .i64 vo, .int .i64 base, .int .i64 bt, .slice A l.length cap, .slice x.rA x.rs.length x.rc, .slice x.mA x.ms.length x.mc, .slice x.gA x.gs.length x.gc, .int .i64 x.time, .slice x.dA x.ds.length x.dc, .slice x.lA x.ls.length x.lc] := (Blk.new w _ _).alloc _
 have r0 : Blk ((w.alloc (.cells #[.int .i64 te, .int .i64 vo, .int .i64 base, .int .i64 bt, .slice A l.length cap, .slice x.rA x.rs.length x.rc, .slice x.mA x.ms.length x.mc, .slice x.gA x.gs.length x.gc, .int .i64 x.time, .slice x.dA x.ds.length x.dc, .slice x.lA x.ls.length x.lc] 58)).alloc (.cells #[.int .i64 te, .int .i64 vo, .int .i64 base, .int .i64 bt, .slice A' l.length cap', .slice y.rA y.rs.length y.rc, .slice y.mA y.ms.length y.mc, .slice y.gA y.gs.length y.gc, .int .i64 y.time, .slice y.dA y.ds.length y.dc, .slice y.lA y.ls.length y.lc] 58)) (w.heap.size + 1) 58 #[.int .i64 te, .int .i64 vo, .int .i64 base, .int .i64 bt, .slice A' l.length cap', .slice y.rA y.rs.length y.rc, .slice y.mA y.ms.length y.mc, .slice y.gA y.gs.length y.gc, .int .i64 y.time, .slice y.dA y.ds.length y.dc, .slice y.lA y.ls.length y.lc] := by have := Blk.new (w.alloc (.cells #[.int .i64 te, .int .i64 vo, .int .i64 base, .int .i64 bt, .slice A l.length cap, .slice x.rA x.rs.length x.rc, .slice x.mA x.ms.length x.mc, .slice x.gA x.gs.length x.gc, .int .i64 x.time, .slice x.dA x.ds.length x.dc, .slice x.lA x.ls.length x.lc] 58)) 58 #[.int .i64 te, .int .i64 vo, .int .i64 base, .int .i64 bt, .slice A' l.length cap', .slice y.rA y.rs.length y.rc, .slice y.mA y.ms.length y.mc, .slice y.gA y.gs.length y.gc, .int .i64 y.time, .slice y.dA y.ds.length y.dc, .slice y.lA y.ls.length y.lc]; simpa using this
 have B0 : Below w.heap.size w ((w.alloc (.cells #[.int .i64 te, .int .i64 vo, .int .i64 base, .int .i64 bt, .slice A l.length cap, .slice x.rA x.rs.length x.rc, .slice x.mA x.ms.length x.mc, .slice x.gA x.gs.length x.gc, .int .i64 x.time, .slice x.dA x.ds.length x.dc, .slice x.lA x.ls.length x.lc] 58)).alloc (.cells #[.int .i64 te, .int .i64 vo, .int .i64 base, .int .i64 bt, .slice A' l.length cap', .slice y.rA y.rs.length y.rc, .slice y.mA y.ms.length y.mc, .slice y.gA y.gs.length y.gc, .int .i64 y.time, .slice y.dA y.ds.length y.dc, .slice y.lA y.ls.length y.lc] 58)) := by repeat (first | exact Below.refl _ _ | assumption | refine via0 (by assumption) ?_ | refine Below.drew ?_ | refine Qaa ?_ _)
 refine (E1.out _ B0).mono ?_
 rintro e w1 ⟨rfl, g1⟩
 have p1 := p0.below g1 p0.lt
 have r1 := r0.below g1 r0.lt
 have B1 : Below w.heap.size w w1 := via0 g1 B0
 obtain ⟨u0, u1, u2, u3, u4, u5, u6, u7, u8, u9, u10⟩ := p1.row11
 obtain ⟨v0, v1, v2, v3, v4, v5, v6, v7, v8, v9, v10⟩ := r1.row11
 have q1 := p1.lt
 have t1 := r1.lt
 clear p0 r0 B0 g1
 go_wp2_with fail
 refine (E2.out _ B1).mono ?_
 rintro e w2 ⟨rfl, g2⟩
 have B2 : Below w.heap.size w w2 := via0 g2 B1
 go_wp2
 go_ret
 exact ⟨rfl, B2⟩
end Go.Proofs.YtbcbdhjeebcleaaGreatDoor.Gen
namespace Go.Proofs.YtbcbdhjeebcleaaGreatDoor.Gen
open ChangeShapes WideShapes ChangeAt RowKit Joins Deep Base
structure KRight (x : KC) : Prop where
  rl : x.rs.length <= 9223372036854775807
  ml : x.ms.length <= 9223372036854775807
  gl : x.gs.length <= 9223372036854775807
  dl : x.ds.length <= 9223372036854775807
  ll : x.ls.length <= 9223372036854775807
  rr : ∀ y ∈ x.rs, y.right
  mr : ∀ y ∈ x.ms, y.right
  gr : ∀ y ∈ x.gs, y.right
  dr : ∀ y ∈ x.ds, I64 y
  lr : ∀ y ∈ x.ls, y.right
  t : I64 x.time
theorem Qbj {α : Type} (c s : α -> Nat) (p q : Nat) : ∀ (l : List α), (∀ y ∈ l, c y <= p + q * s y) -> Qah c l <= p * l.length + q * Qah s l
 | [], _ => by simp [Qah]
 | a :: l, h => by
  have h1 := Qbj c s p q l (fun y hy => h y (by simp [hy]))
  have h2 := h a (by simp)
  simp only [Qah, List.map_cons, List.sum_cons, List.length_cons, Nat.mul_add] at h1 ⊢
  omega
theorem fit_of {x : KC} (h : x.rs.length + Qah szRC x.rs + szM x.ms + x.gs.length + Qah szGC x.gs + x.ds.length + x.ls.length + Qah szAn x.ls <= 1048576) : KFit x := by
 have hm : szM x.ms = x.ms.length + Qah (fun y : MC => y.ms.length) x.ms := rfl
 have c1 := Qbj cR szRC 2 5 x.rs (fun y _ => by simp only [cR, szRC]; omega)
 have c2 := Qbj cM (fun y : MC => y.ms.length) 4 2 x.ms (fun y _ => by simp only [cM]; omega)
 have c3 := Qbj cG szGC 1 1 x.gs (fun y _ => by simp only [cG, szGC]; omega)
 refine ⟨by omega, by omega, by omega, by omega, by omega, fun y hy => ?_, fun y hy => ?_, fun y hy => ?_, by omega, by omega, by omega⟩
 . have h9 := Qcd szRC x.rs y hy; simp only [szRC] at h9; omega
 . have h9 : y.ms.length <= Qah (fun y : MC => y.ms.length) x.ms := Qcd (fun y : MC => y.ms.length) x.ms y hy; omega
 . have h9 := Qcd szGC x.gs y hy; simp only [szGC] at h9; omega
theorem kct_of (x : KC) : (kct x : Int) <= 5 * ((x.rs.length : Int) + (Qah szRC x.rs : Int)) + 4 * ((x.ms.length : Int) + (Qah (fun y : MC => y.ms.length) x.ms : Int)) + ((x.gs.length : Int) + (Qah szGC x.gs : Int)) + (x.ds.length : Int) + 4 * (x.ls.length : Int) := by
 have c1 := Qbj cR szRC 2 5 x.rs (fun y _ => by simp only [cR, szRC]; omega)
 have c2 := Qbj cM (fun y : MC => y.ms.length) 4 2 x.ms (fun y _ => by simp only [cM]; omega)
 have c3 := Qbj cG szGC 1 1 x.gs (fun y _ => by simp only [cG, szGC]; omega)
 unfold kct
 omega
theorem Qey (x : KC) (hr : KRight x) (left : Int) (k0 : 0 <= left) (k1 : left <= 1048576) (w : World) (hx : KAt w x) :
 Calls Tryz.prog 54 #[.agg #[.slice x.rA x.rs.length x.rc, .slice x.mA x.ms.length x.mc, .slice x.gA x.gs.length x.gc, .int .i64 x.time, .slice x.dA x.ds.length x.dc, .slice x.lA x.ls.length x.lc], .int .i64 left] w fun e w' => (∃ r : Int, e = .returned (.int .i64 r) /\ (r < 0 ∨ (0 <= r /\ r <= left /\ KFit x /\ (kct x : Int) <= 5 * (left - r)))) /\ Below w.heap.size w w' := by
 have HX := hidP hx
 have Hr := hidP hr
 clear hx hr
 have p0 : Blk (w.alloc (.cells #[.slice x.rA x.rs.length x.rc, .slice x.mA x.ms.length x.mc, .slice x.gA x.gs.length x.gc, .int .i64 x.time, .slice x.dA x.ds.length x.dc, .slice x.lA x.ls.length x.lc] 92)) w.heap.size 92 #[.slice x.rA x.rs.length x.rc, .slice x.mA x.ms.length x.mc, .slice x.gA x.gs.length x.gc, .int .i64 x.time, .slice x.dA x.ds.length x.dc, .slice x.lA x.ls.length x.lc] := Blk.new w _ _
 have B0 : Below w.heap.size w (w.alloc (.cells #[.slice x.rA x.rs.length x.rc, .slice x.mA x.ms.length x.mc, .slice x.gA x.gs.length x.gc, .int .i64 x.time, .slice x.dA x.ds.length x.dc, .slice x.lA x.ls.length x.lc] 92)) := Qaa (Below.refl _ _) _
 go_enter Tryz.func54, Tryz.ntmps54
 go_wp2_with fail
 refine (szRowS_any _ _ x.rs Hr.out.rl Hr.out.rr left k0 k1 _ (HX.out.below B0).ra (HX.out.below B0).re).mono ?_
 rintro e w1 ⟨⟨z1, rfl, hz⟩, g⟩
 have p1 := p0.below g p0.lt
 have B1 := via0 g B0
 clear p0 B0 g
 obtain ⟨u0, u1, u2, u3, u4, u5⟩ := p1.row6
 rcases hz with hz | ⟨hz, hz1⟩
 . go_wp2
   go_ret
   exact ⟨⟨-1, rfl, .inl (by omega)⟩, B1⟩
 have n1 : ¬ z1 < 0 := by omega
 have Hz1 := hidP hz1
 have b1 : z1 <= 1048576 := by omega
 clear hz1
 go_wp2_with fail
 refine (Qgb _ _ x.ms Hr.out.ml (fun y hy => (Hr.out.mr y hy).2.2.2.2.1) z1 hz b1 _ (HX.out.below B1).ma).mono ?_
 rintro e w2 ⟨⟨z2, rfl, hz⟩, g⟩
 have p2 := p1.below g p1.lt
 have B2 := via0 g B1
 clear p1 B1 g u0 u1 u2 u3 u4 u5
 obtain ⟨u0, u1, u2, u3, u4, u5⟩ := p2.row6
 rcases hz with hz | ⟨hz, hz2⟩
 . go_wp2
   go_ret
   exact ⟨⟨-1, rfl, .inl (by omega)⟩, B2⟩
 have n2 : ¬ z2 < 0 := by omega
 have Hz2 := hidP hz2
 have b2 : z2 <= 1048576 := by omega
 clear hz2 n1 b1
 go_wp2_with fail
 refine (Qgd _ _ x.gs Hr.out.gl Hr.out.gr z2 hz b2 _ (HX.out.below B2).ga (HX.out.below B2).ge).mono ?_
 rintro e w3 ⟨⟨z3, rfl, hz⟩, g⟩
 have p3 := p2.below g p2.lt
 have B3 := via0 g B2
 clear p2 B2 g u0 u1 u2 u3 u4 u5
 obtain ⟨u0, u1, u2, u3, u4, u5⟩ := p3.row6
 rcases hz with hz | ⟨hz, hz3⟩
 . go_wp2
   go_ret
   exact ⟨⟨-1, rfl, .inl (by omega)⟩, B3⟩
 have n3 : ¬ z3 < 0 := by omega
 have Hz3 := hidP hz3
 have b3 : z3 <= 1048576 := by omega
 clear hz3 n2 b2
 obtain ⟨z4, hz4⟩ : ∃ z : Int, z = (if z3 < (x.ds.length : Int) then -1 else z3 - (x.ds.length : Int)) := ⟨_, rfl⟩
 have S4 : Hid (∀ W : World, Calls Tryz.prog 12 #[.slice x.dA x.ds.length x.dc, .int .i64 z3] W fun e w' => e = .returned (.int .i64 z4) /\ w' = W) := fun W => by
  refine (Qbo x.dA x.ds.length x.dc Hr.out.dl z3 hz b3 W).mono ?_
  rw [← hz4]
  exact fun e w' h => h
 have Hz4 := hidP hz4
 clear hz4
 go_wp2_with fail
 refine (S4.out _).mono ?_
 rintro e w4 ⟨rfl, rfl⟩
 by_cases k4 : z4 < 0
 . go_wp2
   go_ret
   exact ⟨⟨-1, rfl, .inl (by omega)⟩, B3⟩
 have e4 : Hid (z4 = z3 - (x.ds.length : Int)) := by
  have h := Hz4.out
  split at h
  . omega
  . exact h
 have b4 : z4 <= 1048576 := by have := e4.out; omega
 clear Hz4 n3 b3
 go_wp2_with fail
 refine (Qfd _ _ x.ls Hr.out.ll (fun y hy => (Hr.out.lr y hy).2.2) z4 (by omega) b4 _ (HX.out.below B3).la).mono ?_
 rintro e w5 ⟨⟨z5, rfl, hz⟩, g⟩
 have B5 := via0 g B3
 clear p3 B3 g u0 u1 u2 u3 u4 u5
 rcases hz with hz | ⟨hz, hz5⟩
 . go_wp2
   go_ret
   exact ⟨⟨-1, rfl, .inl (by omega)⟩, B5⟩
 have n5 : ¬ z5 < 0 := by omega
 have Hz5 := hidP hz5
 clear hz5
 go_wp2
 go_ret
 have hle : z5 <= left := by
  have h1 := Hz1.out
  have h2 := Hz2.out
  have h3 := Hz3.out
  have h4 := e4.out
  have h5 := Hz5.out
  omega
 refine ⟨⟨z5, rfl, .inr ⟨hz, hle, fit_of ?_, ?_⟩⟩, B5⟩
 rotate_left
 . have h1 := Hz1.out
   have h2 := Hz2.out
   have h3 := Hz3.out
   have h4 := e4.out
   have h5 := Hz5.out
   have c := kct_of x
   have hm : szM x.ms = x.ms.length + Qah (fun y : MC => y.ms.length) x.ms := rfl
   omega
 have h1 := Hz1.out
 have h2 := Hz2.out
 have h3 := Hz3.out
 have h4 := e4.out
 have h5 := Hz5.out
 omega
def NewK (w w' : World) (e : Ending) (c : PK) : Prop := ∃ y : KC, e = .returned (.agg y.cells) /\ y.p = c /\ KOwn w' y (fun b => w.heap.size <= b /\ b < w'.heap.size) /\ Below w.heap.size w w'
theorem Qeu (x : KC) (hf : KFit x) (w : World) (hx : KAt w x) :
 Calls Tryz.prog 67 #[.agg #[.slice x.rA x.rs.length x.rc, .slice x.mA x.ms.length x.mc, .slice x.gA x.gs.length x.gc, .int .i64 x.time, .slice x.dA x.ds.length x.dc, .slice x.lA x.ls.length x.lc]] w fun e w' => NewK w w' e x.p := by
 have HX := hidP hx
 have Hf := hidP hf
 clear hx hf
 have B : Below w.heap.size w (((w.alloc (.cells #[.slice x.rA x.rs.length x.rc, .slice x.mA x.ms.length x.mc, .slice x.gA x.gs.length x.gc, .int .i64 x.time, .slice x.dA x.ds.length x.dc, .slice x.lA x.ls.length x.lc] 92)).alloc (.cells #[.slice none 0 0, .slice none 0 0, .slice none 0 0, .int .i64 0, .slice none 0 0, .slice none 0 0] 56)).alloc (.cells #[.slice none 0 0, .slice none 0 0, .slice none 0 0, .int .i64 0, .slice none 0 0, .slice none 0 0] 56)) := by repeat (first | exact Below.refl _ _ | assumption | refine via0 (by assumption) ?_ | refine Below.drew ?_ | refine Qaa ?_ _)
 have P1 : Blk (((w.alloc (.cells #[.slice x.rA x.rs.length x.rc, .slice x.mA x.ms.length x.mc, .slice x.gA x.gs.length x.gc, .int .i64 x.time, .slice x.dA x.ds.length x.dc, .slice x.lA x.ls.length x.lc] 92)).alloc (.cells #[.slice none 0 0, .slice none 0 0, .slice none 0 0, .int .i64 0, .slice none 0 0, .slice none 0 0] 56)).alloc (.cells #[.slice none 0 0, .slice none 0 0, .slice none 0 0, .int .i64 0, .slice none 0 0, .slice none 0 0] 56)) w.heap.size 92 #[.slice x.rA x.rs.length x.rc, .slice x.mA x.ms.length x.mc, .slice x.gA x.gs.length x.gc, .int .i64 x.time, .slice x.dA x.ds.length x.dc, .slice x.lA x.ls.length x.lc] := ((Blk.new w _ _).alloc _).alloc _
 have P2 : Blk (((w.alloc (.cells #[.slice x.rA x.rs.length x.rc, .slice x.mA x.ms.length x.mc, .slice x.gA x.gs.length x.gc, .int .i64 x.time, .slice x.dA x.ds.length x.dc, .slice x.lA x.ls.length x.lc] 92)).alloc (.cells #[.slice none 0 0, .slice none 0 0, .slice none 0 0, .int .i64 0, .slice none 0 0, .slice none 0 0] 56)).alloc (.cells #[.slice none 0 0, .slice none 0 0, .slice none 0 0, .int .i64 0, .slice none 0 0, .slice none 0 0] 56)) (w.heap.size + 1) 56 #[.slice none 0 0, .slice none 0 0, .slice none 0 0, .int .i64 0, .slice none 0 0, .slice none 0 0] := by have := (Blk.new (w.alloc (.cells #[.slice x.rA x.rs.length x.rc, .slice x.mA x.ms.length x.mc, .slice x.gA x.gs.length x.gc, .int .i64 x.time, .slice x.dA x.ds.length x.dc, .slice x.lA x.ls.length x.lc] 92)) 56 #[.slice none 0 0, .slice none 0 0, .slice none 0 0, .int .i64 0, .slice none 0 0, .slice none 0 0]).alloc (.cells #[.slice none 0 0, .slice none 0 0, .slice none 0 0, .int .i64 0, .slice none 0 0, .slice none 0 0] 56); rwa [World.size_alloc] at this
 have P3 : Blk (((w.alloc (.cells #[.slice x.rA x.rs.length x.rc, .slice x.mA x.ms.length x.mc, .slice x.gA x.gs.length x.gc, .int .i64 x.time, .slice x.dA x.ds.length x.dc, .slice x.lA x.ls.length x.lc] 92)).alloc (.cells #[.slice none 0 0, .slice none 0 0, .slice none 0 0, .int .i64 0, .slice none 0 0, .slice none 0 0] 56)).alloc (.cells #[.slice none 0 0, .slice none 0 0, .slice none 0 0, .int .i64 0, .slice none 0 0, .slice none 0 0] 56)) (w.heap.size + 1 + 1) 56 #[.slice none 0 0, .slice none 0 0, .slice none 0 0, .int .i64 0, .slice none 0 0, .slice none 0 0] := by have := Blk.new ((w.alloc (.cells #[.slice x.rA x.rs.length x.rc, .slice x.mA x.ms.length x.mc, .slice x.gA x.gs.length x.gc, .int .i64 x.time, .slice x.dA x.ds.length x.dc, .slice x.lA x.ls.length x.lc] 92)).alloc (.cells #[.slice none 0 0, .slice none 0 0, .slice none 0 0, .int .i64 0, .slice none 0 0, .slice none 0 0] 56)) 56 #[.slice none 0 0, .slice none 0 0, .slice none 0 0, .int .i64 0, .slice none 0 0, .slice none 0 0]; rwa [World.size_alloc, World.size_alloc] at this
 have z0 : w.heap.size + 1 + 1 < (((w.alloc (.cells #[.slice x.rA x.rs.length x.rc, .slice x.mA x.ms.length x.mc, .slice x.gA x.gs.length x.gc, .int .i64 x.time, .slice x.dA x.ds.length x.dc, .slice x.lA x.ls.length x.lc] 92)).alloc (.cells #[.slice none 0 0, .slice none 0 0, .slice none 0 0, .int .i64 0, .slice none 0 0, .slice none 0 0] 56)).alloc (.cells #[.slice none 0 0, .slice none 0 0, .slice none 0 0, .int .i64 0, .slice none 0 0, .slice none 0 0] 56)).heap.size := P3.lt
 go_enter Tryz.func67, Tryz.ntmps67
 obtain ⟨s0, hs0⟩ : ∃ s, (((w.alloc (.cells #[.slice x.rA x.rs.length x.rc, .slice x.mA x.ms.length x.mc, .slice x.gA x.gs.length x.gc, .int .i64 x.time, .slice x.dA x.ds.length x.dc, .slice x.lA x.ls.length x.lc] 92)).alloc (.cells #[.slice none 0 0, .slice none 0 0, .slice none 0 0, .int .i64 0, .slice none 0 0, .slice none 0 0] 56)).alloc (.cells #[.slice none 0 0, .slice none 0 0, .slice none 0 0, .int .i64 0, .slice none 0 0, .slice none 0 0] 56)).heap.size = s := ⟨_, rfl⟩
 have C : Hid (Calls Tryz.prog 106 #[.slice x.rA x.rs.length x.rc] (((w.alloc (.cells #[.slice x.rA x.rs.length x.rc, .slice x.mA x.ms.length x.mc, .slice x.gA x.gs.length x.gc, .int .i64 x.time, .slice x.dA x.ds.length x.dc, .slice x.lA x.ls.length x.lc] 92)).alloc (.cells #[.slice none 0 0, .slice none 0 0, .slice none 0 0, .int .i64 0, .slice none 0 0, .slice none 0 0] 56)).alloc (.cells #[.slice none 0 0, .slice none 0 0, .slice none 0 0, .int .i64 0, .slice none 0 0, .slice none 0 0] 56)) fun e w' => e = .returned (.slice (some ⟨s0, 0, none⟩) x.rs.length x.rs.length) /\ Below s0 (((w.alloc (.cells #[.slice x.rA x.rs.length x.rc, .slice x.mA x.ms.length x.mc, .slice x.gA x.gs.length x.gc, .int .i64 x.time, .slice x.dA x.ds.length x.dc, .slice x.lA x.ls.length x.lc] 92)).alloc (.cells #[.slice none 0 0, .slice none 0 0, .slice none 0 0, .int .i64 0, .slice none 0 0, .slice none 0 0] 56)).alloc (.cells #[.slice none 0 0, .slice none 0 0, .slice none 0 0, .int .i64 0, .slice none 0 0, .slice none 0 0] 56)) w' /\ ∃ l' : List RC, Grow rowP w' s0 x.rs.length l' /\ l'.map RC.p = x.rs.map RC.p) := by
  have h := toRowS_any x.rA x.rc x.rs Hf.out.rl Hf.out.ri (((w.alloc (.cells #[.slice x.rA x.rs.length x.rc, .slice x.mA x.ms.length x.mc, .slice x.gA x.gs.length x.gc, .int .i64 x.time, .slice x.dA x.ds.length x.dc, .slice x.lA x.ls.length x.lc] 92)).alloc (.cells #[.slice none 0 0, .slice none 0 0, .slice none 0 0, .int .i64 0, .slice none 0 0, .slice none 0 0] 56)).alloc (.cells #[.slice none 0 0, .slice none 0 0, .slice none 0 0, .int .i64 0, .slice none 0 0, .slice none 0 0] 56)) (HX.out.below B).ra (HX.out.below B).re
  rw [hs0] at h
  exact h
 go_wp2_with fail
 refine C.out.mono ?_
 rintro e w1 ⟨rfl, g, l1, Gr, hp1⟩
 rw [← hs0] at g
 replace B := via0 g B
 replace P1 := P1.below g P1.lt
 replace P2 := P2.below g P2.lt
 replace P3 := P3.below g P3.lt
 have zz1 := g.size
 have O1 := Gr.own
 clear C g
 obtain ⟨u0, u1, u2, u3, u4, u5⟩ := P1.row6
 obtain ⟨v0, v1, v2, v3, v4, v5⟩ := P3.row6
 have q1 := P1.lt
 have q3 := P3.lt
 have f0 := P3.thaw 0
 have f1 := P3.thaw 1
 have f2 := P3.thaw 2
 have f3 := P3.thaw 3
 have f4 := P3.thaw 4
 have f5 := P3.thaw 5
 have kk : Offp (fun b => b = w.heap.size + 1 + 1) w1 (w1.setCell ⟨w.heap.size + 1 + 1, 0, none⟩ (.slice (some ⟨s0, 0, none⟩) x.rs.length x.rs.length)) := Offp.of_only ((Only.refl _ _).set _ _)
 replace B := B.trans (kk.toBelow (B := w.heap.size) (fun b hb => by omega) B.size)
 replace P1 := P1.offp kk (by omega)
 replace P2 := P2.offp kk (by omega)
 replace P3 : Blk (w1.setCell ⟨w.heap.size + 1 + 1, 0, none⟩ (.slice (some ⟨s0, 0, none⟩) x.rs.length x.rs.length)) (w.heap.size + 1 + 1) 56 #[.slice (some ⟨s0, 0, none⟩) x.rs.length x.rs.length, .slice none 0 0, .slice none 0 0, .int .i64 0, .slice none 0 0, .slice none 0 0] := P3.setAt 0 _
 replace O1 := O1.offp Qap kk (fun b hb => by omega)
 clear kk
 have sz1 : (w1.setCell ⟨w.heap.size + 1 + 1, 0, none⟩ (.slice (some ⟨s0, 0, none⟩) x.rs.length x.rs.length)).heap.size = w1.heap.size := by simp
 obtain ⟨s1, hs1⟩ : ∃ s, (w1.setCell ⟨w.heap.size + 1 + 1, 0, none⟩ (.slice (some ⟨s0, 0, none⟩) x.rs.length x.rs.length)).heap.size = s := ⟨_, rfl⟩
 have C : Hid (Calls Tryz.prog 107 #[.slice x.mA x.ms.length x.mc] (w1.setCell ⟨w.heap.size + 1 + 1, 0, none⟩ (.slice (some ⟨s0, 0, none⟩) x.rs.length x.rs.length)) fun e w' => e = .returned (.slice (some ⟨s1, 0, none⟩) x.ms.length x.ms.length) /\ Below s1 (w1.setCell ⟨w.heap.size + 1 + 1, 0, none⟩ (.slice (some ⟨s0, 0, none⟩) x.rs.length x.rs.length)) w' /\ ∃ l' : List MC, Grow makP w' s1 x.ms.length l' /\ l'.map MC.p = x.ms.map MC.p) := by
  have h := Qfb x.mA x.mc x.ms Hf.out.ml Hf.out.mi (w1.setCell ⟨w.heap.size + 1 + 1, 0, none⟩ (.slice (some ⟨s0, 0, none⟩) x.rs.length x.rs.length)) (HX.out.below B).ma (HX.out.below B).me
  rw [hs1] at h
  exact h
 go_wp2_with fail
 clear u0 u1 u2 u3 u4 u5 v0 v1 v2 v3 v4 v5 q1 q3 f0 f1 f2 f3 f4 f5
 refine C.out.mono ?_
 rintro e w2 ⟨rfl, g, l2, Gr, hp2⟩
 rw [← hs1] at g
 replace B := via0 g B
 replace P1 := P1.below g P1.lt
 replace P2 := P2.below g P2.lt
 replace P3 := P3.below g P3.lt
 replace O1 := O1.below Qap g
 have zz2 := g.size
 have O2 := Gr.own
 clear C g
 obtain ⟨u0, u1, u2, u3, u4, u5⟩ := P1.row6
 obtain ⟨v0, v1, v2, v3, v4, v5⟩ := P3.row6
 have q1 := P1.lt
 have q3 := P3.lt
 have f0 := P3.thaw 0
 have f1 := P3.thaw 1
 have f2 := P3.thaw 2
 have f3 := P3.thaw 3
 have f4 := P3.thaw 4
 have f5 := P3.thaw 5
 have kk : Offp (fun b => b = w.heap.size + 1 + 1) w2 (w2.setCell ⟨w.heap.size + 1 + 1, 1, none⟩ (.slice (some ⟨s1, 0, none⟩) x.ms.length x.ms.length)) := Offp.of_only ((Only.refl _ _).set _ _)
 replace B := B.trans (kk.toBelow (B := w.heap.size) (fun b hb => by omega) B.size)
 replace P1 := P1.offp kk (by omega)
 replace P2 := P2.offp kk (by omega)
 replace P3 : Blk (w2.setCell ⟨w.heap.size + 1 + 1, 1, none⟩ (.slice (some ⟨s1, 0, none⟩) x.ms.length x.ms.length)) (w.heap.size + 1 + 1) 56 #[.slice (some ⟨s0, 0, none⟩) x.rs.length x.rs.length, .slice (some ⟨s1, 0, none⟩) x.ms.length x.ms.length, .slice none 0 0, .int .i64 0, .slice none 0 0, .slice none 0 0] := P3.setAt 1 _
 replace O1 := O1.offp Qap kk (fun b hb => by omega)
 replace O2 := O2.offp Qax kk (fun b hb => by omega)
 clear kk
 have sz2 : (w2.setCell ⟨w.heap.size + 1 + 1, 1, none⟩ (.slice (some ⟨s1, 0, none⟩) x.ms.length x.ms.length)).heap.size = w2.heap.size := by simp
 obtain ⟨s2, hs2⟩ : ∃ s, (w2.setCell ⟨w.heap.size + 1 + 1, 1, none⟩ (.slice (some ⟨s1, 0, none⟩) x.ms.length x.ms.length)).heap.size = s := ⟨_, rfl⟩
 have C : Hid (Calls Tryz.prog 108 #[.slice x.gA x.gs.length x.gc] (w2.setCell ⟨w.heap.size + 1 + 1, 1, none⟩ (.slice (some ⟨s1, 0, none⟩) x.ms.length x.ms.length)) fun e w' => e = .returned (.slice (some ⟨s2, 0, none⟩) x.gs.length x.gs.length) /\ Below s2 (w2.setCell ⟨w.heap.size + 1 + 1, 1, none⟩ (.slice (some ⟨s1, 0, none⟩) x.ms.length x.ms.length)) w' /\ ∃ l' : List GC, Grow grpP w' s2 x.gs.length l' /\ l'.map GC.p = x.gs.map GC.p) := by
  have h := Qf8 x.gA x.gc x.gs Hf.out.gl Hf.out.gi (w2.setCell ⟨w.heap.size + 1 + 1, 1, none⟩ (.slice (some ⟨s1, 0, none⟩) x.ms.length x.ms.length)) (HX.out.below B).ga (HX.out.below B).ge
  rw [hs2] at h
  exact h
 go_wp2_with fail
 clear u0 u1 u2 u3 u4 u5 v0 v1 v2 v3 v4 v5 q1 q3 f0 f1 f2 f3 f4 f5
 refine C.out.mono ?_
 rintro e w3 ⟨rfl, g, l3, Gr, hp3⟩
 rw [← hs2] at g
 replace B := via0 g B
 replace P1 := P1.below g P1.lt
 replace P2 := P2.below g P2.lt
 replace P3 := P3.below g P3.lt
 replace O1 := O1.below Qap g
 replace O2 := O2.below Qax g
 have zz3 := g.size
 have O3 := Gr.own
 clear C g
 obtain ⟨u0, u1, u2, u3, u4, u5⟩ := P1.row6
 obtain ⟨v0, v1, v2, v3, v4, v5⟩ := P3.row6
 have q1 := P1.lt
 have q3 := P3.lt
 have f0 := P3.thaw 0
 have f1 := P3.thaw 1
 have f2 := P3.thaw 2
 have f3 := P3.thaw 3
 have f4 := P3.thaw 4
 have f5 := P3.thaw 5
 have kk : Offp (fun b => b = w.heap.size + 1 + 1) w3 (w3.setCell ⟨w.heap.size + 1 + 1, 2, none⟩ (.slice (some ⟨s2, 0, none⟩) x.gs.length x.gs.length)) := Offp.of_only ((Only.refl _ _).set _ _)
 replace B := B.trans (kk.toBelow (B := w.heap.size) (fun b hb => by omega) B.size)
 replace P1 := P1.offp kk (by omega)
 replace P2 := P2.offp kk (by omega)
 replace P3 : Blk (w3.setCell ⟨w.heap.size + 1 + 1, 2, none⟩ (.slice (some ⟨s2, 0, none⟩) x.gs.length x.gs.length)) (w.heap.size + 1 + 1) 56 #[.slice (some ⟨s0, 0, none⟩) x.rs.length x.rs.length, .slice (some ⟨s1, 0, none⟩) x.ms.length x.ms.length, .slice (some ⟨s2, 0, none⟩) x.gs.length x.gs.length, .int .i64 0, .slice none 0 0, .slice none 0 0] := P3.setAt 2 _
 replace O1 := O1.offp Qap kk (fun b hb => by omega)
 replace O2 := O2.offp Qax kk (fun b hb => by omega)
 replace O3 := O3.offp Qa9 kk (fun b hb => by omega)
 clear kk
 have kk : Offp (fun b => b = w.heap.size + 1 + 1) (w3.setCell ⟨w.heap.size + 1 + 1, 2, none⟩ (.slice (some ⟨s2, 0, none⟩) x.gs.length x.gs.length)) ((w3.setCell ⟨w.heap.size + 1 + 1, 2, none⟩ (.slice (some ⟨s2, 0, none⟩) x.gs.length x.gs.length)).setCell ⟨w.heap.size + 1 + 1, 3, none⟩ (.int .i64 x.time)) := Offp.of_only ((Only.refl _ _).set _ _)
 replace B := B.trans (kk.toBelow (B := w.heap.size) (fun b hb => by omega) B.size)
 replace P1 := P1.offp kk (by omega)
 replace P2 := P2.offp kk (by omega)
 replace P3 : Blk ((w3.setCell ⟨w.heap.size + 1 + 1, 2, none⟩ (.slice (some ⟨s2, 0, none⟩) x.gs.length x.gs.length)).setCell ⟨w.heap.size + 1 + 1, 3, none⟩ (.int .i64 x.time)) (w.heap.size + 1 + 1) 56 #[.slice (some ⟨s0, 0, none⟩) x.rs.length x.rs.length, .slice (some ⟨s1, 0, none⟩) x.ms.length x.ms.length, .slice (some ⟨s2, 0, none⟩) x.gs.length x.gs.length, .int .i64 x.time, .slice none 0 0, .slice none 0 0] := P3.setAt 3 _
 replace O1 := O1.offp Qap kk (fun b hb => by omega)
 replace O2 := O2.offp Qax kk (fun b hb => by omega)
 replace O3 := O3.offp Qa9 kk (fun b hb => by omega)
 clear kk
 have sz3 : ((w3.setCell ⟨w.heap.size + 1 + 1, 2, none⟩ (.slice (some ⟨s2, 0, none⟩) x.gs.length x.gs.length)).setCell ⟨w.heap.size + 1 + 1, 3, none⟩ (.int .i64 x.time)).heap.size = w3.heap.size := by simp
 obtain ⟨s3, hs3⟩ : ∃ s, ((w3.setCell ⟨w.heap.size + 1 + 1, 2, none⟩ (.slice (some ⟨s2, 0, none⟩) x.gs.length x.gs.length)).setCell ⟨w.heap.size + 1 + 1, 3, none⟩ (.int .i64 x.time)).heap.size = s := ⟨_, rfl⟩
 have C : Hid (Calls Tryz.prog 19 #[.slice x.dA x.ds.length x.dc] ((w3.setCell ⟨w.heap.size + 1 + 1, 2, none⟩ (.slice (some ⟨s2, 0, none⟩) x.gs.length x.gs.length)).setCell ⟨w.heap.size + 1 + 1, 3, none⟩ (.int .i64 x.time)) fun e w' => e = .returned (.slice (some ⟨s3, 0, none⟩) x.ds.length x.ds.length) /\ Below s3 ((w3.setCell ⟨w.heap.size + 1 + 1, 2, none⟩ (.slice (some ⟨s2, 0, none⟩) x.gs.length x.gs.length)).setCell ⟨w.heap.size + 1 + 1, 3, none⟩ (.int .i64 x.time)) w' /\ s3 < w'.heap.size /\ In w' s3 0 x.ds /\ w'.there s3 0 (x.ds.length * 1)) := by
  have h := Qbn x.dA x.dc x.ds Hf.out.dl ((w3.setCell ⟨w.heap.size + 1 + 1, 2, none⟩ (.slice (some ⟨s2, 0, none⟩) x.gs.length x.gs.length)).setCell ⟨w.heap.size + 1 + 1, 3, none⟩ (.int .i64 x.time)) (HX.out.below B).da
  rw [hs3] at h
  exact h
 go_wp2_with fail
 clear u0 u1 u2 u3 u4 u5 v0 v1 v2 v3 v4 v5 q1 q3 f0 f1 f2 f3 f4 f5
 refine C.out.mono ?_
 rintro e w4 ⟨rfl, g, hlt, hin, hth⟩
 rw [← hs3] at g
 replace B := via0 g B
 replace P1 := P1.below g P1.lt
 replace P2 := P2.below g P2.lt
 replace P3 := P3.below g P3.lt
 replace O1 := O1.below Qap g
 replace O2 := O2.below Qax g
 replace O3 := O3.below Qa9 g
 have zz4 := g.size
 have O4 : Sub w4 (some ⟨s3, 0, none⟩) x.ds (fun b => s3 <= b /\ b < w4.heap.size) := .inr ⟨s3, 0, rfl, ⟨Nat.le_refl _, hlt⟩, hlt, hin, hth⟩
 clear C g
 obtain ⟨u0, u1, u2, u3, u4, u5⟩ := P1.row6
 obtain ⟨v0, v1, v2, v3, v4, v5⟩ := P3.row6
 have q1 := P1.lt
 have q3 := P3.lt
 have f0 := P3.thaw 0
 have f1 := P3.thaw 1
 have f2 := P3.thaw 2
 have f3 := P3.thaw 3
 have f4 := P3.thaw 4
 have f5 := P3.thaw 5
 have kk : Offp (fun b => b = w.heap.size + 1 + 1) w4 (w4.setCell ⟨w.heap.size + 1 + 1, 4, none⟩ (.slice (some ⟨s3, 0, none⟩) x.ds.length x.ds.length)) := Offp.of_only ((Only.refl _ _).set _ _)
 replace B := B.trans (kk.toBelow (B := w.heap.size) (fun b hb => by omega) B.size)
 replace P1 := P1.offp kk (by omega)
 replace P2 := P2.offp kk (by omega)
 replace P3 : Blk (w4.setCell ⟨w.heap.size + 1 + 1, 4, none⟩ (.slice (some ⟨s3, 0, none⟩) x.ds.length x.ds.length)) (w.heap.size + 1 + 1) 56 #[.slice (some ⟨s0, 0, none⟩) x.rs.length x.rs.length, .slice (some ⟨s1, 0, none⟩) x.ms.length x.ms.length, .slice (some ⟨s2, 0, none⟩) x.gs.length x.gs.length, .int .i64 x.time, .slice (some ⟨s3, 0, none⟩) x.ds.length x.ds.length, .slice none 0 0] := P3.setAt 4 _
 replace O1 := O1.offp Qap kk (fun b hb => by omega)
 replace O2 := O2.offp Qax kk (fun b hb => by omega)
 replace O3 := O3.offp Qa9 kk (fun b hb => by omega)
 replace O4 := O4.offp kk (fun b hb => by omega)
 clear kk
 have sz4 : (w4.setCell ⟨w.heap.size + 1 + 1, 4, none⟩ (.slice (some ⟨s3, 0, none⟩) x.ds.length x.ds.length)).heap.size = w4.heap.size := by simp
 obtain ⟨s4, hs4⟩ : ∃ s, (w4.setCell ⟨w.heap.size + 1 + 1, 4, none⟩ (.slice (some ⟨s3, 0, none⟩) x.ds.length x.ds.length)).heap.size = s := ⟨_, rfl⟩
 have C : Hid (Calls Tryz.prog 109 #[.slice x.lA x.ls.length x.lc] (w4.setCell ⟨w.heap.size + 1 + 1, 4, none⟩ (.slice (some ⟨s3, 0, none⟩) x.ds.length x.ds.length)) fun e w' => e = .returned (.slice (some ⟨s4, 0, none⟩) x.ls.length x.ls.length) /\ Below s4 (w4.setCell ⟨w.heap.size + 1 + 1, 4, none⟩ (.slice (some ⟨s3, 0, none⟩) x.ds.length x.ds.length)) w' /\ s4 < w'.heap.size /\ In w' s4 0 x.ls /\ w'.there s4 0 (x.ls.length * 4)) := by
  have h := Qfc x.lA x.lc x.ls Hf.out.ll (w4.setCell ⟨w.heap.size + 1 + 1, 4, none⟩ (.slice (some ⟨s3, 0, none⟩) x.ds.length x.ds.length)) (HX.out.below B).la
  rw [hs4] at h
  exact h
 go_wp2_with fail
 clear u0 u1 u2 u3 u4 u5 v0 v1 v2 v3 v4 v5 q1 q3 f0 f1 f2 f3 f4 f5
 refine C.out.mono ?_
 rintro e w5 ⟨rfl, g, hlt, hin, hth⟩
 rw [← hs4] at g
 replace B := via0 g B
 replace P1 := P1.below g P1.lt
 replace P2 := P2.below g P2.lt
 replace P3 := P3.below g P3.lt
 replace O1 := O1.below Qap g
 replace O2 := O2.below Qax g
 replace O3 := O3.below Qa9 g
 replace O4 := O4.below g
 have zz5 := g.size
 have O5 : Sub w5 (some ⟨s4, 0, none⟩) x.ls (fun b => s4 <= b /\ b < w5.heap.size) := .inr ⟨s4, 0, rfl, ⟨Nat.le_refl _, hlt⟩, hlt, hin, hth⟩
 clear C g
 obtain ⟨u0, u1, u2, u3, u4, u5⟩ := P2.row6
 obtain ⟨v0, v1, v2, v3, v4, v5⟩ := P3.row6
 have q1 := P2.lt
 have q3 := P3.lt
 have f0 := P3.thaw 0
 have f1 := P3.thaw 1
 have f2 := P3.thaw 2
 have f3 := P3.thaw 3
 have f4 := P3.thaw 4
 have f5 := P3.thaw 5
 have e0 := P2.thaw 0
 have e1 := P2.thaw 1
 have e2 := P2.thaw 2
 have e3 := P2.thaw 3
 have e4 := P2.thaw 4
 have e5 := P2.thaw 5
 have kk : Offp (fun b => b = w.heap.size + 1 + 1) w5 (w5.setCell ⟨w.heap.size + 1 + 1, 5, none⟩ (.slice (some ⟨s4, 0, none⟩) x.ls.length x.ls.length)) := Offp.of_only ((Only.refl _ _).set _ _)
 replace B := B.trans (kk.toBelow (B := w.heap.size) (fun b hb => by omega) B.size)
 replace P1 := P1.offp kk (by omega)
 replace P2 := P2.offp kk (by omega)
 replace P3 : Blk (w5.setCell ⟨w.heap.size + 1 + 1, 5, none⟩ (.slice (some ⟨s4, 0, none⟩) x.ls.length x.ls.length)) (w.heap.size + 1 + 1) 56 #[.slice (some ⟨s0, 0, none⟩) x.rs.length x.rs.length, .slice (some ⟨s1, 0, none⟩) x.ms.length x.ms.length, .slice (some ⟨s2, 0, none⟩) x.gs.length x.gs.length, .int .i64 x.time, .slice (some ⟨s3, 0, none⟩) x.ds.length x.ds.length, .slice (some ⟨s4, 0, none⟩) x.ls.length x.ls.length] := P3.setAt 5 _
 replace O1 := O1.offp Qap kk (fun b hb => by omega)
 replace O2 := O2.offp Qax kk (fun b hb => by omega)
 replace O3 := O3.offp Qa9 kk (fun b hb => by omega)
 replace O4 := O4.offp kk (fun b hb => by omega)
 replace O5 := O5.offp kk (fun b hb => by omega)
 clear kk
 have sz5 : (w5.setCell ⟨w.heap.size + 1 + 1, 5, none⟩ (.slice (some ⟨s4, 0, none⟩) x.ls.length x.ls.length)).heap.size = w5.heap.size := by simp
 have HB := hidP B
 have HO1 := hidP O1
 have HO2 := hidP O2
 have HO3 := hidP O3
 have HO4 := hidP O4
 have HO5 := hidP O5
 have HP2 := hidP P2
 clear B O1 O2 O3 O4 O5 P1 P2 P3
 go_wp2
 have E6 := ((((((HP2.out.setAt 0 (.slice (some ⟨s0, 0, none⟩) x.rs.length x.rs.length)).setAt 1 (.slice (some ⟨s1, 0, none⟩) x.ms.length x.ms.length)).setAt 2 (.slice (some ⟨s2, 0, none⟩) x.gs.length x.gs.length)).setAt 3 (.int .i64 x.time)).setAt 4 (.slice (some ⟨s3, 0, none⟩) x.ds.length x.ds.length)).setAt 5 (.slice (some ⟨s4, 0, none⟩) x.ls.length x.ls.length))
 have E6' : Blk _ (w.heap.size + 1) 56 #[.slice (some ⟨s0, 0, none⟩) x.rs.length x.rs.length, .slice (some ⟨s1, 0, none⟩) x.ms.length x.ms.length, .slice (some ⟨s2, 0, none⟩) x.gs.length x.gs.length, .int .i64 x.time, .slice (some ⟨s3, 0, none⟩) x.ds.length x.ds.length, .slice (some ⟨s4, 0, none⟩) x.ls.length x.ls.length] := E6
 obtain ⟨x0, y1, y2, y3, y4, y5⟩ := E6'.row6
 refine bodyPost_ret (v := .agg #[.slice (some ⟨s0, 0, none⟩) x.rs.length x.rs.length, .slice (some ⟨s1, 0, none⟩) x.ms.length x.ms.length, .slice (some ⟨s2, 0, none⟩) x.gs.length x.gs.length, .int .i64 x.time, .slice (some ⟨s3, 0, none⟩) x.ds.length x.ds.length, .slice (some ⟨s4, 0, none⟩) x.ls.length x.ls.length]) (by simp [results, Tryz.results67, go_sem, x0, y1, y2, y3, y4, y5]) rfl ?_
 have kk : Offp (fun b => b = w.heap.size + 1) (w5.setCell ⟨w.heap.size + 1 + 1, 5, none⟩ (.slice (some ⟨s4, 0, none⟩) x.ls.length x.ls.length)) _ := ((((((Offp.refl (fun b => b = w.heap.size + 1) (w5.setCell ⟨w.heap.size + 1 + 1, 5, none⟩ (.slice (some ⟨s4, 0, none⟩) x.ls.length x.ls.length))).set (b := w.heap.size + 1) rfl 0 (.slice (some ⟨s0, 0, none⟩) x.rs.length x.rs.length)).set (b := w.heap.size + 1) rfl 1 (.slice (some ⟨s1, 0, none⟩) x.ms.length x.ms.length)).set (b := w.heap.size + 1) rfl 2 (.slice (some ⟨s2, 0, none⟩) x.gs.length x.gs.length)).set (b := w.heap.size + 1) rfl 3 (.int .i64 x.time)).set (b := w.heap.size + 1) rfl 4 (.slice (some ⟨s3, 0, none⟩) x.ds.length x.ds.length)).set (b := w.heap.size + 1) rfl 5 (.slice (some ⟨s4, 0, none⟩) x.ls.length x.ls.length)
 have O1 := HO1.out.offp Qap kk (fun b hb => by omega)
 have O2 := HO2.out.offp Qax kk (fun b hb => by omega)
 have O3 := HO3.out.offp Qa9 kk (fun b hb => by omega)
 have O4 := HO4.out.offp kk (fun b hb => by omega)
 have O5 := HO5.out.offp kk (fun b hb => by omega)
 have BB := HB.out.trans (kk.toBelow (B := w.heap.size) (fun b hb => by omega) HB.out.size)
 have le1 : l1.length = x.rs.length := by have := congrArg List.length hp1; simpa using this
 have le2 : l2.length = x.ms.length := by have := congrArg List.length hp2; simpa using this
 have le3 : l3.length = x.gs.length := by have := congrArg List.length hp3; simpa using this
 have kz := kk.size
 refine ⟨⟨some ⟨s0, 0, none⟩, x.rs.length, l1, some ⟨s1, 0, none⟩, x.ms.length, l2, some ⟨s2, 0, none⟩, x.gs.length, l3, x.time, some ⟨s3, 0, none⟩, x.ds.length, x.ds, some ⟨s4, 0, none⟩, x.ls.length, x.ls⟩, by simp only [KC.cells, le1, le2, le3], by simp only [KC.p, hp1, hp2, hp3], ⟨fun b => if b < s1 then 1 else if b < s2 then 2 else if b < s3 then 3 else if b < s4 then 4 else 5, ?_, ?_, ?_, ?_, ?_⟩, BB⟩
 skip
 . exact O1.mono (fun b hb => ⟨⟨by omega, by omega⟩, by repeat (first | rw [if_pos (by omega)] | rw [if_neg (by omega)])⟩)
 . exact O2.mono (fun b hb => ⟨⟨by omega, by omega⟩, by repeat (first | rw [if_pos (by omega)] | rw [if_neg (by omega)])⟩)
 . exact O3.mono (fun b hb => ⟨⟨by omega, by omega⟩, by repeat (first | rw [if_pos (by omega)] | rw [if_neg (by omega)])⟩)
 . exact O4.mono (fun b hb => ⟨⟨by omega, by omega⟩, by repeat (first | rw [if_pos (by omega)] | rw [if_neg (by omega)])⟩)
 . exact O5.mono (fun b hb => ⟨⟨by omega, by omega⟩, by repeat (first | rw [if_pos (by omega)] | rw [if_neg (by omega)])⟩)
end Go.Proofs.YtbcbdhjeebcleaaGreatDoor.Gen
