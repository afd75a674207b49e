/-
  Logs: what the laws' sz, to and eq functions of them do; a log opened. No condition but that there are at most 1048576 entries, and the length that every text has.
-/
import Derived.Test.YtmdaammalacifaaGreatEntMark
import Derived.Test.YtmdaammalacifaaGreatKeepV
set_option linter.unusedVariables false
set_option linter.unusedSimpArgs false
set_option maxRecDepth 100000
set_option maxHeartbeats 8000000
namespace Go.Proofs.YtmdaammalacifaaGreat.Gen
open ChangeShapes WideShapes ChangeAt RowKit Joins Deep Base
theorem At.hid {α : Type} [Cel α] {w : World} {A : Option Addr} {l : List α} (hA : At w A l) : Hid (∀ W : World, Below w.heap.size w W -> At W A l) := fun W hW => hA.below hW
theorem szLog_any (base bt : Int) (A : Option Addr) (cap : Nat) (l : List En) (hl : l.length <= 9223372036854775807) (hr : ∀ x ∈ l, x.fit) (left : Int) (h0 : 0 <= left) (h1 : left <= 1048576) (w : World) (hA : At w A l) :
 Calls Tryz.prog 55 #[.agg #[.int .i64 base, .int .i64 bt, .slice A l.length cap], .int .i64 left] w fun e w' => (∃ r : Int, e = .returned (.int .i64 r) /\ (r < 0 ∨ (0 <= r /\ r = left - (l.length : Int) - (Qae szEn l : Int)))) /\ Below w.heap.size w w' := by
 have HA := hA.hid
 have Hr := hidP hr
 clear hA hr
 go_enter Tryz.func55, Tryz.ntmps55
 go_wp2_with fail
 refine (Qdg A cap l hl Hr.out left h0 h1 _ (HA.out _ (by repeat (first | exact Below.refl _ _ | assumption | refine via0 (by assumption) ?_ | refine Below.drew ?_ | refine Qab ?_ _)))).mono ?_
 rintro e w1 ⟨⟨r, rfl, hr⟩, g1⟩
 have HR := hidP hr
 have B1 : Below w.heap.size w w1 := by repeat (first | exact Below.refl _ _ | assumption | refine via0 (by assumption) ?_ | refine Below.drew ?_ | refine Qab ?_ _)
 clear hr
 by_cases hn : r < 0
 . go_wp2
   go_ret
   exact ⟨⟨-1, rfl, .inl (by omega)⟩, B1⟩
 . go_wp2
   go_ret
   exact ⟨⟨r, rfl, HR.out⟩, B1⟩
theorem toLog_any (base bt : Int) (A : Option Addr) (cap : Nat) (l : List En) (hl : l.length <= 1048576) (w : World) (hA : At w A l) :
 Calls Tryz.prog 66 #[.agg #[.int .i64 base, .int .i64 bt, .slice A l.length cap]] w
  fun e w' => ∃ b, e = .returned (.agg #[.int .i64 base, .int .i64 bt, .slice (some ⟨b, 0, none⟩) l.length l.length]) /\ Below w.heap.size w w' /\ w.heap.size <= b /\ b < w'.heap.size /\ In w' b 0 l /\ w'.there b 0 (l.length * 9) := by
 have HA := hA.hid
 clear hA
 go_enter Tryz.func66, Tryz.ntmps66
 go_wp2_with (go_at_call 30; refine (Qdf A cap l hl _ (HA.out _ ?_)).mono ?_; (repeat (first | exact Below.refl _ _ | assumption | refine via0 (by assumption) ?_ | refine Below.drew ?_ | refine Qab ?_ _)); rintro e w1 ⟨rfl, g1, s1, i1, t1⟩; obtain ⟨k1, m1⟩ := Qbf g1)
 have i2 : In w1 (w.heap.size + 1 + 1 + 1) 0 l := by simpa using i1
 have t2 : w1.there (w.heap.size + 1 + 1 + 1) 0 (l.length * 9) := by simpa using t1
 have s2 : w.heap.size + 1 + 1 + 1 < w1.heap.size := by simpa using s1
 have g2 : Below w.heap.size w w1 := via0 g1 (by repeat (first | exact Below.refl _ _ | assumption | refine via0 (by assumption) ?_ | refine Below.drew ?_ | refine Qab ?_ _))
 refine bodyPost_ret (v := .agg #[.int .i64 base, .int .i64 bt, .slice (some ⟨w.heap.size + 1 + 1 + 1, 0, none⟩) l.length l.length]) (by simp [results, Tryz.results66, go_sem, k1]) rfl ⟨w.heap.size + 1 + 1 + 1, rfl, ?_, by omega, by simp; omega, ?_, ?_⟩
 . exact Qal (Qal (Qal (Qal (g2) (by omega) _) (by omega) _) (by omega) _) (by omega) _
 . exact In.set (In.set (In.set (In.set (i2) _ _ (by simp)) _ _ (by simp)) _ _ (by simp)) _ _ (by simp)
 . exact Qah (Qah (Qah (Qah (t2) _ _ _) _ _ _) _ _ _) _ _ _
theorem eqLog_same (base bt : Int) (A A' : Option Addr) (cap cap' : Nat) (l : List En) (hl : l.length <= 9223372036854775807) (w : World) (hA : At w A l) (hA' : At w A' l) :
 Calls Tryz.prog 80 #[.agg #[.int .i64 base, .int .i64 bt, .slice A l.length cap], .agg #[.int .i64 base, .int .i64 bt, .slice A' l.length cap']] w fun e w' => e = .returned (.bool true) /\ Below w.heap.size w w' := by
 have HA := hA.hid
 have HA' := hA'.hid
 clear hA hA'
 go_enter Tryz.func80, Tryz.ntmps80
 go_wp2_with (go_at_call 41; refine (Qda A A' cap cap' l hl _ (HA.out _ ?_) (HA'.out _ ?_)).mono ?_; (repeat (first | exact Below.refl _ _ | assumption | refine via0 (by assumption) ?_ | refine Below.drew ?_ | refine Qab ?_ _)); (repeat (first | exact Below.refl _ _ | assumption | refine via0 (by assumption) ?_ | refine Below.drew ?_ | refine Qab ?_ _)); rintro e w1 ⟨rfl, g1⟩)
 go_ret
 refine ⟨rfl, ?_⟩
 repeat (first | exact Below.refl _ _ | assumption | refine via0 (by assumption) ?_ | refine Below.drew ?_ | refine Qab ?_ _)
end Go.Proofs.YtmdaammalacifaaGreat.Gen
namespace Go.Proofs.YtmdaammalacifaaGreat.Gen
open ChangeShapes WideShapes ChangeAt RowKit Joins Deep Base
theorem Qdh (a : Option Addr) (cap : Nat) (k : Int) (w : World) :
 Calls Tryz.prog 48 #[.slice a 0 cap, .int .i64 k] w fun e w' => e = .returned (.int .i64 k) /\ w' = w := by
 go_enter Tryz.func48, Tryz.ntmps48
 go_wp2
 go_loopw [1, 5] (fun kk i w' => kk = .int .i64 k /\ i = .int .i64 0 /\ w' = w) (fun _ _ _ => 0)
 case atStart => exact ⟨rfl, rfl, rfl⟩
 case round =>
  obtain ⟨rfl, rfl, rfl⟩ := hrel
  go_wp2
  go_ret
  exact ⟨rfl, rfl⟩
theorem Qf2 (a : Option Addr) (cap : Nat) (l : List En) (hl : l.length <= 3000000) (k : Int) (hk : 1 <= k) (hk' : k <= 100000000) (F : List Nat) (w : World) (hs : Sl w a l F) :
 Calls Tryz.prog 48 #[.slice a l.length cap, .int .i64 k] w fun e w' => e = .returned (.int .i64 (k + (l.length : Int) * 9)) /\ Off F w w' /\ Sl w' a (Qat l.length k) F := by
 rcases hs with ⟨rfl, rfl⟩ | ⟨b, o, rfl, rfl, hb, hi, ht⟩
 . refine (Qdh a cap k w).mono ?_
   rintro e w' ⟨rfl, rfl⟩
   exact ⟨by simp, Off.refl _ _, .inl ⟨rfl, rfl⟩⟩
 . refine (Qcz b o cap l.length k hk hk' hl w hb ht).mono ?_
   rintro e w' ⟨rfl, ho, hi', ht'⟩
   exact ⟨rfl, Off.of_only ho, .inr ⟨b, o, rfl, rfl, Nat.lt_of_lt_of_le hb ho.size, hi', by rw [Qa7]; exact ht'⟩⟩
theorem heldE_any (a : Option Addr) (cap n : Nat) (hl : n <= 3000000) (k : Int) (hk : 1 <= k) (hk' : k <= 100000000) (F : List Nat) (w : World) (hs : Sl w a (Qat n k) F) :
 Calls Tryz.prog 100 #[.slice a n cap, .int .i64 k] w fun e w' => e = .returned (.int .i64 (k + (n : Int) * 9)) /\ Below w.heap.size w w' := by
 refine Qc1 a cap n k hk hk' hl w ?_
 rcases hs with ⟨h, _⟩ | ⟨b, o, rfl, _, hb, hi, _⟩
 . left
   have := congrArg List.length h
   rwa [Qa7] at this
 . exact .inr ⟨b, o, rfl, hb, hi⟩
theorem Qg0 (base bt : Int) (a : Option Addr) (cap : Nat) (l : List En) (hl : l.length <= 3000000) (k : Int) (hk : 1 <= k) (hk' : k <= 100000000) (F : List Nat) (w : World) (hs : Sl w a l F) :
 Calls Tryz.prog 87 #[.agg #[.int .i64 base, .int .i64 bt, .slice a l.length cap], .int .i64 k] w fun e w' => e = .returned (.int .i64 (k + (l.length : Int) * 9)) /\ Off F w w' /\ Sl w' a (Qat l.length k) F := by
 have HC : Hid (∀ ob : Obj, Calls Tryz.prog 48 #[.slice a l.length cap, .int .i64 k] (w.alloc ob) fun e w' => e = .returned (.int .i64 (k + (l.length : Int) * 9)) /\ Off F (w.alloc ob) w' /\ Sl w' a (Qat l.length k) F) := fun ob => Qf2 a cap l hl k hk hk' F _ (hs.below (Qab (Below.refl _ _) ob))
 clear hs
 generalize hz : k + (l.length : Int) * 9 = z at HC ⊢
 clear hz
 go_enter Tryz.func87, Tryz.ntmps87
 go_wp2_with fail
 refine (HC.out _).mono ?_
 rintro e w1 ⟨rfl, o1, s1⟩
 have O1 := hidP o1
 have S1 := hidP s1
 clear o1 s1
 go_wp2
 go_ret
 exact ⟨rfl, by simpa using (Off.of_below (Qab (Below.refl _ _) _)).trans O1.out, S1.out⟩
theorem Qg8 (base bt : Int) (a : Option Addr) (cap n : Nat) (hl : n <= 3000000) (k : Int) (hk : 1 <= k) (hk' : k <= 100000000) (F : List Nat) (w : World) (hs : Sl w a (Qat n k) F) :
 Calls Tryz.prog 94 #[.agg #[.int .i64 base, .int .i64 bt, .slice a n cap], .int .i64 k] w fun e w' => e = .returned (.int .i64 (k + (n : Int) * 9)) /\ Below w.heap.size w w' := by
 have HC : Hid (∀ ob : Obj, Calls Tryz.prog 100 #[.slice a n cap, .int .i64 k] (w.alloc ob) fun e w' => e = .returned (.int .i64 (k + (n : Int) * 9)) /\ Below (w.alloc ob).heap.size (w.alloc ob) w') := fun ob => heldE_any a cap n hl k hk hk' F _ (hs.below (Qab (Below.refl _ _) ob))
 clear hs
 have hp : ¬ k + (n : Int) * 9 < 0 := by omega
 generalize hz : k + (n : Int) * 9 = z at HC hp ⊢
 clear hz
 go_enter Tryz.func94, Tryz.ntmps94
 go_wp2_with fail
 refine (HC.out _).mono ?_
 rintro e w1 ⟨rfl, g1⟩
 go_wp2
 go_ret
 exact ⟨rfl, by repeat (first | exact Below.refl _ _ | assumption | refine via0 (by assumption) ?_ | refine Below.drew ?_ | refine Qab ?_ _)⟩
end Go.Proofs.YtmdaammalacifaaGreat.Gen
namespace Go.Proofs.YtmdaammalacifaaGreat.Gen
open ChangeShapes WideShapes ChangeAt RowKit Joins Deep Base
theorem Blk.row11 {W : World} {B : Nat} {t : TypeId} {a b c d e f g h i j k : Value} (p : Blk W B t #[a, b, c, d, e, f, g, h, i, j, k]) :
 W.cell? ⟨B, 0, none⟩ = some a /\ W.cell? ⟨B, 1, none⟩ = some b /\ W.cell? ⟨B, 2, none⟩ = some c /\ W.cell? ⟨B, 2 + 1, none⟩ = some d /\ W.cell? ⟨B, 2 + 2, none⟩ = some e /\ W.cell? ⟨B, 5, none⟩ = some f /\ W.cell? ⟨B, 5 + 1, none⟩ = some g /\ W.cell? ⟨B, 5 + 2, none⟩ = some h /\ W.cell? ⟨B, 5 + 3, none⟩ = some i /\ W.cell? ⟨B, 5 + 4, none⟩ = some j /\ W.cell? ⟨B, 5 + 5, none⟩ = some k :=
 ⟨p.cell (by rfl), p.cell (by rfl), p.cell (by rfl), p.cell (by rfl), p.cell (by rfl), p.cell (by rfl), p.cell (by rfl), p.cell (by rfl), p.cell (by rfl), p.cell (by rfl), p.cell (by rfl)⟩
theorem Qgf (x y : KC) (hf : KFit x) (hp : y.p = x.p) (w : World) (hx : KAt w x) (hy : KAt w y) :
 Calls Tryz.prog 38 #[.agg #[.slice x.rA x.rs.length x.rc, .slice x.mA x.ms.length x.mc, .slice x.gA x.gs.length x.gc, .int .i64 x.time, .slice x.dA x.ds.length x.dc, .slice x.lA x.ls.length x.lc], .agg #[.slice y.rA y.rs.length y.rc, .slice y.mA y.ms.length y.mc, .slice y.gA y.gs.length y.gc, .int .i64 y.time, .slice y.dA y.ds.length y.dc, .slice y.lA y.ls.length y.lc]] w fun e w' => e = .returned (.bool true) /\ Below w.heap.size w w' := by
 have h := Qhd x y hf hp w hx hy
 obtain ⟨l1, l2, l3, l4, l5, l6⟩ := KC.p_len hp
 rw [← l1, ← l2, ← l3, ← l4] at h
 rw [l5, l6]
 rw [← l1, ← l2, ← l3, ← l4]
 exact h
theorem Qhf (te vo base bt : Int) (A A' : Option Addr) (cap cap' : Nat) (l : List En) (hl : l.length <= 9223372036854775807) (x y : KC) (hf : KFit x) (hp : y.p = x.p) (w : World) (hA : At w A l) (hA' : At w A' l) (hx : KAt w x) (hy : KAt w y) :
 Calls Tryz.prog 35 #[.agg #[.int .i64 te, .int .i64 vo, .int .i64 base, .int .i64 bt, .slice A l.length cap, .slice x.rA x.rs.length x.rc, .slice x.mA x.ms.length x.mc, .slice x.gA x.gs.length x.gc, .int .i64 x.time, .slice x.dA x.ds.length x.dc, .slice x.lA x.ls.length x.lc], .agg #[.int .i64 te, .int .i64 vo, .int .i64 base, .int .i64 bt, .slice A' l.length cap', .slice y.rA y.rs.length y.rc, .slice y.mA y.ms.length y.mc, .slice y.gA y.gs.length y.gc, .int .i64 y.time, .slice y.dA y.ds.length y.dc, .slice y.lA y.ls.length y.lc]] w fun e w' => e = .returned (.bool true) /\ Below w.heap.size w w' := by
 have E1 : Hid (∀ W : World, Below w.heap.size w W -> Calls Tryz.prog 80 #[.agg #[.int .i64 base, .int .i64 bt, .slice A l.length cap], .agg #[.int .i64 base, .int .i64 bt, .slice A' l.length cap']] W fun e w' => e = .returned (.bool true) /\ Below W.heap.size W w') := fun W g =>
  eqLog_same base bt A A' cap cap' l hl W (hA.below g) (hA'.below g)
 have E2 : Hid (∀ W : World, Below w.heap.size w W -> Calls Tryz.prog 38 #[.agg #[.slice x.rA x.rs.length x.rc, .slice x.mA x.ms.length x.mc, .slice x.gA x.gs.length x.gc, .int .i64 x.time, .slice x.dA x.ds.length x.dc, .slice x.lA x.ls.length x.lc], .agg #[.slice y.rA y.rs.length y.rc, .slice y.mA y.ms.length y.mc, .slice y.gA y.gs.length y.gc, .int .i64 y.time, .slice y.dA y.ds.length y.dc, .slice y.lA y.ls.length y.lc]] W fun e w' => e = .returned (.bool true) /\ Below W.heap.size W w') := fun W g =>
  Qgf x y hf hp W (hx.below g) (hy.below g)
 clear hA hA' hx hy hf hp
 go_enter Tryz.func35, Tryz.ntmps35
 go_wp2_with fail
 have p0 : Blk ((w.alloc (.cells #[.int .i64 te, .int .i64 vo, .int .i64 base, .int .i64 bt, .slice A l.length cap, .slice x.rA x.rs.length x.rc, .slice x.mA x.ms.length x.mc, .slice x.gA x.gs.length x.gc, .int .i64 x.time, .slice x.dA x.ds.length x.dc, .slice x.lA x.ls.length x.lc] 55)).alloc (.cells #[.int .i64 te, .int .i64 vo, .int .i64 base, .int .i64 bt, .slice A' l.length cap', .slice y.rA y.rs.length y.rc, .slice y.mA y.ms.length y.mc, .slice y.gA y.gs.length y.gc, .int .i64 y.time, .slice y.dA y.ds.length y.dc, .slice y.lA y.ls.length y.lc] 55)) w.heap.size 55 #[.int .i64 te, .int .i64 vo, .int .i64 base, .int .i64 bt, .slice A l.length cap, .slice x.rA x.rs.length x.rc, .slice x.mA x.ms.length x.mc, .slice x.gA x.gs.length x.gc, .int .i64 x.time, .slice x.dA x.ds.length x.dc, .slice x.lA x.ls.length x.lc] := (Blk.new w _ _).alloc _
 have r0 : Blk ((w.alloc (.cells #[.int .i64 te, .int .i64 vo, .int .i64 base, .int .i64 bt, .slice A l.length cap, .slice x.rA x.rs.length x.rc, .slice x.mA x.ms.length x.mc, .slice x.gA x.gs.length x.gc, .int .i64 x.time, .slice x.dA x.ds.length x.dc, .slice x.lA x.ls.length x.lc] 55)).alloc (.cells #[.int .i64 te, .int .i64 vo, .int .i64 base, .int .i64 bt, .slice A' l.length cap', .slice y.rA y.rs.length y.rc, .slice y.mA y.ms.length y.mc, .slice y.gA y.gs.length y.gc, .int .i64 y.time, .slice y.dA y.ds.length y.dc, .slice y.lA y.ls.length y.lc] 55)) (w.heap.size + 1) 55 #[.int .i64 te, .int .i64 vo, .int .i64 base, .int .i64 bt, .slice A' l.length cap', .slice y.rA y.rs.length y.rc, .slice y.mA y.ms.length y.mc, .slice y.gA y.gs.length y.gc, .int .i64 y.time, .slice y.dA y.ds.length y.dc, .slice y.lA y.ls.length y.lc] := by have := Blk.new (w.alloc (.cells #[.int .i64 te, .int .i64 vo, .int .i64 base, .int .i64 bt, .slice A l.length cap, .slice x.rA x.rs.length x.rc, .slice x.mA x.ms.length x.mc, .slice x.gA x.gs.length x.gc, .int .i64 x.time, .slice x.dA x.ds.length x.dc, .slice x.lA x.ls.length x.lc] 55)) 55 #[.int .i64 te, .int .i64 vo, .int .i64 base, .int .i64 bt, .slice A' l.length cap', .slice y.rA y.rs.length y.rc, .slice y.mA y.ms.length y.mc, .slice y.gA y.gs.length y.gc, .int .i64 y.time, .slice y.dA y.ds.length y.dc, .slice y.lA y.ls.length y.lc]; simpa using this
 have B0 : Below w.heap.size w ((w.alloc (.cells #[.int .i64 te, .int .i64 vo, .int .i64 base, .int .i64 bt, .slice A l.length cap, .slice x.rA x.rs.length x.rc, .slice x.mA x.ms.length x.mc, .slice x.gA x.gs.length x.gc, .int .i64 x.time, .slice x.dA x.ds.length x.dc, .slice x.lA x.ls.length x.lc] 55)).alloc (.cells #[.int .i64 te, .int .i64 vo, .int .i64 base, .int .i64 bt, .slice A' l.length cap', .slice y.rA y.rs.length y.rc, .slice y.mA y.ms.length y.mc, .slice y.gA y.gs.length y.gc, .int .i64 y.time, .slice y.dA y.ds.length y.dc, .slice y.lA y.ls.length y.lc] 55)) := by repeat (first | exact Below.refl _ _ | assumption | refine via0 (by assumption) ?_ | refine Below.drew ?_ | refine Qab ?_ _)
 refine (E1.out _ B0).mono ?_
 rintro e w1 ⟨rfl, g1⟩
 have p1 := p0.below g1 p0.lt
 have r1 := r0.below g1 r0.lt
 have B1 : Below w.heap.size w w1 := via0 g1 B0
 obtain ⟨u0, u1, u2, u3, u4, u5, u6, u7, u8, u9, u10⟩ := p1.row11
 obtain ⟨v0, v1, v2, v3, v4, v5, v6, v7, v8, v9, v10⟩ := r1.row11
 have q1 := p1.lt
 have t1 := r1.lt
 clear p0 r0 B0 g1
 go_wp2_with fail
 refine (E2.out _ B1).mono ?_
 rintro e w2 ⟨rfl, g2⟩
 have B2 : Below w.heap.size w w2 := via0 g2 B1
 go_wp2
 go_ret
 exact ⟨rfl, B2⟩
theorem Qf1 (te vo base bt : Int) (A : Option Addr) (cap : Nat) (l : List En) (hl : l.length <= 1048576) (x : KC) (hf : KFit x) (F : List Nat) (S : Nat -> Prop) (hd : ∀ b ∈ F, ¬ S b) (k : Int) (hk : 1 <= k) (hk' : k <= 500000) (w : World) (hlt : ∀ b, S b -> b < w.heap.size) (hs : Sl w A l F) (h : KOwn w x S) :
 Calls Tryz.prog 42 #[.agg #[.int .i64 te, .int .i64 vo, .int .i64 base, .int .i64 bt, .slice A l.length cap, .slice x.rA x.rs.length x.rc, .slice x.mA x.ms.length x.mc, .slice x.gA x.gs.length x.gc, .int .i64 x.time, .slice x.dA x.ds.length x.dc, .slice x.lA x.ls.length x.lc], .int .i64 k] w fun e w' => e = .returned (.int .i64 (k + (l.length : Int) * 9 + (kct x : Int))) /\ Offp (fun b => b ∈ F ∨ S b) w w' /\ Sl w' A (Qat l.length k) F /\ KOwn w' (mK x (k + (l.length : Int) * 9)) S := by
 have hFl := hs.lt
 obtain ⟨z, hz⟩ : ∃ z : Int, z = k + (l.length : Int) * 9 := ⟨_, rfl⟩
 have z1 : 1 <= z := by omega
 have z2 : z <= 10000000 := by omega
 have HL : Hid (∀ W : World, Sl W A l F -> Calls Tryz.prog 87 #[.agg #[.int .i64 base, .int .i64 bt, .slice A l.length cap], .int .i64 k] W fun e w' => e = .returned (.int .i64 z) /\ Off F W w' /\ Sl w' A (Qat l.length k) F) := fun W hW => hz ▸ Qg0 base bt A cap l (by omega) k hk (by omega) F W hW
 have HK : Hid (∀ W : World, (∀ b, S b -> b < W.heap.size) -> KOwn W x S -> Calls Tryz.prog 45 #[.agg #[.slice x.rA x.rs.length x.rc, .slice x.mA x.ms.length x.mc, .slice x.gA x.gs.length x.gc, .int .i64 x.time, .slice x.dA x.ds.length x.dc, .slice x.lA x.ls.length x.lc], .int .i64 z] W fun e w' => e = .returned (.int .i64 (z + (kct x : Int))) /\ Offp S W w' /\ KOwn w' (mK x z) S) := fun W h1 h2 => Qdi x hf S z z1 z2 W h1 h2
 rw [← hz]
 have n0 : Below w.heap.size w (w.alloc (.cells #[.int .i64 te, .int .i64 vo, .int .i64 base, .int .i64 bt, .slice A l.length cap, .slice x.rA x.rs.length x.rc, .slice x.mA x.ms.length x.mc, .slice x.gA x.gs.length x.gc, .int .i64 x.time, .slice x.dA x.ds.length x.dc, .slice x.lA x.ls.length x.lc] 55)) := Qab (Below.refl _ _) _
 have Hs := hidP (hs.below n0)
 have Hh := hidP (h.below n0)
 have hw : ∀ b, b ∈ F ∨ S b -> b < w.heap.size := fun b hb => hb.elim (hFl b) (hlt b)
 have Hw := hidP hw
 have Hd := hidP hd
 obtain ⟨c, hc⟩ : ∃ c : Int, (kct x : Int) = c := ⟨_, rfl⟩
 rw [hc] at HK ⊢
 clear hs h hf hd hlt hw hFl hz hc n0
 go_enter Tryz.func42, Tryz.ntmps42
 go_wp2_with fail
 have p0 : Blk (w.alloc (.cells #[.int .i64 te, .int .i64 vo, .int .i64 base, .int .i64 bt, .slice A l.length cap, .slice x.rA x.rs.length x.rc, .slice x.mA x.ms.length x.mc, .slice x.gA x.gs.length x.gc, .int .i64 x.time, .slice x.dA x.ds.length x.dc, .slice x.lA x.ls.length x.lc] 55)) w.heap.size 55 #[.int .i64 te, .int .i64 vo, .int .i64 base, .int .i64 bt, .slice A l.length cap, .slice x.rA x.rs.length x.rc, .slice x.mA x.ms.length x.mc, .slice x.gA x.gs.length x.gc, .int .i64 x.time, .slice x.dA x.ds.length x.dc, .slice x.lA x.ls.length x.lc] := Blk.new w _ _
 have o0 : Offp (fun b => b ∈ F ∨ S b) w (w.alloc (.cells #[.int .i64 te, .int .i64 vo, .int .i64 base, .int .i64 bt, .slice A l.length cap, .slice x.rA x.rs.length x.rc, .slice x.mA x.ms.length x.mc, .slice x.gA x.gs.length x.gc, .int .i64 x.time, .slice x.dA x.ds.length x.dc, .slice x.lA x.ls.length x.lc] 55)) := Offp.of_below (Qab (Below.refl _ _) _)
 refine (HL.out _ Hs.out).mono ?_
 rintro e w1 ⟨rfl, k1, t1⟩
 have p1 := p0.offp (Offp.of_off k1) (fun e => by have := Hw.out _ (.inl e); omega)
 have o1 := o0.trans ((Offp.of_off k1).mono (fun b hb => .inl hb))
 have s1 := Hh.out.offp (Offp.of_off k1) (fun b hb e => Hd.out b e hb)
 have T1 := hidP t1
 have S1 := hidP s1
 have O1 := hidP o1
 clear p0 o0 k1 t1 s1 o1 Hs Hh HL
 obtain ⟨u0, u1, u2, u3, u4, u5, u6, u7, u8, u9, u10⟩ := p1.row11
 have q1 := p1.lt
 go_wp2_with fail
 refine (HK.out _ (fun b hb => by have := Hw.out b (.inr hb); omega) S1.out).mono ?_
 rintro e w2 ⟨rfl, k2, t2⟩
 have o2 := hidP (O1.out.trans (k2.mono (fun b hb => .inr hb)))
 have s2 := hidP ((show Sl w2 A (Qat l.length k) F from by
  rcases T1.out with h | ⟨b, o, e1, e2, hb, hi, ht⟩
  . exact .inl h
  . have hn : ¬ S b := Hd.out b (by rw [e2]; simp)
    exact .inr ⟨b, o, e1, e2, Nat.lt_of_lt_of_le hb k2.size, hi.offp k2 hb hn, Qb6 ht k2 hb hn⟩))
 have T2 := hidP t2
 clear u0 u1 u2 u3 u4 u5 u6 u7 u8 u9 u10 q1 k2 t2
 go_wp2
 go_ret
 exact ⟨rfl, o2.out, s2.out, T2.out⟩
theorem Qga (te vo base bt : Int) (A : Option Addr) (cap : Nat) (l : List En) (hl : l.length <= 1048576) (x : KC) (hf : KFit x) (F : List Nat) (k : Int) (hk : 1 <= k) (hk' : k <= 500000) (w : World) (hs : Sl w A (Qat l.length k) F) (h : KAt w (mK x (k + (l.length : Int) * 9))) :
 Calls Tryz.prog 49 #[.agg #[.int .i64 te, .int .i64 vo, .int .i64 base, .int .i64 bt, .slice A l.length cap, .slice x.rA x.rs.length x.rc, .slice x.mA x.ms.length x.mc, .slice x.gA x.gs.length x.gc, .int .i64 x.time, .slice x.dA x.ds.length x.dc, .slice x.lA x.ls.length x.lc], .int .i64 k] w fun e w' => e = .returned (.int .i64 (k + (l.length : Int) * 9 + (kct x : Int))) /\ Below w.heap.size w w' := by
 obtain ⟨z, hz⟩ : ∃ z : Int, z = k + (l.length : Int) * 9 := ⟨_, rfl⟩
 have z1 : 1 <= z := by omega
 have z2 : z <= 10000000 := by omega
 rw [← hz] at h ⊢
 have HL : Hid (∀ W : World, Below w.heap.size w W -> Calls Tryz.prog 94 #[.agg #[.int .i64 base, .int .i64 bt, .slice A l.length cap], .int .i64 k] W fun e w' => e = .returned (.int .i64 z) /\ Below W.heap.size W w') := fun W g => hz ▸ Qg8 base bt A cap l.length (by omega) k hk (by omega) F W (hs.below g)
 have HK : Hid (∀ W : World, Below w.heap.size w W -> Calls Tryz.prog 52 #[.agg #[.slice x.rA x.rs.length x.rc, .slice x.mA x.ms.length x.mc, .slice x.gA x.gs.length x.gc, .int .i64 x.time, .slice x.dA x.ds.length x.dc, .slice x.lA x.ls.length x.lc], .int .i64 z] W fun e w' => e = .returned (.int .i64 (z + (kct x : Int))) /\ Below W.heap.size W w') := fun W g => Qdj x hf z z1 z2 W (h.below g)
 obtain ⟨c, hc⟩ : ∃ c : Int, z + (kct x : Int) = c := ⟨_, rfl⟩
 have hc0 : ¬ c < 0 := by omega
 have hz0 : ¬ z < 0 := by omega
 rw [hc] at HK ⊢
 clear hs h hf hz hc
 go_enter Tryz.func49, Tryz.ntmps49
 go_wp2_with fail
 have p0 : Blk (w.alloc (.cells #[.int .i64 te, .int .i64 vo, .int .i64 base, .int .i64 bt, .slice A l.length cap, .slice x.rA x.rs.length x.rc, .slice x.mA x.ms.length x.mc, .slice x.gA x.gs.length x.gc, .int .i64 x.time, .slice x.dA x.ds.length x.dc, .slice x.lA x.ls.length x.lc] 55)) w.heap.size 55 #[.int .i64 te, .int .i64 vo, .int .i64 base, .int .i64 bt, .slice A l.length cap, .slice x.rA x.rs.length x.rc, .slice x.mA x.ms.length x.mc, .slice x.gA x.gs.length x.gc, .int .i64 x.time, .slice x.dA x.ds.length x.dc, .slice x.lA x.ls.length x.lc] := Blk.new w _ _
 have B0 : Below w.heap.size w (w.alloc (.cells #[.int .i64 te, .int .i64 vo, .int .i64 base, .int .i64 bt, .slice A l.length cap, .slice x.rA x.rs.length x.rc, .slice x.mA x.ms.length x.mc, .slice x.gA x.gs.length x.gc, .int .i64 x.time, .slice x.dA x.ds.length x.dc, .slice x.lA x.ls.length x.lc] 55)) := Qab (Below.refl _ _) _
 refine (HL.out _ B0).mono ?_
 rintro e w1 ⟨rfl, g1⟩
 have p1 := p0.below g1 p0.lt
 have B1 : Below w.heap.size w w1 := via0 g1 B0
 clear p0 B0 g1 HL
 obtain ⟨u0, u1, u2, u3, u4, u5, u6, u7, u8, u9, u10⟩ := p1.row11
 have q1 := p1.lt
 go_wp2_with fail
 refine (HK.out _ B1).mono ?_
 rintro e w2 ⟨rfl, g2⟩
 have B2 : Below w.heap.size w w2 := via0 g2 B1
 go_wp2
 go_ret
 exact ⟨rfl, B2⟩
end Go.Proofs.YtmdaammalacifaaGreat.Gen
