/-
  What a node must keep (Hard): what the laws' eq, mark and held functions of it do. No condition but the sizes of its lists.
-/
import Derived.Test.YtengolneibbdfaaGreatKeepV
import Derived.Test.YtengolneibbdfaaGreatLPut2
import Derived.Test.YtengolneibbdfaaGreatAnsList
namespace Go.Proofs.YtengolneibbdfaaGreat.Gen
open Go.ChangeShapes Go.WideShapes Go.ChangeAt Go.RowKit Go.Joins Go.Deep Base
set_option linter.unusedVariables false
set_option linter.unusedSimpArgs false
theorem Blk.row11 {W : World} {B : Nat} {t : TypeId} {a b c d e f g h i j k : Value} (p : Blk W B t #[a, b, c, d, e, f, g, h, i, j, k]) :
    W.cell? ⟨B, 0, none⟩ = some a /\ W.cell? ⟨B, 1, none⟩ = some b /\ W.cell? ⟨B, 2, none⟩ = some c /\ W.cell? ⟨B, 2 + 1, none⟩ = some d /\ W.cell? ⟨B, 2 + 2, none⟩ = some e /\ W.cell? ⟨B, 5, none⟩ = some f /\ W.cell? ⟨B, 5 + 1, none⟩ = some g /\ W.cell? ⟨B, 5 + 2, none⟩ = some h /\ W.cell? ⟨B, 5 + 3, none⟩ = some i /\ W.cell? ⟨B, 5 + 4, none⟩ = some j /\ W.cell? ⟨B, 5 + 5, none⟩ = some k :=
  ⟨p.cell (by rfl), p.cell (by rfl), p.cell (by rfl), p.cell (by rfl), p.cell (by rfl), p.cell (by rfl), p.cell (by rfl), p.cell (by rfl), p.cell (by rfl), p.cell (by rfl), p.cell (by rfl)⟩
theorem eqKeep_is (x y : KC) (hf : KFit x) (hp : y.p = x.p) (w : World) (hx : KAt w x) (hy : KAt w y) :
    Calls Tryz.prog 42 #[.agg #[.slice x.rA x.rs.length x.rc, .slice x.mA x.ms.length x.mc, .slice x.gA x.gs.length x.gc, .int .i64 x.time, .slice x.dA x.ds.length x.dc, .slice x.lA x.ls.length x.lc], .agg #[.slice y.rA y.rs.length y.rc, .slice y.mA y.ms.length y.mc, .slice y.gA y.gs.length y.gc, .int .i64 y.time, .slice y.dA y.ds.length y.dc, .slice y.lA y.ls.length y.lc]] w fun e w' => e = .returned (.bool true) /\ Below w.heap.size w w' := by
  have h := eqKeep_same x y hf hp w hx hy
  obtain ⟨l1, l2, l3, l4, l5, l6⟩ := KC.p_len hp
  rw [← l1, ← l2, ← l3, ← l4] at h
  rw [l5, l6]
  rw [← l1, ← l2, ← l3, ← l4]
  exact h
set_option maxRecDepth 100000 in
set_option maxHeartbeats 1000000 in
theorem eqHard_same (te vo base bt : Int) (A A' : Option Addr) (cap cap' : Nat) (l : List En) (hl : l.length <= 9223372036854775807) (x y : KC) (hf : KFit x) (hp : y.p = x.p) (w : World) (hA : At w A l) (hA' : At w A' l) (hx : KAt w x) (hy : KAt w y) :
    Calls Tryz.prog 39 #[.agg #[.int .i64 te, .int .i64 vo, .int .i64 base, .int .i64 bt, .slice A l.length cap, .slice x.rA x.rs.length x.rc, .slice x.mA x.ms.length x.mc, .slice x.gA x.gs.length x.gc, .int .i64 x.time, .slice x.dA x.ds.length x.dc, .slice x.lA x.ls.length x.lc], .agg #[.int .i64 te, .int .i64 vo, .int .i64 base, .int .i64 bt, .slice A' l.length cap', .slice y.rA y.rs.length y.rc, .slice y.mA y.ms.length y.mc, .slice y.gA y.gs.length y.gc, .int .i64 y.time, .slice y.dA y.ds.length y.dc, .slice y.lA y.ls.length y.lc]] w fun e w' => e = .returned (.bool true) /\ Below w.heap.size w w' := by
  have E1 : Hid (∀ W : World, Below w.heap.size w W -> Calls Tryz.prog 94 #[.agg #[.int .i64 base, .int .i64 bt, .slice A l.length cap], .agg #[.int .i64 base, .int .i64 bt, .slice A' l.length cap']] W fun e w' => e = .returned (.bool true) /\ Below W.heap.size W w') := fun W g =>
    eqLog_same base bt A A' cap cap' l hl W (hA.below g) (hA'.below g)
  have E2 : Hid (∀ W : World, Below w.heap.size w W -> Calls Tryz.prog 42 #[.agg #[.slice x.rA x.rs.length x.rc, .slice x.mA x.ms.length x.mc, .slice x.gA x.gs.length x.gc, .int .i64 x.time, .slice x.dA x.ds.length x.dc, .slice x.lA x.ls.length x.lc], .agg #[.slice y.rA y.rs.length y.rc, .slice y.mA y.ms.length y.mc, .slice y.gA y.gs.length y.gc, .int .i64 y.time, .slice y.dA y.ds.length y.dc, .slice y.lA y.ls.length y.lc]] W fun e w' => e = .returned (.bool true) /\ Below W.heap.size W w') := fun W g =>
    eqKeep_is x y hf hp W (hx.below g) (hy.below g)
  clear hA hA' hx hy hf hp
  go_enter Tryz.func39, Tryz.ntmps39
  go_wp2_with fail
  have p0 : Blk ((w.alloc (.cells #[.int .i64 te, .int .i64 vo, .int .i64 base, .int .i64 bt, .slice A l.length cap, .slice x.rA x.rs.length x.rc, .slice x.mA x.ms.length x.mc, .slice x.gA x.gs.length x.gc, .int .i64 x.time, .slice x.dA x.ds.length x.dc, .slice x.lA x.ls.length x.lc] 57)).alloc (.cells #[.int .i64 te, .int .i64 vo, .int .i64 base, .int .i64 bt, .slice A' l.length cap', .slice y.rA y.rs.length y.rc, .slice y.mA y.ms.length y.mc, .slice y.gA y.gs.length y.gc, .int .i64 y.time, .slice y.dA y.ds.length y.dc, .slice y.lA y.ls.length y.lc] 57)) w.heap.size 57 #[.int .i64 te, .int .i64 vo, .int .i64 base, .int .i64 bt, .slice A l.length cap, .slice x.rA x.rs.length x.rc, .slice x.mA x.ms.length x.mc, .slice x.gA x.gs.length x.gc, .int .i64 x.time, .slice x.dA x.ds.length x.dc, .slice x.lA x.ls.length x.lc] := (Blk.new w _ _).alloc _
  have r0 : Blk ((w.alloc (.cells #[.int .i64 te, .int .i64 vo, .int .i64 base, .int .i64 bt, .slice A l.length cap, .slice x.rA x.rs.length x.rc, .slice x.mA x.ms.length x.mc, .slice x.gA x.gs.length x.gc, .int .i64 x.time, .slice x.dA x.ds.length x.dc, .slice x.lA x.ls.length x.lc] 57)).alloc (.cells #[.int .i64 te, .int .i64 vo, .int .i64 base, .int .i64 bt, .slice A' l.length cap', .slice y.rA y.rs.length y.rc, .slice y.mA y.ms.length y.mc, .slice y.gA y.gs.length y.gc, .int .i64 y.time, .slice y.dA y.ds.length y.dc, .slice y.lA y.ls.length y.lc] 57)) (w.heap.size + 1) 57 #[.int .i64 te, .int .i64 vo, .int .i64 base, .int .i64 bt, .slice A' l.length cap', .slice y.rA y.rs.length y.rc, .slice y.mA y.ms.length y.mc, .slice y.gA y.gs.length y.gc, .int .i64 y.time, .slice y.dA y.ds.length y.dc, .slice y.lA y.ls.length y.lc] := by have := Blk.new (w.alloc (.cells #[.int .i64 te, .int .i64 vo, .int .i64 base, .int .i64 bt, .slice A l.length cap, .slice x.rA x.rs.length x.rc, .slice x.mA x.ms.length x.mc, .slice x.gA x.gs.length x.gc, .int .i64 x.time, .slice x.dA x.ds.length x.dc, .slice x.lA x.ls.length x.lc] 57)) 57 #[.int .i64 te, .int .i64 vo, .int .i64 base, .int .i64 bt, .slice A' l.length cap', .slice y.rA y.rs.length y.rc, .slice y.mA y.ms.length y.mc, .slice y.gA y.gs.length y.gc, .int .i64 y.time, .slice y.dA y.ds.length y.dc, .slice y.lA y.ls.length y.lc]; simpa using this
  have B0 : Below w.heap.size w ((w.alloc (.cells #[.int .i64 te, .int .i64 vo, .int .i64 base, .int .i64 bt, .slice A l.length cap, .slice x.rA x.rs.length x.rc, .slice x.mA x.ms.length x.mc, .slice x.gA x.gs.length x.gc, .int .i64 x.time, .slice x.dA x.ds.length x.dc, .slice x.lA x.ls.length x.lc] 57)).alloc (.cells #[.int .i64 te, .int .i64 vo, .int .i64 base, .int .i64 bt, .slice A' l.length cap', .slice y.rA y.rs.length y.rc, .slice y.mA y.ms.length y.mc, .slice y.gA y.gs.length y.gc, .int .i64 y.time, .slice y.dA y.ds.length y.dc, .slice y.lA y.ls.length y.lc] 57)) := by repeat (first | exact Below.refl _ _ | assumption | refine via0 (by assumption) ?_ | refine Below.drew ?_ | refine alloc0 ?_ _)
  refine (E1.out _ B0).mono ?_
  rintro e w1 ⟨rfl, g1⟩
  have p1 := p0.below g1 p0.lt
  have r1 := r0.below g1 r0.lt
  have B1 : Below w.heap.size w w1 := via0 g1 B0
  obtain ⟨u0, u1, u2, u3, u4, u5, u6, u7, u8, u9, u10⟩ := p1.row11
  obtain ⟨v0, v1, v2, v3, v4, v5, v6, v7, v8, v9, v10⟩ := r1.row11
  have q1 := p1.lt
  have t1 := r1.lt
  clear p0 r0 B0 g1
  go_wp2_with fail
  refine (E2.out _ B1).mono ?_
  rintro e w2 ⟨rfl, g2⟩
  have B2 : Below w.heap.size w w2 := via0 g2 B1
  go_wp2
  go_ret
  exact ⟨rfl, B2⟩
set_option maxRecDepth 100000 in
set_option maxHeartbeats 1000000 in
theorem markHard_any (te vo base bt : Int) (A : Option Addr) (cap : Nat) (l : List En) (hl : l.length <= 1048576) (x : KC) (hf : KFit x) (F : List Nat) (S : Nat -> Prop) (hd : ∀ b ∈ F, ¬ S b) (k : Int) (hk : 1 <= k) (hk' : k <= 500000) (w : World) (hlt : ∀ b, S b -> b < w.heap.size) (hs : Sl w A l F) (h : KOwn w x S) :
    Calls Tryz.prog 53 #[.agg #[.int .i64 te, .int .i64 vo, .int .i64 base, .int .i64 bt, .slice A l.length cap, .slice x.rA x.rs.length x.rc, .slice x.mA x.ms.length x.mc, .slice x.gA x.gs.length x.gc, .int .i64 x.time, .slice x.dA x.ds.length x.dc, .slice x.lA x.ls.length x.lc], .int .i64 k] w fun e w' => e = .returned (.int .i64 (k + (l.length : Int) * 9 + (kct x : Int))) /\ Offp (fun b => b ∈ F ∨ S b) w w' /\ Sl w' A (marksEn l.length k) F /\ KOwn w' (mK x (k + (l.length : Int) * 9)) S := by
  have hFl := hs.lt
  obtain ⟨z, hz⟩ : ∃ z : Int, z = k + (l.length : Int) * 9 := ⟨_, rfl⟩
  have z1 : 1 <= z := by omega
  have z2 : z <= 10000000 := by omega
  have HL : Hid (∀ W : World, Sl W A l F -> Calls Tryz.prog 114 #[.agg #[.int .i64 base, .int .i64 bt, .slice A l.length cap], .int .i64 k] W fun e w' => e = .returned (.int .i64 z) /\ Off F W w' /\ Sl w' A (marksEn l.length k) F) := fun W hW => hz ▸ markLog_any base bt A cap l (by omega) k hk (by omega) F W hW
  have HK : Hid (∀ W : World, (∀ b, S b -> b < W.heap.size) -> KOwn W x S -> Calls Tryz.prog 56 #[.agg #[.slice x.rA x.rs.length x.rc, .slice x.mA x.ms.length x.mc, .slice x.gA x.gs.length x.gc, .int .i64 x.time, .slice x.dA x.ds.length x.dc, .slice x.lA x.ls.length x.lc], .int .i64 z] W fun e w' => e = .returned (.int .i64 (z + (kct x : Int))) /\ Offp S W w' /\ KOwn w' (mK x z) S) := fun W h1 h2 => markKeep_any x hf S z z1 z2 W h1 h2
  rw [← hz]
  have n0 : Below w.heap.size w (w.alloc (.cells #[.int .i64 te, .int .i64 vo, .int .i64 base, .int .i64 bt, .slice A l.length cap, .slice x.rA x.rs.length x.rc, .slice x.mA x.ms.length x.mc, .slice x.gA x.gs.length x.gc, .int .i64 x.time, .slice x.dA x.ds.length x.dc, .slice x.lA x.ls.length x.lc] 57)) := alloc0 (Below.refl _ _) _
  have Hs := hidP (hs.below n0)
  have Hh := hidP (h.below n0)
  have hw : ∀ b, b ∈ F ∨ S b -> b < w.heap.size := fun b hb => hb.elim (hFl b) (hlt b)
  have Hw := hidP hw
  have Hd := hidP hd
  obtain ⟨c, hc⟩ : ∃ c : Int, (kct x : Int) = c := ⟨_, rfl⟩
  rw [hc] at HK ⊢
  clear hs h hf hd hlt hw hFl hz hc n0
  go_enter Tryz.func53, Tryz.ntmps53
  go_wp2_with fail
  have p0 : Blk (w.alloc (.cells #[.int .i64 te, .int .i64 vo, .int .i64 base, .int .i64 bt, .slice A l.length cap, .slice x.rA x.rs.length x.rc, .slice x.mA x.ms.length x.mc, .slice x.gA x.gs.length x.gc, .int .i64 x.time, .slice x.dA x.ds.length x.dc, .slice x.lA x.ls.length x.lc] 57)) w.heap.size 57 #[.int .i64 te, .int .i64 vo, .int .i64 base, .int .i64 bt, .slice A l.length cap, .slice x.rA x.rs.length x.rc, .slice x.mA x.ms.length x.mc, .slice x.gA x.gs.length x.gc, .int .i64 x.time, .slice x.dA x.ds.length x.dc, .slice x.lA x.ls.length x.lc] := Blk.new w _ _
  have o0 : Offp (fun b => b ∈ F ∨ S b) w (w.alloc (.cells #[.int .i64 te, .int .i64 vo, .int .i64 base, .int .i64 bt, .slice A l.length cap, .slice x.rA x.rs.length x.rc, .slice x.mA x.ms.length x.mc, .slice x.gA x.gs.length x.gc, .int .i64 x.time, .slice x.dA x.ds.length x.dc, .slice x.lA x.ls.length x.lc] 57)) := Offp.of_below (alloc0 (Below.refl _ _) _)
  refine (HL.out _ Hs.out).mono ?_
  rintro e w1 ⟨rfl, k1, t1⟩
  have p1 := p0.offp (Offp.of_off k1) (fun e => by have := Hw.out _ (.inl e); omega)
  have o1 := o0.trans ((Offp.of_off k1).mono (fun b hb => .inl hb))
  have s1 := Hh.out.offp (Offp.of_off k1) (fun b hb e => Hd.out b e hb)
  have T1 := hidP t1
  have S1 := hidP s1
  have O1 := hidP o1
  clear p0 o0 k1 t1 s1 o1 Hs Hh HL
  obtain ⟨u0, u1, u2, u3, u4, u5, u6, u7, u8, u9, u10⟩ := p1.row11
  have q1 := p1.lt
  go_wp2_with fail
  refine (HK.out _ (fun b hb => by have := Hw.out b (.inr hb); omega) S1.out).mono ?_
  rintro e w2 ⟨rfl, k2, t2⟩
  have o2 := hidP (O1.out.trans (k2.mono (fun b hb => .inr hb)))
  have s2 := hidP ((show Sl w2 A (marksEn l.length k) F from by
    rcases T1.out with h | ⟨b, o, e1, e2, hb, hi, ht⟩
    . exact .inl h
    . have hn : ¬ S b := Hd.out b (by rw [e2]; simp)
      exact .inr ⟨b, o, e1, e2, Nat.lt_of_lt_of_le hb k2.size, hi.offp k2 hb hn, there_offp ht k2 hb hn⟩))
  have T2 := hidP t2
  clear u0 u1 u2 u3 u4 u5 u6 u7 u8 u9 u10 q1 k2 t2
  go_wp2
  go_ret
  exact ⟨rfl, o2.out, s2.out, T2.out⟩
set_option maxRecDepth 100000 in
set_option maxHeartbeats 1000000 in
theorem heldHard_any (te vo base bt : Int) (A : Option Addr) (cap : Nat) (l : List En) (hl : l.length <= 1048576) (x : KC) (hf : KFit x) (F : List Nat) (k : Int) (hk : 1 <= k) (hk' : k <= 500000) (w : World) (hs : Sl w A (marksEn l.length k) F) (h : KAt w (mK x (k + (l.length : Int) * 9))) :
    Calls Tryz.prog 60 #[.agg #[.int .i64 te, .int .i64 vo, .int .i64 base, .int .i64 bt, .slice A l.length cap, .slice x.rA x.rs.length x.rc, .slice x.mA x.ms.length x.mc, .slice x.gA x.gs.length x.gc, .int .i64 x.time, .slice x.dA x.ds.length x.dc, .slice x.lA x.ls.length x.lc], .int .i64 k] w fun e w' => e = .returned (.int .i64 (k + (l.length : Int) * 9 + (kct x : Int))) /\ Below w.heap.size w w' := by
  obtain ⟨z, hz⟩ : ∃ z : Int, z = k + (l.length : Int) * 9 := ⟨_, rfl⟩
  have z1 : 1 <= z := by omega
  have z2 : z <= 10000000 := by omega
  rw [← hz] at h ⊢
  have HL : Hid (∀ W : World, Below w.heap.size w W -> Calls Tryz.prog 121 #[.agg #[.int .i64 base, .int .i64 bt, .slice A l.length cap], .int .i64 k] W fun e w' => e = .returned (.int .i64 z) /\ Below W.heap.size W w') := fun W g => hz ▸ heldLog_any base bt A cap l.length (by omega) k hk (by omega) F W (hs.below g)
  have HK : Hid (∀ W : World, Below w.heap.size w W -> Calls Tryz.prog 63 #[.agg #[.slice x.rA x.rs.length x.rc, .slice x.mA x.ms.length x.mc, .slice x.gA x.gs.length x.gc, .int .i64 x.time, .slice x.dA x.ds.length x.dc, .slice x.lA x.ls.length x.lc], .int .i64 z] W fun e w' => e = .returned (.int .i64 (z + (kct x : Int))) /\ Below W.heap.size W w') := fun W g => heldKeep_any x hf z z1 z2 W (h.below g)
  obtain ⟨c, hc⟩ : ∃ c : Int, z + (kct x : Int) = c := ⟨_, rfl⟩
  have hc0 : ¬ c < 0 := by omega
  have hz0 : ¬ z < 0 := by omega
  rw [hc] at HK ⊢
  clear hs h hf hz hc
  go_enter Tryz.func60, Tryz.ntmps60
  go_wp2_with fail
  have p0 : Blk (w.alloc (.cells #[.int .i64 te, .int .i64 vo, .int .i64 base, .int .i64 bt, .slice A l.length cap, .slice x.rA x.rs.length x.rc, .slice x.mA x.ms.length x.mc, .slice x.gA x.gs.length x.gc, .int .i64 x.time, .slice x.dA x.ds.length x.dc, .slice x.lA x.ls.length x.lc] 57)) w.heap.size 57 #[.int .i64 te, .int .i64 vo, .int .i64 base, .int .i64 bt, .slice A l.length cap, .slice x.rA x.rs.length x.rc, .slice x.mA x.ms.length x.mc, .slice x.gA x.gs.length x.gc, .int .i64 x.time, .slice x.dA x.ds.length x.dc, .slice x.lA x.ls.length x.lc] := Blk.new w _ _
  have B0 : Below w.heap.size w (w.alloc (.cells #[.int .i64 te, .int .i64 vo, .int .i64 base, .int .i64 bt, .slice A l.length cap, .slice x.rA x.rs.length x.rc, .slice x.mA x.ms.length x.mc, .slice x.gA x.gs.length x.gc, .int .i64 x.time, .slice x.dA x.ds.length x.dc, .slice x.lA x.ls.length x.lc] 57)) := alloc0 (Below.refl _ _) _
  refine (HL.out _ B0).mono ?_
  rintro e w1 ⟨rfl, g1⟩
  have p1 := p0.below g1 p0.lt
  have B1 : Below w.heap.size w w1 := via0 g1 B0
  clear p0 B0 g1 HL
  obtain ⟨u0, u1, u2, u3, u4, u5, u6, u7, u8, u9, u10⟩ := p1.row11
  have q1 := p1.lt
  go_wp2_with fail
  refine (HK.out _ B1).mono ?_
  rintro e w2 ⟨rfl, g2⟩
  have B2 : Below w.heap.size w w2 := via0 g2 B1
  go_wp2
  go_ret
  exact ⟨rfl, B2⟩
end Go.Proofs.YtengolneibbdfaaGreat.Gen
