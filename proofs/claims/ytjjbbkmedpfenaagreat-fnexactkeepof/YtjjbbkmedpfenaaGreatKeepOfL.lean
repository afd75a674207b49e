/-
  FnExactKeepOf: at every input the program's answer is the specification's, field by field; it writes into no argument; its answer owns its memory, behind another call too. No condition.
-/
import Derived.Test.YtjjbbkmedpfenaaGreatKOfS
import Derived.Test.YtjjbbkmedpfenaaGreatSetups
import Derived.Test.YtjjbbkmedpfenaaGreatBSl
import Derived.ChangeMaps5
namespace Go.Proofs.YtjjbbkmedpfenaaGreat.KeepOfL
open Go.ChangeShapes Go.WideShapes Go.ChangeAt Go.RowKit Go.Joins Go.Deep Base Gen
set_option linter.unusedVariables false
set_option linter.unusedSimpArgs false

theorem own : ownKnob Tryz.prog.godebug = none := by kernel_rfl
theorem laidOut : laidOutB Tryz.prog = true := by kernel_rfl

theorem eqKeep_is (x s : KC) (hf : KFit x) (hp : s.p = x.p) (w : World) (hx : KAt w x) (hs : KAt w s) :
    Calls Tryz.prog 8 #[.agg #[.slice x.rA x.rs.length x.rc, .slice x.mA x.ms.length x.mc, .slice x.gA x.gs.length x.gc, .int .i64 x.time, .slice x.dA x.ds.length x.dc, .slice x.lA x.ls.length x.lc], .agg #[.slice s.rA s.rs.length s.rc, .slice s.mA s.ms.length s.mc, .slice s.gA s.gs.length s.gc, .int .i64 s.time, .slice s.dA s.ds.length s.dc, .slice s.lA s.ls.length s.lc]] w fun e w' => e = .returned (.bool true) ∧ Below w.heap.size w w' := by
  have h := eqKeep_same x s hf hp w hx hs
  obtain ⟨l1, l2, l3, l4, l5, l6⟩ := KC.p_len hp
  rw [← l1, ← l2, ← l3, ← l4] at h
  rw [l5, l6]
  rw [← l1, ← l2, ← l3, ← l4]
  exact h
def zeroP : PK := ⟨[], [], [], 0, [], []⟩
def zeroK : KC := ⟨none, 0, [], none, 0, [], none, 0, [], 0, none, 0, [], none, 0, []⟩
theorem zero_own (w : World) (S : Nat → Prop) : KOwn w zeroK S := ⟨fun _ => 0, .inl rfl, .inl rfl, .inl rfl, .inl rfl, .inl rfl⟩
theorem zero_fit : KFit zeroK := ⟨by simp [zeroK], by simp [zeroK], by simp [zeroK], by simp [zeroK], by simp [zeroK], by simp [zeroK], by simp [zeroK], by simp [zeroK], by simp [zeroK, count], by simp [zeroK, count], by simp [zeroK, count]⟩
/-- What either KeepOf tells, the content X and the word Bo. -/
def ToldX (X : PK) (Bo : Bool) (w : World) (e : Ending) (w' : World) : Prop := ∃ y : KC, e = .returned (.tuple #[.agg y.cells, .bool Bo]) ∧ Below w.heap.size w w' ∧ KOwn w' y (fun b => w.heap.size ≤ b ∧ b < w'.heap.size) ∧ y.p = X
theorem toldX {ro wi le ke : Int} {l : List UInt8} {w w' : World} {e : Ending} {X : PK} {Bo : Bool} (hX : (ofK ro wi le ke l).getD zeroP = X) (hB : (ofK ro wi le ke l).isSome = Bo) (h : ToldK ro wi le ke l w e w') : ToldX X Bo w e w' := by
  obtain ⟨hb, h⟩ := h
  rcases h with ⟨y, e1, e2, e3⟩ | ⟨e1, e3⟩
  · rw [e1] at hX hB
    subst hX hB
    exact ⟨y, e3, hb, e2, rfl⟩
  · rw [e1] at hX hB
    subst hX hB
    exact ⟨zeroK, e3, hb, zero_own _ _, rfl⟩
theorem fitX {ro wi le ke : Int} {l : List UInt8} (hl : l.length ≤ 1048576) {X : PK} (hX : (ofK ro wi le ke l).getD zeroP = X) (y : KC) (hy : y.p = X) : KFit y := by
  cases h : ofK ro wi le ke l with
  | none =>
    rw [h] at hX
    exact fit_p (x := zeroK) (hy.trans hX.symm) zero_fit
  | some x =>
    rw [h] at hX
    exact fit_p (x := KC.of x) (hy.trans (hX.symm.trans (KC.of_p x).symm)) (ofK_ask hl h).fit

set_option maxRecDepth 100000 in
set_option maxHeartbeats 4000000 in
theorem law_any (ro wi le ke : Int) (hro : I64 ro) (A : Option Addr) (cap : Nat) (l : List UInt8) (hl : l.length ≤ 9223372036854775807) (w : World) (hA : At w A l) :
    Calls Tryz.prog 3 #[.agg #[.int .i64 ro, .int .i64 wi, .int .i64 le, .int .i64 ke], .slice A l.length cap] w fun e w' => e = .returned (.bool true) ∧ Below w.heap.size w w' := by
  have HA := hidP hA
  by_cases hs : ¬ l.length ≤ 1048576
  · have h1 : (1048576 : Int) < (l.length : Int) := by omega
    clear hs hA hro
    go_enter Tryz.func3, Tryz.ntmps3
    go_wp2
    go_ret
    exact ⟨rfl, alloc0 (Below.refl _ _) _⟩
  replace hs : l.length ≤ 1048576 := Decidable.not_not.1 hs
  have hs1 : ¬ ((1048576 : Int) < (l.length : Int)) := by omega
  obtain ⟨X, hX⟩ : ∃ X, (ofK ro wi le ke l).getD zeroP = X := ⟨_, rfl⟩
  obtain ⟨Bo, hBo⟩ : ∃ Bo, (ofK ro wi le ke l).isSome = Bo := ⟨_, rfl⟩
  have HF : Hid (∀ y : KC, y.p = X → KFit y) := hidP (fitX hs hX)
  have HS : Hid (∀ (a : Option Addr) (W : World), At W a l → Calls Tryz.prog 4 #[.agg #[.int .i64 ro, .int .i64 wi, .int .i64 le, .int .i64 ke], .slice a l.length l.length] W fun e w' => ToldX X Bo W e w') := hidP (fun a W h => (specKeepOf_any ro wi le ke a l.length l hs (Nat.le_refl _) hl W h).mono (fun e w' h => toldX hX hBo h))
  have HI : Hid (∀ (a : Option Addr) (W : World), At W a l → Calls Tryz.prog 7 #[.agg #[.int .i64 ro, .int .i64 wi, .int .i64 le, .int .i64 ke], .slice a l.length l.length] W fun e w' => ToldX X Bo W e w') := hidP (fun a W h => (implKeepOf_any ro wi le ke hro a l.length l hs (Nat.le_refl _) hl W h).mono (fun e w' h => toldX hX hBo h))
  have B := hidP (alloc0 (Below.refl _ w) (.cells #[.int .i64 ro, .int .i64 wi, .int .i64 le, .int .i64 ke] 23))
  have SB := hidP (Blk.new w 23 #[.int .i64 ro, .int .i64 wi, .int .i64 le, .int .i64 ke])
  clear hA hro hX hBo
  go_enter Tryz.func3, Tryz.ntmps3
  obtain ⟨n0, n1, n2, n3⟩ := SB.out.row4
  have qSB := SB.out.lt
  go_wp2_with fail
  refine (toSetup_any ro wi le ke _).mono ?_
  rintro e w1 ⟨rfl, gw1⟩
  replace B := hidP (via0 gw1 B.out)
  replace SB := hidP (SB.out.below gw1 SB.out.lt)
  clear gw1 n0 n1 n2 n3 qSB
  go_wp2_with fail
  refine (toB_any A cap l hs _ (HA.out.below B.out)).mono ?_
  rintro e w2 ⟨rfl, g2, s2, i2, _⟩
  have H2 : Hid (At w2 (some ⟨w1.heap.size, 0, none⟩) l) := hidP (.inr ⟨_, _, rfl, s2, i2⟩)
  have zw2 : Hid (w.heap.size < w2.heap.size) := hidP (Nat.lt_of_lt_of_le SB.out.lt g2.size)
  replace B := hidP (via0 g2 B.out)
  replace SB := hidP (SB.out.below g2 SB.out.lt)
  clear g2 i2 s2
  go_wp2_with fail
  refine (HS.out _ _ H2.out).mono ?_
  rintro e w3 ⟨yS, rfl, g3, oS, pS⟩
  simp only [KC.cells]
  have gA := alloc0 (Below.refl _ w3) (.cells #[.slice yS.rA yS.rs.length yS.rc, .slice yS.mA yS.ms.length yS.mc, .slice yS.gA yS.gs.length yS.gc, .int .i64 yS.time, .slice yS.dA yS.ds.length yS.dc, .slice yS.lA yS.ls.length yS.lc] 31)
  have OS := hidP (oS.below gA)
  have PS := hidP (Blk.new w3 31 #[.slice yS.rA yS.rs.length yS.rc, .slice yS.mA yS.ms.length yS.mc, .slice yS.gA yS.gs.length yS.gc, .int .i64 yS.time, .slice yS.dA yS.ds.length yS.dc, .slice yS.lA yS.ls.length yS.lc])
  have Hp := hidP pS
  have z23 := hidP g3.size
  have g := via0 gA g3
  clear oS pS gA g3 H2
  replace B := hidP (via0 g B.out)
  replace SB := hidP (SB.out.below g SB.out.lt)
  clear g
  go_wp2_with fail
  refine (toB_any A cap l hs _ (HA.out.below B.out)).mono ?_
  rintro e w4 ⟨rfl, g4, s4, i4, t4⟩
  have SX : Hid (Sl w4 (some ⟨w3.heap.size + 1, 0, none⟩) l [w3.heap.size + 1]) := hidP (.inr ⟨w3.heap.size + 1, 0, rfl, rfl, by simpa using s4, by simpa using i4, by show w4.there (w3.heap.size + 1) 0 (l.length * 1); simpa using t4⟩)
  have s4' : Hid (w3.heap.size + 1 < w4.heap.size) := hidP (by simpa using s4)
  replace B := hidP (via0 g4 B.out)
  replace SB := hidP (SB.out.below g4 SB.out.lt)
  replace PS := hidP (PS.out.below g4 PS.out.lt)
  replace OS := hidP (OS.out.below g4)
  clear g4 i4 t4 s4
  obtain ⟨n0, n1, n2, n3⟩ := SB.out.row4
  have qSB := SB.out.lt
  go_wp2_with fail
  refine (toSetup_any ro wi le ke _).mono ?_
  rintro e w5 ⟨rfl, gw5⟩
  replace B := hidP (via0 gw5 B.out)
  replace SB := hidP (SB.out.below gw5 SB.out.lt)
  replace PS := hidP (PS.out.below gw5 PS.out.lt)
  replace OS := hidP (OS.out.below gw5)
  replace SX := hidP (SX.out.below gw5)
  clear gw5 n0 n1 n2 n3 qSB
  have s5' : Hid (w3.heap.size + 1 < w5.heap.size) := hidP (SX.out.lt _ (by simp))
  go_wp2_with fail
  refine (HI.out _ _ SX.out.at).mono ?_
  rintro e w6 ⟨yI, rfl, g6, oI, pI⟩
  simp only [KC.cells]
  have gA := alloc0 (Below.refl _ w6) (.cells #[.slice yI.rA yI.rs.length yI.rc, .slice yI.mA yI.ms.length yI.mc, .slice yI.gA yI.gs.length yI.gc, .int .i64 yI.time, .slice yI.dA yI.ds.length yI.dc, .slice yI.lA yI.ls.length yI.lc] 31)
  have OI := hidP (oI.below gA)
  have PI := hidP (Blk.new w6 31 #[.slice yI.rA yI.rs.length yI.rc, .slice yI.mA yI.ms.length yI.mc, .slice yI.gA yI.gs.length yI.gc, .int .i64 yI.time, .slice yI.dA yI.ds.length yI.dc, .slice yI.lA yI.ls.length yI.lc])
  have Hq := hidP pI
  have z56 := hidP g6.size
  have g := via0 gA g6
  clear oI pI gA g6
  replace B := hidP (via0 g B.out)
  replace SB := hidP (SB.out.below g SB.out.lt)
  replace PS := hidP (PS.out.below g PS.out.lt)
  replace OS := hidP (OS.out.below g)
  replace SX := hidP (SX.out.below g)
  clear g
  have hfI := hidP (HF.out yI Hq.out)
  have hpe := hidP (Hp.out.trans Hq.out.symm)
  obtain ⟨u0, u1, u2, u3, u4, u5⟩ := PS.out.row6
  have qPS := PS.out.lt
  obtain ⟨t0, t1, t2, t3, t4, t5⟩ := PI.out.row6
  have qPI := PI.out.lt
  go_wp2_with fail
  refine (eqKeep_is yI yS hfI.out hpe.out _ OI.out.at OS.out.at).mono ?_
  rintro e w7 ⟨rfl, g7⟩
  replace B := hidP (via0 g7 B.out)
  replace SB := hidP (SB.out.below g7 SB.out.lt)
  replace PS := hidP (PS.out.below g7 PS.out.lt)
  replace PI := hidP (PI.out.below g7 PI.out.lt)
  replace OS := hidP (OS.out.below g7)
  replace OI := hidP (OI.out.below g7)
  replace SX := hidP (SX.out.below g7)
  clear g7 u0 u1 u2 u3 u4 u5 t0 t1 t2 t3 t4 t5 qPS qPI
  go_wp2_with fail
  refine (toB_any A cap l hs _ (HA.out.below B.out)).mono ?_
  rintro e w8 ⟨rfl, g8, s8, i8, _⟩
  have H8 : Hid (At w8 (some ⟨w7.heap.size, 0, none⟩) l) := hidP (.inr ⟨_, _, rfl, s8, i8⟩)
  replace B := hidP (via0 g8 B.out)
  replace SB := hidP (SB.out.below g8 SB.out.lt)
  replace PS := hidP (PS.out.below g8 PS.out.lt)
  replace PI := hidP (PI.out.below g8 PI.out.lt)
  replace OS := hidP (OS.out.below g8)
  replace OI := hidP (OI.out.below g8)
  replace SX := hidP (SX.out.below g8)
  clear g8 i8 s8
  go_wp2_with fail
  refine (eqB_same _ _ _ _ l (by omega) _ SX.out.at H8.out).mono ?_
  rintro e w9 ⟨rfl, g9⟩
  replace B := hidP (via0 g9 B.out)
  replace SB := hidP (SB.out.below g9 SB.out.lt)
  replace PS := hidP (PS.out.below g9 PS.out.lt)
  replace PI := hidP (PI.out.below g9 PI.out.lt)
  replace OS := hidP (OS.out.below g9)
  replace OI := hidP (OI.out.below g9)
  replace SX := hidP (SX.out.below g9)
  clear g9 H8
  go_wp2_with fail
  refine (markSl_any _ l.length l [w3.heap.size + 1] (by omega) _ SX.out).mono ?_
  rintro e w10 ⟨rfl, o10, -⟩
  have kk : ¬ (1 : Int) + (l.length : Int) < 0 := by omega
  have k10 := Offp.of_off o10
  replace B := hidP (B.out.trans (k10.toBelow (B := w.heap.size) (fun x e => by simp at e; have := zw2.out; have := z23.out; omega) B.out.size))
  replace SB := hidP (SB.out.offp k10 (by simp; have := zw2.out; have := z23.out; omega))
  replace PS := hidP (PS.out.offp k10 (by simp))
  replace PI := hidP (PI.out.offp k10 (by simp; have := s5'.out; have := z56.out; omega))
  replace OS := hidP (OS.out.offp k10 (fun b hb e => by simp at e; have := hb.2; omega))
  replace OI := hidP (OI.out.offp k10 (fun b hb e => by simp at e; have := hb.1; have := s5'.out; omega))
  clear o10 k10 SX
  generalize (1 : Int) + (l.length : Int) = kz at kk ⊢
  obtain ⟨u0, u1, u2, u3, u4, u5⟩ := PS.out.row6
  have qPS := PS.out.lt
  obtain ⟨t0, t1, t2, t3, t4, t5⟩ := PI.out.row6
  have qPI := PI.out.lt
  go_wp2_with fail
  refine (eqKeep_is yI yS hfI.out hpe.out _ OI.out.at OS.out.at).mono ?_
  rintro e w11 ⟨rfl, g11⟩
  replace B := hidP (via0 g11 B.out)
  replace SB := hidP (SB.out.below g11 SB.out.lt)
  replace PS := hidP (PS.out.below g11 PS.out.lt)
  replace PI := hidP (PI.out.below g11 PI.out.lt)
  replace OS := hidP (OS.out.below g11)
  replace OI := hidP (OI.out.below g11)
  clear g11 u0 u1 u2 u3 u4 u5 t0 t1 t2 t3 t4 t5 qPS qPI
  obtain ⟨t0, t1, t2, t3, t4, t5⟩ := PI.out.row6
  have qPI := PI.out.lt
  go_wp2_with fail
  refine (markKeep_any yI hfI.out _ 1 (by omega) (by omega) _ (fun b hb => by have := hb.2; have := PI.out.lt; omega) OI.out).mono ?_
  rintro e w12 ⟨rfl, k12, o12⟩
  have mm : ¬ (1 : Int) + (kct yI : Int) < 0 := by omega
  replace B := hidP (B.out.trans (k12.toBelow (B := w.heap.size) (fun x e => by have := e.1; have := zw2.out; have := z23.out; have := s5'.out; omega) B.out.size))
  replace SB := hidP (SB.out.offp k12 (fun e => by have := e.1; have := zw2.out; have := z23.out; have := s5'.out; omega))
  replace PS := hidP (PS.out.offp k12 (fun e => by have := e.1; have := s5'.out; omega))
  replace PI := hidP (PI.out.offp k12 (fun e => by have := e.2; omega))
  replace OS := hidP (OS.out.offp k12 (fun b hb e => by have := e.1; have := hb.2; have := s5'.out; omega))
  have OM := hidP o12
  have HH : Hid (∀ (W : World), KAt W (mK yI 1) → Calls Tryz.prog 12 #[.agg #[.slice yI.rA yI.rs.length yI.rc, .slice yI.mA yI.ms.length yI.mc, .slice yI.gA yI.gs.length yI.gc, .int .i64 yI.time, .slice yI.dA yI.ds.length yI.dc, .slice yI.lA yI.ls.length yI.lc], .int .i64 1] W fun e w' => e = .returned (.int .i64 (1 + (kct yI : Int))) ∧ Below W.heap.size W w') := hidP (fun W h => heldKeep_any yI hfI.out 1 (by omega) (by omega) W h)
  clear k12 o12 OI t0 t1 t2 t3 t4 t5 qPI
  generalize (1 : Int) + (kct yI : Int) = mz at mm HH ⊢
  obtain ⟨t0, t1, t2, t3, t4, t5⟩ := PI.out.row6
  have qPI := PI.out.lt
  go_wp2_with fail
  refine (HH.out _ OM.out.at).mono ?_
  rintro e w13 ⟨rfl, g13⟩
  replace B := hidP (via0 g13 B.out)
  replace SB := hidP (SB.out.below g13 SB.out.lt)
  replace PS := hidP (PS.out.below g13 PS.out.lt)
  replace PI := hidP (PI.out.below g13 PI.out.lt)
  replace OS := hidP (OS.out.below g13)
  replace OM := hidP (OM.out.below g13)
  clear g13 t0 t1 t2 t3 t4 t5 qPI
  obtain ⟨n0, n1, n2, n3⟩ := SB.out.row4
  have qSB := SB.out.lt
  go_wp2_with fail
  refine (toSetup_any ro wi le ke _).mono ?_
  rintro e w14 ⟨rfl, gw14⟩
  replace B := hidP (via0 gw14 B.out)
  replace SB := hidP (SB.out.below gw14 SB.out.lt)
  replace PS := hidP (PS.out.below gw14 PS.out.lt)
  replace PI := hidP (PI.out.below gw14 PI.out.lt)
  replace OS := hidP (OS.out.below gw14)
  replace OM := hidP (OM.out.below gw14)
  clear gw14 n0 n1 n2 n3 qSB
  go_wp2_with fail
  refine (toB_any A cap l hs _ (HA.out.below B.out)).mono ?_
  rintro e w15 ⟨rfl, g15, s15, i15, _⟩
  have H15 : Hid (At w15 (some ⟨w14.heap.size, 0, none⟩) l) := hidP (.inr ⟨_, _, rfl, s15, i15⟩)
  replace B := hidP (via0 g15 B.out)
  replace PS := hidP (PS.out.below g15 PS.out.lt)
  replace PI := hidP (PI.out.below g15 PI.out.lt)
  replace OS := hidP (OS.out.below g15)
  replace OM := hidP (OM.out.below g15)
  clear g15 i15 s15 SB
  go_wp2_with fail
  refine (HI.out _ _ H15.out).mono ?_
  rintro e w16 ⟨yH, rfl, g16, oH, pH⟩
  simp only [KC.cells]
  have gA := alloc0 (Below.refl _ w16) (.cells #[.slice yH.rA yH.rs.length yH.rc, .slice yH.mA yH.ms.length yH.mc, .slice yH.gA yH.gs.length yH.gc, .int .i64 yH.time, .slice yH.dA yH.ds.length yH.dc, .slice yH.lA yH.ls.length yH.lc] 31)
  have OH := hidP (oH.below gA)
  have PH := hidP (Blk.new w16 31 #[.slice yH.rA yH.rs.length yH.rc, .slice yH.mA yH.ms.length yH.mc, .slice yH.gA yH.gs.length yH.gc, .int .i64 yH.time, .slice yH.dA yH.ds.length yH.dc, .slice yH.lA yH.ls.length yH.lc])
  have hfH := hidP (HF.out yH pH)
  have hpH := hidP (Hp.out.trans pH.symm)
  have g := via0 gA g16
  clear oH pH gA g16 H15
  replace B := hidP (via0 g B.out)
  replace PS := hidP (PS.out.below g PS.out.lt)
  replace PI := hidP (PI.out.below g PI.out.lt)
  replace OS := hidP (OS.out.below g)
  replace OM := hidP (OM.out.below g)
  clear g
  obtain ⟨u0, u1, u2, u3, u4, u5⟩ := PS.out.row6
  have qPS := PS.out.lt
  obtain ⟨t0, t1, t2, t3, t4, t5⟩ := PH.out.row6
  have qPH := PH.out.lt
  go_wp2_with fail
  refine (eqKeep_is yH yS hfH.out hpH.out _ OH.out.at OS.out.at).mono ?_
  rintro e w17 ⟨rfl, g17⟩
  replace B := hidP (via0 g17 B.out)
  replace PI := hidP (PI.out.below g17 PI.out.lt)
  replace OM := hidP (OM.out.below g17)
  clear g17 u0 u1 u2 u3 u4 u5 t0 t1 t2 t3 t4 t5 qPS qPH OH OS PH PS
  obtain ⟨t0, t1, t2, t3, t4, t5⟩ := PI.out.row6
  have qPI := PI.out.lt
  go_wp2_with fail
  refine (HH.out _ OM.out.at).mono ?_
  rintro e w18 ⟨rfl, g18⟩
  replace B := hidP (via0 g18 B.out)
  clear g18
  go_wp2
  go_ret
  exact ⟨rfl, B.out⟩

set_option maxRecDepth 100000 in
theorem contract (H : Type) (enc : TypeId × Value → H) (W : World) (base : Nat) (args : Array Value) (ds gs : List (DataW H)) (before : List MemPlace)
    (hval : ∀ (j : Nat) t v, Tryz.f3.params[j]? = some t → args[j]? = some v → Value.okWide Tryz.prog W .any base t v)
    (hW : DataW.Whole enc Tryz.prog Tryz.f3.params.toList Rows.fnExactKeepOfSpec.vars false W args.toList ds gs before) :
    Calls Tryz.prog 3 args W fun e W' => ∃ v, e = .returned v ∧ Rows.fnExactKeepOfSpec.post enc Tryz.prog Tryz.f3 false true false false W args v W' := by
  have hW' := hW
  obtain ⟨p, q, hA0, hV, rfl, hfz, hnd⟩ := hW
  have hA : DataW.TrodAll enc Tryz.prog W 0 (fun _ => true) true Tryz.f3.params.toList args.toList ds p := hA0
  rw [Tryz.params3] at hA hval
  obtain ⟨v0, vs0, d0, ds0, p0, q0, e0, rfl, rfl, h0, r0⟩ := trodAll_cons hA
  obtain ⟨v1, vs1, d1, ds1, p1, q1, e1, rfl, rfl, h1, r1⟩ := trodAll_cons r0
  obtain ⟨rfl, rfl, rfl⟩ := trodAll_nil r1
  have e0' : args = #[v0, v1] := by cases args; simp_all
  subst e0'
  obtain ⟨rfl, rfl⟩ := trodVars_none hV
  obtain ⟨ro, wi, le, ke, rfl, jro, _, _, _⟩ := openSetup (hval 0 23 v0 rfl rfl) h0
  obtain ⟨f1, g1⟩ := h1
  have hv1 := hval 1 24 v1 rfl rfl
  obtain ⟨a, len, c, rfl⟩ := okWide_slice Tryz.underlying24 hv1
  obtain ⟨A, cap, l, e, hl, hat⟩ := openBs (c := .slice a len c) g1
  rw [e]
  refine (law_any ro wi le ke jro A cap l hl W hat).mono fun e W' ⟨he, hb⟩ => ?_
  subst he
  rw [← e]
  exact ⟨_, rfl, post_true laidOut (by kernel_rfl) (by kernel_rfl) Tryz.underlying4 rfl rfl hW' hb⟩

set_option maxRecDepth 100000 in
theorem lifted (os : Os) (started : os.Started) (H : Type) (enc : TypeId × Value → H) :
    ReturnsInHanded {} Tryz.checked os 3 .any (Rows.fnExactKeepOfSpec.pre6 enc Tryz.prog Tryz.f3 Rows.fnExactKeepOfRow.domain false) (Rows.fnExactKeepOfSpec.post enc Tryz.prog Tryz.f3 false true false false) := by
  refine returnsInHanded_of_change (C := Tryz.checked) own started (by kernel_rfl) Tryz.func3
    (ChangeSpec.witness6 (enc := enc) (C := Tryz.checked) false ⟨#[], #[.agg #[.int .i64 0, .int .i64 0, .int .i64 0, .int .i64 0], .slice none 0 0], []⟩ 8 (by kernel_rfl) (by kernel_rfl) (by kernel_rfl) (by kernel_rfl)) ?_
  intro W base args ds gs before hval0 hW _ _
  exact contract H enc W base args ds gs before hval0 hW

theorem proved : Rows.FnExactKeepOfSaid :=
  OpenClaim.holds_of_wide 3 Tryz.f3 rfl rfl rfl rfl rfl rfl rfl ⟨rfl, rfl, rfl, rfl, rfl⟩ rfl rfl rfl rfl rfl (by kernel_rfl) Tryz.func3 (by kernel_rfl)
    (of_decide_eq_true (by kernel_rfl)) (by unfold Func.isWrapper; first | (rw [if_pos (by decide +kernel)]; kernel_rfl) | (rw [if_neg (by decide +kernel)]; exact ⟨rfl, rfl⟩))
    (fun os started H enc _ => lifted os started H enc)
end Go.Proofs.YtjjbbkmedpfenaaGreat.KeepOfL
namespace Go.Proofs.YtjjbbkmedpfenaaGreat
theorem keepOf_holds : Rows.FnExactKeepOfSaid := KeepOfL.proved
end Go.Proofs.YtjjbbkmedpfenaaGreat
