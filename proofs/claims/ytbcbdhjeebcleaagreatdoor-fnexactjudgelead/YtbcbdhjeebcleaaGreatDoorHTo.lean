/-
  What a node must keep (Hard): what the laws' sz and to functions of it do; a Hard opened. No condition but the sizes of its lists.
-/
import Derived.Test.YtbcbdhjeebcleaaGreatDoorLogV
set_option linter.unusedVariables false
set_option linter.unusedSimpArgs false
set_option maxRecDepth 100000
set_option maxHeartbeats 8000000
namespace Go.Proofs.YtbcbdhjeebcleaaGreatDoor.Gen
open ChangeShapes WideShapes ChangeAt RowKit Joins Deep Base
theorem szHard_tot (te vo base bt : Int) (A : Option Addr) (cap : Nat) (l : List En) (hl : l.length <= 9223372036854775807) (hr : ∀ x ∈ l, x.fit) (x : KC) (hx : KRight x) (left : Int) (h0 : 0 <= left) (h1 : left <= 1048576) (w : World) (hA : At w A l) (hX : KAt w x) :
 Calls Tryz.prog 52 #[.agg #[.int .i64 te, .int .i64 vo, .int .i64 base, .int .i64 bt, .slice A l.length cap, .slice x.rA x.rs.length x.rc, .slice x.mA x.ms.length x.mc, .slice x.gA x.gs.length x.gc, .int .i64 x.time, .slice x.dA x.ds.length x.dc, .slice x.lA x.ls.length x.lc], .int .i64 left] w fun e w' => (∃ r : Int, e = .returned (.int .i64 r) /\ (r < 0 ∨ (0 <= r /\ r <= left /\ l.length <= 1048576 /\ KFit x /\ (l.length : Int) * 9 + (kct x : Int) <= 9 * (left - r)))) /\ Below w.heap.size w w' := by
 have hlen : left - (l.length : Int) >= 0 -> l.length <= 1048576 := fun h => by omega
 have HL : Hid (∀ W : World, Below w.heap.size w W -> Calls Tryz.prog 94 #[.agg #[.int .i64 base, .int .i64 bt, .slice A l.length cap], .int .i64 left] W fun e w' => (∃ r : Int, e = .returned (.int .i64 r) /\ (r < 0 ∨ (0 <= r /\ r = left - (l.length : Int) - (Qah szEn l : Int)))) /\ Below W.heap.size W w') := fun W g => szLog_any base bt A cap l hl hr left h0 h1 W (hA.below g)
 have HK : Hid (∀ (z : Int) (W : World), Below w.heap.size w W -> 0 <= z -> z <= 1048576 -> Calls Tryz.prog 54 #[.agg #[.slice x.rA x.rs.length x.rc, .slice x.mA x.ms.length x.mc, .slice x.gA x.gs.length x.gc, .int .i64 x.time, .slice x.dA x.ds.length x.dc, .slice x.lA x.ls.length x.lc], .int .i64 z] W fun e w' => (∃ r : Int, e = .returned (.int .i64 r) /\ (r < 0 ∨ (0 <= r /\ r <= z /\ KFit x /\ (kct x : Int) <= 5 * (z - r)))) /\ Below W.heap.size W w') := fun z W g a b => Qey x hx z a b W (hX.below g)
 clear hA hX hx hr hl hlen
 go_enter Tryz.func52, Tryz.ntmps52
 go_wp2_with fail
 have p0 : Blk (w.alloc (.cells #[.int .i64 te, .int .i64 vo, .int .i64 base, .int .i64 bt, .slice A l.length cap, .slice x.rA x.rs.length x.rc, .slice x.mA x.ms.length x.mc, .slice x.gA x.gs.length x.gc, .int .i64 x.time, .slice x.dA x.ds.length x.dc, .slice x.lA x.ls.length x.lc] 94)) w.heap.size 94 #[.int .i64 te, .int .i64 vo, .int .i64 base, .int .i64 bt, .slice A l.length cap, .slice x.rA x.rs.length x.rc, .slice x.mA x.ms.length x.mc, .slice x.gA x.gs.length x.gc, .int .i64 x.time, .slice x.dA x.ds.length x.dc, .slice x.lA x.ls.length x.lc] := Blk.new w _ _
 have B0 : Below w.heap.size w (w.alloc (.cells #[.int .i64 te, .int .i64 vo, .int .i64 base, .int .i64 bt, .slice A l.length cap, .slice x.rA x.rs.length x.rc, .slice x.mA x.ms.length x.mc, .slice x.gA x.gs.length x.gc, .int .i64 x.time, .slice x.dA x.ds.length x.dc, .slice x.lA x.ls.length x.lc] 94)) := Qaa (Below.refl _ _) _
 refine (HL.out _ B0).mono ?_
 rintro e w1 ⟨⟨z, rfl, hz⟩, g1⟩
 have p1 := p0.below g1 p0.lt
 have B1 := via0 g1 B0
 have q1 := p1.lt
 obtain ⟨u0, u1, u2, u3, u4, u5, u6, u7, u8, u9, u10⟩ := p1.row11
 clear p0 B0 g1
 rcases hz with hz | ⟨hz, hz1⟩
 . go_wp2
   go_ret
   exact ⟨⟨-1, rfl, .inl (by omega)⟩, B1⟩
 have n1 : ¬ z < 0 := by omega
 have Hz := hidP hz1
 have b1 : z <= 1048576 := by omega
 clear hz1
 go_wp2_with fail
 refine (HK.out z _ B1 hz b1).mono ?_
 rintro e w2 ⟨⟨r, rfl, hr⟩, g2⟩
 have B2 := via0 g2 B1
 clear u0 u1 u2 u3 u4 u5 u6 u7 u8 u9 u10 p1 q1 g2
 rcases hr with hr | ⟨hr, hr1, hr2, hr3⟩
 . go_wp2
   go_ret
   exact ⟨⟨-1, rfl, .inl (by omega)⟩, B2⟩
 have n2 : ¬ r < 0 := by omega
 have Hr := hidP hr1
 have Hk := hidP hr2
 have Hc := hidP hr3
 clear hr1 hr2 hr3
 go_wp2
 go_ret
 exact ⟨⟨r, rfl, .inr ⟨hr, by have := Hz.out; have := Hr.out; omega, by have := Hz.out; omega, Hk.out, by have := Hz.out; have := Hr.out; have := Hc.out; omega⟩⟩, B2⟩
def NewH (w w' : World) (e : Ending) (te vo base bt : Int) (l : List En) (c : PK) : Prop := ∃ (b : Nat) (y : KC), e = .returned (.agg #[.int .i64 te, .int .i64 vo, .int .i64 base, .int .i64 bt, .slice (some ⟨b, 0, none⟩) l.length l.length, .slice y.rA y.rs.length y.rc, .slice y.mA y.ms.length y.mc, .slice y.gA y.gs.length y.gc, .int .i64 y.time, .slice y.dA y.ds.length y.dc, .slice y.lA y.ls.length y.lc]) /\ y.p = c /\ w.heap.size <= b /\ b < w'.heap.size /\ In w' b 0 l /\ w'.there b 0 (l.length * 9) /\ KOwn w' y (fun z => w.heap.size <= z /\ z < w'.heap.size /\ z ≠ b) /\ Below w.heap.size w w'
theorem toHard_any (te vo base bt : Int) (A : Option Addr) (cap : Nat) (l : List En) (hl : l.length <= 1048576) (x : KC) (hf : KFit x) (w : World) (hA : At w A l) (hX : KAt w x) :
 Calls Tryz.prog 65 #[.agg #[.int .i64 te, .int .i64 vo, .int .i64 base, .int .i64 bt, .slice A l.length cap, .slice x.rA x.rs.length x.rc, .slice x.mA x.ms.length x.mc, .slice x.gA x.gs.length x.gc, .int .i64 x.time, .slice x.dA x.ds.length x.dc, .slice x.lA x.ls.length x.lc]] w fun e w' => NewH w w' e te vo base bt l x.p := by
 have HL : Hid (∀ W : World, Below w.heap.size w W -> Calls Tryz.prog 105 #[.agg #[.int .i64 base, .int .i64 bt, .slice A l.length cap]] W fun e w' => ∃ b, e = .returned (.agg #[.int .i64 base, .int .i64 bt, .slice (some ⟨b, 0, none⟩) l.length l.length]) /\ Below W.heap.size W w' /\ W.heap.size <= b /\ b < w'.heap.size /\ In w' b 0 l /\ w'.there b 0 (l.length * 9)) := fun W g => toLog_any base bt A cap l hl W (hA.below g)
 have HK : Hid (∀ W : World, Below w.heap.size w W -> Calls Tryz.prog 67 #[.agg #[.slice x.rA x.rs.length x.rc, .slice x.mA x.ms.length x.mc, .slice x.gA x.gs.length x.gc, .int .i64 x.time, .slice x.dA x.ds.length x.dc, .slice x.lA x.ls.length x.lc]] W fun e w' => NewK W w' e x.p) := fun W g => Qeu x hf W (hX.below g)
 clear hA hX hf hl
 have B0 : Below w.heap.size w (((w.alloc (.cells #[.int .i64 te, .int .i64 vo, .int .i64 base, .int .i64 bt, .slice A l.length cap, .slice x.rA x.rs.length x.rc, .slice x.mA x.ms.length x.mc, .slice x.gA x.gs.length x.gc, .int .i64 x.time, .slice x.dA x.ds.length x.dc, .slice x.lA x.ls.length x.lc] 94)).alloc (.cells #[.int .i64 0, .int .i64 0, .int .i64 0, .int .i64 0, .slice none 0 0, .slice none 0 0, .slice none 0 0, .slice none 0 0, .int .i64 0, .slice none 0 0, .slice none 0 0] 58)).alloc (.cells #[.int .i64 te, .int .i64 vo, .int .i64 0, .int .i64 0, .slice none 0 0, .slice none 0 0, .slice none 0 0, .slice none 0 0, .int .i64 0, .slice none 0 0, .slice none 0 0] 58)) := by repeat (first | exact Below.refl _ _ | assumption | refine via0 (by assumption) ?_ | refine Below.drew ?_ | refine Qaa ?_ _)
 have P1 : Blk (((w.alloc (.cells #[.int .i64 te, .int .i64 vo, .int .i64 base, .int .i64 bt, .slice A l.length cap, .slice x.rA x.rs.length x.rc, .slice x.mA x.ms.length x.mc, .slice x.gA x.gs.length x.gc, .int .i64 x.time, .slice x.dA x.ds.length x.dc, .slice x.lA x.ls.length x.lc] 94)).alloc (.cells #[.int .i64 0, .int .i64 0, .int .i64 0, .int .i64 0, .slice none 0 0, .slice none 0 0, .slice none 0 0, .slice none 0 0, .int .i64 0, .slice none 0 0, .slice none 0 0] 58)).alloc (.cells #[.int .i64 te, .int .i64 vo, .int .i64 0, .int .i64 0, .slice none 0 0, .slice none 0 0, .slice none 0 0, .slice none 0 0, .int .i64 0, .slice none 0 0, .slice none 0 0] 58)) w.heap.size 94 #[.int .i64 te, .int .i64 vo, .int .i64 base, .int .i64 bt, .slice A l.length cap, .slice x.rA x.rs.length x.rc, .slice x.mA x.ms.length x.mc, .slice x.gA x.gs.length x.gc, .int .i64 x.time, .slice x.dA x.ds.length x.dc, .slice x.lA x.ls.length x.lc] := ((Blk.new w _ _).alloc _).alloc _
 have P2 : Blk (((w.alloc (.cells #[.int .i64 te, .int .i64 vo, .int .i64 base, .int .i64 bt, .slice A l.length cap, .slice x.rA x.rs.length x.rc, .slice x.mA x.ms.length x.mc, .slice x.gA x.gs.length x.gc, .int .i64 x.time, .slice x.dA x.ds.length x.dc, .slice x.lA x.ls.length x.lc] 94)).alloc (.cells #[.int .i64 0, .int .i64 0, .int .i64 0, .int .i64 0, .slice none 0 0, .slice none 0 0, .slice none 0 0, .slice none 0 0, .int .i64 0, .slice none 0 0, .slice none 0 0] 58)).alloc (.cells #[.int .i64 te, .int .i64 vo, .int .i64 0, .int .i64 0, .slice none 0 0, .slice none 0 0, .slice none 0 0, .slice none 0 0, .int .i64 0, .slice none 0 0, .slice none 0 0] 58)) (w.heap.size + 1) 58 #[.int .i64 0, .int .i64 0, .int .i64 0, .int .i64 0, .slice none 0 0, .slice none 0 0, .slice none 0 0, .slice none 0 0, .int .i64 0, .slice none 0 0, .slice none 0 0] := by have := (Blk.new (w.alloc (.cells #[.int .i64 te, .int .i64 vo, .int .i64 base, .int .i64 bt, .slice A l.length cap, .slice x.rA x.rs.length x.rc, .slice x.mA x.ms.length x.mc, .slice x.gA x.gs.length x.gc, .int .i64 x.time, .slice x.dA x.ds.length x.dc, .slice x.lA x.ls.length x.lc] 94)) 58 #[.int .i64 0, .int .i64 0, .int .i64 0, .int .i64 0, .slice none 0 0, .slice none 0 0, .slice none 0 0, .slice none 0 0, .int .i64 0, .slice none 0 0, .slice none 0 0]).alloc (.cells #[.int .i64 te, .int .i64 vo, .int .i64 0, .int .i64 0, .slice none 0 0, .slice none 0 0, .slice none 0 0, .slice none 0 0, .int .i64 0, .slice none 0 0, .slice none 0 0] 58); rwa [World.size_alloc] at this
 have P3 : Blk (((w.alloc (.cells #[.int .i64 te, .int .i64 vo, .int .i64 base, .int .i64 bt, .slice A l.length cap, .slice x.rA x.rs.length x.rc, .slice x.mA x.ms.length x.mc, .slice x.gA x.gs.length x.gc, .int .i64 x.time, .slice x.dA x.ds.length x.dc, .slice x.lA x.ls.length x.lc] 94)).alloc (.cells #[.int .i64 0, .int .i64 0, .int .i64 0, .int .i64 0, .slice none 0 0, .slice none 0 0, .slice none 0 0, .slice none 0 0, .int .i64 0, .slice none 0 0, .slice none 0 0] 58)).alloc (.cells #[.int .i64 te, .int .i64 vo, .int .i64 0, .int .i64 0, .slice none 0 0, .slice none 0 0, .slice none 0 0, .slice none 0 0, .int .i64 0, .slice none 0 0, .slice none 0 0] 58)) (w.heap.size + 1 + 1) 58 #[.int .i64 te, .int .i64 vo, .int .i64 0, .int .i64 0, .slice none 0 0, .slice none 0 0, .slice none 0 0, .slice none 0 0, .int .i64 0, .slice none 0 0, .slice none 0 0] := by have := Blk.new ((w.alloc (.cells #[.int .i64 te, .int .i64 vo, .int .i64 base, .int .i64 bt, .slice A l.length cap, .slice x.rA x.rs.length x.rc, .slice x.mA x.ms.length x.mc, .slice x.gA x.gs.length x.gc, .int .i64 x.time, .slice x.dA x.ds.length x.dc, .slice x.lA x.ls.length x.lc] 94)).alloc (.cells #[.int .i64 0, .int .i64 0, .int .i64 0, .int .i64 0, .slice none 0 0, .slice none 0 0, .slice none 0 0, .slice none 0 0, .int .i64 0, .slice none 0 0, .slice none 0 0] 58)) 58 #[.int .i64 te, .int .i64 vo, .int .i64 0, .int .i64 0, .slice none 0 0, .slice none 0 0, .slice none 0 0, .slice none 0 0, .int .i64 0, .slice none 0 0, .slice none 0 0]; rwa [World.size_alloc, World.size_alloc] at this
 have H0 := hidP (And.intro B0 (And.intro P1 (And.intro P2 P3)))
 clear B0 P1 P2 P3
 go_enter Tryz.func65, Tryz.ntmps65
 go_wp2_with fail
 refine (HL.out _ H0.out.1).mono ?_
 rintro e w1 ⟨b, rfl, g1, hb1, hb2, hi, ht⟩
 have hbw : w.heap.size + 1 + 1 < b := Nat.lt_of_lt_of_le H0.out.2.2.2.lt hb1
 have B1 := via0 g1 H0.out.1
 have P1 := H0.out.2.1.below g1 H0.out.2.1.lt
 have P2 := H0.out.2.2.1.below g1 H0.out.2.2.1.lt
 have P3 := H0.out.2.2.2.below g1 H0.out.2.2.2.lt
 clear H0 g1 hb1
 have P1' := ((P1.other (B' := w.heap.size + 1 + 1) (by omega) 2 (.int .i64 base)).other (B' := w.heap.size + 1 + 1) (by omega) 3 (.int .i64 bt)).other (B' := w.heap.size + 1 + 1) (by omega) 4 (.slice (some ⟨b, 0, none⟩) l.length l.length)
 have P2' := ((P2.other (B' := w.heap.size + 1 + 1) (by omega) 2 (.int .i64 base)).other (B' := w.heap.size + 1 + 1) (by omega) 3 (.int .i64 bt)).other (B' := w.heap.size + 1 + 1) (by omega) 4 (.slice (some ⟨b, 0, none⟩) l.length l.length)
 have P3' : Blk _ (w.heap.size + 1 + 1) 58 #[.int .i64 te, .int .i64 vo, .int .i64 base, .int .i64 bt, .slice (some ⟨b, 0, none⟩) l.length l.length, .slice none 0 0, .slice none 0 0, .slice none 0 0, .int .i64 0, .slice none 0 0, .slice none 0 0] := ((P3.setAt 2 (.int .i64 base)).setAt 3 (.int .i64 bt)).setAt 4 (.slice (some ⟨b, 0, none⟩) l.length l.length)
 have B1' := Qam (Qam (Qam B1 (B := w.heap.size + 1 + 1) (i := 2) (by omega) (.int .i64 base)) (B := w.heap.size + 1 + 1) (i := 3) (by omega) (.int .i64 bt)) (B := w.heap.size + 1 + 1) (i := 4) (by omega) (.slice (some ⟨b, 0, none⟩) l.length l.length)
 have hi' := In.set (In.set (In.set hi ⟨w.heap.size + 1 + 1, 2, none⟩ (.int .i64 base) (by simp; omega)) ⟨w.heap.size + 1 + 1, 3, none⟩ (.int .i64 bt) (by simp; omega)) ⟨w.heap.size + 1 + 1, 4, none⟩ (.slice (some ⟨b, 0, none⟩) l.length l.length) (by simp; omega)
 have ht' := Qac (Qac (Qac ht (w.heap.size + 1 + 1) 2 (.int .i64 base)) (w.heap.size + 1 + 1) 3 (.int .i64 bt)) (w.heap.size + 1 + 1) 4 (.slice (some ⟨b, 0, none⟩) l.length l.length)
 have hb2' : b < (((w1.setCell ⟨w.heap.size + 1 + 1, 2, none⟩ (.int .i64 base)).setCell ⟨w.heap.size + 1 + 1, 3, none⟩ (.int .i64 bt)).setCell ⟨w.heap.size + 1 + 1, 4, none⟩ (.slice (some ⟨b, 0, none⟩) l.length l.length)).heap.size := by simpa using hb2
 have H1 := hidP (And.intro B1' (And.intro P1' (And.intro P2' (And.intro P3' (And.intro hi' (And.intro ht' hb2'))))))
 obtain ⟨u0, u1, u2, u3, u4, u5, u6, u7, u8, u9, u10⟩ := P1.row11
 obtain ⟨v0, v1, v2, v3, v4, v5, v6, v7, v8, v9, v10⟩ := P3.row11
 have f2 := P3.thaw 2; have f3 := P3.thaw 3; have f4 := P3.thaw 4
 have q3 := P3.lt
 clear P1 P2 P3 P1' P2' P3' B1 B1' hi hi' ht ht' hb2 hb2'
 go_wp2_with fail
 refine (HK.out _ H1.out.1).mono ?_
 rintro e w2 ⟨y, he, hp, ho, g2⟩
 simp only [KC.cells] at he
 subst he
 have B2 := via0 g2 H1.out.1
 have P2 := H1.out.2.2.1.below g2 H1.out.2.2.1.lt
 have P3 := H1.out.2.2.2.1.below g2 H1.out.2.2.2.1.lt
 have i2 := H1.out.2.2.2.2.1.below H1.out.2.2.2.2.2.2 g2
 have t2 := Qak H1.out.2.2.2.2.2.1 H1.out.2.2.2.2.2.2 g2
 have s2 := g2.size
 have hbl := H1.out.2.2.2.2.2.2
 have hP3 := H1.out.2.2.2.1.lt
 have OO : Hid (∀ W : World, Offp (fun z => z = w.heap.size + 1 ∨ z = w.heap.size + 1 + 1) w2 W -> W.heap.size = w2.heap.size -> NewH w W (.returned (.agg #[.int .i64 te, .int .i64 vo, .int .i64 base, .int .i64 bt, .slice (some ⟨b, 0, none⟩) l.length l.length, .slice y.rA y.rs.length y.rc, .slice y.mA y.ms.length y.mc, .slice y.gA y.gs.length y.gc, .int .i64 y.time, .slice y.dA y.ds.length y.dc, .slice y.lA y.ls.length y.lc])) te vo base bt l x.p) := by
  intro W o hW
  have nb : ¬ (b = w.heap.size + 1 ∨ b = w.heap.size + 1 + 1) := by omega
  refine ⟨b, y, rfl, hp, by omega, by rw [hW]; omega, i2.offp o (by omega) nb, Qcf t2 o (by omega) nb, (ho.offp o (fun z hz e => ?_)).mono (fun z hz => ⟨by omega, by rw [hW]; exact hz.2, by omega⟩), B2.trans (o.toBelow (fun z hz => by omega) B2.size)⟩
  omega
 clear H1 ho hp i2 t2 u0 u1 u2 u3 u4 u5 u6 u7 u8 u9 u10 v0 v1 v2 v3 v4 v5 v6 v7 v8 v9 v10 f2 f3 f4 q3 HL HK hbl hP3 hbw s2 g2
 obtain ⟨u0, u1, u2, u3, u4, u5, u6, u7, u8, u9, u10⟩ := P2.row11
 obtain ⟨v0, v1, v2, v3, v4, v5, v6, v7, v8, v9, v10⟩ := P3.row11
 have f0 := P2.thaw 0; have f1 := P2.thaw 1; have f2 := P2.thaw 2; have f3 := P2.thaw 3; have f4 := P2.thaw 4; have f5 := P2.thaw 5
 have f6 := P2.thaw 6; have f7 := P2.thaw 7; have f8 := P2.thaw 8; have f9 := P2.thaw 9; have f10 := P2.thaw 10
 have e5 := P3.thaw 5; have e6 := P3.thaw 6; have e7 := P3.thaw 7; have e8 := P3.thaw 8; have e9 := P3.thaw 9; have e10 := P3.thaw 10
 have q2 := P2.lt
 have q3 := P3.lt
 go_wp2_with fail
 refine bodyPost_ret (v := .agg #[.int .i64 te, .int .i64 vo, .int .i64 base, .int .i64 bt, .slice (some ⟨b, 0, none⟩) l.length l.length, .slice y.rA y.rs.length y.rc, .slice y.mA y.ms.length y.mc, .slice y.gA y.gs.length y.gc, .int .i64 y.time, .slice y.dA y.ds.length y.dc, .slice y.lA y.ls.length y.lc]) (by simp [results, Tryz.results65, go_sem, u0, u1, u2, u3, u4, u5, u6, u7, u8, u9, u10]) rfl (OO.out _ ?_ (by simp))
 exact Offp.set (Offp.set (Offp.set (Offp.set (Offp.set (Offp.set (Offp.set (Offp.set (Offp.set (Offp.set (Offp.set (Offp.set (Offp.set (Offp.set (Offp.set (Offp.set (Offp.set (Offp.refl _ w2) (Or.inr rfl) _ _) (Or.inr rfl) _ _) (Or.inr rfl) _ _) (Or.inr rfl) _ _) (Or.inr rfl) _ _) (Or.inr rfl) _ _) (Or.inl rfl) _ _) (Or.inl rfl) _ _) (Or.inl rfl) _ _) (Or.inl rfl) _ _) (Or.inl rfl) _ _) (Or.inl rfl) _ _) (Or.inl rfl) _ _) (Or.inl rfl) _ _) (Or.inl rfl) _ _) (Or.inl rfl) _ _) (Or.inl rfl) _ _
theorem Qbg {H : Type} {enc : TypeId × Value -> H} {P : Program} {w : World} {base : Nat} {spare : Nat -> Bool} {held : Bool} {t : TypeId} {fs : Array Field} {cs : List Value} {fuel : Nat} {x : DataW H × List MemPlace}
 (hs : P.underlying t = some (.struct fs)) (h : DataW.trod enc P w base spare held fuel t cs = some x) :
 ∃ n, ∀ (i : Nat) (f : Field), fs[i]? = some f -> ∃ y, DataW.trod enc P w base spare held n f.type ((cs.drop f.offset).take (P.cellsOf f.type)) = some y := by
 obtain ⟨xs, n, _, _, hl, hlen, hf⟩ := DataW.trod_struct hs h
 refine ⟨n, fun i f hi => ?_⟩
 have g := hf i f hi
 have hlt : i < fs.size := (Array.getElem?_eq_some_iff.1 hi).1
 exact ⟨xs[i]'(by omega), by rw [← List.getElem?_eq_getElem]; simpa using g⟩
end Go.Proofs.YtbcbdhjeebcleaaGreatDoor.Gen
namespace Go.Proofs.YtbcbdhjeebcleaaGreatDoor.Gen
open ChangeShapes WideShapes ChangeAt RowKit Joins Deep Base
structure RpC where
  kind : Int
  frm : Int
  too : Int
  term : Int
  index : Int
  iterm : Int
  commit : Int
  A : Option Addr
  cap : Nat
  l : List En
  ok : Bool
  snap : ByteArray
structure RpP where
  kind : Int
  frm : Int
  too : Int
  term : Int
  index : Int
  iterm : Int
  commit : Int
  l : List En
  ok : Bool
  snap : ByteArray
instance : Inhabited RpC := ⟨⟨0, 0, 0, 0, 0, 0, 0, none, 0, [], false, ⟨#[]⟩⟩⟩
instance : Cel RpC where
  k := 10
  cs x := [Value.int .i64 x.kind, Value.int .i64 x.frm, Value.int .i64 x.too, Value.int .i64 x.term, Value.int .i64 x.index, Value.int .i64 x.iterm, Value.int .i64 x.commit, Value.slice x.A x.l.length x.cap, Value.bool x.ok, Value.string x.snap]
  len _ := rfl
  one x u hu := by simp at hu; rcases hu with rfl | rfl | rfl | rfl | rfl | rfl | rfl | rfl | rfl | rfl<;>rfl
def RpC.p (x : RpC) : RpP := ⟨x.kind, x.frm, x.too, x.term, x.index, x.iterm, x.commit, x.l, x.ok, x.snap⟩
def EachP (w : World) (l : List RpC) : Prop := ∀ x ∈ l, At w x.A x.l
theorem EachP.below {w w' : World} {l : List RpC} (h : EachP w l) (hw : Below w.heap.size w w') : EachP w' l := fun x hx => (h x hx).below hw
def rpcP (w : World) (x : RpC) (S : Nat -> Prop) : Prop := Sub w x.A x.l S
theorem Qct : Firm rpcP := fun w w' x S T h k hd => Sub.offp h k hd
theorem Qgi {S : Nat -> Prop} {w : World} {a : Option Addr} {l : List RpC} (h : Own rpcP w a l S) : EachP w l := h.each (fun x S hx => Sub.at hx)
theorem In.getRpC {w : World} {b o : Nat} {l : List RpC} (h : In w b o l) (i : Nat) (hi : i < l.length) :
 w.cell? ⟨b, o + i * 10, none⟩ = some (Value.int .i64 l[i].kind) /\ w.cell? ⟨b, o + i * 10 + 1, none⟩ = some (Value.int .i64 l[i].frm) /\ w.cell? ⟨b, o + i * 10 + 2, none⟩ = some (Value.int .i64 l[i].too) /\ w.cell? ⟨b, o + i * 10 + 3, none⟩ = some (Value.int .i64 l[i].term) /\ w.cell? ⟨b, o + i * 10 + 4, none⟩ = some (Value.int .i64 l[i].index) /\ w.cell? ⟨b, o + i * 10 + 5, none⟩ = some (Value.int .i64 l[i].iterm) /\ w.cell? ⟨b, o + i * 10 + 6, none⟩ = some (Value.int .i64 l[i].commit) /\ w.cell? ⟨b, o + i * 10 + 7, none⟩ = some (Value.slice l[i].A l[i].l.length l[i].cap) /\ w.cell? ⟨b, o + i * 10 + 8, none⟩ = some (Value.bool l[i].ok) /\ w.cell? ⟨b, o + i * 10 + 9, none⟩ = some (Value.string l[i].snap) :=
 ⟨h.cell i hi (f := 0) rfl, h.cell i hi (f := 1) rfl, h.cell i hi (f := 2) rfl, h.cell i hi (f := 3) rfl, h.cell i hi (f := 4) rfl, h.cell i hi (f := 5) rfl, h.cell i hi (f := 6) rfl, h.cell i hi (f := 7) rfl, h.cell i hi (f := 8) rfl, h.cell i hi (f := 9) rfl⟩
theorem infoRpC : (Tryz.prog.info? 114).map (fun i => (i.zero, i.size, i.bytes)) = some (some (.agg #[.int .i64 0, .int .i64 0, .int .i64 0, .int .i64 0, .int .i64 0, .int .i64 0, .int .i64 0, .slice none 0 0, .bool false, .string ⟨#[]⟩]), 10, 104) := by kernel_rfl
theorem Blk.row10 {W : World} {B : Nat} {t : TypeId} {a b c d e f g h i j : Value} (p : Blk W B t #[a, b, c, d, e, f, g, h, i, j]) : W.cell? ⟨B, 0, none⟩ = some a /\ W.cell? ⟨B, 1, none⟩ = some b /\ W.cell? ⟨B, 2, none⟩ = some c /\ W.cell? ⟨B, 3, none⟩ = some d /\ W.cell? ⟨B, 4, none⟩ = some e /\ W.cell? ⟨B, 5, none⟩ = some f /\ W.cell? ⟨B, 6, none⟩ = some g /\ W.cell? ⟨B, 7, none⟩ = some h /\ W.cell? ⟨B, 8, none⟩ = some i /\ W.cell? ⟨B, 9, none⟩ = some j :=
 ⟨p.cell (by rfl), p.cell (by rfl), p.cell (by rfl), p.cell (by rfl), p.cell (by rfl), p.cell (by rfl), p.cell (by rfl), p.cell (by rfl), p.cell (by rfl), p.cell (by rfl)⟩
theorem eqRpc_same (kind frm too term index iterm commit : Int) (ok : Bool) (snap : ByteArray) (A A' : Option Addr) (cap cap' : Nat) (l : List En) (hl : l.length <= 9223372036854775807) (w : World) (hA : At w A l) (hA' : At w A' l) :
 Calls Tryz.prog 49 #[.agg #[.int .i64 kind, .int .i64 frm, .int .i64 too, .int .i64 term, .int .i64 index, .int .i64 iterm, .int .i64 commit, .slice A l.length cap, .bool ok, .string snap], .agg #[.int .i64 kind, .int .i64 frm, .int .i64 too, .int .i64 term, .int .i64 index, .int .i64 iterm, .int .i64 commit, .slice A' l.length cap', .bool ok, .string snap]] w fun e w' => e = .returned (.bool true) /\ Below w.heap.size w w' := by
 have HA : Hid (∀ W : World, Below w.heap.size w W -> At W A l) := fun W hW => hA.below hW
 have HA' : Hid (∀ W : World, Below w.heap.size w W -> At W A' l) := fun W hW => hA'.below hW
 clear hA hA'
 have p0 : Blk ((w.alloc (.cells #[.int .i64 kind, .int .i64 frm, .int .i64 too, .int .i64 term, .int .i64 index, .int .i64 iterm, .int .i64 commit, .slice A l.length cap, .bool ok, .string snap] 114)).alloc (.cells #[.int .i64 kind, .int .i64 frm, .int .i64 too, .int .i64 term, .int .i64 index, .int .i64 iterm, .int .i64 commit, .slice A' l.length cap', .bool ok, .string snap] 114)) w.heap.size 114 #[.int .i64 kind, .int .i64 frm, .int .i64 too, .int .i64 term, .int .i64 index, .int .i64 iterm, .int .i64 commit, .slice A l.length cap, .bool ok, .string snap] := (Blk.new w _ _).alloc _
 have r0 : Blk ((w.alloc (.cells #[.int .i64 kind, .int .i64 frm, .int .i64 too, .int .i64 term, .int .i64 index, .int .i64 iterm, .int .i64 commit, .slice A l.length cap, .bool ok, .string snap] 114)).alloc (.cells #[.int .i64 kind, .int .i64 frm, .int .i64 too, .int .i64 term, .int .i64 index, .int .i64 iterm, .int .i64 commit, .slice A' l.length cap', .bool ok, .string snap] 114)) (w.heap.size + 1) 114 #[.int .i64 kind, .int .i64 frm, .int .i64 too, .int .i64 term, .int .i64 index, .int .i64 iterm, .int .i64 commit, .slice A' l.length cap', .bool ok, .string snap] := by
  have := Blk.new (w.alloc (.cells #[.int .i64 kind, .int .i64 frm, .int .i64 too, .int .i64 term, .int .i64 index, .int .i64 iterm, .int .i64 commit, .slice A l.length cap, .bool ok, .string snap] 114)) 114 #[.int .i64 kind, .int .i64 frm, .int .i64 too, .int .i64 term, .int .i64 index, .int .i64 iterm, .int .i64 commit, .slice A' l.length cap', .bool ok, .string snap]
  rwa [World.size_alloc] at this
 cases ok
 all_goals
  go_enter Tryz.func49, Tryz.ntmps49
  go_wp2_with fail
  refine (Qcz A A' cap cap' l hl _ (HA.out _ (by repeat (first | exact Below.refl _ _ | assumption | refine via0 (by assumption) ?_ | refine Below.drew ?_ | refine Qaa ?_ _))) (HA'.out _ (by repeat (first | exact Below.refl _ _ | assumption | refine via0 (by assumption) ?_ | refine Below.drew ?_ | refine Qaa ?_ _)))).mono ?_
  rintro e w1 ⟨rfl, g1⟩
  have B1 : Below w.heap.size w w1 := by repeat (first | exact Below.refl _ _ | assumption | refine via0 (by assumption) ?_ | refine Below.drew ?_ | refine Qaa ?_ _)
  have p1 := p0.below g1 p0.lt
  have r1 := r0.below g1 r0.lt
  obtain ⟨d0, d1, d2, d3, d4, d5, d6, d7, d8, d9⟩ := p1.row10
  obtain ⟨e0, e1, e2, e3, e4, e5, e6, e7, e8, e9⟩ := r1.row10
  have q1 := p1.lt
  have q2 := r1.lt
  clear g1
  go_wp2
  go_ret
  exact ⟨rfl, B1⟩
theorem Qd5 (A A' : Option Addr) (cap cap' : Nat) (l l' : List RpC) (hl : l.length <= 9223372036854775807) (hr : ∀ x ∈ l, x.l.length <= 9223372036854775807) (hsame : l'.map RpC.p = l.map RpC.p) (w : World) (hA : At w A l) (hE : EachP w l) (hA' : At w A' l') (hE' : EachP w l') :
 Calls Tryz.prog 25 #[.slice A l.length cap, .slice A' l.length cap'] w fun e w' => e = .returned (.bool true) /\ Below w.heap.size w w' := by
 have HA := hidP hA
 have HE := hidP hE
 have HA' := hidP hA'
 have HE' := hidP hE'
 have Hr := hidP hr
 have HS := hidP hsame
 have HLL : Hid (l'.length = l.length) := by have := congrArg List.length hsame; show _ = _; simpa using this
 clear hA hE hA' hE' hr hsame
 go_enter Tryz.func25, Tryz.ntmps25
 go_wp2
 go_loopw [5] (fun i w' => ∃ (n : Nat), i = .int .i64 (n : Int) /\ n <= l.length /\ Below w.heap.size w w') (fun i _ => l.length - (intOf i).toNat)
 case atStart => exact ⟨0, rfl, by omega, Below.refl _ _⟩
 case round =>
  obtain ⟨n, rfl, hn, hbl⟩ := hrel
  by_cases hlt : n < l.length
  . have hll := HLL.out
    obtain ⟨b, o, rfl, hbs, hin⟩ : ∃ b o, A = some ⟨b, o, none⟩ /\ b < w.heap.size /\ In w b o l := by
     rcases HA.out with h | h
     . subst h; simp at hlt
     . exact h
    obtain ⟨b', o', rfl, hbs', hin'⟩ : ∃ b o, A' = some ⟨b, o, none⟩ /\ b < w.heap.size /\ In w b o l' := by
     rcases HA'.out with h | h
     . subst h; simp at hll; omega
     . exact h
    have hp : (l'[n]'(by omega)).p = l[n].p := by
     have h1 : (l'.map RpC.p)[n]'(by simp; omega) = (l.map RpC.p)[n]'(by simpa using hlt) := by simp only [HS.out]
     simpa using h1
    obtain ⟨c0, c1, c2, c3, c4, c5, c6, c7, c8, c9⟩ := (hin.below hbs hbl).getRpC n hlt
    obtain ⟨d0, d1, d2, d3, d4, d5, d6, d7, d8, d9⟩ := (hin'.below hbs' hbl).getRpC n (by omega)
    have hat := HE.out _ (List.getElem_mem hlt)
    have hat' := HE'.out _ (List.getElem_mem (show n < l'.length by omega))
    have hms := Hr.out _ (List.getElem_mem hlt)
    generalize l'[n]'(by omega) = y at hp d0 d1 d2 d3 d4 d5 d6 d7 d8 d9 hat'
    generalize l[n] = x at hp c0 c1 c2 c3 c4 c5 c6 c7 c8 c9 hat hms
    obtain ⟨y0, y1, y2, y3, y4, y5, y6, yA, yc, yi, yo, ys⟩ := y
    obtain ⟨x0, x1, x2, x3, x4, x5, x6, xA, xc, xi, xo, xs⟩ := x
    simp only [RpC.p, RpP.mk.injEq] at hp
    obtain ⟨rfl, rfl, rfl, rfl, rfl, rfl, rfl, rfl, rfl, rfl⟩ := hp
    simp only at c0 c1 c2 c3 c4 c5 c6 c7 c8 c9 d0 d1 d2 d3 d4 d5 d6 d7 d8 d9 hat hat' hms
    have Hat := hidP (hat.below hbl)
    have Hat' := hidP (hat'.below hbl)
    clear hat hat' hll
    have hb1 : b < wr.heap.size := Nat.lt_of_lt_of_le hbs hbl.size
    have hb2 : b' < wr.heap.size := Nat.lt_of_lt_of_le hbs' hbl.size
    have hi0 : (0 : Int) <= (n : Int) := by omega
    have hi1 : (n : Int) < (l.length : Int) := by omega
    go_wp2
    go_region_held3 (fun w' => w'.cell? ⟨b, o + n * 10, none⟩ = some (.int .i64 y0) /\ w'.cell? ⟨b, o + n * 10 + 1, none⟩ = some (.int .i64 y1) /\ w'.cell? ⟨b, o + n * 10 + 2, none⟩ = some (.int .i64 y2) /\ w'.cell? ⟨b, o + n * 10 + 3, none⟩ = some (.int .i64 y3) /\ w'.cell? ⟨b, o + n * 10 + 4, none⟩ = some (.int .i64 y4) /\ w'.cell? ⟨b, o + n * 10 + 5, none⟩ = some (.int .i64 y5) /\ w'.cell? ⟨b, o + n * 10 + 6, none⟩ = some (.int .i64 y6) /\ w'.cell? ⟨b, o + n * 10 + 7, none⟩ = some (.slice xA yi.length xc) /\ w'.cell? ⟨b, o + n * 10 + 8, none⟩ = some (.bool yo) /\ w'.cell? ⟨b, o + n * 10 + 9, none⟩ = some (.string ys) /\ w'.cell? ⟨b', o' + n * 10, none⟩ = some (.int .i64 y0) /\ w'.cell? ⟨b', o' + n * 10 + 1, none⟩ = some (.int .i64 y1) /\ w'.cell? ⟨b', o' + n * 10 + 2, none⟩ = some (.int .i64 y2) /\ w'.cell? ⟨b', o' + n * 10 + 3, none⟩ = some (.int .i64 y3) /\ w'.cell? ⟨b', o' + n * 10 + 4, none⟩ = some (.int .i64 y4) /\ w'.cell? ⟨b', o' + n * 10 + 5, none⟩ = some (.int .i64 y5) /\ w'.cell? ⟨b', o' + n * 10 + 6, none⟩ = some (.int .i64 y6) /\ w'.cell? ⟨b', o' + n * 10 + 7, none⟩ = some (.slice yA yi.length yc) /\ w'.cell? ⟨b', o' + n * 10 + 8, none⟩ = some (.bool yo) /\ w'.cell? ⟨b', o' + n * 10 + 9, none⟩ = some (.string ys) /\ wr.heap.size <= w'.heap.size)
     (first | (go_split_ands; refine ⟨?_, ?_, ?_, ?_, ?_, ?_, ?_, ?_, ?_, ?_, ?_, ?_, ?_, ?_, ?_, ?_, ?_, ?_, ?_, ?_, ?_⟩<;>first | assumption | exact (k1 _ _ hb1).trans (by assumption) | exact (k1 _ _ hb2).trans (by assumption) | exact s1 | (simp; done)) | go_keep)
     (first
      | (go_at_call 49; refine (eqRpc_same y0 y1 y2 y3 y4 y5 y6 yo ys _ _ _ _ yi hms _ (Hat.out.below (Below.drew (Below.refl _ _))) (Hat'.out.below (Below.drew (Below.refl _ _)))).mono ?_; rintro e w1 ⟨rfl, g1⟩; obtain ⟨k1, m1⟩ := Qaf g1; have s1 := g1.size))
    all_goals
     go_wp2
     exact ⟨⟨n + 1, by go_num, by omega, via0 g1 hbl.drew⟩, by simp [intOf]; omega⟩
  . go_wp2
    go_ret
    exact ⟨rfl, hbl⟩
end Go.Proofs.YtbcbdhjeebcleaaGreatDoor.Gen
