/-
  What a node must keep (Hard): what the laws' sz and to functions of it do; a Hard opened. No condition but the sizes of its lists.
-/
import Derived.Test.YtkmkldjipihceaaGreatKeepTo
set_option linter.unusedVariables false
set_option linter.unusedSimpArgs false
set_option maxRecDepth 100000
set_option maxHeartbeats 8000000
set_option maxRecDepth 100000
set_option maxHeartbeats 8000000
namespace Go.Proofs.YtkmkldjipihceaaGreat.Gen
open ChangeShapes WideShapes ChangeAt RowKit Joins Deep Base
theorem szHard_tot (te vo base bt : Int) (A : Option Addr) (cap : Nat) (l : List En) (hl : l.length <= 9223372036854775807) (hr : ∀ x ∈ l, x.fit) (x : KC) (hx : KRight x) (left : Int) (h0 : 0 <= left) (h1 : left <= 1048576) (w : World) (hA : At w A l) (hX : KAt w x) :
 Calls Tryz.prog 71 #[.agg (Qad te vo base bt A l.length cap x.rA x.rs.length x.rc x.mA x.ms.length x.mc x.gA x.gs.length x.gc x.time x.dA x.ds.length x.dc x.lA x.ls.length x.lc), .int .i64 left] w fun e w' => (∃ r : Int, e = .returned (.int .i64 r) /\ (r < 0 ∨ (0 <= r /\ r <= left /\ l.length <= 1048576 /\ KFit x /\ (l.length : Int) * 9 + (kct x : Int) <= 9 * (left - r)))) /\ Below w.heap.size w w' := by
 have hlen : left - (l.length : Int) >= 0 -> l.length <= 1048576 := fun h => by omega
 have HL : Hid (∀ W : World, Below w.heap.size w W -> Calls Tryz.prog 107 #[.agg (Qap base bt A l.length cap), .int .i64 left] W fun e w' => (∃ r : Int, e = .returned (.int .i64 r) /\ (r < 0 ∨ (0 <= r /\ r = left - (l.length : Int) - (Qat szEn l : Int)))) /\ Below W.heap.size W w') := fun W g => szLog_any base bt A cap l hl hr left h0 h1 W (hA.below g)
 have HK : Hid (∀ (z : Int) (W : World), Below w.heap.size w W -> 0 <= z -> z <= 1048576 -> Calls Tryz.prog 73 #[.agg (Qae x.rA x.rs.length x.rc x.mA x.ms.length x.mc x.gA x.gs.length x.gc x.time x.dA x.ds.length x.dc x.lA x.ls.length x.lc), .int .i64 z] W fun e w' => (∃ r : Int, e = .returned (.int .i64 r) /\ (r < 0 ∨ (0 <= r /\ r <= z /\ KFit x /\ (kct x : Int) <= 5 * (z - r)))) /\ Below W.heap.size W w') := fun z W g a b => Qff x hx z a b W (hX.below g)
 clear hA hX hx hr hl hlen
 go_enter Tryz.func71, Tryz.ntmps71
 go_wp2_with fail
 have p0 : Blk (w.alloc (.cells (Qad te vo base bt A l.length cap x.rA x.rs.length x.rc x.mA x.ms.length x.mc x.gA x.gs.length x.gc x.time x.dA x.ds.length x.dc x.lA x.ls.length x.lc) 94)) w.heap.size 94 (Qad te vo base bt A l.length cap x.rA x.rs.length x.rc x.mA x.ms.length x.mc x.gA x.gs.length x.gc x.time x.dA x.ds.length x.dc x.lA x.ls.length x.lc) := Blk.new w _ _
 have B0 : Below w.heap.size w (w.alloc (.cells (Qad te vo base bt A l.length cap x.rA x.rs.length x.rc x.mA x.ms.length x.mc x.gA x.gs.length x.gc x.time x.dA x.ds.length x.dc x.lA x.ls.length x.lc) 94)) := Qab (Below.refl _ _) _
 refine (HL.out _ B0).mono ?_
 rintro e w1 ⟨⟨z, rfl, hz⟩, g1⟩
 have p1 := p0.below g1 p0.lt
 have B1 := via0 g1 B0
 have q1 := p1.lt
 obtain ⟨u0, u1, u2, u3, u4, u5, u6, u7, u8, u9, u10⟩ := p1.row11
 clear p0 B0 g1
 rcases hz with hz | ⟨hz, hz1⟩
 . go_wp2
   go_ret
   exact ⟨⟨-1, rfl, .inl (by omega)⟩, B1⟩
 have n1 : ¬ z < 0 := by omega
 have Hz := hidP hz1
 have b1 : z <= 1048576 := by omega
 clear hz1
 go_wp2_with fail
 refine (HK.out z _ B1 hz b1).mono ?_
 rintro e w2 ⟨⟨r, rfl, hr⟩, g2⟩
 have B2 := via0 g2 B1
 clear u0 u1 u2 u3 u4 u5 u6 u7 u8 u9 u10 p1 q1 g2
 rcases hr with hr | ⟨hr, hr1, hr2, hr3⟩
 . go_wp2
   go_ret
   exact ⟨⟨-1, rfl, .inl (by omega)⟩, B2⟩
 have n2 : ¬ r < 0 := by omega
 have Hr := hidP hr1
 have Hk := hidP hr2
 have Hc := hidP hr3
 clear hr1 hr2 hr3
 go_wp2
 go_ret
 exact ⟨⟨r, rfl, .inr ⟨hr, by have := Hz.out; have := Hr.out; omega, by have := Hz.out; omega, Hk.out, by have := Hz.out; have := Hr.out; have := Hc.out; omega⟩⟩, B2⟩
def NewH (w w' : World) (e : Ending) (te vo base bt : Int) (l : List En) (c : PK) : Prop := ∃ (b : Nat) (y : KC), e = .returned (.agg (Qad te vo base bt (some ⟨b, 0, none⟩) l.length l.length y.rA y.rs.length y.rc y.mA y.ms.length y.mc y.gA y.gs.length y.gc y.time y.dA y.ds.length y.dc y.lA y.ls.length y.lc)) /\ y.p = c /\ w.heap.size <= b /\ b < w'.heap.size /\ In w' b 0 l /\ w'.there b 0 (l.length * 9) /\ KOwn w' y (fun z => w.heap.size <= z /\ z < w'.heap.size /\ z ≠ b) /\ Below w.heap.size w w'
theorem toHard_any (te vo base bt : Int) (A : Option Addr) (cap : Nat) (l : List En) (hl : l.length <= 1048576) (x : KC) (hf : KFit x) (w : World) (hA : At w A l) (hX : KAt w x) :
 Calls Tryz.prog 83 #[.agg (Qad te vo base bt A l.length cap x.rA x.rs.length x.rc x.mA x.ms.length x.mc x.gA x.gs.length x.gc x.time x.dA x.ds.length x.dc x.lA x.ls.length x.lc)] w fun e w' => NewH w w' e te vo base bt l x.p := by
 have HL : Hid (∀ W : World, Below w.heap.size w W -> Calls Tryz.prog 118 #[.agg (Qap base bt A l.length cap)] W fun e w' => ∃ b, e = .returned (.agg (Qap base bt (some ⟨b, 0, none⟩) l.length l.length)) /\ Below W.heap.size W w' /\ W.heap.size <= b /\ b < w'.heap.size /\ In w' b 0 l /\ w'.there b 0 (l.length * 9)) := fun W g => toLog_any base bt A cap l hl W (hA.below g)
 have HK : Hid (∀ W : World, Below w.heap.size w W -> Calls Tryz.prog 85 #[.agg (Qae x.rA x.rs.length x.rc x.mA x.ms.length x.mc x.gA x.gs.length x.gc x.time x.dA x.ds.length x.dc x.lA x.ls.length x.lc)] W fun e w' => NewK W w' e x.p) := fun W g => Qfb x hf W (hX.below g)
 clear hA hX hf hl
 have B0 : Below w.heap.size w (((w.alloc (.cells (Qad te vo base bt A l.length cap x.rA x.rs.length x.rc x.mA x.ms.length x.mc x.gA x.gs.length x.gc x.time x.dA x.ds.length x.dc x.lA x.ls.length x.lc) 94)).alloc (.cells Qa9 61)).alloc (.cells (Qad te vo 0 0 none 0 0 none 0 0 none 0 0 none 0 0 0 none 0 0 none 0 0) 61)) := by repeat (first | exact Below.refl _ _ | assumption | refine via0 (by assumption) ?_ | refine Below.drew ?_ | refine Qab ?_ _)
 have P1 : Blk (((w.alloc (.cells (Qad te vo base bt A l.length cap x.rA x.rs.length x.rc x.mA x.ms.length x.mc x.gA x.gs.length x.gc x.time x.dA x.ds.length x.dc x.lA x.ls.length x.lc) 94)).alloc (.cells Qa9 61)).alloc (.cells (Qad te vo 0 0 none 0 0 none 0 0 none 0 0 none 0 0 0 none 0 0 none 0 0) 61)) w.heap.size 94 (Qad te vo base bt A l.length cap x.rA x.rs.length x.rc x.mA x.ms.length x.mc x.gA x.gs.length x.gc x.time x.dA x.ds.length x.dc x.lA x.ls.length x.lc) := ((Blk.new w _ _).alloc _).alloc _
 have P2 : Blk (((w.alloc (.cells (Qad te vo base bt A l.length cap x.rA x.rs.length x.rc x.mA x.ms.length x.mc x.gA x.gs.length x.gc x.time x.dA x.ds.length x.dc x.lA x.ls.length x.lc) 94)).alloc (.cells Qa9 61)).alloc (.cells (Qad te vo 0 0 none 0 0 none 0 0 none 0 0 none 0 0 0 none 0 0 none 0 0) 61)) (w.heap.size + 1) 61 Qa9 := by have := (Blk.new (w.alloc (.cells (Qad te vo base bt A l.length cap x.rA x.rs.length x.rc x.mA x.ms.length x.mc x.gA x.gs.length x.gc x.time x.dA x.ds.length x.dc x.lA x.ls.length x.lc) 94)) 61 Qa9).alloc (.cells (Qad te vo 0 0 none 0 0 none 0 0 none 0 0 none 0 0 0 none 0 0 none 0 0) 61); rwa [World.size_alloc] at this
 have P3 : Blk (((w.alloc (.cells (Qad te vo base bt A l.length cap x.rA x.rs.length x.rc x.mA x.ms.length x.mc x.gA x.gs.length x.gc x.time x.dA x.ds.length x.dc x.lA x.ls.length x.lc) 94)).alloc (.cells Qa9 61)).alloc (.cells (Qad te vo 0 0 none 0 0 none 0 0 none 0 0 none 0 0 0 none 0 0 none 0 0) 61)) (w.heap.size + 1 + 1) 61 (Qad te vo 0 0 none 0 0 none 0 0 none 0 0 none 0 0 0 none 0 0 none 0 0) := by have := Blk.new ((w.alloc (.cells (Qad te vo base bt A l.length cap x.rA x.rs.length x.rc x.mA x.ms.length x.mc x.gA x.gs.length x.gc x.time x.dA x.ds.length x.dc x.lA x.ls.length x.lc) 94)).alloc (.cells Qa9 61)) 61 (Qad te vo 0 0 none 0 0 none 0 0 none 0 0 none 0 0 0 none 0 0 none 0 0); rwa [World.size_alloc, World.size_alloc] at this
 have H0 := hidP (And.intro B0 (And.intro P1 (And.intro P2 P3)))
 clear B0 P1 P2 P3
 go_enter Tryz.func83, Tryz.ntmps83
 go_wp2_with fail
 refine (HL.out _ H0.out.1).mono ?_
 rintro e w1 ⟨b, rfl, g1, hb1, hb2, hi, ht⟩
 have hbw : w.heap.size + 1 + 1 < b := Nat.lt_of_lt_of_le H0.out.2.2.2.lt hb1
 have B1 := via0 g1 H0.out.1
 have P1 := H0.out.2.1.below g1 H0.out.2.1.lt
 have P2 := H0.out.2.2.1.below g1 H0.out.2.2.1.lt
 have P3 := H0.out.2.2.2.below g1 H0.out.2.2.2.lt
 clear H0 g1 hb1
 have P1' := ((P1.other (B' := w.heap.size + 1 + 1) (by omega) 2 (.int .i64 base)).other (B' := w.heap.size + 1 + 1) (by omega) 3 (.int .i64 bt)).other (B' := w.heap.size + 1 + 1) (by omega) 4 (.slice (some ⟨b, 0, none⟩) l.length l.length)
 have P2' := ((P2.other (B' := w.heap.size + 1 + 1) (by omega) 2 (.int .i64 base)).other (B' := w.heap.size + 1 + 1) (by omega) 3 (.int .i64 bt)).other (B' := w.heap.size + 1 + 1) (by omega) 4 (.slice (some ⟨b, 0, none⟩) l.length l.length)
 have P3' : Blk _ (w.heap.size + 1 + 1) 61 (Qad te vo base bt (some ⟨b, 0, none⟩) l.length l.length none 0 0 none 0 0 none 0 0 0 none 0 0 none 0 0) := ((P3.setAt 2 (.int .i64 base)).setAt 3 (.int .i64 bt)).setAt 4 (.slice (some ⟨b, 0, none⟩) l.length l.length)
 have B1' := Qa5 (Qa5 (Qa5 B1 (B := w.heap.size + 1 + 1) (i := 2) (by omega) (.int .i64 base)) (B := w.heap.size + 1 + 1) (i := 3) (by omega) (.int .i64 bt)) (B := w.heap.size + 1 + 1) (i := 4) (by omega) (.slice (some ⟨b, 0, none⟩) l.length l.length)
 have hi' := In.set (In.set (In.set hi ⟨w.heap.size + 1 + 1, 2, none⟩ (.int .i64 base) (by simp; omega)) ⟨w.heap.size + 1 + 1, 3, none⟩ (.int .i64 bt) (by simp; omega)) ⟨w.heap.size + 1 + 1, 4, none⟩ (.slice (some ⟨b, 0, none⟩) l.length l.length) (by simp; omega)
 have ht' := Qaj (Qaj (Qaj ht (w.heap.size + 1 + 1) 2 (.int .i64 base)) (w.heap.size + 1 + 1) 3 (.int .i64 bt)) (w.heap.size + 1 + 1) 4 (.slice (some ⟨b, 0, none⟩) l.length l.length)
 have hb2' : b < (((w1.setCell ⟨w.heap.size + 1 + 1, 2, none⟩ (.int .i64 base)).setCell ⟨w.heap.size + 1 + 1, 3, none⟩ (.int .i64 bt)).setCell ⟨w.heap.size + 1 + 1, 4, none⟩ (.slice (some ⟨b, 0, none⟩) l.length l.length)).heap.size := by simpa using hb2
 have H1 := hidP (And.intro B1' (And.intro P1' (And.intro P2' (And.intro P3' (And.intro hi' (And.intro ht' hb2'))))))
 obtain ⟨u0, u1, u2, u3, u4, u5, u6, u7, u8, u9, u10⟩ := P1.row11
 obtain ⟨v0, v1, v2, v3, v4, v5, v6, v7, v8, v9, v10⟩ := P3.row11
 have f2 := P3.thaw 2; have f3 := P3.thaw 3; have f4 := P3.thaw 4
 have q3 := P3.lt
 clear P1 P2 P3 P1' P2' P3' B1 B1' hi hi' ht ht' hb2 hb2'
 go_wp2_with fail
 refine (HK.out _ H1.out.1).mono ?_
 rintro e w2 ⟨y, he, hp, ho, g2⟩
 simp only [KC.cells] at he
 subst he
 have B2 := via0 g2 H1.out.1
 have P2 := H1.out.2.2.1.below g2 H1.out.2.2.1.lt
 have P3 := H1.out.2.2.2.1.below g2 H1.out.2.2.2.1.lt
 have i2 := H1.out.2.2.2.2.1.below H1.out.2.2.2.2.2.2 g2
 have t2 := Qaz H1.out.2.2.2.2.2.1 H1.out.2.2.2.2.2.2 g2
 have s2 := g2.size
 have hbl := H1.out.2.2.2.2.2.2
 have hP3 := H1.out.2.2.2.1.lt
 have OO : Hid (∀ W : World, Offp (fun z => z = w.heap.size + 1 ∨ z = w.heap.size + 1 + 1) w2 W -> W.heap.size = w2.heap.size -> NewH w W (.returned (.agg (Qad te vo base bt (some ⟨b, 0, none⟩) l.length l.length y.rA y.rs.length y.rc y.mA y.ms.length y.mc y.gA y.gs.length y.gc y.time y.dA y.ds.length y.dc y.lA y.ls.length y.lc))) te vo base bt l x.p) := by
  intro W o hW
  have nb : ¬ (b = w.heap.size + 1 ∨ b = w.heap.size + 1 + 1) := by omega
  refine ⟨b, y, rfl, hp, by omega, by rw [hW]; omega, i2.offp o (by omega) nb, Qc4 t2 o (by omega) nb, (ho.offp o (fun z hz e => ?_)).mono (fun z hz => ⟨by omega, by rw [hW]; exact hz.2, by omega⟩), B2.trans (o.toBelow (fun z hz => by omega) B2.size)⟩
  omega
 clear H1 ho hp i2 t2 u0 u1 u2 u3 u4 u5 u6 u7 u8 u9 u10 v0 v1 v2 v3 v4 v5 v6 v7 v8 v9 v10 f2 f3 f4 q3 HL HK hbl hP3 hbw s2 g2
 obtain ⟨u0, u1, u2, u3, u4, u5, u6, u7, u8, u9, u10⟩ := P2.row11
 obtain ⟨v0, v1, v2, v3, v4, v5, v6, v7, v8, v9, v10⟩ := P3.row11
 have f0 := P2.thaw 0; have f1 := P2.thaw 1; have f2 := P2.thaw 2; have f3 := P2.thaw 3; have f4 := P2.thaw 4; have f5 := P2.thaw 5
 have f6 := P2.thaw 6; have f7 := P2.thaw 7; have f8 := P2.thaw 8; have f9 := P2.thaw 9; have f10 := P2.thaw 10
 have e5 := P3.thaw 5; have e6 := P3.thaw 6; have e7 := P3.thaw 7; have e8 := P3.thaw 8; have e9 := P3.thaw 9; have e10 := P3.thaw 10
 have q2 := P2.lt
 have q3 := P3.lt
 go_wp2_with fail
 refine bodyPost_ret (v := .agg (Qad te vo base bt (some ⟨b, 0, none⟩) l.length l.length y.rA y.rs.length y.rc y.mA y.ms.length y.mc y.gA y.gs.length y.gc y.time y.dA y.ds.length y.dc y.lA y.ls.length y.lc)) (by simp [results, Tryz.results83, go_sem, u0, u1, u2, u3, u4, u5, u6, u7, u8, u9, u10]) rfl (OO.out _ ?_ (by simp))
 exact Offp.set (Offp.set (Offp.set (Offp.set (Offp.set (Offp.set (Offp.set (Offp.set (Offp.set (Offp.set (Offp.set (Offp.set (Offp.set (Offp.set (Offp.set (Offp.set (Offp.set (Offp.refl _ w2) (Or.inr rfl) _ _) (Or.inr rfl) _ _) (Or.inr rfl) _ _) (Or.inr rfl) _ _) (Or.inr rfl) _ _) (Or.inr rfl) _ _) (Or.inl rfl) _ _) (Or.inl rfl) _ _) (Or.inl rfl) _ _) (Or.inl rfl) _ _) (Or.inl rfl) _ _) (Or.inl rfl) _ _) (Or.inl rfl) _ _) (Or.inl rfl) _ _) (Or.inl rfl) _ _) (Or.inl rfl) _ _) (Or.inl rfl) _ _
theorem Qbx {H : Type} {enc : TypeId × Value -> H} {P : Program} {w : World} {base : Nat} {spare : Nat -> Bool} {held : Bool} {t : TypeId} {fs : Array Field} {cs : List Value} {fuel : Nat} {x : DataW H × List MemPlace}
 (hs : P.underlying t = some (.struct fs)) (h : DataW.trod enc P w base spare held fuel t cs = some x) :
 ∃ n, ∀ (i : Nat) (f : Field), fs[i]? = some f -> ∃ y, DataW.trod enc P w base spare held n f.type ((cs.drop f.offset).take (P.cellsOf f.type)) = some y := by
 obtain ⟨xs, n, _, _, hl, hlen, hf⟩ := DataW.trod_struct hs h
 refine ⟨n, fun i f hi => ?_⟩
 have g := hf i f hi
 have hlt : i < fs.size := (Array.getElem?_eq_some_iff.1 hi).1
 exact ⟨xs[i]'(by omega), by rw [← List.getElem?_eq_getElem]; simpa using g⟩
end Go.Proofs.YtkmkldjipihceaaGreat.Gen
