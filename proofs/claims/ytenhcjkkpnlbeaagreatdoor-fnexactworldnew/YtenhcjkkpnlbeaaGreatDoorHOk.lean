/-
  Which Hards are right: by the specification and by the program, the same. No condition but the sizes of its lists and texts.
-/
import Derived.Test.YtenhcjkkpnlbeaaGreatDoorKOkSpec
import Derived.Test.YtenhcjkkpnlbeaaGreatDoorKOkImpl
import Derived.Test.YtenhcjkkpnlbeaaGreatDoorLOk
import Derived.Test.YtenhcjkkpnlbeaaGreatDoorLGet
import Derived.Test.YtenhcjkkpnlbeaaGreatDoorOwnS
set_option linter.unusedVariables false
set_option linter.unusedSimpArgs false
set_option maxRecDepth 100000
set_option maxHeartbeats 8000000
namespace Go.Proofs.YtenhcjkkpnlbeaaGreatDoor.Gen
open ChangeShapes WideShapes ChangeAt RowKit Joins Deep Base
def Qhe (ro wi le ke te vo base bt : Int) (l : List En) (x : KC) : Bool := inB te 0 300 && inB vo (-1) 4 && logB base bt l && decide (Qg6 bt l <= te) && Qcy ro wi le ke x
theorem Qho (ro wi le ke te vo base bt : Int) (A : Option Addr) (cap : Nat) (l : List En) (hl : l.length <= 1048576) (hr : ∀ x ∈ l, x.fit) (x : KC) (ha : KAsk x) (w : World) (hA : At w A l) (hX : KAt w x) :
 Calls Tryz.prog 71 #[.agg (Qag ro wi le ke), .agg (Qaj te vo base bt A l.length cap x.rA x.rs.length x.rc x.mA x.ms.length x.mc x.gA x.gs.length x.gc x.time x.dA x.ds.length x.dc x.lA x.ls.length x.lc)] w fun e w' => e = .returned (.bool (Qhe ro wi le ke te vo base bt l x)) /\ Below w.heap.size w w' := by
 obtain ⟨b1, h1⟩ : ∃ b, inB te 0 300 = b := ⟨_, rfl⟩
 obtain ⟨b2, h2⟩ : ∃ b, inB vo (-1) 4 = b := ⟨_, rfl⟩
 obtain ⟨b3, h3⟩ : ∃ b, logB base bt l = b := ⟨_, rfl⟩
 obtain ⟨lt, hlt⟩ : ∃ t, Qg6 bt l = t := ⟨_, rfl⟩
 obtain ⟨ln, hln⟩ : ∃ t, Qc3 base l = t := ⟨_, rfl⟩
 obtain ⟨b5, h5⟩ : ∃ b, Qcy ro wi le ke x = b := ⟨_, rfl⟩
 have hF : Hid (Qhe ro wi le ke te vo base bt l x = (b1 && b2 && b3 && decide (lt <= te) && b5)) := by show _ = _; rw [← h1, ← h2, ← h3, ← hlt, ← h5]; rfl
 have E0 : Hid (∀ W : World, Below w.heap.size w W -> Calls Tryz.prog 72 #[.agg (Qay base bt A l.length cap)] W fun e w' => e = .returned (.tuple #[.int .i64 ln, .int .i64 lt]) /\ Below W.heap.size W w') := fun W g => by have h := Qf7 base bt A cap l (by omega) W (hA.below g); rw [hlt, hln] at h; exact h
 have E1 : Hid (∀ W : World, Calls Tryz.prog 11 (Qbt te 0 300) W fun e w' => e = .returned (.bool b1) /\ w' = W) := fun W => h1 ▸ in_any _ _ _ W
 have E2 : Hid (∀ W : World, Calls Tryz.prog 11 (Qbt vo (-1) 4) W fun e w' => e = .returned (.bool b2) /\ w' = W) := fun W => h2 ▸ in_any _ _ _ W
 have E3 : Hid (∀ W : World, Below w.heap.size w W -> Calls Tryz.prog 107 #[.agg (Qay base bt A l.length cap)] W fun e w' => e = .returned (.bool b3) /\ Below W.heap.size W w') := fun W g => h3 ▸ Qiw base bt A cap l (by omega) hr W (hA.below g)
 have E5 : Hid (∀ W : World, Below w.heap.size w W -> Calls Tryz.prog 74 #[.agg (Qag ro wi le ke), .agg (Qah x.rA x.rs.length x.rc x.mA x.ms.length x.mc x.gA x.gs.length x.gc x.time x.dA x.ds.length x.dc x.lA x.ls.length x.lc)] W fun e w' => e = .returned (.bool b5) /\ Below W.heap.size W w') := fun W g => h5 ▸ Qey ro wi le ke x ha W (hX.below g)
 clear h1 h2 h3 hlt hln h5 hA hX ha hr hl
 have P0 : Blk ((w.alloc (.cells (Qag ro wi le ke) 24)).alloc (.cells (Qaj te vo base bt A l.length cap x.rA x.rs.length x.rc x.mA x.ms.length x.mc x.gA x.gs.length x.gc x.time x.dA x.ds.length x.dc x.lA x.ls.length x.lc) 50)) w.heap.size 24 (Qag ro wi le ke) := (Blk.new w _ _).alloc _
 have P1 : Blk ((w.alloc (.cells (Qag ro wi le ke) 24)).alloc (.cells (Qaj te vo base bt A l.length cap x.rA x.rs.length x.rc x.mA x.ms.length x.mc x.gA x.gs.length x.gc x.time x.dA x.ds.length x.dc x.lA x.ls.length x.lc) 50)) (w.heap.size + 1) 50 (Qaj te vo base bt A l.length cap x.rA x.rs.length x.rc x.mA x.ms.length x.mc x.gA x.gs.length x.gc x.time x.dA x.ds.length x.dc x.lA x.ls.length x.lc) := by have := Blk.new (w.alloc (.cells (Qag ro wi le ke) 24)) 50 (Qaj te vo base bt A l.length cap x.rA x.rs.length x.rc x.mA x.ms.length x.mc x.gA x.gs.length x.gc x.time x.dA x.ds.length x.dc x.lA x.ls.length x.lc); rwa [World.size_alloc] at this
 have B0 : Below w.heap.size w ((w.alloc (.cells (Qag ro wi le ke) 24)).alloc (.cells (Qaj te vo base bt A l.length cap x.rA x.rs.length x.rc x.mA x.ms.length x.mc x.gA x.gs.length x.gc x.time x.dA x.ds.length x.dc x.lA x.ls.length x.lc) 50)) := by repeat (first | exact Below.refl _ _ | assumption | refine via0 (by assumption) ?_ | refine Below.drew ?_ | refine Qab ?_ _)
 have H0 := hidP (And.intro B0 (And.intro P0 P1))
 clear P0 P1 B0
 go_enter Tryz.func71, Tryz.ntmps71
 go_wp2_with fail
 refine (E0.out _ H0.out.1).mono ?_
 rintro e w1 ⟨rfl, g1⟩
 have B1 := via0 g1 H0.out.1
 have P0 := H0.out.2.1.below g1 H0.out.2.1.lt
 have P1 := H0.out.2.2.below g1 H0.out.2.2.lt
 clear H0 g1
 obtain ⟨a0, a1, a2, a3⟩ := P0.row4
 obtain ⟨u0, u1, u2, u3, u4, u5, u6, u7, u8, u9, u10⟩ := P1.row11
 have q0 := P0.lt
 have q1 := P1.lt
 cases b1
 . go_wp2_with fail
   refine (E1.out _).mono ?_
   rintro e w2 ⟨rfl, rfl⟩
   go_wp2
   go_ret
   exact ⟨by rw [hF.out]; rfl, B1⟩
 cases b2
 . go_wp2_with fail
   refine (E1.out _).mono ?_
   rintro e w2 ⟨rfl, rfl⟩
   go_wp2_with fail
   refine (E2.out _).mono ?_
   rintro e w2 ⟨rfl, rfl⟩
   go_wp2
   go_ret
   exact ⟨by rw [hF.out]; rfl, B1⟩
 go_wp2_with fail
 refine (E1.out _).mono ?_
 rintro e w2 ⟨rfl, rfl⟩
 go_wp2_with fail
 refine (E2.out _).mono ?_
 rintro e w2 ⟨rfl, rfl⟩
 go_wp2_with fail
 refine (E3.out _ B1).mono ?_
 rintro e w2 ⟨rfl, g2⟩
 have B2 := via0 g2 B1
 have P0' := P0.below g2 P0.lt
 have P1' := P1.below g2 P1.lt
 clear P0 P1 B1 g2 a0 a1 a2 a3 u0 u1 u2 u3 u4 u5 u6 u7 u8 u9 u10 q0 q1
 obtain ⟨a0, a1, a2, a3⟩ := P0'.row4
 obtain ⟨u0, u1, u2, u3, u4, u5, u6, u7, u8, u9, u10⟩ := P1'.row11
 have q0 := P0'.lt
 have q1 := P1'.lt
 cases b3
 . go_wp2
   go_ret
   exact ⟨by rw [hF.out]; rfl, B2⟩
 by_cases h4 : lt <= te
 . rw [decide_eq_true h4] at hF
   go_wp2_with fail
   refine (E5.out _ B2).mono ?_
   rintro e w3 ⟨rfl, g3⟩
   have B3 := via0 g3 B2
   cases b5
   all_goals
    go_wp2
    go_ret
    exact ⟨by rw [hF.out]; rfl, B3⟩
 . rw [decide_eq_false h4] at hF
   go_wp2
   go_ret
   exact ⟨by rw [hF.out]; rfl, B2⟩
theorem Qia (ro wi le ke te vo base bt : Int) (A : Option Addr) (cap : Nat) (l : List En) (hl : l.length <= 1048576) (hr : ∀ x ∈ l, x.fit) (x : KC) (ha : KAsk x) (w : World) (hA : At w A l) (hX : KAt w x) :
 Calls Tryz.prog 82 #[.agg (Qag ro wi le ke), .agg (Qaj te vo base bt A l.length cap x.rA x.rs.length x.rc x.mA x.ms.length x.mc x.gA x.gs.length x.gc x.time x.dA x.ds.length x.dc x.lA x.ls.length x.lc)] w fun e w' => e = .returned (.bool (Qhe ro wi le ke te vo base bt l x)) /\ Below w.heap.size w w' := by
 obtain ⟨b1, h1⟩ : ∃ b, inB te 0 300 = b := ⟨_, rfl⟩
 obtain ⟨b2, h2⟩ : ∃ b, inB vo (-1) 4 = b := ⟨_, rfl⟩
 obtain ⟨b3, h3⟩ : ∃ b, logB base bt l = b := ⟨_, rfl⟩
 obtain ⟨lt, hlt⟩ : ∃ t, Qg6 bt l = t := ⟨_, rfl⟩
 obtain ⟨ln, hln⟩ : ∃ t, Qc3 base l = t := ⟨_, rfl⟩
 obtain ⟨b5, h5⟩ : ∃ b, Qcy ro wi le ke x = b := ⟨_, rfl⟩
 have hF : Hid (Qhe ro wi le ke te vo base bt l x = (b1 && b2 && b3 && decide (lt <= te) && b5)) := by show _ = _; rw [← h1, ← h2, ← h3, ← hlt, ← h5]; rfl
 have E0 : Hid (∀ W : World, Below w.heap.size w W -> Calls Tryz.prog 122 #[.agg (Qay base bt A l.length cap)] W fun e w' => e = .returned (.tuple #[.int .i64 ln, .int .i64 lt]) /\ Below W.heap.size W w') := fun W g => by have h := Qgc base bt A cap l (by omega) W (hA.below g); rw [hlt, hln] at h; exact h
 have E1 : Hid (∀ W : World, Calls Tryz.prog 46 #[.int .i64 te] W fun e w' => e = .returned (.bool b1) /\ w' = W) := fun W => h1 ▸ Qbz _ W
 have E2 : Hid (∀ W : World, Calls Tryz.prog 76 (Qbt vo (-1) 4) W fun e w' => e = .returned (.bool b2) /\ w' = W) := fun W => h2 ▸ within_any _ _ _ W
 have E3 : Hid (∀ W : World, Below w.heap.size w W -> Calls Tryz.prog 123 #[.agg (Qay base bt A l.length cap)] W fun e w' => e = .returned (.bool b3) /\ Below W.heap.size W w') := fun W g => h3 ▸ Qjd base bt A cap l (by omega) hr W (hA.below g)
 have E5 : Hid (∀ W : World, Below w.heap.size w W -> Calls Tryz.prog 85 #[.agg (Qag ro wi le ke), .agg (Qah x.rA x.rs.length x.rc x.mA x.ms.length x.mc x.gA x.gs.length x.gc x.time x.dA x.ds.length x.dc x.lA x.ls.length x.lc)] W fun e w' => e = .returned (.bool b5) /\ Below W.heap.size W w') := fun W g => h5 ▸ Qe0 ro wi le ke x ha W (hX.below g)
 clear h1 h2 h3 hlt hln h5 hA hX ha hr hl
 have P0 : Blk ((w.alloc (.cells (Qag ro wi le ke) 24)).alloc (.cells (Qaj te vo base bt A l.length cap x.rA x.rs.length x.rc x.mA x.ms.length x.mc x.gA x.gs.length x.gc x.time x.dA x.ds.length x.dc x.lA x.ls.length x.lc) 50)) w.heap.size 24 (Qag ro wi le ke) := (Blk.new w _ _).alloc _
 have P1 : Blk ((w.alloc (.cells (Qag ro wi le ke) 24)).alloc (.cells (Qaj te vo base bt A l.length cap x.rA x.rs.length x.rc x.mA x.ms.length x.mc x.gA x.gs.length x.gc x.time x.dA x.ds.length x.dc x.lA x.ls.length x.lc) 50)) (w.heap.size + 1) 50 (Qaj te vo base bt A l.length cap x.rA x.rs.length x.rc x.mA x.ms.length x.mc x.gA x.gs.length x.gc x.time x.dA x.ds.length x.dc x.lA x.ls.length x.lc) := by have := Blk.new (w.alloc (.cells (Qag ro wi le ke) 24)) 50 (Qaj te vo base bt A l.length cap x.rA x.rs.length x.rc x.mA x.ms.length x.mc x.gA x.gs.length x.gc x.time x.dA x.ds.length x.dc x.lA x.ls.length x.lc); rwa [World.size_alloc] at this
 have B0 : Below w.heap.size w ((w.alloc (.cells (Qag ro wi le ke) 24)).alloc (.cells (Qaj te vo base bt A l.length cap x.rA x.rs.length x.rc x.mA x.ms.length x.mc x.gA x.gs.length x.gc x.time x.dA x.ds.length x.dc x.lA x.ls.length x.lc) 50)) := by repeat (first | exact Below.refl _ _ | assumption | refine via0 (by assumption) ?_ | refine Below.drew ?_ | refine Qab ?_ _)
 have H0 := hidP (And.intro B0 (And.intro P0 P1))
 clear P0 P1 B0
 go_enter Tryz.func82, Tryz.ntmps82
 go_wp2_with fail
 refine (E0.out _ H0.out.1).mono ?_
 rintro e w1 ⟨rfl, g1⟩
 have B1 := via0 g1 H0.out.1
 have P0 := H0.out.2.1.below g1 H0.out.2.1.lt
 have P1 := H0.out.2.2.below g1 H0.out.2.2.lt
 clear H0 g1
 obtain ⟨a0, a1, a2, a3⟩ := P0.row4
 obtain ⟨u0, u1, u2, u3, u4, u5, u6, u7, u8, u9, u10⟩ := P1.row11
 have q0 := P0.lt
 have q1 := P1.lt
 cases b1
 . go_wp2_with fail
   refine (E1.out _).mono ?_
   rintro e w2 ⟨rfl, rfl⟩
   go_wp2
   go_ret
   exact ⟨by rw [hF.out]; rfl, B1⟩
 cases b2
 . go_wp2_with fail
   refine (E1.out _).mono ?_
   rintro e w2 ⟨rfl, rfl⟩
   go_wp2_with fail
   refine (E2.out _).mono ?_
   rintro e w2 ⟨rfl, rfl⟩
   go_wp2
   go_ret
   exact ⟨by rw [hF.out]; rfl, B1⟩
 go_wp2_with fail
 refine (E1.out _).mono ?_
 rintro e w2 ⟨rfl, rfl⟩
 go_wp2_with fail
 refine (E2.out _).mono ?_
 rintro e w2 ⟨rfl, rfl⟩
 go_wp2_with fail
 refine (E3.out _ B1).mono ?_
 rintro e w2 ⟨rfl, g2⟩
 have B2 := via0 g2 B1
 have P0' := P0.below g2 P0.lt
 have P1' := P1.below g2 P1.lt
 clear P0 P1 B1 g2 a0 a1 a2 a3 u0 u1 u2 u3 u4 u5 u6 u7 u8 u9 u10 q0 q1
 obtain ⟨a0, a1, a2, a3⟩ := P0'.row4
 obtain ⟨u0, u1, u2, u3, u4, u5, u6, u7, u8, u9, u10⟩ := P1'.row11
 have q0 := P0'.lt
 have q1 := P1'.lt
 cases b3
 . go_wp2
   go_ret
   exact ⟨by rw [hF.out]; rfl, B2⟩
 by_cases h4 : lt <= te
 . rw [decide_eq_true h4] at hF
   go_wp2_with fail
   refine (E5.out _ B2).mono ?_
   rintro e w3 ⟨rfl, g3⟩
   have B3 := via0 g3 B2
   cases b5
   all_goals
    go_wp2
    go_ret
    exact ⟨by rw [hF.out]; rfl, B3⟩
 . rw [decide_eq_false h4] at hF
   go_wp2
   go_ret
   exact ⟨by rw [hF.out]; rfl, B2⟩
end Go.Proofs.YtenhcjkkpnlbeaaGreatDoor.Gen
namespace Go.Proofs.YtenhcjkkpnlbeaaGreatDoor.Gen
open ChangeShapes WideShapes ChangeAt RowKit Joins Deep Base
structure He where
  who : Int
  seq : Int
  code : Int
  n : Int
  key : ByteArray
  text : ByteArray
  frm : Int
  at_ : Int
instance : Inhabited He := ⟨⟨0, 0, 0, 0, ⟨#[]⟩, ⟨#[]⟩, 0, 0⟩⟩
instance : Cel He where
  k := 8
  cs x := [.int .i64 x.who, .int .i64 x.seq, .int .i64 x.code, .int .i64 x.n, .string x.key, .string x.text, .int .i64 x.frm, .int .i64 x.at_]
  len _ := rfl
  one x u hu := by simp at hu; rcases hu with rfl | rfl | rfl | rfl | rfl | rfl | rfl | rfl<;>rfl
def He.fit (x : He) : Prop := x.key.size <= 9223372036854775807 /\ x.text.size <= 9223372036854775807
theorem In.getHe {w : World} {b o : Nat} {l : List He} (h : In w b o l) (n : Nat) (hi : n < l.length) :
 w.cell? ⟨b, o + n * 8, none⟩ = some (.int .i64 l[n].who) /\ w.cell? ⟨b, o + n * 8 + 1, none⟩ = some (.int .i64 l[n].seq) /\ w.cell? ⟨b, o + n * 8 + 2, none⟩ = some (.int .i64 l[n].code) /\ w.cell? ⟨b, o + n * 8 + 3, none⟩ = some (.int .i64 l[n].n) /\ w.cell? ⟨b, o + n * 8 + 4, none⟩ = some (.string l[n].key) /\ w.cell? ⟨b, o + n * 8 + 5, none⟩ = some (.string l[n].text) /\ w.cell? ⟨b, o + n * 8 + 6, none⟩ = some (.int .i64 l[n].frm) /\ w.cell? ⟨b, o + n * 8 + 7, none⟩ = some (.int .i64 l[n].at_) :=
 ⟨h.cell n hi (f := 0) rfl, h.cell n hi (f := 1) rfl, h.cell n hi (f := 2) rfl, h.cell n hi (f := 3) rfl, h.cell n hi (f := 4) rfl, h.cell n hi (f := 5) rfl, h.cell n hi (f := 6) rfl, h.cell n hi (f := 7) rfl⟩
theorem Qlx (who seq code n frm at_ : Int) (key text : ByteArray) (w : World) :
 Calls Tryz.prog 54 #[.agg (Qbm who seq code n key text frm at_), .agg (Qbm who seq code n key text frm at_)] w fun e w' => e = .returned (.bool true) /\ Below w.heap.size w w' := by
 have p0 : Blk ((w.alloc (.cells (Qbm who seq code n key text frm at_) 91)).alloc (.cells (Qbm who seq code n key text frm at_) 91)) w.heap.size 91 (Qbm who seq code n key text frm at_) := (Blk.new w _ _).alloc _
 have p1 : Blk ((w.alloc (.cells (Qbm who seq code n key text frm at_) 91)).alloc (.cells (Qbm who seq code n key text frm at_) 91)) (w.heap.size + 1) 91 (Qbm who seq code n key text frm at_) := by have := Blk.new (w.alloc (.cells (Qbm who seq code n key text frm at_) 91)) 91 (Qbm who seq code n key text frm at_); rwa [World.size_alloc] at this
 have g0 : Below w.heap.size w ((w.alloc (.cells (Qbm who seq code n key text frm at_) 91)).alloc (.cells (Qbm who seq code n key text frm at_) 91)) := Qab (Qab (Below.refl _ _) _) _
 have HP := hidP (And.intro p0 (And.intro p1 g0))
 clear p0 p1 g0
 go_enter Tryz.func54, Tryz.ntmps54
 go_wp2_with fail
 refine (Qfs _ _ _ _ _).mono ?_
 rintro e w1 ⟨rfl, g1⟩
 obtain ⟨p0, p1, g0⟩ := HP.out
 replace p0 := p0.below g1 p0.lt
 replace p1 := p1.below g1 p1.lt
 have u0 := p0.cell (i := 0) rfl
 have u1 := p0.cell (i := 1) rfl
 have u2 := p0.cell (i := 2) rfl
 have u3 := p0.cell (i := 3) rfl
 have u4 := p0.cell (i := 4) rfl
 have u5 := p0.cell (i := 5) rfl
 have u6 := p0.cell (i := 6) rfl
 have u7 := p0.cell (i := 7) rfl
 have us3 := p0.cell (i := 2 + 1) rfl
 have us4 := p0.cell (i := 2 + 2) rfl
 have us5 := p0.cell (i := 2 + 3) rfl
 have x0 := p1.cell (i := 0) rfl
 have x1 := p1.cell (i := 1) rfl
 have x2 := p1.cell (i := 2) rfl
 have x3 := p1.cell (i := 3) rfl
 have x4 := p1.cell (i := 4) rfl
 have x5 := p1.cell (i := 5) rfl
 have x6 := p1.cell (i := 6) rfl
 have x7 := p1.cell (i := 7) rfl
 have xs3 := p1.cell (i := 2 + 1) rfl
 have xs4 := p1.cell (i := 2 + 2) rfl
 have xs5 := p1.cell (i := 2 + 3) rfl
 have B0 := hidP (via0 g1 g0)
 clear p0 p1 g0 g1 HP
 go_wp2
 go_ret
 exact ⟨rfl, B0.out⟩
theorem Qjl (A A' : Option Addr) (cap cap' : Nat) (l : List He) (hl : l.length <= 9223372036854775807) (w : World) (hA : At w A l) (hA' : At w A' l) :
 Calls Tryz.prog 20 #[.slice A l.length cap, .slice A' l.length cap'] w fun e w' => e = .returned (.bool true) /\ Below w.heap.size w w' := by
 have HA := hidP hA
 have HA' := hidP hA'
 clear hA hA'
 go_enter Tryz.func20, Tryz.ntmps20
 go_wp2
 go_loopw [5] (fun i w' => ∃ (n : Nat), i = .int .i64 (n : Int) /\ n <= l.length /\ Below w.heap.size w w') (fun i _ => l.length - (intOf i).toNat)
 case atStart => exact ⟨0, rfl, by omega, Below.refl _ _⟩
 case round =>
  obtain ⟨n, rfl, hn, hbl⟩ := hrel
  by_cases hlt : n < l.length
  . obtain ⟨b, o, rfl, hbs, hin⟩ : ∃ b o, A = some ⟨b, o, none⟩ /\ b < w.heap.size /\ In w b o l := by
     rcases HA.out with h | h
     . subst h; simp at hlt
     . exact h
    obtain ⟨b', o', rfl, hbs', hin'⟩ : ∃ b o, A' = some ⟨b, o, none⟩ /\ b < w.heap.size /\ In w b o l := by
     rcases HA'.out with h | h
     . subst h; simp at hlt
     . exact h
    obtain ⟨c0, c1, c2, c3, c4, c5, c6, c7⟩ := (hin.below hbs hbl).getHe n hlt
    obtain ⟨d0, d1, d2, d3, d4, d5, d6, d7⟩ := (hin'.below hbs' hbl).getHe n hlt
    have hb1 : b < wr.heap.size := Nat.lt_of_lt_of_le hbs hbl.size
    have hb2 : b' < wr.heap.size := Nat.lt_of_lt_of_le hbs' hbl.size
    have hi0 : (0 : Int) <= (n : Int) := by omega
    have hi1 : (n : Int) < (l.length : Int) := by omega
    go_wp2
    go_region_held3 (fun w' => w'.cell? ⟨b, o + n * 8, none⟩ = some (.int .i64 l[n].who) /\ w'.cell? ⟨b, o + n * 8 + 1, none⟩ = some (.int .i64 l[n].seq) /\ w'.cell? ⟨b, o + n * 8 + 2, none⟩ = some (.int .i64 l[n].code) /\ w'.cell? ⟨b, o + n * 8 + 3, none⟩ = some (.int .i64 l[n].n) /\ w'.cell? ⟨b, o + n * 8 + 4, none⟩ = some (.string l[n].key) /\ w'.cell? ⟨b, o + n * 8 + 5, none⟩ = some (.string l[n].text) /\ w'.cell? ⟨b, o + n * 8 + 6, none⟩ = some (.int .i64 l[n].frm) /\ w'.cell? ⟨b, o + n * 8 + 7, none⟩ = some (.int .i64 l[n].at_) /\ w'.cell? ⟨b', o' + n * 8, none⟩ = some (.int .i64 l[n].who) /\ w'.cell? ⟨b', o' + n * 8 + 1, none⟩ = some (.int .i64 l[n].seq) /\ w'.cell? ⟨b', o' + n * 8 + 2, none⟩ = some (.int .i64 l[n].code) /\ w'.cell? ⟨b', o' + n * 8 + 3, none⟩ = some (.int .i64 l[n].n) /\ w'.cell? ⟨b', o' + n * 8 + 4, none⟩ = some (.string l[n].key) /\ w'.cell? ⟨b', o' + n * 8 + 5, none⟩ = some (.string l[n].text) /\ w'.cell? ⟨b', o' + n * 8 + 6, none⟩ = some (.int .i64 l[n].frm) /\ w'.cell? ⟨b', o' + n * 8 + 7, none⟩ = some (.int .i64 l[n].at_) /\ wr.heap.size <= w'.heap.size)
     (first | (go_split_ands; refine ⟨?_, ?_, ?_, ?_, ?_, ?_, ?_, ?_, ?_, ?_, ?_, ?_, ?_, ?_, ?_, ?_, ?_⟩<;>first | assumption | exact (k1 _ _ hb1).trans (by assumption) | exact (k1 _ _ hb2).trans (by assumption) | exact s1 | (simp; done)) | go_keep)
     (first
      | (go_at_call 54; refine (Qlx _ _ _ _ _ _ _ _ _).mono ?_; rintro e w1 ⟨rfl, g1⟩; obtain ⟨k1, m1⟩ := Qax g1; have s1 := g1.size))
    all_goals
     go_wp2
     exact ⟨⟨n + 1, by go_num, by omega, via0 g1 hbl.drew⟩, by simp [intOf]; omega⟩
  . go_wp2
    go_ret
    exact ⟨rfl, hbl⟩
end Go.Proofs.YtenhcjkkpnlbeaaGreatDoor.Gen
namespace Go.Proofs.YtenhcjkkpnlbeaaGreatDoor.Gen
open ChangeShapes WideShapes ChangeAt RowKit Joins Deep Base
def markHe (z : Int) : He := ⟨z, z + 1, z + 2, z + 3, Items.markZ (z + 4), Items.markZ (z + 5), z + 6, z + 7⟩
def Qci (n : Nat) (z : Int) : List He := (List.range n).map fun (i : Nat) => markHe (z + (i : Int) * 8)
theorem Qc9 (n : Nat) (z : Int) : (Qci n z).length = n := by simp [Qci]
theorem Qkv (n : Nat) (z : Int) : Qci (n + 1) z = Qci n z ++ [markHe (z + (n : Int) * 8)] := by simp [Qci, List.range_succ]
theorem Qml (n : Nat) (z : Int) (i : Nat) (h : i < (Qci n z).length) : (Qci n z)[i] = markHe (z + (i : Int) * 8) := by simp [Qci]
theorem Qkw (n : Nat) (k z : Int) (hz : z = k + (n : Int) * 8) :
 flat (Qci n k) ++ [.int .i64 z] ++ [.int .i64 (z + 1)] ++ [.int .i64 (z + 1 + 1)] ++ [.int .i64 (z + 1 + 1 + 1)] ++ [.string (Items.markZ (z + 1 + 1 + 1 + 1))] ++ [.string (Items.markZ (z + 1 + 1 + 1 + 1 + 1))] ++ [.int .i64 (z + 1 + 1 + 1 + 1 + 1 + 1)] ++ [.int .i64 (z + 1 + 1 + 1 + 1 + 1 + 1 + 1)] = flat (Qci (n + 1) k) := by
 subst hz
 have e2 : ∀ z : Int, z + 1 + 1 = z + 2 := fun z => by omega
 have e3 : ∀ z : Int, z + 1 + 1 + 1 = z + 3 := fun z => by omega
 have e4 : ∀ z : Int, z + 1 + 1 + 1 + 1 = z + 4 := fun z => by omega
 have e5 : ∀ z : Int, z + 1 + 1 + 1 + 1 + 1 = z + 5 := fun z => by omega
 have e6 : ∀ z : Int, z + 1 + 1 + 1 + 1 + 1 + 1 = z + 6 := fun z => by omega
 have e7 : ∀ z : Int, z + 1 + 1 + 1 + 1 + 1 + 1 + 1 = z + 7 := fun z => by omega
 rw [Qkv, Qbf, Qce, e7, e6, e5, e4, e3, e2]
 simp [Cel.cs, markHe]
theorem Qh3 (b o cap m : Nat) (k : Int) (hk : 1 <= k) (hk' : k <= 100000000) (hm : m <= 3000000) (w : World) (hb : b < w.heap.size) (hth : w.there b o (m * 8)) :
 Calls Tryz.prog 25 #[.slice (some ⟨b, o, none⟩) m cap, .int .i64 k] w fun e w' => e = .returned (.int .i64 (k + (m : Int) * 8)) /\ Only b w w' /\ In w' b o (Qci m k) /\ w'.there b o (m * 8) := by
 have HT := hidP hth
 clear hth
 go_enter Tryz.func25, Tryz.ntmps25
 go_wp2
 go_loopw [1, 5] (fun kk i w' => ∃ (n : Nat) (z : Int), i = .int .i64 (n : Int) /\ kk = .int .i64 z /\ n <= m /\ 1 <= z /\ z <= 900000000 /\ Only b w w' /\ Hid (z = k + (n : Int) * 8) /\ Hid (In w' b o (Qci n k)) /\ Hid (w'.there b o (m * 8))) (fun _ i _ => m - (intOf i).toNat)
 case atStart => exact ⟨0, k, rfl, rfl, by omega, hk, by omega, Only.refl _ _, by simp [Hid], In.nil _ _ _, HT.out⟩
 case round =>
  obtain ⟨n, z, rfl, rfl, hn, hz1, hz2, ho, hz, hin, hth⟩ := hrel
  by_cases hlt : n < m
  . obtain ⟨⟨v0, d0⟩, f0⟩ := Qaq (f := 0) hth.out hlt (by omega)
    rw [Nat.add_zero] at d0 f0
    obtain ⟨⟨v1, d1⟩, f1⟩ := Qaq (f := 1) hth.out hlt (by omega)
    obtain ⟨⟨v2, d2⟩, f2⟩ := Qaq (f := 2) hth.out hlt (by omega)
    obtain ⟨⟨v3, d3⟩, f3⟩ := Qaq (f := 3) hth.out hlt (by omega)
    obtain ⟨⟨v4, d4⟩, f4⟩ := Qaq (f := 4) hth.out hlt (by omega)
    obtain ⟨⟨v5, d5⟩, f5⟩ := Qaq (f := 5) hth.out hlt (by omega)
    obtain ⟨⟨v6, d6⟩, f6⟩ := Qaq (f := 6) hth.out hlt (by omega)
    obtain ⟨⟨v7, d7⟩, f7⟩ := Qaq (f := 7) hth.out hlt (by omega)
    have q1 : b < wr.heap.size := Nat.lt_of_lt_of_le hb ho.size
    go_wp2_with fail
    refine (Items.markText_at _ (by omega) (by omega) _).mono ?_
    rintro e w1 ⟨rfl, g1⟩
    obtain ⟨k1, m1⟩ := Qax g1
    have q2 : b < w1.heap.size := (by have t1 := g1.size; simp at t1; exact Nat.lt_of_lt_of_le q1 t1)
    go_wp2_with fail
    refine (Items.markText_at _ (by omega) (by omega) _).mono ?_
    rintro e w2 ⟨rfl, g2⟩
    obtain ⟨k2, m2⟩ := Qax g2
    have q3 : b < w2.heap.size := (by have t1 := g2.size; simp at t1; exact Nat.lt_of_lt_of_le q2 t1)
    go_wp2
    have hlen : (flat (Qci n k)).length = n * 8 := by rw [Qa6, Qc9]; rfl
    have P0 := push (v := .int .i64 z) (q := o + n * 8) ⟨hin.out, hth.out, Nat.lt_of_lt_of_le hb ho.size⟩ (by rw [hlen]; omega) (by rw [hlen])
    have P1 := push (v := .int .i64 (z + 1)) (q := o + n * 8 + 1) P0 (by simp [hlen]; omega) (by simp [hlen]; omega)
    have P2 := push (v := .int .i64 (z + 1 + 1)) (q := o + n * 8 + 2) P1 (by simp [hlen]; omega) (by simp [hlen]; omega)
    have P3 := push (v := .int .i64 (z + 1 + 1 + 1)) (q := o + n * 8 + 2 + 1) P2 (by simp [hlen]; omega) (by simp [hlen]; omega)
    have P4 := push (v := .string (Items.markZ (z + 1 + 1 + 1 + 1))) (q := o + n * 8 + 2 + 2) (Qdt P3 g1) (by simp [hlen]; omega) (by simp [hlen]; omega)
    have P5 := push (v := .string (Items.markZ (z + 1 + 1 + 1 + 1 + 1))) (q := o + n * 8 + 2 + 3) (Qdt P4 g2) (by simp [hlen]; omega) (by simp [hlen]; omega)
    have P6 := push (v := .int .i64 (z + 1 + 1 + 1 + 1 + 1 + 1)) (q := o + n * 8 + 6) P5 (by simp [hlen]; omega) (by simp [hlen]; omega)
    have P7 := push (v := .int .i64 (z + 1 + 1 + 1 + 1 + 1 + 1 + 1)) (q := o + n * 8 + 7) P6 (by simp [hlen]; omega) (by simp [hlen]; omega)
    rw [Qkw n k z hz.out] at P7
    have hz' := hz.out
    refine ⟨⟨n + 1, z + 1 + 1 + 1 + 1 + 1 + 1 + 1 + 1, by go_num, rfl, by omega, by omega, by omega, ?_, by show z + 1 + 1 + 1 + 1 + 1 + 1 + 1 + 1 = _; omega, P7.1, P7.2.1⟩, by simp [intOf]; omega⟩
    exact ((((((((((ho.set _ _).set _ _).set _ _).set _ _).below g1).set _ _).below g2).set _ _).set _ _).set _ _)
  . obtain rfl : n = m := by omega
    go_wp2
    go_ret
    have e := hz.out
    subst e
    exact ⟨rfl, ho, hin.out, hth.out⟩
theorem Qid (A : Option Addr) (cap m : Nat) (k : Int) (hk : 1 <= k) (hk' : k <= 100000000) (hm : m <= 3000000) (w : World)
 (hA : m = 0 ∨ ∃ b o, A = some ⟨b, o, none⟩ /\ b < w.heap.size /\ In w b o (Qci m k)) :
 Calls Tryz.prog 30 #[.slice A m cap, .int .i64 k] w fun e w' => e = .returned (.int .i64 (k + (m : Int) * 8)) /\ Below w.heap.size w w' := by
 have HA := hidP hA
 clear hA
 go_enter Tryz.func30, Tryz.ntmps30
 go_wp2
 go_loopw [1, 5] (fun kk i w' => ∃ (n : Nat) (z : Int), i = .int .i64 (n : Int) /\ kk = .int .i64 z /\ n <= m /\ 1 <= z /\ z <= 900000000 /\ Hid (z = k + (n : Int) * 8) /\ Below w.heap.size w w') (fun _ i _ => m - (intOf i).toNat)
 case atStart => exact ⟨0, k, rfl, rfl, by omega, hk, by omega, by simp [Hid], Below.refl _ _⟩
 case round =>
  obtain ⟨n, z, rfl, rfl, hn, hz1, hz2, hz, hbl⟩ := hrel
  by_cases hlt : n < m
  . obtain ⟨b, o, rfl, hbs, hin⟩ : ∃ b o, A = some ⟨b, o, none⟩ /\ b < w.heap.size /\ In w b o (Qci m k) := by
     rcases HA.out with h | h
     . omega
     . exact h
    have hb1 : b < wr.heap.size := Nat.lt_of_lt_of_le hbs hbl.size
    obtain ⟨c0, c1, c2, c3, c4, c5, c6, c7⟩ : wr.cell? ⟨b, o + n * 8, none⟩ = some (.int .i64 z) /\ wr.cell? ⟨b, o + n * 8 + 1, none⟩ = some (.int .i64 (z + 1)) /\ wr.cell? ⟨b, o + n * 8 + 2, none⟩ = some (.int .i64 (z + 1 + 1)) /\ wr.cell? ⟨b, o + n * 8 + 3, none⟩ = some (.int .i64 (z + 1 + 1 + 1)) /\ wr.cell? ⟨b, o + n * 8 + 4, none⟩ = some (.string (Items.markZ (z + 1 + 1 + 1 + 1))) /\ wr.cell? ⟨b, o + n * 8 + 5, none⟩ = some (.string (Items.markZ (z + 1 + 1 + 1 + 1 + 1))) /\ wr.cell? ⟨b, o + n * 8 + 6, none⟩ = some (.int .i64 (z + 1 + 1 + 1 + 1 + 1 + 1)) /\ wr.cell? ⟨b, o + n * 8 + 7, none⟩ = some (.int .i64 (z + 1 + 1 + 1 + 1 + 1 + 1 + 1)) := by
     have h := (hin.below hbs hbl).getHe n (by rw [Qc9]; exact hlt)
     rw [Qml] at h
     have e2 : z + 1 + 1 = z + 2 := by omega
     have e3 : z + 1 + 1 + 1 = z + 3 := by omega
     have e4 : z + 1 + 1 + 1 + 1 = z + 4 := by omega
     have e5 : z + 1 + 1 + 1 + 1 + 1 = z + 5 := by omega
     have e6 : z + 1 + 1 + 1 + 1 + 1 + 1 = z + 6 := by omega
     have e7 : z + 1 + 1 + 1 + 1 + 1 + 1 + 1 = z + 7 := by omega
     rw [e7, e6, e5, e4, e3, e2, hz.out]
     exact h
    have hi0 : (0 : Int) <= (n : Int) := by omega
    have hi1 : (n : Int) < (m : Int) := by omega
    go_wp2
    go_region_held3 (fun w' => w'.cell? ⟨b, o + n * 8 + 4, none⟩ = some (.string (Items.markZ (z + 1 + 1 + 1 + 1))) /\ w'.cell? ⟨b, o + n * 8 + 5, none⟩ = some (.string (Items.markZ (z + 1 + 1 + 1 + 1 + 1))) /\ w'.cell? ⟨b, o + n * 8 + 6, none⟩ = some (.int .i64 (z + 1 + 1 + 1 + 1 + 1 + 1)) /\ w'.cell? ⟨b, o + n * 8 + 7, none⟩ = some (.int .i64 (z + 1 + 1 + 1 + 1 + 1 + 1 + 1)) /\ b < w'.heap.size)
     (first | (go_split_ands; refine ⟨?_, ?_, ?_, ?_, ?_⟩<;>first | assumption | exact (k1 _ _ (by assumption)).trans (by assumption) | exact Nat.lt_of_lt_of_le (by assumption) s1 | (simp; done)) | go_keep)
     (first
      | (go_at_call 62; refine (Items.markText_at _ ?_ ?_ _).mono ?_; omega; omega; rintro e w1 ⟨rfl, g1⟩; obtain ⟨k1, m1⟩ := Qax g1; have s1 := g1.size))
    go_split_ands
    go_wp2
    go_region_held3 (fun w' => w'.cell? ⟨b, o + n * 8 + 5, none⟩ = some (.string (Items.markZ (z + 1 + 1 + 1 + 1 + 1))) /\ w'.cell? ⟨b, o + n * 8 + 6, none⟩ = some (.int .i64 (z + 1 + 1 + 1 + 1 + 1 + 1)) /\ w'.cell? ⟨b, o + n * 8 + 7, none⟩ = some (.int .i64 (z + 1 + 1 + 1 + 1 + 1 + 1 + 1)) /\ b < w'.heap.size)
     (first | (go_split_ands; refine ⟨?_, ?_, ?_, ?_⟩<;>first | assumption | exact (k2 _ _ (by assumption)).trans (by assumption) | exact Nat.lt_of_lt_of_le (by assumption) s2 | (simp; done)) | go_keep)
     (first
      | (go_at_call 62; refine (Items.markText_at _ ?_ ?_ _).mono ?_; omega; omega; rintro e w2 ⟨rfl, g2⟩; obtain ⟨k2, m2⟩ := Qax g2; have s2 := g2.size))
    go_split_ands
    go_wp2
    have hz' := hz.out
    exact ⟨⟨n + 1, z + 1 + 1 + 1 + 1 + 1 + 1 + 1 + 1, by go_num, rfl, by omega, by omega, by omega, by show z + 1 + 1 + 1 + 1 + 1 + 1 + 1 + 1 = _; omega, via0 g2 (via0 g1 hbl.drew).drew⟩, by simp [intOf]; omega⟩
  . obtain rfl : n = m := by omega
    go_wp2
    go_ret
    have e := hz.out
    subst e
    exact ⟨rfl, hbl⟩
end Go.Proofs.YtenhcjkkpnlbeaaGreatDoor.Gen
namespace Go.Proofs.YtenhcjkkpnlbeaaGreatDoor.Gen
open ChangeShapes WideShapes ChangeAt RowKit Joins Deep Base
open Items (It)
section
variable {α : Type} [Cel α] {W W' : World} {A : Option Addr} {l : List α} {S T : Nat -> Prop}
end
structure Pl {α : Type} [Cel α] (W : World) (A : Option Addr) (l : List α) (b : Nat) : Prop where
  a : A = some ⟨b, 0, none⟩
  lt : b < W.heap.size
  i : In W b 0 l
  th : W.there b 0 (l.length * Cel.k α)
section
variable {α : Type} [Cel α] {W W' : World} {A : Option Addr} {l : List α} {b : Nat} {T : Nat -> Prop}
theorem Pl.of_own {B : Nat} {t : TypeId} {c : Nat} (h : W.ownsRow B t (Cel.k α) (.slice A l.length c) l.length (flat l)) (hl : 0 < l.length) : ∃ b, Pl W A l b /\ B <= b /\ (Value.slice A l.length c).ownBlock = some b := by
 rcases h.2 with ⟨e, h0⟩ | ⟨g, c', cur, e, hB, hg, hc, hm, hsz, ht⟩
 . omega
 . cases e
   obtain ⟨A', c2, e2, _, h1⟩ := Qfp (α := α) (t := t) hg hB hc hsz ht
   cases e2
   rcases h1 with h1 | ⟨b, o, e3, hB', hb, hi, hth⟩
   . subst h1; simp at hl
   . cases e3
     exact ⟨g, ⟨rfl, hb, hi, hth⟩, hB, rfl⟩
end
section
variable {W W' : World} {x : KC} {S S' T : Nat -> Prop} {br bg bd bl : Nat}
end
def Stay2 (P B : Nat) (Pk : World -> Prop) : Prop := ∀ (W W' : World) (T : Nat -> Prop), Pk W -> Offp T W W' -> (∀ x, T x -> x = P ∨ B <= x) -> Pk W'
end Go.Proofs.YtenhcjkkpnlbeaaGreatDoor.Gen
