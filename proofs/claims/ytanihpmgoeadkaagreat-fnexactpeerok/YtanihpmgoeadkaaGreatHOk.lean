/-
  Which Hards are right: by the specification and by the program, the same. No condition but the sizes of its lists and texts.
-/
import Derived.Test.YtanihpmgoeadkaaGreatHardV
import Derived.Test.YtanihpmgoeadkaaGreatKOkSpec
import Derived.Test.YtanihpmgoeadkaaGreatKOkImpl
import Derived.Test.YtanihpmgoeadkaaGreatLOk
import Derived.Test.YtanihpmgoeadkaaGreatLGet
namespace Go.Proofs.YtanihpmgoeadkaaGreat.Gen
open Go.ChangeShapes Go.WideShapes Go.ChangeAt Go.RowKit Go.Joins Go.Deep Base
set_option linter.unusedVariables false
set_option linter.unusedSimpArgs false
def hardB (ro wi le ke te vo base bt : Int) (l : List En) (x : KC) : Bool := inB te 0 300 && inB vo (-1) 4 && logB base bt l && decide (lastT bt l <= te) && keepB ro wi le ke x
set_option maxRecDepth 100000 in
set_option maxHeartbeats 4000000 in
theorem specHardOk_any (ro wi le ke te vo base bt : Int) (A : Option Addr) (cap : Nat) (l : List En) (hl : l.length <= 1048576) (hr : ∀ x ∈ l, x.fit) (x : KC) (ha : KAsk x) (w : World) (hA : At w A l) (hX : KAt w x) :
    Calls Tryz.prog 26 #[.agg #[.int .i64 ro, .int .i64 wi, .int .i64 le, .int .i64 ke], .agg #[.int .i64 te, .int .i64 vo, .int .i64 base, .int .i64 bt, .slice A l.length cap, .slice x.rA x.rs.length x.rc, .slice x.mA x.ms.length x.mc, .slice x.gA x.gs.length x.gc, .int .i64 x.time, .slice x.dA x.ds.length x.dc, .slice x.lA x.ls.length x.lc]] w fun e w' => e = .returned (.bool (hardB ro wi le ke te vo base bt l x)) /\ Below w.heap.size w w' := by
  obtain ⟨b1, h1⟩ : ∃ b, inB te 0 300 = b := ⟨_, rfl⟩
  obtain ⟨b2, h2⟩ : ∃ b, inB vo (-1) 4 = b := ⟨_, rfl⟩
  obtain ⟨b3, h3⟩ : ∃ b, logB base bt l = b := ⟨_, rfl⟩
  obtain ⟨lt, hlt⟩ : ∃ t, lastT bt l = t := ⟨_, rfl⟩
  obtain ⟨ln, hln⟩ : ∃ t, lastN base l = t := ⟨_, rfl⟩
  obtain ⟨b5, h5⟩ : ∃ b, keepB ro wi le ke x = b := ⟨_, rfl⟩
  have hF : Hid (hardB ro wi le ke te vo base bt l x = (b1 && b2 && b3 && decide (lt <= te) && b5)) := by show _ = _; rw [← h1, ← h2, ← h3, ← hlt, ← h5]; rfl
  have E0 : Hid (∀ W : World, Below w.heap.size w W -> Calls Tryz.prog 27 #[.agg #[.int .i64 base, .int .i64 bt, .slice A l.length cap]] W fun e w' => e = .returned (.tuple #[.int .i64 ln, .int .i64 lt]) /\ Below W.heap.size W w') := fun W g => by have h := specLast_any base bt A cap l (by omega) W (hA.below g); rw [hlt, hln] at h; exact h
  have E1 : Hid (∀ W : World, Calls Tryz.prog 25 #[.int .i64 te, .int .i64 0, .int .i64 300] W fun e w' => e = .returned (.bool b1) /\ w' = W) := fun W => h1 ▸ in_any _ _ _ W
  have E2 : Hid (∀ W : World, Calls Tryz.prog 25 #[.int .i64 vo, .int .i64 (-1), .int .i64 4] W fun e w' => e = .returned (.bool b2) /\ w' = W) := fun W => h2 ▸ in_any _ _ _ W
  have E3 : Hid (∀ W : World, Below w.heap.size w W -> Calls Tryz.prog 72 #[.agg #[.int .i64 base, .int .i64 bt, .slice A l.length cap]] W fun e w' => e = .returned (.bool b3) /\ Below W.heap.size W w') := fun W g => h3 ▸ specLogOk_any base bt A cap l (by omega) hr W (hA.below g)
  have E5 : Hid (∀ W : World, Below w.heap.size w W -> Calls Tryz.prog 29 #[.agg #[.int .i64 ro, .int .i64 wi, .int .i64 le, .int .i64 ke], .agg #[.slice x.rA x.rs.length x.rc, .slice x.mA x.ms.length x.mc, .slice x.gA x.gs.length x.gc, .int .i64 x.time, .slice x.dA x.ds.length x.dc, .slice x.lA x.ls.length x.lc]] W fun e w' => e = .returned (.bool b5) /\ Below W.heap.size W w') := fun W g => h5 ▸ specKeepOk_any ro wi le ke x ha W (hX.below g)
  clear h1 h2 h3 hlt hln h5 hA hX ha hr hl
  have P0 : Blk ((w.alloc (.cells #[.int .i64 ro, .int .i64 wi, .int .i64 le, .int .i64 ke] 45)).alloc (.cells #[.int .i64 te, .int .i64 vo, .int .i64 base, .int .i64 bt, .slice A l.length cap, .slice x.rA x.rs.length x.rc, .slice x.mA x.ms.length x.mc, .slice x.gA x.gs.length x.gc, .int .i64 x.time, .slice x.dA x.ds.length x.dc, .slice x.lA x.ls.length x.lc] 57)) w.heap.size 45 #[.int .i64 ro, .int .i64 wi, .int .i64 le, .int .i64 ke] := (Blk.new w _ _).alloc _
  have P1 : Blk ((w.alloc (.cells #[.int .i64 ro, .int .i64 wi, .int .i64 le, .int .i64 ke] 45)).alloc (.cells #[.int .i64 te, .int .i64 vo, .int .i64 base, .int .i64 bt, .slice A l.length cap, .slice x.rA x.rs.length x.rc, .slice x.mA x.ms.length x.mc, .slice x.gA x.gs.length x.gc, .int .i64 x.time, .slice x.dA x.ds.length x.dc, .slice x.lA x.ls.length x.lc] 57)) (w.heap.size + 1) 57 #[.int .i64 te, .int .i64 vo, .int .i64 base, .int .i64 bt, .slice A l.length cap, .slice x.rA x.rs.length x.rc, .slice x.mA x.ms.length x.mc, .slice x.gA x.gs.length x.gc, .int .i64 x.time, .slice x.dA x.ds.length x.dc, .slice x.lA x.ls.length x.lc] := by have := Blk.new (w.alloc (.cells #[.int .i64 ro, .int .i64 wi, .int .i64 le, .int .i64 ke] 45)) 57 #[.int .i64 te, .int .i64 vo, .int .i64 base, .int .i64 bt, .slice A l.length cap, .slice x.rA x.rs.length x.rc, .slice x.mA x.ms.length x.mc, .slice x.gA x.gs.length x.gc, .int .i64 x.time, .slice x.dA x.ds.length x.dc, .slice x.lA x.ls.length x.lc]; rwa [World.size_alloc] at this
  have B0 : Below w.heap.size w ((w.alloc (.cells #[.int .i64 ro, .int .i64 wi, .int .i64 le, .int .i64 ke] 45)).alloc (.cells #[.int .i64 te, .int .i64 vo, .int .i64 base, .int .i64 bt, .slice A l.length cap, .slice x.rA x.rs.length x.rc, .slice x.mA x.ms.length x.mc, .slice x.gA x.gs.length x.gc, .int .i64 x.time, .slice x.dA x.ds.length x.dc, .slice x.lA x.ls.length x.lc] 57)) := by repeat (first | exact Below.refl _ _ | assumption | refine via0 (by assumption) ?_ | refine Below.drew ?_ | refine alloc0 ?_ _)
  have H0 := hidP (And.intro B0 (And.intro P0 P1))
  clear P0 P1 B0
  go_enter Tryz.func26, Tryz.ntmps26
  go_wp2_with fail
  refine (E0.out _ H0.out.1).mono ?_
  rintro e w1 ⟨rfl, g1⟩
  have B1 := via0 g1 H0.out.1
  have P0 := H0.out.2.1.below g1 H0.out.2.1.lt
  have P1 := H0.out.2.2.below g1 H0.out.2.2.lt
  clear H0 g1
  obtain ⟨a0, a1, a2, a3⟩ := P0.row4
  obtain ⟨u0, u1, u2, u3, u4, u5, u6, u7, u8, u9, u10⟩ := P1.row11
  have q0 := P0.lt
  have q1 := P1.lt
  cases b1
  . go_wp2_with fail
    refine (E1.out _).mono ?_
    rintro e w2 ⟨rfl, rfl⟩
    go_wp2
    go_ret
    exact ⟨by rw [hF.out]; rfl, B1⟩
  cases b2
  . go_wp2_with fail
    refine (E1.out _).mono ?_
    rintro e w2 ⟨rfl, rfl⟩
    go_wp2_with fail
    refine (E2.out _).mono ?_
    rintro e w2 ⟨rfl, rfl⟩
    go_wp2
    go_ret
    exact ⟨by rw [hF.out]; rfl, B1⟩
  go_wp2_with fail
  refine (E1.out _).mono ?_
  rintro e w2 ⟨rfl, rfl⟩
  go_wp2_with fail
  refine (E2.out _).mono ?_
  rintro e w2 ⟨rfl, rfl⟩
  go_wp2_with fail
  refine (E3.out _ B1).mono ?_
  rintro e w2 ⟨rfl, g2⟩
  have B2 := via0 g2 B1
  have P0' := P0.below g2 P0.lt
  have P1' := P1.below g2 P1.lt
  clear P0 P1 B1 g2 a0 a1 a2 a3 u0 u1 u2 u3 u4 u5 u6 u7 u8 u9 u10 q0 q1
  obtain ⟨a0, a1, a2, a3⟩ := P0'.row4
  obtain ⟨u0, u1, u2, u3, u4, u5, u6, u7, u8, u9, u10⟩ := P1'.row11
  have q0 := P0'.lt
  have q1 := P1'.lt
  cases b3
  . go_wp2
    go_ret
    exact ⟨by rw [hF.out]; rfl, B2⟩
  by_cases h4 : lt <= te
  . rw [decide_eq_true h4] at hF
    go_wp2_with fail
    refine (E5.out _ B2).mono ?_
    rintro e w3 ⟨rfl, g3⟩
    have B3 := via0 g3 B2
    cases b5
    all_goals
      go_wp2
      go_ret
      exact ⟨by rw [hF.out]; rfl, B3⟩
  . rw [decide_eq_false h4] at hF
    go_wp2
    go_ret
    exact ⟨by rw [hF.out]; rfl, B2⟩
set_option maxRecDepth 100000 in
set_option maxHeartbeats 4000000 in
theorem implHardOk_any (ro wi le ke te vo base bt : Int) (A : Option Addr) (cap : Nat) (l : List En) (hl : l.length <= 1048576) (hr : ∀ x ∈ l, x.fit) (x : KC) (ha : KAsk x) (w : World) (hA : At w A l) (hX : KAt w x) :
    Calls Tryz.prog 87 #[.agg #[.int .i64 ro, .int .i64 wi, .int .i64 le, .int .i64 ke], .agg #[.int .i64 te, .int .i64 vo, .int .i64 base, .int .i64 bt, .slice A l.length cap, .slice x.rA x.rs.length x.rc, .slice x.mA x.ms.length x.mc, .slice x.gA x.gs.length x.gc, .int .i64 x.time, .slice x.dA x.ds.length x.dc, .slice x.lA x.ls.length x.lc]] w fun e w' => e = .returned (.bool (hardB ro wi le ke te vo base bt l x)) /\ Below w.heap.size w w' := by
  obtain ⟨b1, h1⟩ : ∃ b, inB te 0 300 = b := ⟨_, rfl⟩
  obtain ⟨b2, h2⟩ : ∃ b, inB vo (-1) 4 = b := ⟨_, rfl⟩
  obtain ⟨b3, h3⟩ : ∃ b, logB base bt l = b := ⟨_, rfl⟩
  obtain ⟨lt, hlt⟩ : ∃ t, lastT bt l = t := ⟨_, rfl⟩
  obtain ⟨ln, hln⟩ : ∃ t, lastN base l = t := ⟨_, rfl⟩
  obtain ⟨b5, h5⟩ : ∃ b, keepB ro wi le ke x = b := ⟨_, rfl⟩
  have hF : Hid (hardB ro wi le ke te vo base bt l x = (b1 && b2 && b3 && decide (lt <= te) && b5)) := by show _ = _; rw [← h1, ← h2, ← h3, ← hlt, ← h5]; rfl
  have E0 : Hid (∀ W : World, Below w.heap.size w W -> Calls Tryz.prog 140 #[.agg #[.int .i64 base, .int .i64 bt, .slice A l.length cap]] W fun e w' => e = .returned (.tuple #[.int .i64 ln, .int .i64 lt]) /\ Below W.heap.size W w') := fun W g => by have h := implLast_any base bt A cap l (by omega) W (hA.below g); rw [hlt, hln] at h; exact h
  have E1 : Hid (∀ W : World, Calls Tryz.prog 141 #[.int .i64 te] W fun e w' => e = .returned (.bool b1) /\ w' = W) := fun W => h1 ▸ isIndex_any _ W
  have E2 : Hid (∀ W : World, Calls Tryz.prog 88 #[.int .i64 vo, .int .i64 (-1), .int .i64 4] W fun e w' => e = .returned (.bool b2) /\ w' = W) := fun W => h2 ▸ within_any _ _ _ W
  have E3 : Hid (∀ W : World, Below w.heap.size w W -> Calls Tryz.prog 142 #[.agg #[.int .i64 base, .int .i64 bt, .slice A l.length cap]] W fun e w' => e = .returned (.bool b3) /\ Below W.heap.size W w') := fun W g => h3 ▸ implLogOk_any base bt A cap l (by omega) hr W (hA.below g)
  have E5 : Hid (∀ W : World, Below w.heap.size w W -> Calls Tryz.prog 91 #[.agg #[.int .i64 ro, .int .i64 wi, .int .i64 le, .int .i64 ke], .agg #[.slice x.rA x.rs.length x.rc, .slice x.mA x.ms.length x.mc, .slice x.gA x.gs.length x.gc, .int .i64 x.time, .slice x.dA x.ds.length x.dc, .slice x.lA x.ls.length x.lc]] W fun e w' => e = .returned (.bool b5) /\ Below W.heap.size W w') := fun W g => h5 ▸ implKeepOk_any ro wi le ke x ha W (hX.below g)
  clear h1 h2 h3 hlt hln h5 hA hX ha hr hl
  have P0 : Blk ((w.alloc (.cells #[.int .i64 ro, .int .i64 wi, .int .i64 le, .int .i64 ke] 45)).alloc (.cells #[.int .i64 te, .int .i64 vo, .int .i64 base, .int .i64 bt, .slice A l.length cap, .slice x.rA x.rs.length x.rc, .slice x.mA x.ms.length x.mc, .slice x.gA x.gs.length x.gc, .int .i64 x.time, .slice x.dA x.ds.length x.dc, .slice x.lA x.ls.length x.lc] 57)) w.heap.size 45 #[.int .i64 ro, .int .i64 wi, .int .i64 le, .int .i64 ke] := (Blk.new w _ _).alloc _
  have P1 : Blk ((w.alloc (.cells #[.int .i64 ro, .int .i64 wi, .int .i64 le, .int .i64 ke] 45)).alloc (.cells #[.int .i64 te, .int .i64 vo, .int .i64 base, .int .i64 bt, .slice A l.length cap, .slice x.rA x.rs.length x.rc, .slice x.mA x.ms.length x.mc, .slice x.gA x.gs.length x.gc, .int .i64 x.time, .slice x.dA x.ds.length x.dc, .slice x.lA x.ls.length x.lc] 57)) (w.heap.size + 1) 57 #[.int .i64 te, .int .i64 vo, .int .i64 base, .int .i64 bt, .slice A l.length cap, .slice x.rA x.rs.length x.rc, .slice x.mA x.ms.length x.mc, .slice x.gA x.gs.length x.gc, .int .i64 x.time, .slice x.dA x.ds.length x.dc, .slice x.lA x.ls.length x.lc] := by have := Blk.new (w.alloc (.cells #[.int .i64 ro, .int .i64 wi, .int .i64 le, .int .i64 ke] 45)) 57 #[.int .i64 te, .int .i64 vo, .int .i64 base, .int .i64 bt, .slice A l.length cap, .slice x.rA x.rs.length x.rc, .slice x.mA x.ms.length x.mc, .slice x.gA x.gs.length x.gc, .int .i64 x.time, .slice x.dA x.ds.length x.dc, .slice x.lA x.ls.length x.lc]; rwa [World.size_alloc] at this
  have B0 : Below w.heap.size w ((w.alloc (.cells #[.int .i64 ro, .int .i64 wi, .int .i64 le, .int .i64 ke] 45)).alloc (.cells #[.int .i64 te, .int .i64 vo, .int .i64 base, .int .i64 bt, .slice A l.length cap, .slice x.rA x.rs.length x.rc, .slice x.mA x.ms.length x.mc, .slice x.gA x.gs.length x.gc, .int .i64 x.time, .slice x.dA x.ds.length x.dc, .slice x.lA x.ls.length x.lc] 57)) := by repeat (first | exact Below.refl _ _ | assumption | refine via0 (by assumption) ?_ | refine Below.drew ?_ | refine alloc0 ?_ _)
  have H0 := hidP (And.intro B0 (And.intro P0 P1))
  clear P0 P1 B0
  go_enter Tryz.func87, Tryz.ntmps87
  go_wp2_with fail
  refine (E0.out _ H0.out.1).mono ?_
  rintro e w1 ⟨rfl, g1⟩
  have B1 := via0 g1 H0.out.1
  have P0 := H0.out.2.1.below g1 H0.out.2.1.lt
  have P1 := H0.out.2.2.below g1 H0.out.2.2.lt
  clear H0 g1
  obtain ⟨a0, a1, a2, a3⟩ := P0.row4
  obtain ⟨u0, u1, u2, u3, u4, u5, u6, u7, u8, u9, u10⟩ := P1.row11
  have q0 := P0.lt
  have q1 := P1.lt
  cases b1
  . go_wp2_with fail
    refine (E1.out _).mono ?_
    rintro e w2 ⟨rfl, rfl⟩
    go_wp2
    go_ret
    exact ⟨by rw [hF.out]; rfl, B1⟩
  cases b2
  . go_wp2_with fail
    refine (E1.out _).mono ?_
    rintro e w2 ⟨rfl, rfl⟩
    go_wp2_with fail
    refine (E2.out _).mono ?_
    rintro e w2 ⟨rfl, rfl⟩
    go_wp2
    go_ret
    exact ⟨by rw [hF.out]; rfl, B1⟩
  go_wp2_with fail
  refine (E1.out _).mono ?_
  rintro e w2 ⟨rfl, rfl⟩
  go_wp2_with fail
  refine (E2.out _).mono ?_
  rintro e w2 ⟨rfl, rfl⟩
  go_wp2_with fail
  refine (E3.out _ B1).mono ?_
  rintro e w2 ⟨rfl, g2⟩
  have B2 := via0 g2 B1
  have P0' := P0.below g2 P0.lt
  have P1' := P1.below g2 P1.lt
  clear P0 P1 B1 g2 a0 a1 a2 a3 u0 u1 u2 u3 u4 u5 u6 u7 u8 u9 u10 q0 q1
  obtain ⟨a0, a1, a2, a3⟩ := P0'.row4
  obtain ⟨u0, u1, u2, u3, u4, u5, u6, u7, u8, u9, u10⟩ := P1'.row11
  have q0 := P0'.lt
  have q1 := P1'.lt
  cases b3
  . go_wp2
    go_ret
    exact ⟨by rw [hF.out]; rfl, B2⟩
  by_cases h4 : lt <= te
  . rw [decide_eq_true h4] at hF
    go_wp2_with fail
    refine (E5.out _ B2).mono ?_
    rintro e w3 ⟨rfl, g3⟩
    have B3 := via0 g3 B2
    cases b5
    all_goals
      go_wp2
      go_ret
      exact ⟨by rw [hF.out]; rfl, B3⟩
  . rw [decide_eq_false h4] at hF
    go_wp2
    go_ret
    exact ⟨by rw [hF.out]; rfl, B2⟩
end Go.Proofs.YtanihpmgoeadkaaGreat.Gen
