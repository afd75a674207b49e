/-
  Which Hards are right: by the specification and by the program, the same. No condition but the sizes of its lists and texts.
-/
import Derived.Test.YtaefjifcnoiplaaGreatHardV
import Derived.Test.YtaefjifcnoiplaaGreatKOk
import Derived.Test.YtaefjifcnoiplaaGreatAnsList
import Derived.Test.YtaefjifcnoiplaaGreatLGet
import Derived.Test.YtaefjifcnoiplaaGreatKeepV
import Derived.Test.YtaefjifcnoiplaaGreatGpList
namespace Go.Proofs.YtaefjifcnoiplaaGreat.Gen
open Go.ChangeShapes Go.WideShapes Go.ChangeAt Go.RowKit Go.Joins Go.Deep Base
set_option linter.unusedVariables false
set_option linter.unusedSimpArgs false
def hardB (ro wi le ke te vo base bt : Int) (l : List En) (x : KC) : Bool := inB te 0 300 && inB vo (-1) 4 && logB base bt l && decide (lastT bt l <= te) && keepB ro wi le ke x
set_option maxRecDepth 100000 in
set_option maxHeartbeats 4000000 in
theorem specHardOk_any (ro wi le ke te vo base bt : Int) (A : Option Addr) (cap : Nat) (l : List En) (hl : l.length <= 1048576) (hr : ∀ x ∈ l, x.fit) (x : KC) (ha : KAsk x) (w : World) (hA : At w A l) (hX : KAt w x) :
    Calls Tryz.prog 16 #[.agg #[.int .i64 ro, .int .i64 wi, .int .i64 le, .int .i64 ke], .agg #[.int .i64 te, .int .i64 vo, .int .i64 base, .int .i64 bt, .slice A l.length cap, .slice x.rA x.rs.length x.rc, .slice x.mA x.ms.length x.mc, .slice x.gA x.gs.length x.gc, .int .i64 x.time, .slice x.dA x.ds.length x.dc, .slice x.lA x.ls.length x.lc]] w fun e w' => e = .returned (.bool (hardB ro wi le ke te vo base bt l x)) /\ Below w.heap.size w w' := by
  obtain ⟨b1, h1⟩ : ∃ b, inB te 0 300 = b := ⟨_, rfl⟩
  obtain ⟨b2, h2⟩ : ∃ b, inB vo (-1) 4 = b := ⟨_, rfl⟩
  obtain ⟨b3, h3⟩ : ∃ b, logB base bt l = b := ⟨_, rfl⟩
  obtain ⟨lt, hlt⟩ : ∃ t, lastT bt l = t := ⟨_, rfl⟩
  obtain ⟨ln, hln⟩ : ∃ t, lastN base l = t := ⟨_, rfl⟩
  obtain ⟨b5, h5⟩ : ∃ b, keepB ro wi le ke x = b := ⟨_, rfl⟩
  have hF : Hid (hardB ro wi le ke te vo base bt l x = (b1 && b2 && b3 && decide (lt <= te) && b5)) := by show _ = _; rw [← h1, ← h2, ← h3, ← hlt, ← h5]; rfl
  have E0 : Hid (∀ W : World, Below w.heap.size w W -> Calls Tryz.prog 33 #[.agg #[.int .i64 base, .int .i64 bt, .slice A l.length cap]] W fun e w' => e = .returned (.tuple #[.int .i64 ln, .int .i64 lt]) /\ Below W.heap.size W w') := fun W g => by have h := specLast_any base bt A cap l (by omega) W (hA.below g); rw [hlt, hln] at h; exact h
  have E1 : Hid (∀ W : World, Calls Tryz.prog 34 #[.int .i64 te, .int .i64 0, .int .i64 300] W fun e w' => e = .returned (.bool b1) /\ w' = W) := fun W => h1 ▸ in_any _ _ _ W
  have E2 : Hid (∀ W : World, Calls Tryz.prog 34 #[.int .i64 vo, .int .i64 (-1), .int .i64 4] W fun e w' => e = .returned (.bool b2) /\ w' = W) := fun W => h2 ▸ in_any _ _ _ W
  have E3 : Hid (∀ W : World, Below w.heap.size w W -> Calls Tryz.prog 35 #[.agg #[.int .i64 base, .int .i64 bt, .slice A l.length cap]] W fun e w' => e = .returned (.bool b3) /\ Below W.heap.size W w') := fun W g => h3 ▸ specLogOk_any base bt A cap l (by omega) hr W (hA.below g)
  have E5 : Hid (∀ W : World, Below w.heap.size w W -> Calls Tryz.prog 36 #[.agg #[.int .i64 ro, .int .i64 wi, .int .i64 le, .int .i64 ke], .agg #[.slice x.rA x.rs.length x.rc, .slice x.mA x.ms.length x.mc, .slice x.gA x.gs.length x.gc, .int .i64 x.time, .slice x.dA x.ds.length x.dc, .slice x.lA x.ls.length x.lc]] W fun e w' => e = .returned (.bool b5) /\ Below W.heap.size W w') := fun W g => h5 ▸ specKeepOk_any ro wi le ke x ha W (hX.below g)
  clear h1 h2 h3 hlt hln h5 hA hX ha hr hl
  have P0 : Blk ((w.alloc (.cells #[.int .i64 ro, .int .i64 wi, .int .i64 le, .int .i64 ke] 39)).alloc (.cells #[.int .i64 te, .int .i64 vo, .int .i64 base, .int .i64 bt, .slice A l.length cap, .slice x.rA x.rs.length x.rc, .slice x.mA x.ms.length x.mc, .slice x.gA x.gs.length x.gc, .int .i64 x.time, .slice x.dA x.ds.length x.dc, .slice x.lA x.ls.length x.lc] 51)) w.heap.size 39 #[.int .i64 ro, .int .i64 wi, .int .i64 le, .int .i64 ke] := (Blk.new w _ _).alloc _
  have P1 : Blk ((w.alloc (.cells #[.int .i64 ro, .int .i64 wi, .int .i64 le, .int .i64 ke] 39)).alloc (.cells #[.int .i64 te, .int .i64 vo, .int .i64 base, .int .i64 bt, .slice A l.length cap, .slice x.rA x.rs.length x.rc, .slice x.mA x.ms.length x.mc, .slice x.gA x.gs.length x.gc, .int .i64 x.time, .slice x.dA x.ds.length x.dc, .slice x.lA x.ls.length x.lc] 51)) (w.heap.size + 1) 51 #[.int .i64 te, .int .i64 vo, .int .i64 base, .int .i64 bt, .slice A l.length cap, .slice x.rA x.rs.length x.rc, .slice x.mA x.ms.length x.mc, .slice x.gA x.gs.length x.gc, .int .i64 x.time, .slice x.dA x.ds.length x.dc, .slice x.lA x.ls.length x.lc] := by have := Blk.new (w.alloc (.cells #[.int .i64 ro, .int .i64 wi, .int .i64 le, .int .i64 ke] 39)) 51 #[.int .i64 te, .int .i64 vo, .int .i64 base, .int .i64 bt, .slice A l.length cap, .slice x.rA x.rs.length x.rc, .slice x.mA x.ms.length x.mc, .slice x.gA x.gs.length x.gc, .int .i64 x.time, .slice x.dA x.ds.length x.dc, .slice x.lA x.ls.length x.lc]; rwa [World.size_alloc] at this
  have B0 : Below w.heap.size w ((w.alloc (.cells #[.int .i64 ro, .int .i64 wi, .int .i64 le, .int .i64 ke] 39)).alloc (.cells #[.int .i64 te, .int .i64 vo, .int .i64 base, .int .i64 bt, .slice A l.length cap, .slice x.rA x.rs.length x.rc, .slice x.mA x.ms.length x.mc, .slice x.gA x.gs.length x.gc, .int .i64 x.time, .slice x.dA x.ds.length x.dc, .slice x.lA x.ls.length x.lc] 51)) := by repeat (first | exact Below.refl _ _ | assumption | refine via0 (by assumption) ?_ | refine Below.drew ?_ | refine alloc0 ?_ _)
  have H0 := hidP (And.intro B0 (And.intro P0 P1))
  clear P0 P1 B0
  go_enter Tryz.func16, Tryz.ntmps16
  go_wp2_with fail
  refine (E0.out _ H0.out.1).mono ?_
  rintro e w1 ⟨rfl, g1⟩
  have B1 := via0 g1 H0.out.1
  have P0 := H0.out.2.1.below g1 H0.out.2.1.lt
  have P1 := H0.out.2.2.below g1 H0.out.2.2.lt
  clear H0 g1
  obtain ⟨a0, a1, a2, a3⟩ := P0.row4
  obtain ⟨u0, u1, u2, u3, u4, u5, u6, u7, u8, u9, u10⟩ := P1.row11
  have q0 := P0.lt
  have q1 := P1.lt
  cases b1
  . go_wp2_with fail
    refine (E1.out _).mono ?_
    rintro e w2 ⟨rfl, rfl⟩
    go_wp2
    go_ret
    exact ⟨by rw [hF.out]; rfl, B1⟩
  cases b2
  . go_wp2_with fail
    refine (E1.out _).mono ?_
    rintro e w2 ⟨rfl, rfl⟩
    go_wp2_with fail
    refine (E2.out _).mono ?_
    rintro e w2 ⟨rfl, rfl⟩
    go_wp2
    go_ret
    exact ⟨by rw [hF.out]; rfl, B1⟩
  go_wp2_with fail
  refine (E1.out _).mono ?_
  rintro e w2 ⟨rfl, rfl⟩
  go_wp2_with fail
  refine (E2.out _).mono ?_
  rintro e w2 ⟨rfl, rfl⟩
  go_wp2_with fail
  refine (E3.out _ B1).mono ?_
  rintro e w2 ⟨rfl, g2⟩
  have B2 := via0 g2 B1
  have P0' := P0.below g2 P0.lt
  have P1' := P1.below g2 P1.lt
  clear P0 P1 B1 g2 a0 a1 a2 a3 u0 u1 u2 u3 u4 u5 u6 u7 u8 u9 u10 q0 q1
  obtain ⟨a0, a1, a2, a3⟩ := P0'.row4
  obtain ⟨u0, u1, u2, u3, u4, u5, u6, u7, u8, u9, u10⟩ := P1'.row11
  have q0 := P0'.lt
  have q1 := P1'.lt
  cases b3
  . go_wp2
    go_ret
    exact ⟨by rw [hF.out]; rfl, B2⟩
  by_cases h4 : lt <= te
  . rw [decide_eq_true h4] at hF
    go_wp2_with fail
    refine (E5.out _ B2).mono ?_
    rintro e w3 ⟨rfl, g3⟩
    have B3 := via0 g3 B2
    cases b5
    all_goals
      go_wp2
      go_ret
      exact ⟨by rw [hF.out]; rfl, B3⟩
  . rw [decide_eq_false h4] at hF
    go_wp2
    go_ret
    exact ⟨by rw [hF.out]; rfl, B2⟩
set_option maxRecDepth 100000 in
set_option maxHeartbeats 4000000 in
theorem implHardOk_any (ro wi le ke te vo base bt : Int) (A : Option Addr) (cap : Nat) (l : List En) (hl : l.length <= 1048576) (hr : ∀ x ∈ l, x.fit) (x : KC) (ha : KAsk x) (w : World) (hA : At w A l) (hX : KAt w x) :
    Calls Tryz.prog 20 #[.agg #[.int .i64 ro, .int .i64 wi, .int .i64 le, .int .i64 ke], .agg #[.int .i64 te, .int .i64 vo, .int .i64 base, .int .i64 bt, .slice A l.length cap, .slice x.rA x.rs.length x.rc, .slice x.mA x.ms.length x.mc, .slice x.gA x.gs.length x.gc, .int .i64 x.time, .slice x.dA x.ds.length x.dc, .slice x.lA x.ls.length x.lc]] w fun e w' => e = .returned (.bool (hardB ro wi le ke te vo base bt l x)) /\ Below w.heap.size w w' := by
  obtain ⟨b1, h1⟩ : ∃ b, inB te 0 300 = b := ⟨_, rfl⟩
  obtain ⟨b2, h2⟩ : ∃ b, inB vo (-1) 4 = b := ⟨_, rfl⟩
  obtain ⟨b3, h3⟩ : ∃ b, logB base bt l = b := ⟨_, rfl⟩
  obtain ⟨lt, hlt⟩ : ∃ t, lastT bt l = t := ⟨_, rfl⟩
  obtain ⟨ln, hln⟩ : ∃ t, lastN base l = t := ⟨_, rfl⟩
  obtain ⟨b5, h5⟩ : ∃ b, keepB ro wi le ke x = b := ⟨_, rfl⟩
  have hF : Hid (hardB ro wi le ke te vo base bt l x = (b1 && b2 && b3 && decide (lt <= te) && b5)) := by show _ = _; rw [← h1, ← h2, ← h3, ← hlt, ← h5]; rfl
  have E0 : Hid (∀ W : World, Below w.heap.size w W -> Calls Tryz.prog 46 #[.agg #[.int .i64 base, .int .i64 bt, .slice A l.length cap]] W fun e w' => e = .returned (.tuple #[.int .i64 ln, .int .i64 lt]) /\ Below W.heap.size W w') := fun W g => by have h := implLast_any base bt A cap l (by omega) W (hA.below g); rw [hlt, hln] at h; exact h
  have E1 : Hid (∀ W : World, Calls Tryz.prog 47 #[.int .i64 te] W fun e w' => e = .returned (.bool b1) /\ w' = W) := fun W => h1 ▸ isIndex_any _ W
  have E2 : Hid (∀ W : World, Calls Tryz.prog 48 #[.int .i64 vo, .int .i64 (-1), .int .i64 4] W fun e w' => e = .returned (.bool b2) /\ w' = W) := fun W => h2 ▸ within_any _ _ _ W
  have E3 : Hid (∀ W : World, Below w.heap.size w W -> Calls Tryz.prog 49 #[.agg #[.int .i64 base, .int .i64 bt, .slice A l.length cap]] W fun e w' => e = .returned (.bool b3) /\ Below W.heap.size W w') := fun W g => h3 ▸ implLogOk_any base bt A cap l (by omega) hr W (hA.below g)
  have E5 : Hid (∀ W : World, Below w.heap.size w W -> Calls Tryz.prog 50 #[.agg #[.int .i64 ro, .int .i64 wi, .int .i64 le, .int .i64 ke], .agg #[.slice x.rA x.rs.length x.rc, .slice x.mA x.ms.length x.mc, .slice x.gA x.gs.length x.gc, .int .i64 x.time, .slice x.dA x.ds.length x.dc, .slice x.lA x.ls.length x.lc]] W fun e w' => e = .returned (.bool b5) /\ Below W.heap.size W w') := fun W g => h5 ▸ implKeepOk_any ro wi le ke x ha W (hX.below g)
  clear h1 h2 h3 hlt hln h5 hA hX ha hr hl
  have P0 : Blk ((w.alloc (.cells #[.int .i64 ro, .int .i64 wi, .int .i64 le, .int .i64 ke] 39)).alloc (.cells #[.int .i64 te, .int .i64 vo, .int .i64 base, .int .i64 bt, .slice A l.length cap, .slice x.rA x.rs.length x.rc, .slice x.mA x.ms.length x.mc, .slice x.gA x.gs.length x.gc, .int .i64 x.time, .slice x.dA x.ds.length x.dc, .slice x.lA x.ls.length x.lc] 51)) w.heap.size 39 #[.int .i64 ro, .int .i64 wi, .int .i64 le, .int .i64 ke] := (Blk.new w _ _).alloc _
  have P1 : Blk ((w.alloc (.cells #[.int .i64 ro, .int .i64 wi, .int .i64 le, .int .i64 ke] 39)).alloc (.cells #[.int .i64 te, .int .i64 vo, .int .i64 base, .int .i64 bt, .slice A l.length cap, .slice x.rA x.rs.length x.rc, .slice x.mA x.ms.length x.mc, .slice x.gA x.gs.length x.gc, .int .i64 x.time, .slice x.dA x.ds.length x.dc, .slice x.lA x.ls.length x.lc] 51)) (w.heap.size + 1) 51 #[.int .i64 te, .int .i64 vo, .int .i64 base, .int .i64 bt, .slice A l.length cap, .slice x.rA x.rs.length x.rc, .slice x.mA x.ms.length x.mc, .slice x.gA x.gs.length x.gc, .int .i64 x.time, .slice x.dA x.ds.length x.dc, .slice x.lA x.ls.length x.lc] := by have := Blk.new (w.alloc (.cells #[.int .i64 ro, .int .i64 wi, .int .i64 le, .int .i64 ke] 39)) 51 #[.int .i64 te, .int .i64 vo, .int .i64 base, .int .i64 bt, .slice A l.length cap, .slice x.rA x.rs.length x.rc, .slice x.mA x.ms.length x.mc, .slice x.gA x.gs.length x.gc, .int .i64 x.time, .slice x.dA x.ds.length x.dc, .slice x.lA x.ls.length x.lc]; rwa [World.size_alloc] at this
  have B0 : Below w.heap.size w ((w.alloc (.cells #[.int .i64 ro, .int .i64 wi, .int .i64 le, .int .i64 ke] 39)).alloc (.cells #[.int .i64 te, .int .i64 vo, .int .i64 base, .int .i64 bt, .slice A l.length cap, .slice x.rA x.rs.length x.rc, .slice x.mA x.ms.length x.mc, .slice x.gA x.gs.length x.gc, .int .i64 x.time, .slice x.dA x.ds.length x.dc, .slice x.lA x.ls.length x.lc] 51)) := by repeat (first | exact Below.refl _ _ | assumption | refine via0 (by assumption) ?_ | refine Below.drew ?_ | refine alloc0 ?_ _)
  have H0 := hidP (And.intro B0 (And.intro P0 P1))
  clear P0 P1 B0
  go_enter Tryz.func20, Tryz.ntmps20
  go_wp2_with fail
  refine (E0.out _ H0.out.1).mono ?_
  rintro e w1 ⟨rfl, g1⟩
  have B1 := via0 g1 H0.out.1
  have P0 := H0.out.2.1.below g1 H0.out.2.1.lt
  have P1 := H0.out.2.2.below g1 H0.out.2.2.lt
  clear H0 g1
  obtain ⟨a0, a1, a2, a3⟩ := P0.row4
  obtain ⟨u0, u1, u2, u3, u4, u5, u6, u7, u8, u9, u10⟩ := P1.row11
  have q0 := P0.lt
  have q1 := P1.lt
  cases b1
  . go_wp2_with fail
    refine (E1.out _).mono ?_
    rintro e w2 ⟨rfl, rfl⟩
    go_wp2
    go_ret
    exact ⟨by rw [hF.out]; rfl, B1⟩
  cases b2
  . go_wp2_with fail
    refine (E1.out _).mono ?_
    rintro e w2 ⟨rfl, rfl⟩
    go_wp2_with fail
    refine (E2.out _).mono ?_
    rintro e w2 ⟨rfl, rfl⟩
    go_wp2
    go_ret
    exact ⟨by rw [hF.out]; rfl, B1⟩
  go_wp2_with fail
  refine (E1.out _).mono ?_
  rintro e w2 ⟨rfl, rfl⟩
  go_wp2_with fail
  refine (E2.out _).mono ?_
  rintro e w2 ⟨rfl, rfl⟩
  go_wp2_with fail
  refine (E3.out _ B1).mono ?_
  rintro e w2 ⟨rfl, g2⟩
  have B2 := via0 g2 B1
  have P0' := P0.below g2 P0.lt
  have P1' := P1.below g2 P1.lt
  clear P0 P1 B1 g2 a0 a1 a2 a3 u0 u1 u2 u3 u4 u5 u6 u7 u8 u9 u10 q0 q1
  obtain ⟨a0, a1, a2, a3⟩ := P0'.row4
  obtain ⟨u0, u1, u2, u3, u4, u5, u6, u7, u8, u9, u10⟩ := P1'.row11
  have q0 := P0'.lt
  have q1 := P1'.lt
  cases b3
  . go_wp2
    go_ret
    exact ⟨by rw [hF.out]; rfl, B2⟩
  by_cases h4 : lt <= te
  . rw [decide_eq_true h4] at hF
    go_wp2_with fail
    refine (E5.out _ B2).mono ?_
    rintro e w3 ⟨rfl, g3⟩
    have B3 := via0 g3 B2
    cases b5
    all_goals
      go_wp2
      go_ret
      exact ⟨by rw [hF.out]; rfl, B3⟩
  . rw [decide_eq_false h4] at hF
    go_wp2
    go_ret
    exact ⟨by rw [hF.out]; rfl, B2⟩
end Go.Proofs.YtaefjifcnoiplaaGreat.Gen

/-
  A keeper that a law is handed: its size told, made anew in memory of its own, and opened. No condition but the length that every list and text has.
-/
namespace Go.Proofs.YtaefjifcnoiplaaGreat.Gen
open Go.ChangeShapes Go.WideShapes Go.ChangeAt Go.RowKit Go.Joins Go.Deep Base
set_option linter.unusedVariables false
set_option linter.unusedSimpArgs false
structure KRight (x : KC) : Prop where
  rl : x.rs.length <= 9223372036854775807
  ml : x.ms.length <= 9223372036854775807
  gl : x.gs.length <= 9223372036854775807
  dl : x.ds.length <= 9223372036854775807
  ll : x.ls.length <= 9223372036854775807
  rr : ∀ y ∈ x.rs, y.right
  mr : ∀ y ∈ x.ms, y.right
  gr : ∀ y ∈ x.gs, y.right
  dr : ∀ y ∈ x.ds, I64 y
  lr : ∀ y ∈ x.ls, y.right
  t : I64 x.time
theorem count_lin {α : Type} (c s : α -> Nat) (p q : Nat) : ∀ (l : List α), (∀ y ∈ l, c y <= p + q * s y) -> count c l <= p * l.length + q * count s l
  | [], _ => by simp [count]
  | a :: l, h => by
    have h1 := count_lin c s p q l (fun y hy => h y (by simp [hy]))
    have h2 := h a (by simp)
    simp only [count, List.map_cons, List.sum_cons, List.length_cons, Nat.mul_add] at h1 ⊢
    omega
theorem fit_of {x : KC} (h : x.rs.length + count szRC x.rs + szM x.ms + x.gs.length + count szGC x.gs + x.ds.length + x.ls.length + count szAn x.ls <= 1048576) : KFit x := by
  have hm : szM x.ms = x.ms.length + count (fun y : MC => y.ms.length) x.ms := rfl
  have c1 := count_lin cR szRC 2 5 x.rs (fun y _ => by simp only [cR, szRC]; omega)
  have c2 := count_lin cM (fun y : MC => y.ms.length) 4 2 x.ms (fun y _ => by simp only [cM]; omega)
  have c3 := count_lin cG szGC 1 1 x.gs (fun y _ => by simp only [cG, szGC]; omega)
  refine ⟨by omega, by omega, by omega, by omega, by omega, fun y hy => ?_, fun y hy => ?_, fun y hy => ?_, by omega, by omega, by omega⟩
  . have h9 := count_mem szRC x.rs y hy; simp only [szRC] at h9; omega
  . have h9 : y.ms.length <= count (fun y : MC => y.ms.length) x.ms := count_mem (fun y : MC => y.ms.length) x.ms y hy; omega
  . have h9 := count_mem szGC x.gs y hy; simp only [szGC] at h9; omega
set_option maxRecDepth 100000 in
set_option maxHeartbeats 1000000 in
theorem szKeep_at (x : KC) (hr : KRight x) (left : Int) (k0 : 0 <= left) (k1 : left <= 1048576) (w : World) (hx : KAt w x) :
    Calls Tryz.prog 15 #[.agg #[.slice x.rA x.rs.length x.rc, .slice x.mA x.ms.length x.mc, .slice x.gA x.gs.length x.gc, .int .i64 x.time, .slice x.dA x.ds.length x.dc, .slice x.lA x.ls.length x.lc], .int .i64 left] w fun e w' => (∃ r : Int, e = .returned (.int .i64 r) /\ (r < 0 ∨ (0 <= r /\ r <= left /\ KFit x))) /\ Below w.heap.size w w' := by
  have HX := hidP hx
  have Hr := hidP hr
  clear hx hr
  have p0 : Blk (w.alloc (.cells #[.slice x.rA x.rs.length x.rc, .slice x.mA x.ms.length x.mc, .slice x.gA x.gs.length x.gc, .int .i64 x.time, .slice x.dA x.ds.length x.dc, .slice x.lA x.ls.length x.lc] 33)) w.heap.size 33 #[.slice x.rA x.rs.length x.rc, .slice x.mA x.ms.length x.mc, .slice x.gA x.gs.length x.gc, .int .i64 x.time, .slice x.dA x.ds.length x.dc, .slice x.lA x.ls.length x.lc] := Blk.new w _ _
  have B0 : Below w.heap.size w (w.alloc (.cells #[.slice x.rA x.rs.length x.rc, .slice x.mA x.ms.length x.mc, .slice x.gA x.gs.length x.gc, .int .i64 x.time, .slice x.dA x.ds.length x.dc, .slice x.lA x.ls.length x.lc] 33)) := alloc0 (Below.refl _ _) _
  go_enter Tryz.func15, Tryz.ntmps15
  go_wp2_with fail
  refine (szRowS_any _ _ x.rs Hr.out.rl Hr.out.rr left k0 k1 _ (HX.out.below B0).ra (HX.out.below B0).re).mono ?_
  rintro e w1 ⟨⟨z1, rfl, hz⟩, g⟩
  have p1 := p0.below g p0.lt
  have B1 := via0 g B0
  clear p0 B0 g
  obtain ⟨u0, u1, u2, u3, u4, u5⟩ := p1.row6
  rcases hz with hz | ⟨hz, hz1⟩
  . go_wp2
    go_ret
    exact ⟨⟨-1, rfl, .inl (by omega)⟩, B1⟩
  have n1 : ¬ z1 < 0 := by omega
  have Hz1 := hidP hz1
  have b1 : z1 <= 1048576 := by omega
  clear hz1
  go_wp2_with fail
  refine (szMakerS_any _ _ x.ms Hr.out.ml (fun y hy => (Hr.out.mr y hy).2.2.2.2.1) z1 hz b1 _ (HX.out.below B1).ma).mono ?_
  rintro e w2 ⟨⟨z2, rfl, hz⟩, g⟩
  have p2 := p1.below g p1.lt
  have B2 := via0 g B1
  clear p1 B1 g u0 u1 u2 u3 u4 u5
  obtain ⟨u0, u1, u2, u3, u4, u5⟩ := p2.row6
  rcases hz with hz | ⟨hz, hz2⟩
  . go_wp2
    go_ret
    exact ⟨⟨-1, rfl, .inl (by omega)⟩, B2⟩
  have n2 : ¬ z2 < 0 := by omega
  have Hz2 := hidP hz2
  have b2 : z2 <= 1048576 := by omega
  clear hz2 n1 b1
  go_wp2_with fail
  refine (szGroupS_any _ _ x.gs Hr.out.gl Hr.out.gr z2 hz b2 _ (HX.out.below B2).ga (HX.out.below B2).ge).mono ?_
  rintro e w3 ⟨⟨z3, rfl, hz⟩, g⟩
  have p3 := p2.below g p2.lt
  have B3 := via0 g B2
  clear p2 B2 g u0 u1 u2 u3 u4 u5
  obtain ⟨u0, u1, u2, u3, u4, u5⟩ := p3.row6
  rcases hz with hz | ⟨hz, hz3⟩
  . go_wp2
    go_ret
    exact ⟨⟨-1, rfl, .inl (by omega)⟩, B3⟩
  have n3 : ¬ z3 < 0 := by omega
  have Hz3 := hidP hz3
  have b3 : z3 <= 1048576 := by omega
  clear hz3 n2 b2
  obtain ⟨z4, hz4⟩ : ∃ z : Int, z = (if z3 < (x.ds.length : Int) then -1 else z3 - (x.ds.length : Int)) := ⟨_, rfl⟩
  have S4 : Hid (∀ W : World, Calls Tryz.prog 31 #[.slice x.dA x.ds.length x.dc, .int .i64 z3] W fun e w' => e = .returned (.int .i64 z4) /\ w' = W) := fun W => by
    refine (szInt_any x.dA x.ds.length x.dc Hr.out.dl z3 hz b3 W).mono ?_
    rw [← hz4]
    exact fun e w' h => h
  have Hz4 := hidP hz4
  clear hz4
  go_wp2_with fail
  refine (S4.out _).mono ?_
  rintro e w4 ⟨rfl, rfl⟩
  by_cases k4 : z4 < 0
  . go_wp2
    go_ret
    exact ⟨⟨-1, rfl, .inl (by omega)⟩, B3⟩
  have e4 : Hid (z4 = z3 - (x.ds.length : Int)) := by
    have h := Hz4.out
    split at h
    . omega
    . exact h
  have b4 : z4 <= 1048576 := by have := e4.out; omega
  clear Hz4 n3 b3
  go_wp2_with fail
  refine (szAnswerS_any _ _ x.ls Hr.out.ll (fun y hy => (Hr.out.lr y hy).2.2) z4 (by omega) b4 _ (HX.out.below B3).la).mono ?_
  rintro e w5 ⟨⟨z5, rfl, hz⟩, g⟩
  have B5 := via0 g B3
  clear p3 B3 g u0 u1 u2 u3 u4 u5
  rcases hz with hz | ⟨hz, hz5⟩
  . go_wp2
    go_ret
    exact ⟨⟨-1, rfl, .inl (by omega)⟩, B5⟩
  have n5 : ¬ z5 < 0 := by omega
  have Hz5 := hidP hz5
  clear hz5
  go_wp2
  go_ret
  have hle : z5 <= left := by
    have h1 := Hz1.out
    have h2 := Hz2.out
    have h3 := Hz3.out
    have h4 := e4.out
    have h5 := Hz5.out
    omega
  refine ⟨⟨z5, rfl, .inr ⟨hz, hle, fit_of ?_⟩⟩, B5⟩
  have h1 := Hz1.out
  have h2 := Hz2.out
  have h3 := Hz3.out
  have h4 := e4.out
  have h5 := Hz5.out
  omega
def NewK (w w' : World) (e : Ending) (c : PK) : Prop := ∃ y : KC, e = .returned (.agg y.cells) /\ y.p = c /\ KOwn w' y (fun b => w.heap.size <= b /\ b < w'.heap.size) /\ Below w.heap.size w w'
set_option maxRecDepth 100000 in
set_option maxHeartbeats 2000000 in
theorem toKeep_any (x : KC) (hf : KFit x) (w : World) (hx : KAt w x) :
    Calls Tryz.prog 19 #[.agg #[.slice x.rA x.rs.length x.rc, .slice x.mA x.ms.length x.mc, .slice x.gA x.gs.length x.gc, .int .i64 x.time, .slice x.dA x.ds.length x.dc, .slice x.lA x.ls.length x.lc]] w fun e w' => NewK w w' e x.p := by
  have HX := hidP hx
  have Hf := hidP hf
  clear hx hf
  have B : Below w.heap.size w (((w.alloc (.cells #[.slice x.rA x.rs.length x.rc, .slice x.mA x.ms.length x.mc, .slice x.gA x.gs.length x.gc, .int .i64 x.time, .slice x.dA x.ds.length x.dc, .slice x.lA x.ls.length x.lc] 33)).alloc (.cells #[.slice none 0 0, .slice none 0 0, .slice none 0 0, .int .i64 0, .slice none 0 0, .slice none 0 0] 49)).alloc (.cells #[.slice none 0 0, .slice none 0 0, .slice none 0 0, .int .i64 0, .slice none 0 0, .slice none 0 0] 49)) := by repeat (first | exact Below.refl _ _ | assumption | refine via0 (by assumption) ?_ | refine Below.drew ?_ | refine alloc0 ?_ _)
  have P1 : Blk (((w.alloc (.cells #[.slice x.rA x.rs.length x.rc, .slice x.mA x.ms.length x.mc, .slice x.gA x.gs.length x.gc, .int .i64 x.time, .slice x.dA x.ds.length x.dc, .slice x.lA x.ls.length x.lc] 33)).alloc (.cells #[.slice none 0 0, .slice none 0 0, .slice none 0 0, .int .i64 0, .slice none 0 0, .slice none 0 0] 49)).alloc (.cells #[.slice none 0 0, .slice none 0 0, .slice none 0 0, .int .i64 0, .slice none 0 0, .slice none 0 0] 49)) w.heap.size 33 #[.slice x.rA x.rs.length x.rc, .slice x.mA x.ms.length x.mc, .slice x.gA x.gs.length x.gc, .int .i64 x.time, .slice x.dA x.ds.length x.dc, .slice x.lA x.ls.length x.lc] := ((Blk.new w _ _).alloc _).alloc _
  have P2 : Blk (((w.alloc (.cells #[.slice x.rA x.rs.length x.rc, .slice x.mA x.ms.length x.mc, .slice x.gA x.gs.length x.gc, .int .i64 x.time, .slice x.dA x.ds.length x.dc, .slice x.lA x.ls.length x.lc] 33)).alloc (.cells #[.slice none 0 0, .slice none 0 0, .slice none 0 0, .int .i64 0, .slice none 0 0, .slice none 0 0] 49)).alloc (.cells #[.slice none 0 0, .slice none 0 0, .slice none 0 0, .int .i64 0, .slice none 0 0, .slice none 0 0] 49)) (w.heap.size + 1) 49 #[.slice none 0 0, .slice none 0 0, .slice none 0 0, .int .i64 0, .slice none 0 0, .slice none 0 0] := by have := (Blk.new (w.alloc (.cells #[.slice x.rA x.rs.length x.rc, .slice x.mA x.ms.length x.mc, .slice x.gA x.gs.length x.gc, .int .i64 x.time, .slice x.dA x.ds.length x.dc, .slice x.lA x.ls.length x.lc] 33)) 49 #[.slice none 0 0, .slice none 0 0, .slice none 0 0, .int .i64 0, .slice none 0 0, .slice none 0 0]).alloc (.cells #[.slice none 0 0, .slice none 0 0, .slice none 0 0, .int .i64 0, .slice none 0 0, .slice none 0 0] 49); rwa [World.size_alloc] at this
  have P3 : Blk (((w.alloc (.cells #[.slice x.rA x.rs.length x.rc, .slice x.mA x.ms.length x.mc, .slice x.gA x.gs.length x.gc, .int .i64 x.time, .slice x.dA x.ds.length x.dc, .slice x.lA x.ls.length x.lc] 33)).alloc (.cells #[.slice none 0 0, .slice none 0 0, .slice none 0 0, .int .i64 0, .slice none 0 0, .slice none 0 0] 49)).alloc (.cells #[.slice none 0 0, .slice none 0 0, .slice none 0 0, .int .i64 0, .slice none 0 0, .slice none 0 0] 49)) (w.heap.size + 1 + 1) 49 #[.slice none 0 0, .slice none 0 0, .slice none 0 0, .int .i64 0, .slice none 0 0, .slice none 0 0] := by have := Blk.new ((w.alloc (.cells #[.slice x.rA x.rs.length x.rc, .slice x.mA x.ms.length x.mc, .slice x.gA x.gs.length x.gc, .int .i64 x.time, .slice x.dA x.ds.length x.dc, .slice x.lA x.ls.length x.lc] 33)).alloc (.cells #[.slice none 0 0, .slice none 0 0, .slice none 0 0, .int .i64 0, .slice none 0 0, .slice none 0 0] 49)) 49 #[.slice none 0 0, .slice none 0 0, .slice none 0 0, .int .i64 0, .slice none 0 0, .slice none 0 0]; rwa [World.size_alloc, World.size_alloc] at this
  have z0 : w.heap.size + 1 + 1 < (((w.alloc (.cells #[.slice x.rA x.rs.length x.rc, .slice x.mA x.ms.length x.mc, .slice x.gA x.gs.length x.gc, .int .i64 x.time, .slice x.dA x.ds.length x.dc, .slice x.lA x.ls.length x.lc] 33)).alloc (.cells #[.slice none 0 0, .slice none 0 0, .slice none 0 0, .int .i64 0, .slice none 0 0, .slice none 0 0] 49)).alloc (.cells #[.slice none 0 0, .slice none 0 0, .slice none 0 0, .int .i64 0, .slice none 0 0, .slice none 0 0] 49)).heap.size := P3.lt
  go_enter Tryz.func19, Tryz.ntmps19
  obtain ⟨s0, hs0⟩ : ∃ s, (((w.alloc (.cells #[.slice x.rA x.rs.length x.rc, .slice x.mA x.ms.length x.mc, .slice x.gA x.gs.length x.gc, .int .i64 x.time, .slice x.dA x.ds.length x.dc, .slice x.lA x.ls.length x.lc] 33)).alloc (.cells #[.slice none 0 0, .slice none 0 0, .slice none 0 0, .int .i64 0, .slice none 0 0, .slice none 0 0] 49)).alloc (.cells #[.slice none 0 0, .slice none 0 0, .slice none 0 0, .int .i64 0, .slice none 0 0, .slice none 0 0] 49)).heap.size = s := ⟨_, rfl⟩
  have C : Hid (Calls Tryz.prog 41 #[.slice x.rA x.rs.length x.rc] (((w.alloc (.cells #[.slice x.rA x.rs.length x.rc, .slice x.mA x.ms.length x.mc, .slice x.gA x.gs.length x.gc, .int .i64 x.time, .slice x.dA x.ds.length x.dc, .slice x.lA x.ls.length x.lc] 33)).alloc (.cells #[.slice none 0 0, .slice none 0 0, .slice none 0 0, .int .i64 0, .slice none 0 0, .slice none 0 0] 49)).alloc (.cells #[.slice none 0 0, .slice none 0 0, .slice none 0 0, .int .i64 0, .slice none 0 0, .slice none 0 0] 49)) fun e w' => e = .returned (.slice (some ⟨s0, 0, none⟩) x.rs.length x.rs.length) /\ Below s0 (((w.alloc (.cells #[.slice x.rA x.rs.length x.rc, .slice x.mA x.ms.length x.mc, .slice x.gA x.gs.length x.gc, .int .i64 x.time, .slice x.dA x.ds.length x.dc, .slice x.lA x.ls.length x.lc] 33)).alloc (.cells #[.slice none 0 0, .slice none 0 0, .slice none 0 0, .int .i64 0, .slice none 0 0, .slice none 0 0] 49)).alloc (.cells #[.slice none 0 0, .slice none 0 0, .slice none 0 0, .int .i64 0, .slice none 0 0, .slice none 0 0] 49)) w' /\ ∃ l' : List RC, Grow rowP w' s0 x.rs.length l' /\ l'.map RC.p = x.rs.map RC.p) := by
    have h := toRowS_any x.rA x.rc x.rs Hf.out.rl Hf.out.ri (((w.alloc (.cells #[.slice x.rA x.rs.length x.rc, .slice x.mA x.ms.length x.mc, .slice x.gA x.gs.length x.gc, .int .i64 x.time, .slice x.dA x.ds.length x.dc, .slice x.lA x.ls.length x.lc] 33)).alloc (.cells #[.slice none 0 0, .slice none 0 0, .slice none 0 0, .int .i64 0, .slice none 0 0, .slice none 0 0] 49)).alloc (.cells #[.slice none 0 0, .slice none 0 0, .slice none 0 0, .int .i64 0, .slice none 0 0, .slice none 0 0] 49)) (HX.out.below B).ra (HX.out.below B).re
    rw [hs0] at h
    exact h
  go_wp2_with fail
  refine C.out.mono ?_
  rintro e w1 ⟨rfl, g, l1, Gr, hp1⟩
  rw [← hs0] at g
  replace B := via0 g B
  replace P1 := P1.below g P1.lt
  replace P2 := P2.below g P2.lt
  replace P3 := P3.below g P3.lt
  have zz1 := g.size
  have O1 := Gr.own
  clear C g
  obtain ⟨u0, u1, u2, u3, u4, u5⟩ := P1.row6
  obtain ⟨v0, v1, v2, v3, v4, v5⟩ := P3.row6
  have q1 := P1.lt
  have q3 := P3.lt
  have f0 := P3.thaw 0
  have f1 := P3.thaw 1
  have f2 := P3.thaw 2
  have f3 := P3.thaw 3
  have f4 := P3.thaw 4
  have f5 := P3.thaw 5
  have kk : Offp (fun b => b = w.heap.size + 1 + 1) w1 (w1.setCell ⟨w.heap.size + 1 + 1, 0, none⟩ (.slice (some ⟨s0, 0, none⟩) x.rs.length x.rs.length)) := Offp.of_only ((Only.refl _ _).set _ _)
  replace B := B.trans (kk.toBelow (B := w.heap.size) (fun b hb => by omega) B.size)
  replace P1 := P1.offp kk (by omega)
  replace P2 := P2.offp kk (by omega)
  replace P3 : Blk (w1.setCell ⟨w.heap.size + 1 + 1, 0, none⟩ (.slice (some ⟨s0, 0, none⟩) x.rs.length x.rs.length)) (w.heap.size + 1 + 1) 49 #[.slice (some ⟨s0, 0, none⟩) x.rs.length x.rs.length, .slice none 0 0, .slice none 0 0, .int .i64 0, .slice none 0 0, .slice none 0 0] := P3.setAt 0 _
  replace O1 := O1.offp rowP_firm kk (fun b hb => by omega)
  clear kk
  have sz1 : (w1.setCell ⟨w.heap.size + 1 + 1, 0, none⟩ (.slice (some ⟨s0, 0, none⟩) x.rs.length x.rs.length)).heap.size = w1.heap.size := by simp
  obtain ⟨s1, hs1⟩ : ∃ s, (w1.setCell ⟨w.heap.size + 1 + 1, 0, none⟩ (.slice (some ⟨s0, 0, none⟩) x.rs.length x.rs.length)).heap.size = s := ⟨_, rfl⟩
  have C : Hid (Calls Tryz.prog 42 #[.slice x.mA x.ms.length x.mc] (w1.setCell ⟨w.heap.size + 1 + 1, 0, none⟩ (.slice (some ⟨s0, 0, none⟩) x.rs.length x.rs.length)) fun e w' => e = .returned (.slice (some ⟨s1, 0, none⟩) x.ms.length x.ms.length) /\ Below s1 (w1.setCell ⟨w.heap.size + 1 + 1, 0, none⟩ (.slice (some ⟨s0, 0, none⟩) x.rs.length x.rs.length)) w' /\ ∃ l' : List MC, Grow makP w' s1 x.ms.length l' /\ l'.map MC.p = x.ms.map MC.p) := by
    have h := toMakerS_grow x.mA x.mc x.ms Hf.out.ml Hf.out.mi (w1.setCell ⟨w.heap.size + 1 + 1, 0, none⟩ (.slice (some ⟨s0, 0, none⟩) x.rs.length x.rs.length)) (HX.out.below B).ma (HX.out.below B).me
    rw [hs1] at h
    exact h
  go_wp2_with fail
  clear u0 u1 u2 u3 u4 u5 v0 v1 v2 v3 v4 v5 q1 q3 f0 f1 f2 f3 f4 f5
  refine C.out.mono ?_
  rintro e w2 ⟨rfl, g, l2, Gr, hp2⟩
  rw [← hs1] at g
  replace B := via0 g B
  replace P1 := P1.below g P1.lt
  replace P2 := P2.below g P2.lt
  replace P3 := P3.below g P3.lt
  replace O1 := O1.below rowP_firm g
  have zz2 := g.size
  have O2 := Gr.own
  clear C g
  obtain ⟨u0, u1, u2, u3, u4, u5⟩ := P1.row6
  obtain ⟨v0, v1, v2, v3, v4, v5⟩ := P3.row6
  have q1 := P1.lt
  have q3 := P3.lt
  have f0 := P3.thaw 0
  have f1 := P3.thaw 1
  have f2 := P3.thaw 2
  have f3 := P3.thaw 3
  have f4 := P3.thaw 4
  have f5 := P3.thaw 5
  have kk : Offp (fun b => b = w.heap.size + 1 + 1) w2 (w2.setCell ⟨w.heap.size + 1 + 1, 1, none⟩ (.slice (some ⟨s1, 0, none⟩) x.ms.length x.ms.length)) := Offp.of_only ((Only.refl _ _).set _ _)
  replace B := B.trans (kk.toBelow (B := w.heap.size) (fun b hb => by omega) B.size)
  replace P1 := P1.offp kk (by omega)
  replace P2 := P2.offp kk (by omega)
  replace P3 : Blk (w2.setCell ⟨w.heap.size + 1 + 1, 1, none⟩ (.slice (some ⟨s1, 0, none⟩) x.ms.length x.ms.length)) (w.heap.size + 1 + 1) 49 #[.slice (some ⟨s0, 0, none⟩) x.rs.length x.rs.length, .slice (some ⟨s1, 0, none⟩) x.ms.length x.ms.length, .slice none 0 0, .int .i64 0, .slice none 0 0, .slice none 0 0] := P3.setAt 1 _
  replace O1 := O1.offp rowP_firm kk (fun b hb => by omega)
  replace O2 := O2.offp makP_firm kk (fun b hb => by omega)
  clear kk
  have sz2 : (w2.setCell ⟨w.heap.size + 1 + 1, 1, none⟩ (.slice (some ⟨s1, 0, none⟩) x.ms.length x.ms.length)).heap.size = w2.heap.size := by simp
  obtain ⟨s2, hs2⟩ : ∃ s, (w2.setCell ⟨w.heap.size + 1 + 1, 1, none⟩ (.slice (some ⟨s1, 0, none⟩) x.ms.length x.ms.length)).heap.size = s := ⟨_, rfl⟩
  have C : Hid (Calls Tryz.prog 43 #[.slice x.gA x.gs.length x.gc] (w2.setCell ⟨w.heap.size + 1 + 1, 1, none⟩ (.slice (some ⟨s1, 0, none⟩) x.ms.length x.ms.length)) fun e w' => e = .returned (.slice (some ⟨s2, 0, none⟩) x.gs.length x.gs.length) /\ Below s2 (w2.setCell ⟨w.heap.size + 1 + 1, 1, none⟩ (.slice (some ⟨s1, 0, none⟩) x.ms.length x.ms.length)) w' /\ ∃ l' : List GC, Grow grpP w' s2 x.gs.length l' /\ l'.map GC.p = x.gs.map GC.p) := by
    have h := toGroupS_any x.gA x.gc x.gs Hf.out.gl Hf.out.gi (w2.setCell ⟨w.heap.size + 1 + 1, 1, none⟩ (.slice (some ⟨s1, 0, none⟩) x.ms.length x.ms.length)) (HX.out.below B).ga (HX.out.below B).ge
    rw [hs2] at h
    exact h
  go_wp2_with fail
  clear u0 u1 u2 u3 u4 u5 v0 v1 v2 v3 v4 v5 q1 q3 f0 f1 f2 f3 f4 f5
  refine C.out.mono ?_
  rintro e w3 ⟨rfl, g, l3, Gr, hp3⟩
  rw [← hs2] at g
  replace B := via0 g B
  replace P1 := P1.below g P1.lt
  replace P2 := P2.below g P2.lt
  replace P3 := P3.below g P3.lt
  replace O1 := O1.below rowP_firm g
  replace O2 := O2.below makP_firm g
  have zz3 := g.size
  have O3 := Gr.own
  clear C g
  obtain ⟨u0, u1, u2, u3, u4, u5⟩ := P1.row6
  obtain ⟨v0, v1, v2, v3, v4, v5⟩ := P3.row6
  have q1 := P1.lt
  have q3 := P3.lt
  have f0 := P3.thaw 0
  have f1 := P3.thaw 1
  have f2 := P3.thaw 2
  have f3 := P3.thaw 3
  have f4 := P3.thaw 4
  have f5 := P3.thaw 5
  have kk : Offp (fun b => b = w.heap.size + 1 + 1) w3 (w3.setCell ⟨w.heap.size + 1 + 1, 2, none⟩ (.slice (some ⟨s2, 0, none⟩) x.gs.length x.gs.length)) := Offp.of_only ((Only.refl _ _).set _ _)
  replace B := B.trans (kk.toBelow (B := w.heap.size) (fun b hb => by omega) B.size)
  replace P1 := P1.offp kk (by omega)
  replace P2 := P2.offp kk (by omega)
  replace P3 : Blk (w3.setCell ⟨w.heap.size + 1 + 1, 2, none⟩ (.slice (some ⟨s2, 0, none⟩) x.gs.length x.gs.length)) (w.heap.size + 1 + 1) 49 #[.slice (some ⟨s0, 0, none⟩) x.rs.length x.rs.length, .slice (some ⟨s1, 0, none⟩) x.ms.length x.ms.length, .slice (some ⟨s2, 0, none⟩) x.gs.length x.gs.length, .int .i64 0, .slice none 0 0, .slice none 0 0] := P3.setAt 2 _
  replace O1 := O1.offp rowP_firm kk (fun b hb => by omega)
  replace O2 := O2.offp makP_firm kk (fun b hb => by omega)
  replace O3 := O3.offp grpP_firm kk (fun b hb => by omega)
  clear kk
  have kk : Offp (fun b => b = w.heap.size + 1 + 1) (w3.setCell ⟨w.heap.size + 1 + 1, 2, none⟩ (.slice (some ⟨s2, 0, none⟩) x.gs.length x.gs.length)) ((w3.setCell ⟨w.heap.size + 1 + 1, 2, none⟩ (.slice (some ⟨s2, 0, none⟩) x.gs.length x.gs.length)).setCell ⟨w.heap.size + 1 + 1, 3, none⟩ (.int .i64 x.time)) := Offp.of_only ((Only.refl _ _).set _ _)
  replace B := B.trans (kk.toBelow (B := w.heap.size) (fun b hb => by omega) B.size)
  replace P1 := P1.offp kk (by omega)
  replace P2 := P2.offp kk (by omega)
  replace P3 : Blk ((w3.setCell ⟨w.heap.size + 1 + 1, 2, none⟩ (.slice (some ⟨s2, 0, none⟩) x.gs.length x.gs.length)).setCell ⟨w.heap.size + 1 + 1, 3, none⟩ (.int .i64 x.time)) (w.heap.size + 1 + 1) 49 #[.slice (some ⟨s0, 0, none⟩) x.rs.length x.rs.length, .slice (some ⟨s1, 0, none⟩) x.ms.length x.ms.length, .slice (some ⟨s2, 0, none⟩) x.gs.length x.gs.length, .int .i64 x.time, .slice none 0 0, .slice none 0 0] := P3.setAt 3 _
  replace O1 := O1.offp rowP_firm kk (fun b hb => by omega)
  replace O2 := O2.offp makP_firm kk (fun b hb => by omega)
  replace O3 := O3.offp grpP_firm kk (fun b hb => by omega)
  clear kk
  have sz3 : ((w3.setCell ⟨w.heap.size + 1 + 1, 2, none⟩ (.slice (some ⟨s2, 0, none⟩) x.gs.length x.gs.length)).setCell ⟨w.heap.size + 1 + 1, 3, none⟩ (.int .i64 x.time)).heap.size = w3.heap.size := by simp
  obtain ⟨s3, hs3⟩ : ∃ s, ((w3.setCell ⟨w.heap.size + 1 + 1, 2, none⟩ (.slice (some ⟨s2, 0, none⟩) x.gs.length x.gs.length)).setCell ⟨w.heap.size + 1 + 1, 3, none⟩ (.int .i64 x.time)).heap.size = s := ⟨_, rfl⟩
  have C : Hid (Calls Tryz.prog 44 #[.slice x.dA x.ds.length x.dc] ((w3.setCell ⟨w.heap.size + 1 + 1, 2, none⟩ (.slice (some ⟨s2, 0, none⟩) x.gs.length x.gs.length)).setCell ⟨w.heap.size + 1 + 1, 3, none⟩ (.int .i64 x.time)) fun e w' => e = .returned (.slice (some ⟨s3, 0, none⟩) x.ds.length x.ds.length) /\ Below s3 ((w3.setCell ⟨w.heap.size + 1 + 1, 2, none⟩ (.slice (some ⟨s2, 0, none⟩) x.gs.length x.gs.length)).setCell ⟨w.heap.size + 1 + 1, 3, none⟩ (.int .i64 x.time)) w' /\ s3 < w'.heap.size /\ In w' s3 0 x.ds /\ w'.there s3 0 (x.ds.length * 1)) := by
    have h := toInt_any x.dA x.dc x.ds Hf.out.dl ((w3.setCell ⟨w.heap.size + 1 + 1, 2, none⟩ (.slice (some ⟨s2, 0, none⟩) x.gs.length x.gs.length)).setCell ⟨w.heap.size + 1 + 1, 3, none⟩ (.int .i64 x.time)) (HX.out.below B).da
    rw [hs3] at h
    exact h
  go_wp2_with fail
  clear u0 u1 u2 u3 u4 u5 v0 v1 v2 v3 v4 v5 q1 q3 f0 f1 f2 f3 f4 f5
  refine C.out.mono ?_
  rintro e w4 ⟨rfl, g, hlt, hin, hth⟩
  rw [← hs3] at g
  replace B := via0 g B
  replace P1 := P1.below g P1.lt
  replace P2 := P2.below g P2.lt
  replace P3 := P3.below g P3.lt
  replace O1 := O1.below rowP_firm g
  replace O2 := O2.below makP_firm g
  replace O3 := O3.below grpP_firm g
  have zz4 := g.size
  have O4 : Sub w4 (some ⟨s3, 0, none⟩) x.ds (fun b => s3 <= b /\ b < w4.heap.size) := .inr ⟨s3, 0, rfl, ⟨Nat.le_refl _, hlt⟩, hlt, hin, hth⟩
  clear C g
  obtain ⟨u0, u1, u2, u3, u4, u5⟩ := P1.row6
  obtain ⟨v0, v1, v2, v3, v4, v5⟩ := P3.row6
  have q1 := P1.lt
  have q3 := P3.lt
  have f0 := P3.thaw 0
  have f1 := P3.thaw 1
  have f2 := P3.thaw 2
  have f3 := P3.thaw 3
  have f4 := P3.thaw 4
  have f5 := P3.thaw 5
  have kk : Offp (fun b => b = w.heap.size + 1 + 1) w4 (w4.setCell ⟨w.heap.size + 1 + 1, 4, none⟩ (.slice (some ⟨s3, 0, none⟩) x.ds.length x.ds.length)) := Offp.of_only ((Only.refl _ _).set _ _)
  replace B := B.trans (kk.toBelow (B := w.heap.size) (fun b hb => by omega) B.size)
  replace P1 := P1.offp kk (by omega)
  replace P2 := P2.offp kk (by omega)
  replace P3 : Blk (w4.setCell ⟨w.heap.size + 1 + 1, 4, none⟩ (.slice (some ⟨s3, 0, none⟩) x.ds.length x.ds.length)) (w.heap.size + 1 + 1) 49 #[.slice (some ⟨s0, 0, none⟩) x.rs.length x.rs.length, .slice (some ⟨s1, 0, none⟩) x.ms.length x.ms.length, .slice (some ⟨s2, 0, none⟩) x.gs.length x.gs.length, .int .i64 x.time, .slice (some ⟨s3, 0, none⟩) x.ds.length x.ds.length, .slice none 0 0] := P3.setAt 4 _
  replace O1 := O1.offp rowP_firm kk (fun b hb => by omega)
  replace O2 := O2.offp makP_firm kk (fun b hb => by omega)
  replace O3 := O3.offp grpP_firm kk (fun b hb => by omega)
  replace O4 := O4.offp kk (fun b hb => by omega)
  clear kk
  have sz4 : (w4.setCell ⟨w.heap.size + 1 + 1, 4, none⟩ (.slice (some ⟨s3, 0, none⟩) x.ds.length x.ds.length)).heap.size = w4.heap.size := by simp
  obtain ⟨s4, hs4⟩ : ∃ s, (w4.setCell ⟨w.heap.size + 1 + 1, 4, none⟩ (.slice (some ⟨s3, 0, none⟩) x.ds.length x.ds.length)).heap.size = s := ⟨_, rfl⟩
  have C : Hid (Calls Tryz.prog 45 #[.slice x.lA x.ls.length x.lc] (w4.setCell ⟨w.heap.size + 1 + 1, 4, none⟩ (.slice (some ⟨s3, 0, none⟩) x.ds.length x.ds.length)) fun e w' => e = .returned (.slice (some ⟨s4, 0, none⟩) x.ls.length x.ls.length) /\ Below s4 (w4.setCell ⟨w.heap.size + 1 + 1, 4, none⟩ (.slice (some ⟨s3, 0, none⟩) x.ds.length x.ds.length)) w' /\ s4 < w'.heap.size /\ In w' s4 0 x.ls /\ w'.there s4 0 (x.ls.length * 4)) := by
    have h := toAnswerS_any x.lA x.lc x.ls Hf.out.ll (w4.setCell ⟨w.heap.size + 1 + 1, 4, none⟩ (.slice (some ⟨s3, 0, none⟩) x.ds.length x.ds.length)) (HX.out.below B).la
    rw [hs4] at h
    exact h
  go_wp2_with fail
  clear u0 u1 u2 u3 u4 u5 v0 v1 v2 v3 v4 v5 q1 q3 f0 f1 f2 f3 f4 f5
  refine C.out.mono ?_
  rintro e w5 ⟨rfl, g, hlt, hin, hth⟩
  rw [← hs4] at g
  replace B := via0 g B
  replace P1 := P1.below g P1.lt
  replace P2 := P2.below g P2.lt
  replace P3 := P3.below g P3.lt
  replace O1 := O1.below rowP_firm g
  replace O2 := O2.below makP_firm g
  replace O3 := O3.below grpP_firm g
  replace O4 := O4.below g
  have zz5 := g.size
  have O5 : Sub w5 (some ⟨s4, 0, none⟩) x.ls (fun b => s4 <= b /\ b < w5.heap.size) := .inr ⟨s4, 0, rfl, ⟨Nat.le_refl _, hlt⟩, hlt, hin, hth⟩
  clear C g
  obtain ⟨u0, u1, u2, u3, u4, u5⟩ := P2.row6
  obtain ⟨v0, v1, v2, v3, v4, v5⟩ := P3.row6
  have q1 := P2.lt
  have q3 := P3.lt
  have f0 := P3.thaw 0
  have f1 := P3.thaw 1
  have f2 := P3.thaw 2
  have f3 := P3.thaw 3
  have f4 := P3.thaw 4
  have f5 := P3.thaw 5
  have e0 := P2.thaw 0
  have e1 := P2.thaw 1
  have e2 := P2.thaw 2
  have e3 := P2.thaw 3
  have e4 := P2.thaw 4
  have e5 := P2.thaw 5
  have kk : Offp (fun b => b = w.heap.size + 1 + 1) w5 (w5.setCell ⟨w.heap.size + 1 + 1, 5, none⟩ (.slice (some ⟨s4, 0, none⟩) x.ls.length x.ls.length)) := Offp.of_only ((Only.refl _ _).set _ _)
  replace B := B.trans (kk.toBelow (B := w.heap.size) (fun b hb => by omega) B.size)
  replace P1 := P1.offp kk (by omega)
  replace P2 := P2.offp kk (by omega)
  replace P3 : Blk (w5.setCell ⟨w.heap.size + 1 + 1, 5, none⟩ (.slice (some ⟨s4, 0, none⟩) x.ls.length x.ls.length)) (w.heap.size + 1 + 1) 49 #[.slice (some ⟨s0, 0, none⟩) x.rs.length x.rs.length, .slice (some ⟨s1, 0, none⟩) x.ms.length x.ms.length, .slice (some ⟨s2, 0, none⟩) x.gs.length x.gs.length, .int .i64 x.time, .slice (some ⟨s3, 0, none⟩) x.ds.length x.ds.length, .slice (some ⟨s4, 0, none⟩) x.ls.length x.ls.length] := P3.setAt 5 _
  replace O1 := O1.offp rowP_firm kk (fun b hb => by omega)
  replace O2 := O2.offp makP_firm kk (fun b hb => by omega)
  replace O3 := O3.offp grpP_firm kk (fun b hb => by omega)
  replace O4 := O4.offp kk (fun b hb => by omega)
  replace O5 := O5.offp kk (fun b hb => by omega)
  clear kk
  have sz5 : (w5.setCell ⟨w.heap.size + 1 + 1, 5, none⟩ (.slice (some ⟨s4, 0, none⟩) x.ls.length x.ls.length)).heap.size = w5.heap.size := by simp
  have HB := hidP B
  have HO1 := hidP O1
  have HO2 := hidP O2
  have HO3 := hidP O3
  have HO4 := hidP O4
  have HO5 := hidP O5
  have HP2 := hidP P2
  clear B O1 O2 O3 O4 O5 P1 P2 P3
  go_wp2
  have E6 := ((((((HP2.out.setAt 0 (.slice (some ⟨s0, 0, none⟩) x.rs.length x.rs.length)).setAt 1 (.slice (some ⟨s1, 0, none⟩) x.ms.length x.ms.length)).setAt 2 (.slice (some ⟨s2, 0, none⟩) x.gs.length x.gs.length)).setAt 3 (.int .i64 x.time)).setAt 4 (.slice (some ⟨s3, 0, none⟩) x.ds.length x.ds.length)).setAt 5 (.slice (some ⟨s4, 0, none⟩) x.ls.length x.ls.length))
  have E6' : Blk _ (w.heap.size + 1) 49 #[.slice (some ⟨s0, 0, none⟩) x.rs.length x.rs.length, .slice (some ⟨s1, 0, none⟩) x.ms.length x.ms.length, .slice (some ⟨s2, 0, none⟩) x.gs.length x.gs.length, .int .i64 x.time, .slice (some ⟨s3, 0, none⟩) x.ds.length x.ds.length, .slice (some ⟨s4, 0, none⟩) x.ls.length x.ls.length] := E6
  obtain ⟨x0, y1, y2, y3, y4, y5⟩ := E6'.row6
  refine bodyPost_ret (v := .agg #[.slice (some ⟨s0, 0, none⟩) x.rs.length x.rs.length, .slice (some ⟨s1, 0, none⟩) x.ms.length x.ms.length, .slice (some ⟨s2, 0, none⟩) x.gs.length x.gs.length, .int .i64 x.time, .slice (some ⟨s3, 0, none⟩) x.ds.length x.ds.length, .slice (some ⟨s4, 0, none⟩) x.ls.length x.ls.length]) (by simp [results, Tryz.results19, go_sem, x0, y1, y2, y3, y4, y5]) rfl ?_
  have kk : Offp (fun b => b = w.heap.size + 1) (w5.setCell ⟨w.heap.size + 1 + 1, 5, none⟩ (.slice (some ⟨s4, 0, none⟩) x.ls.length x.ls.length)) _ := ((((((Offp.refl (fun b => b = w.heap.size + 1) (w5.setCell ⟨w.heap.size + 1 + 1, 5, none⟩ (.slice (some ⟨s4, 0, none⟩) x.ls.length x.ls.length))).set (b := w.heap.size + 1) rfl 0 (.slice (some ⟨s0, 0, none⟩) x.rs.length x.rs.length)).set (b := w.heap.size + 1) rfl 1 (.slice (some ⟨s1, 0, none⟩) x.ms.length x.ms.length)).set (b := w.heap.size + 1) rfl 2 (.slice (some ⟨s2, 0, none⟩) x.gs.length x.gs.length)).set (b := w.heap.size + 1) rfl 3 (.int .i64 x.time)).set (b := w.heap.size + 1) rfl 4 (.slice (some ⟨s3, 0, none⟩) x.ds.length x.ds.length)).set (b := w.heap.size + 1) rfl 5 (.slice (some ⟨s4, 0, none⟩) x.ls.length x.ls.length)
  have O1 := HO1.out.offp rowP_firm kk (fun b hb => by omega)
  have O2 := HO2.out.offp makP_firm kk (fun b hb => by omega)
  have O3 := HO3.out.offp grpP_firm kk (fun b hb => by omega)
  have O4 := HO4.out.offp kk (fun b hb => by omega)
  have O5 := HO5.out.offp kk (fun b hb => by omega)
  have BB := HB.out.trans (kk.toBelow (B := w.heap.size) (fun b hb => by omega) HB.out.size)
  have le1 : l1.length = x.rs.length := by have := congrArg List.length hp1; simpa using this
  have le2 : l2.length = x.ms.length := by have := congrArg List.length hp2; simpa using this
  have le3 : l3.length = x.gs.length := by have := congrArg List.length hp3; simpa using this
  have kz := kk.size
  refine ⟨⟨some ⟨s0, 0, none⟩, x.rs.length, l1, some ⟨s1, 0, none⟩, x.ms.length, l2, some ⟨s2, 0, none⟩, x.gs.length, l3, x.time, some ⟨s3, 0, none⟩, x.ds.length, x.ds, some ⟨s4, 0, none⟩, x.ls.length, x.ls⟩, by simp only [KC.cells, le1, le2, le3], by simp only [KC.p, hp1, hp2, hp3], ⟨fun b => if b < s1 then 1 else if b < s2 then 2 else if b < s3 then 3 else if b < s4 then 4 else 5, ?_, ?_, ?_, ?_, ?_⟩, BB⟩
  skip
  . exact O1.mono (fun b hb => ⟨⟨by omega, by omega⟩, by repeat (first | rw [if_pos (by omega)] | rw [if_neg (by omega)])⟩)
  . exact O2.mono (fun b hb => ⟨⟨by omega, by omega⟩, by repeat (first | rw [if_pos (by omega)] | rw [if_neg (by omega)])⟩)
  . exact O3.mono (fun b hb => ⟨⟨by omega, by omega⟩, by repeat (first | rw [if_pos (by omega)] | rw [if_neg (by omega)])⟩)
  . exact O4.mono (fun b hb => ⟨⟨by omega, by omega⟩, by repeat (first | rw [if_pos (by omega)] | rw [if_neg (by omega)])⟩)
  . exact O5.mono (fun b hb => ⟨⟨by omega, by omega⟩, by repeat (first | rw [if_pos (by omega)] | rw [if_neg (by omega)])⟩)
end Go.Proofs.YtaefjifcnoiplaaGreat.Gen

/-
  What a node must keep (Hard): what the laws' sz and to functions of it do; a Hard opened. No condition but the sizes of its lists.
-/
namespace Go.Proofs.YtaefjifcnoiplaaGreat.Gen
open Go.ChangeShapes Go.WideShapes Go.ChangeAt Go.RowKit Go.Joins Go.Deep Base
set_option linter.unusedVariables false
set_option linter.unusedSimpArgs false
set_option maxRecDepth 100000 in
set_option maxHeartbeats 1000000 in
theorem szHard_at (te vo base bt : Int) (A : Option Addr) (cap : Nat) (l : List En) (hl : l.length <= 9223372036854775807) (hr : ∀ x ∈ l, x.fit) (x : KC) (hx : KRight x) (left : Int) (h0 : 0 <= left) (h1 : left <= 1048576) (w : World) (hA : At w A l) (hX : KAt w x) :
    Calls Tryz.prog 4 #[.agg #[.int .i64 te, .int .i64 vo, .int .i64 base, .int .i64 bt, .slice A l.length cap, .slice x.rA x.rs.length x.rc, .slice x.mA x.ms.length x.mc, .slice x.gA x.gs.length x.gc, .int .i64 x.time, .slice x.dA x.ds.length x.dc, .slice x.lA x.ls.length x.lc], .int .i64 left] w fun e w' => (∃ r : Int, e = .returned (.int .i64 r) /\ (r < 0 ∨ (0 <= r /\ r <= left /\ l.length <= 1048576 /\ KFit x))) /\ Below w.heap.size w w' := by
  have hlen : left - (l.length : Int) >= 0 -> l.length <= 1048576 := fun h => by omega
  have HL : Hid (∀ W : World, Below w.heap.size w W -> Calls Tryz.prog 14 #[.agg #[.int .i64 base, .int .i64 bt, .slice A l.length cap], .int .i64 left] W fun e w' => (∃ r : Int, e = .returned (.int .i64 r) /\ (r < 0 ∨ (0 <= r /\ r = left - (l.length : Int) - (count szEn l : Int)))) /\ Below W.heap.size W w') := fun W g => szLog_any base bt A cap l hl hr left h0 h1 W (hA.below g)
  have HK : Hid (∀ (z : Int) (W : World), Below w.heap.size w W -> 0 <= z -> z <= 1048576 -> Calls Tryz.prog 15 #[.agg #[.slice x.rA x.rs.length x.rc, .slice x.mA x.ms.length x.mc, .slice x.gA x.gs.length x.gc, .int .i64 x.time, .slice x.dA x.ds.length x.dc, .slice x.lA x.ls.length x.lc], .int .i64 z] W fun e w' => (∃ r : Int, e = .returned (.int .i64 r) /\ (r < 0 ∨ (0 <= r /\ r <= z /\ KFit x))) /\ Below W.heap.size W w') := fun z W g a b => szKeep_at x hx z a b W (hX.below g)
  clear hA hX hx hr hl hlen
  go_enter Tryz.func4, Tryz.ntmps4
  go_wp2_with fail
  have p0 : Blk (w.alloc (.cells #[.int .i64 te, .int .i64 vo, .int .i64 base, .int .i64 bt, .slice A l.length cap, .slice x.rA x.rs.length x.rc, .slice x.mA x.ms.length x.mc, .slice x.gA x.gs.length x.gc, .int .i64 x.time, .slice x.dA x.ds.length x.dc, .slice x.lA x.ls.length x.lc] 35)) w.heap.size 35 #[.int .i64 te, .int .i64 vo, .int .i64 base, .int .i64 bt, .slice A l.length cap, .slice x.rA x.rs.length x.rc, .slice x.mA x.ms.length x.mc, .slice x.gA x.gs.length x.gc, .int .i64 x.time, .slice x.dA x.ds.length x.dc, .slice x.lA x.ls.length x.lc] := Blk.new w _ _
  have B0 : Below w.heap.size w (w.alloc (.cells #[.int .i64 te, .int .i64 vo, .int .i64 base, .int .i64 bt, .slice A l.length cap, .slice x.rA x.rs.length x.rc, .slice x.mA x.ms.length x.mc, .slice x.gA x.gs.length x.gc, .int .i64 x.time, .slice x.dA x.ds.length x.dc, .slice x.lA x.ls.length x.lc] 35)) := alloc0 (Below.refl _ _) _
  refine (HL.out _ B0).mono ?_
  rintro e w1 ⟨⟨z, rfl, hz⟩, g1⟩
  have p1 := p0.below g1 p0.lt
  have B1 := via0 g1 B0
  have q1 := p1.lt
  obtain ⟨u0, u1, u2, u3, u4, u5, u6, u7, u8, u9, u10⟩ := p1.row11
  clear p0 B0 g1
  rcases hz with hz | ⟨hz, hz1⟩
  . go_wp2
    go_ret
    exact ⟨⟨-1, rfl, .inl (by omega)⟩, B1⟩
  have n1 : ¬ z < 0 := by omega
  have Hz := hidP hz1
  have b1 : z <= 1048576 := by omega
  clear hz1
  go_wp2_with fail
  refine (HK.out z _ B1 hz b1).mono ?_
  rintro e w2 ⟨⟨r, rfl, hr⟩, g2⟩
  have B2 := via0 g2 B1
  clear u0 u1 u2 u3 u4 u5 u6 u7 u8 u9 u10 p1 q1 g2
  rcases hr with hr | ⟨hr, hr1, hr2⟩
  . go_wp2
    go_ret
    exact ⟨⟨-1, rfl, .inl (by omega)⟩, B2⟩
  have n2 : ¬ r < 0 := by omega
  have Hr := hidP hr1
  have Hk := hidP hr2
  clear hr1 hr2
  go_wp2
  go_ret
  exact ⟨⟨r, rfl, .inr ⟨hr, by have := Hz.out; have := Hr.out; omega, by have := Hz.out; omega, Hk.out⟩⟩, B2⟩
def NewH (w w' : World) (e : Ending) (te vo base bt : Int) (l : List En) (c : PK) : Prop := ∃ (b : Nat) (y : KC), e = .returned (.agg #[.int .i64 te, .int .i64 vo, .int .i64 base, .int .i64 bt, .slice (some ⟨b, 0, none⟩) l.length l.length, .slice y.rA y.rs.length y.rc, .slice y.mA y.ms.length y.mc, .slice y.gA y.gs.length y.gc, .int .i64 y.time, .slice y.dA y.ds.length y.dc, .slice y.lA y.ls.length y.lc]) /\ y.p = c /\ w.heap.size <= b /\ b < w'.heap.size /\ In w' b 0 l /\ w'.there b 0 (l.length * 9) /\ KOwn w' y (fun z => w.heap.size <= z /\ z < w'.heap.size /\ z ≠ b) /\ Below w.heap.size w w'
set_option maxRecDepth 100000 in
set_option maxHeartbeats 2000000 in
theorem toHard_any (te vo base bt : Int) (A : Option Addr) (cap : Nat) (l : List En) (hl : l.length <= 1048576) (x : KC) (hf : KFit x) (w : World) (hA : At w A l) (hX : KAt w x) :
    Calls Tryz.prog 7 #[.agg #[.int .i64 te, .int .i64 vo, .int .i64 base, .int .i64 bt, .slice A l.length cap, .slice x.rA x.rs.length x.rc, .slice x.mA x.ms.length x.mc, .slice x.gA x.gs.length x.gc, .int .i64 x.time, .slice x.dA x.ds.length x.dc, .slice x.lA x.ls.length x.lc]] w fun e w' => NewH w w' e te vo base bt l x.p := by
  have HL : Hid (∀ W : World, Below w.heap.size w W -> Calls Tryz.prog 18 #[.agg #[.int .i64 base, .int .i64 bt, .slice A l.length cap]] W fun e w' => ∃ b, e = .returned (.agg #[.int .i64 base, .int .i64 bt, .slice (some ⟨b, 0, none⟩) l.length l.length]) /\ Below W.heap.size W w' /\ W.heap.size <= b /\ b < w'.heap.size /\ In w' b 0 l /\ w'.there b 0 (l.length * 9)) := fun W g => toLog_any base bt A cap l hl W (hA.below g)
  have HK : Hid (∀ W : World, Below w.heap.size w W -> Calls Tryz.prog 19 #[.agg #[.slice x.rA x.rs.length x.rc, .slice x.mA x.ms.length x.mc, .slice x.gA x.gs.length x.gc, .int .i64 x.time, .slice x.dA x.ds.length x.dc, .slice x.lA x.ls.length x.lc]] W fun e w' => NewK W w' e x.p) := fun W g => toKeep_any x hf W (hX.below g)
  clear hA hX hf hl
  have B0 : Below w.heap.size w (((w.alloc (.cells #[.int .i64 te, .int .i64 vo, .int .i64 base, .int .i64 bt, .slice A l.length cap, .slice x.rA x.rs.length x.rc, .slice x.mA x.ms.length x.mc, .slice x.gA x.gs.length x.gc, .int .i64 x.time, .slice x.dA x.ds.length x.dc, .slice x.lA x.ls.length x.lc] 35)).alloc (.cells #[.int .i64 0, .int .i64 0, .int .i64 0, .int .i64 0, .slice none 0 0, .slice none 0 0, .slice none 0 0, .slice none 0 0, .int .i64 0, .slice none 0 0, .slice none 0 0] 51)).alloc (.cells #[.int .i64 te, .int .i64 vo, .int .i64 0, .int .i64 0, .slice none 0 0, .slice none 0 0, .slice none 0 0, .slice none 0 0, .int .i64 0, .slice none 0 0, .slice none 0 0] 51)) := by repeat (first | exact Below.refl _ _ | assumption | refine via0 (by assumption) ?_ | refine Below.drew ?_ | refine alloc0 ?_ _)
  have P1 : Blk (((w.alloc (.cells #[.int .i64 te, .int .i64 vo, .int .i64 base, .int .i64 bt, .slice A l.length cap, .slice x.rA x.rs.length x.rc, .slice x.mA x.ms.length x.mc, .slice x.gA x.gs.length x.gc, .int .i64 x.time, .slice x.dA x.ds.length x.dc, .slice x.lA x.ls.length x.lc] 35)).alloc (.cells #[.int .i64 0, .int .i64 0, .int .i64 0, .int .i64 0, .slice none 0 0, .slice none 0 0, .slice none 0 0, .slice none 0 0, .int .i64 0, .slice none 0 0, .slice none 0 0] 51)).alloc (.cells #[.int .i64 te, .int .i64 vo, .int .i64 0, .int .i64 0, .slice none 0 0, .slice none 0 0, .slice none 0 0, .slice none 0 0, .int .i64 0, .slice none 0 0, .slice none 0 0] 51)) w.heap.size 35 #[.int .i64 te, .int .i64 vo, .int .i64 base, .int .i64 bt, .slice A l.length cap, .slice x.rA x.rs.length x.rc, .slice x.mA x.ms.length x.mc, .slice x.gA x.gs.length x.gc, .int .i64 x.time, .slice x.dA x.ds.length x.dc, .slice x.lA x.ls.length x.lc] := ((Blk.new w _ _).alloc _).alloc _
  have P2 : Blk (((w.alloc (.cells #[.int .i64 te, .int .i64 vo, .int .i64 base, .int .i64 bt, .slice A l.length cap, .slice x.rA x.rs.length x.rc, .slice x.mA x.ms.length x.mc, .slice x.gA x.gs.length x.gc, .int .i64 x.time, .slice x.dA x.ds.length x.dc, .slice x.lA x.ls.length x.lc] 35)).alloc (.cells #[.int .i64 0, .int .i64 0, .int .i64 0, .int .i64 0, .slice none 0 0, .slice none 0 0, .slice none 0 0, .slice none 0 0, .int .i64 0, .slice none 0 0, .slice none 0 0] 51)).alloc (.cells #[.int .i64 te, .int .i64 vo, .int .i64 0, .int .i64 0, .slice none 0 0, .slice none 0 0, .slice none 0 0, .slice none 0 0, .int .i64 0, .slice none 0 0, .slice none 0 0] 51)) (w.heap.size + 1) 51 #[.int .i64 0, .int .i64 0, .int .i64 0, .int .i64 0, .slice none 0 0, .slice none 0 0, .slice none 0 0, .slice none 0 0, .int .i64 0, .slice none 0 0, .slice none 0 0] := by have := (Blk.new (w.alloc (.cells #[.int .i64 te, .int .i64 vo, .int .i64 base, .int .i64 bt, .slice A l.length cap, .slice x.rA x.rs.length x.rc, .slice x.mA x.ms.length x.mc, .slice x.gA x.gs.length x.gc, .int .i64 x.time, .slice x.dA x.ds.length x.dc, .slice x.lA x.ls.length x.lc] 35)) 51 #[.int .i64 0, .int .i64 0, .int .i64 0, .int .i64 0, .slice none 0 0, .slice none 0 0, .slice none 0 0, .slice none 0 0, .int .i64 0, .slice none 0 0, .slice none 0 0]).alloc (.cells #[.int .i64 te, .int .i64 vo, .int .i64 0, .int .i64 0, .slice none 0 0, .slice none 0 0, .slice none 0 0, .slice none 0 0, .int .i64 0, .slice none 0 0, .slice none 0 0] 51); rwa [World.size_alloc] at this
  have P3 : Blk (((w.alloc (.cells #[.int .i64 te, .int .i64 vo, .int .i64 base, .int .i64 bt, .slice A l.length cap, .slice x.rA x.rs.length x.rc, .slice x.mA x.ms.length x.mc, .slice x.gA x.gs.length x.gc, .int .i64 x.time, .slice x.dA x.ds.length x.dc, .slice x.lA x.ls.length x.lc] 35)).alloc (.cells #[.int .i64 0, .int .i64 0, .int .i64 0, .int .i64 0, .slice none 0 0, .slice none 0 0, .slice none 0 0, .slice none 0 0, .int .i64 0, .slice none 0 0, .slice none 0 0] 51)).alloc (.cells #[.int .i64 te, .int .i64 vo, .int .i64 0, .int .i64 0, .slice none 0 0, .slice none 0 0, .slice none 0 0, .slice none 0 0, .int .i64 0, .slice none 0 0, .slice none 0 0] 51)) (w.heap.size + 1 + 1) 51 #[.int .i64 te, .int .i64 vo, .int .i64 0, .int .i64 0, .slice none 0 0, .slice none 0 0, .slice none 0 0, .slice none 0 0, .int .i64 0, .slice none 0 0, .slice none 0 0] := by have := Blk.new ((w.alloc (.cells #[.int .i64 te, .int .i64 vo, .int .i64 base, .int .i64 bt, .slice A l.length cap, .slice x.rA x.rs.length x.rc, .slice x.mA x.ms.length x.mc, .slice x.gA x.gs.length x.gc, .int .i64 x.time, .slice x.dA x.ds.length x.dc, .slice x.lA x.ls.length x.lc] 35)).alloc (.cells #[.int .i64 0, .int .i64 0, .int .i64 0, .int .i64 0, .slice none 0 0, .slice none 0 0, .slice none 0 0, .slice none 0 0, .int .i64 0, .slice none 0 0, .slice none 0 0] 51)) 51 #[.int .i64 te, .int .i64 vo, .int .i64 0, .int .i64 0, .slice none 0 0, .slice none 0 0, .slice none 0 0, .slice none 0 0, .int .i64 0, .slice none 0 0, .slice none 0 0]; rwa [World.size_alloc, World.size_alloc] at this
  have H0 := hidP (And.intro B0 (And.intro P1 (And.intro P2 P3)))
  clear B0 P1 P2 P3
  go_enter Tryz.func7, Tryz.ntmps7
  go_wp2_with fail
  refine (HL.out _ H0.out.1).mono ?_
  rintro e w1 ⟨b, rfl, g1, hb1, hb2, hi, ht⟩
  have hbw : w.heap.size + 1 + 1 < b := Nat.lt_of_lt_of_le H0.out.2.2.2.lt hb1
  have B1 := via0 g1 H0.out.1
  have P1 := H0.out.2.1.below g1 H0.out.2.1.lt
  have P2 := H0.out.2.2.1.below g1 H0.out.2.2.1.lt
  have P3 := H0.out.2.2.2.below g1 H0.out.2.2.2.lt
  clear H0 g1 hb1
  have P1' := ((P1.other (B' := w.heap.size + 1 + 1) (by omega) 2 (.int .i64 base)).other (B' := w.heap.size + 1 + 1) (by omega) 3 (.int .i64 bt)).other (B' := w.heap.size + 1 + 1) (by omega) 4 (.slice (some ⟨b, 0, none⟩) l.length l.length)
  have P2' := ((P2.other (B' := w.heap.size + 1 + 1) (by omega) 2 (.int .i64 base)).other (B' := w.heap.size + 1 + 1) (by omega) 3 (.int .i64 bt)).other (B' := w.heap.size + 1 + 1) (by omega) 4 (.slice (some ⟨b, 0, none⟩) l.length l.length)
  have P3' : Blk _ (w.heap.size + 1 + 1) 51 #[.int .i64 te, .int .i64 vo, .int .i64 base, .int .i64 bt, .slice (some ⟨b, 0, none⟩) l.length l.length, .slice none 0 0, .slice none 0 0, .slice none 0 0, .int .i64 0, .slice none 0 0, .slice none 0 0] := ((P3.setAt 2 (.int .i64 base)).setAt 3 (.int .i64 bt)).setAt 4 (.slice (some ⟨b, 0, none⟩) l.length l.length)
  have B1' := bl_set (bl_set (bl_set B1 (B := w.heap.size + 1 + 1) (i := 2) (by omega) (.int .i64 base)) (B := w.heap.size + 1 + 1) (i := 3) (by omega) (.int .i64 bt)) (B := w.heap.size + 1 + 1) (i := 4) (by omega) (.slice (some ⟨b, 0, none⟩) l.length l.length)
  have hi' := In.set (In.set (In.set hi ⟨w.heap.size + 1 + 1, 2, none⟩ (.int .i64 base) (by simp; omega)) ⟨w.heap.size + 1 + 1, 3, none⟩ (.int .i64 bt) (by simp; omega)) ⟨w.heap.size + 1 + 1, 4, none⟩ (.slice (some ⟨b, 0, none⟩) l.length l.length) (by simp; omega)
  have ht' := there_set (there_set (there_set ht (w.heap.size + 1 + 1) 2 (.int .i64 base)) (w.heap.size + 1 + 1) 3 (.int .i64 bt)) (w.heap.size + 1 + 1) 4 (.slice (some ⟨b, 0, none⟩) l.length l.length)
  have hb2' : b < (((w1.setCell ⟨w.heap.size + 1 + 1, 2, none⟩ (.int .i64 base)).setCell ⟨w.heap.size + 1 + 1, 3, none⟩ (.int .i64 bt)).setCell ⟨w.heap.size + 1 + 1, 4, none⟩ (.slice (some ⟨b, 0, none⟩) l.length l.length)).heap.size := by simpa using hb2
  have H1 := hidP (And.intro B1' (And.intro P1' (And.intro P2' (And.intro P3' (And.intro hi' (And.intro ht' hb2'))))))
  obtain ⟨u0, u1, u2, u3, u4, u5, u6, u7, u8, u9, u10⟩ := P1.row11
  obtain ⟨v0, v1, v2, v3, v4, v5, v6, v7, v8, v9, v10⟩ := P3.row11
  have f2 := P3.thaw 2; have f3 := P3.thaw 3; have f4 := P3.thaw 4
  have q3 := P3.lt
  clear P1 P2 P3 P1' P2' P3' B1 B1' hi hi' ht ht' hb2 hb2'
  go_wp2_with fail
  refine (HK.out _ H1.out.1).mono ?_
  rintro e w2 ⟨y, he, hp, ho, g2⟩
  simp only [KC.cells] at he
  subst he
  have B2 := via0 g2 H1.out.1
  have P2 := H1.out.2.2.1.below g2 H1.out.2.2.1.lt
  have P3 := H1.out.2.2.2.1.below g2 H1.out.2.2.2.1.lt
  have i2 := H1.out.2.2.2.2.1.below H1.out.2.2.2.2.2.2 g2
  have t2 := there_below H1.out.2.2.2.2.2.1 H1.out.2.2.2.2.2.2 g2
  have s2 := g2.size
  have hbl := H1.out.2.2.2.2.2.2
  have hP3 := H1.out.2.2.2.1.lt
  have OO : Hid (∀ W : World, Offp (fun z => z = w.heap.size + 1 ∨ z = w.heap.size + 1 + 1) w2 W -> W.heap.size = w2.heap.size -> NewH w W (.returned (.agg #[.int .i64 te, .int .i64 vo, .int .i64 base, .int .i64 bt, .slice (some ⟨b, 0, none⟩) l.length l.length, .slice y.rA y.rs.length y.rc, .slice y.mA y.ms.length y.mc, .slice y.gA y.gs.length y.gc, .int .i64 y.time, .slice y.dA y.ds.length y.dc, .slice y.lA y.ls.length y.lc])) te vo base bt l x.p) := by
    intro W o hW
    have nb : ¬ (b = w.heap.size + 1 ∨ b = w.heap.size + 1 + 1) := by omega
    refine ⟨b, y, rfl, hp, by omega, by rw [hW]; omega, i2.offp o (by omega) nb, there_offp t2 o (by omega) nb, (ho.offp o (fun z hz e => ?_)).mono (fun z hz => ⟨by omega, by rw [hW]; exact hz.2, by omega⟩), B2.trans (o.toBelow (fun z hz => by omega) B2.size)⟩
    omega
  clear H1 ho hp i2 t2 u0 u1 u2 u3 u4 u5 u6 u7 u8 u9 u10 v0 v1 v2 v3 v4 v5 v6 v7 v8 v9 v10 f2 f3 f4 q3 HL HK hbl hP3 hbw s2 g2
  obtain ⟨u0, u1, u2, u3, u4, u5, u6, u7, u8, u9, u10⟩ := P2.row11
  obtain ⟨v0, v1, v2, v3, v4, v5, v6, v7, v8, v9, v10⟩ := P3.row11
  have f0 := P2.thaw 0; have f1 := P2.thaw 1; have f2 := P2.thaw 2; have f3 := P2.thaw 3; have f4 := P2.thaw 4; have f5 := P2.thaw 5
  have f6 := P2.thaw 6; have f7 := P2.thaw 7; have f8 := P2.thaw 8; have f9 := P2.thaw 9; have f10 := P2.thaw 10
  have e5 := P3.thaw 5; have e6 := P3.thaw 6; have e7 := P3.thaw 7; have e8 := P3.thaw 8; have e9 := P3.thaw 9; have e10 := P3.thaw 10
  have q2 := P2.lt
  have q3 := P3.lt
  go_wp2_with fail
  refine bodyPost_ret (v := .agg #[.int .i64 te, .int .i64 vo, .int .i64 base, .int .i64 bt, .slice (some ⟨b, 0, none⟩) l.length l.length, .slice y.rA y.rs.length y.rc, .slice y.mA y.ms.length y.mc, .slice y.gA y.gs.length y.gc, .int .i64 y.time, .slice y.dA y.ds.length y.dc, .slice y.lA y.ls.length y.lc]) (by simp [results, Tryz.results7, go_sem, u0, u1, u2, u3, u4, u5, u6, u7, u8, u9, u10]) rfl (OO.out _ ?_ (by simp))
  exact Offp.set (Offp.set (Offp.set (Offp.set (Offp.set (Offp.set (Offp.set (Offp.set (Offp.set (Offp.set (Offp.set (Offp.set (Offp.set (Offp.set (Offp.set (Offp.set (Offp.set (Offp.refl _ w2) (Or.inr rfl) _ _) (Or.inr rfl) _ _) (Or.inr rfl) _ _) (Or.inr rfl) _ _) (Or.inr rfl) _ _) (Or.inr rfl) _ _) (Or.inl rfl) _ _) (Or.inl rfl) _ _) (Or.inl rfl) _ _) (Or.inl rfl) _ _) (Or.inl rfl) _ _) (Or.inl rfl) _ _) (Or.inl rfl) _ _) (Or.inl rfl) _ _) (Or.inl rfl) _ _) (Or.inl rfl) _ _) (Or.inl rfl) _ _
theorem parts_of {H : Type} {enc : TypeId × Value -> H} {P : Program} {w : World} {base : Nat} {spare : Nat -> Bool} {held : Bool} {t : TypeId} {fs : Array Field} {cs : List Value} {fuel : Nat} {x : DataW H × List MemPlace}
    (hs : P.underlying t = some (.struct fs)) (h : DataW.trod enc P w base spare held fuel t cs = some x) :
    ∃ n, ∀ (i : Nat) (f : Field), fs[i]? = some f -> ∃ y, DataW.trod enc P w base spare held n f.type ((cs.drop f.offset).take (P.cellsOf f.type)) = some y := by
  obtain ⟨xs, n, _, _, hl, hlen, hf⟩ := DataW.trod_struct hs h
  refine ⟨n, fun i f hi => ?_⟩
  have g := hf i f hi
  have hlt : i < fs.size := (Array.getElem?_eq_some_iff.1 hi).1
  exact ⟨xs[i]'(by omega), by rw [← List.getElem?_eq_getElem]; simpa using g⟩
set_option maxRecDepth 100000 in
theorem openHard {H : Type} {enc : TypeId × Value -> H} {W : World} {base0 b0 : Nat} {r : Reach} {spare : Nat -> Bool} {held : Bool} {v : Value} {d : DataW H} {p : List MemPlace}
    (hv : Value.okWide Tryz.prog W r b0 35 v) (h : DataW.Trod enc Tryz.prog W base0 spare held 35 v d p) :
    ∃ (te vo base bt : Int) (A : Option Addr) (cap : Nat) (l : List En) (x : KC), v = .agg #[.int .i64 te, .int .i64 vo, .int .i64 base, .int .i64 bt, .slice A l.length cap, .slice x.rA x.rs.length x.rc, .slice x.mA x.ms.length x.mc, .slice x.gA x.gs.length x.gc, .int .i64 x.time, .slice x.dA x.ds.length x.dc, .slice x.lA x.ls.length x.lc] /\ I64 te /\ I64 vo /\ I64 base /\ I64 bt /\ l.length <= 9223372036854775807 /\ (∀ z ∈ l, z.right) /\ At W A l /\ KRight x /\ KAt W x := by
  obtain ⟨cs, rfl, hsz⟩ := okWide_struct Tryz.underlying35 hv
  rw [show Tryz.prog.cellsOf 35 = 11 by kernel_rfl] at hsz
  obtain ⟨c0, c1, c2, c3, c4, c5, c6, c7, c8, c9, c10, rfl⟩ : ∃ c0 c1 c2 c3 c4 c5 c6 c7 c8 c9 c10, cs = #[c0, c1, c2, c3, c4, c5, c6, c7, c8, c9, c10] := by
    obtain ⟨l⟩ := cs
    match l, hsz with
    | [c0, c1, c2, c3, c4, c5, c6, c7, c8, c9, c10], _ => exact ⟨c0, c1, c2, c3, c4, c5, c6, c7, c8, c9, c10, rfl⟩
  obtain ⟨fuel, hf0⟩ := h
  simp only [Value.cells] at hf0
  obtain ⟨n, hp⟩ := parts_of Tryz.underlying35 hf0
  obtain ⟨yg0, g0⟩ := hp 0 _ rfl
  simp only [zG] at g0
  rw [show Tryz.prog.cellsOf 3 = 1 by kernel_rfl] at g0
  simp only [List.drop_succ_cons, List.drop_zero, List.take_succ_cons, List.take_zero, List.take_nil] at g0
  obtain ⟨yg1, g1⟩ := hp 1 _ rfl
  simp only [zG] at g1
  rw [show Tryz.prog.cellsOf 3 = 1 by kernel_rfl] at g1
  simp only [List.drop_succ_cons, List.drop_zero, List.take_succ_cons, List.take_zero, List.take_nil] at g1
  obtain ⟨yg2, g2⟩ := hp 2 _ rfl
  simp only [zG] at g2
  rw [show Tryz.prog.cellsOf 26 = 3 by kernel_rfl] at g2
  simp only [List.drop_succ_cons, List.drop_zero, List.take_succ_cons, List.take_zero, List.take_nil] at g2
  obtain ⟨yg3, g3⟩ := hp 3 _ rfl
  simp only [zG] at g3
  rw [show Tryz.prog.cellsOf 33 = 6 by kernel_rfl] at g3
  simp only [List.drop_succ_cons, List.drop_zero, List.take_succ_cons, List.take_zero, List.take_nil] at g3
  obtain ⟨n2, hp2⟩ := parts_of Tryz.underlying26 g2
  obtain ⟨yg20, g20⟩ := hp2 0 _ rfl
  simp only [zG] at g20
  rw [show Tryz.prog.cellsOf 3 = 1 by kernel_rfl] at g20
  simp only [List.drop_succ_cons, List.drop_zero, List.take_succ_cons, List.take_zero, List.take_nil] at g20
  obtain ⟨yg21, g21⟩ := hp2 1 _ rfl
  simp only [zG] at g21
  rw [show Tryz.prog.cellsOf 3 = 1 by kernel_rfl] at g21
  simp only [List.drop_succ_cons, List.drop_zero, List.take_succ_cons, List.take_zero, List.take_nil] at g21
  obtain ⟨yg22, g22⟩ := hp2 2 _ rfl
  simp only [zG] at g22
  rw [show Tryz.prog.cellsOf 24 = 1 by kernel_rfl] at g22
  simp only [List.drop_succ_cons, List.drop_zero, List.take_succ_cons, List.take_zero, List.take_nil] at g22
  obtain ⟨n3, hp3⟩ := parts_of Tryz.underlying33 g3
  obtain ⟨yg30, g30⟩ := hp3 0 _ rfl
  simp only [zG] at g30
  rw [show Tryz.prog.cellsOf 27 = 1 by kernel_rfl] at g30
  simp only [List.drop_succ_cons, List.drop_zero, List.take_succ_cons, List.take_zero, List.take_nil] at g30
  obtain ⟨yg31, g31⟩ := hp3 1 _ rfl
  simp only [zG] at g31
  rw [show Tryz.prog.cellsOf 28 = 1 by kernel_rfl] at g31
  simp only [List.drop_succ_cons, List.drop_zero, List.take_succ_cons, List.take_zero, List.take_nil] at g31
  obtain ⟨yg32, g32⟩ := hp3 2 _ rfl
  simp only [zG] at g32
  rw [show Tryz.prog.cellsOf 29 = 1 by kernel_rfl] at g32
  simp only [List.drop_succ_cons, List.drop_zero, List.take_succ_cons, List.take_zero, List.take_nil] at g32
  obtain ⟨yg33, g33⟩ := hp3 3 _ rfl
  simp only [zG] at g33
  rw [show Tryz.prog.cellsOf 3 = 1 by kernel_rfl] at g33
  simp only [List.drop_succ_cons, List.drop_zero, List.take_succ_cons, List.take_zero, List.take_nil] at g33
  obtain ⟨yg34, g34⟩ := hp3 4 _ rfl
  simp only [zG] at g34
  rw [show Tryz.prog.cellsOf 30 = 1 by kernel_rfl] at g34
  simp only [List.drop_succ_cons, List.drop_zero, List.take_succ_cons, List.take_zero, List.take_nil] at g34
  obtain ⟨yg35, g35⟩ := hp3 5 _ rfl
  simp only [zG] at g35
  rw [show Tryz.prog.cellsOf 31 = 1 by kernel_rfl] at g35
  simp only [List.drop_succ_cons, List.drop_zero, List.take_succ_cons, List.take_zero, List.take_nil] at g35
  obtain ⟨te, e_te, _, w_te⟩ := DataW.trod_int Tryz.underlying3 g0
  simp at e_te
  subst e_te
  obtain ⟨vo, e_vo, _, w_vo⟩ := DataW.trod_int Tryz.underlying3 g1
  simp at e_vo
  subst e_vo
  obtain ⟨base, e_base, _, w_base⟩ := DataW.trod_int Tryz.underlying3 g20
  simp at e_base
  subst e_base
  obtain ⟨bt, e_bt, _, w_bt⟩ := DataW.trod_int Tryz.underlying3 g21
  simp at e_bt
  subst e_bt
  obtain ⟨time, e_time, _, w_time⟩ := DataW.trod_int Tryz.underlying3 g33
  simp at e_time
  subst e_time
  obtain ⟨A, cap, l, rfl, hl, hR, hat⟩ := openEntryS g22
  obtain ⟨rA, rc, rs, rfl, r1, r2, r3, r4⟩ := openRowS g30
  obtain ⟨mA, mc, ms, rfl, m1, m2, m3, m4⟩ := openMakerS g31
  obtain ⟨gA, gc, gs, rfl, a1, a2, a3, a4⟩ := openGroupS g32
  obtain ⟨dA, dc, ds, rfl, d1, d2, d3⟩ := openInts g34
  obtain ⟨lA, lc, ls, rfl, l1, l2, l3⟩ := openAnswerS g35
  exact ⟨te, vo, base, bt, A, cap, l, ⟨rA, rc, rs, mA, mc, ms, gA, gc, gs, time, dA, dc, ds, lA, lc, ls⟩, rfl, i64_of w_te, i64_of w_vo, i64_of w_base, i64_of w_bt, hl, hR, hat, ⟨r1, m1, a1, d1, l1, r2, m2, a2, d2, l2, i64_of w_time⟩, ⟨r3, r4, m3, m4, a3, a4, d3, l3⟩⟩
end Go.Proofs.YtaefjifcnoiplaaGreat.Gen
