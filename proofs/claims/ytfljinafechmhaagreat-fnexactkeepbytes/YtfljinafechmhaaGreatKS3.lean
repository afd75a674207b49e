/-
  The specification's KeepBytes; a keeper's bytes hang on its content alone. No condition but that its lists have at most 1048576 records in all.
-/
import Derived.Test.YtfljinafechmhaaGreatKS2
import Derived.Test.YtfljinafechmhaaGreatKBw5
import Derived.Test.YtfljinafechmhaaGreatKOkSpec
import Derived.Test.YtfljinafechmhaaGreatKeepP
namespace Go.Proofs.YtfljinafechmhaaGreat.Gen
open Go.ChangeShapes Go.WideShapes Go.ChangeAt Go.RowKit Go.Joins Go.Deep Base
set_option linter.unusedVariables false
set_option linter.unusedSimpArgs false

theorem rcs_p (l : List RC) : l.flatMap rcB = (l.map RC.p).flatMap (fun p => numsB [p.start, p.next] ++ itsB p.its) := by rw [List.flatMap_map]; rfl
theorem mcs_p (l : List MC) : l.flatMap mcB = (l.map MC.p).flatMap (fun p => numsB [p.row, p.who, p.epoch, p.last + 1] ++ mksB p.ms) := by rw [List.flatMap_map]; rfl
theorem gcs_p (l : List GC) : l.flatMap gcB = (l.map GC.p).flatMap (fun p => numsB [p.gen, (p.m.length : Int)] ++ (memB p.m p.b ++ numsB p.o)) := by rw [List.flatMap_map]; rfl
theorem kB_p {x y : KC} (h : y.p = x.p) : kB y = kB x := by
  obtain ⟨l1, l2, l3, l4, l5, l6⟩ := KC.p_len h
  simp only [KC.p, PK.mk.injEq] at h
  simp only [kB, rcsB, mcsB, gcsB, rcs_p, mcs_p, gcs_p, h.1, h.2.1, h.2.2.1, l1, l2, l3, l4, l5, l6]
theorem kO_p {ro wi le ke : Int} {x y : KC} (h : y.p = x.p) : kO ro wi le ke y = kO ro wi le ke x := by
  unfold kO
  rw [kB_p h, keepB_p h]

set_option maxRecDepth 100000 in
set_option maxHeartbeats 1000000 in
theorem specKeepBytes_any (ro wi le ke : Int) (x : KC) (ha : KAsk x) (hkr : keepB ro wi le ke x = true → KcR x ∧ (kB x).length ≤ 400000000) (w : World) (hx : KAt w x) :
    Calls Tryz.prog 5 #[.agg #[.int .i64 ro, .int .i64 wi, .int .i64 le, .int .i64 ke], .agg #[.slice x.rA x.rs.length x.rc, .slice x.mA x.ms.length x.mc, .slice x.gA x.gs.length x.gc, .int .i64 x.time, .slice x.dA x.ds.length x.dc, .slice x.lA x.ls.length x.lc]] w fun e w' => ∃ a' c', e = .returned (.slice a' (kO ro wi le ke x).length c') ∧ Below w.heap.size w w' ∧ w'.ownsRow w.heap.size 5 1 (.slice a' (kO ro wi le ke x).length c') (kO ro wi le ke x).length (flat (kO ro wi le ke x)) := by
  have E1 : Hid (∀ W : World, Below w.heap.size w W → Calls Tryz.prog 19 #[.agg #[.int .i64 ro, .int .i64 wi, .int .i64 le, .int .i64 ke], .agg #[.slice x.rA x.rs.length x.rc, .slice x.mA x.ms.length x.mc, .slice x.gA x.gs.length x.gc, .int .i64 x.time, .slice x.dA x.ds.length x.dc, .slice x.lA x.ls.length x.lc]] W fun e w' => e = .returned (.bool (keepB ro wi le ke x)) ∧ Below W.heap.size W w') := fun W g => specKeepOk_any ro wi le ke x ha W (hx.below g)
  have B : Below w.heap.size w ((w.alloc (.cells #[.int .i64 ro, .int .i64 wi, .int .i64 le, .int .i64 ke] 34)).alloc (.cells #[.slice x.rA x.rs.length x.rc, .slice x.mA x.ms.length x.mc, .slice x.gA x.gs.length x.gc, .int .i64 x.time, .slice x.dA x.ds.length x.dc, .slice x.lA x.ls.length x.lc] 41)) := alloc0 (alloc0 (Below.refl _ _) _) _
  have P : Blk ((w.alloc (.cells #[.int .i64 ro, .int .i64 wi, .int .i64 le, .int .i64 ke] 34)).alloc (.cells #[.slice x.rA x.rs.length x.rc, .slice x.mA x.ms.length x.mc, .slice x.gA x.gs.length x.gc, .int .i64 x.time, .slice x.dA x.ds.length x.dc, .slice x.lA x.ls.length x.lc] 41)) (w.heap.size + 1) 41 #[.slice x.rA x.rs.length x.rc, .slice x.mA x.ms.length x.mc, .slice x.gA x.gs.length x.gc, .int .i64 x.time, .slice x.dA x.ds.length x.dc, .slice x.lA x.ls.length x.lc] := by have := Blk.new (w.alloc (.cells #[.int .i64 ro, .int .i64 wi, .int .i64 le, .int .i64 ke] 34)) 41 #[.slice x.rA x.rs.length x.rc, .slice x.mA x.ms.length x.mc, .slice x.gA x.gs.length x.gc, .int .i64 x.time, .slice x.dA x.ds.length x.dc, .slice x.lA x.ls.length x.lc]; rwa [World.size_alloc] at this
  cases hb : keepB ro wi le ke x
  · rw [hb] at E1
    have hO : Hid (kO ro wi le ke x = []) := by show _ = _; unfold kO; rw [hb]; rfl
    clear hb hkr ha hx
    go_enter Tryz.func5, Tryz.ntmps5
    go_wp2_with fail
    refine (E1.out _ B).mono ?_
    rintro e w1 ⟨rfl, g⟩
    have B1 := via0 g B
    clear g
    go_wp2
    go_ret
    rw [hO.out]
    exact ⟨_, _, rfl, alloc0 B1 _, ⟨by simp [flat], .inr ⟨w1.heap.size, 0, #[], rfl, B1.size, Blk.new w1 5 #[], Nat.le_refl _, by simp [maxLen], rfl, rfl⟩⟩⟩
  · rw [hb] at E1
    obtain ⟨h1, h2⟩ := hkr hb
    have hO : Hid (kO ro wi le ke x = kB x) := by show _ = _; unfold kO; rw [hb]; rfl
    have E2 : Hid (∀ W : World, Below w.heap.size w W → Calls Tryz.prog 20 #[.agg #[.slice x.rA x.rs.length x.rc, .slice x.mA x.ms.length x.mc, .slice x.gA x.gs.length x.gc, .int .i64 x.time, .slice x.dA x.ds.length x.dc, .slice x.lA x.ls.length x.lc]] W fun e w' => ∃ a' c', e = .returned (.slice a' (kB x).length c') ∧ Below W.heap.size W w' ∧ w'.ownsRow W.heap.size 5 1 (.slice a' (kB x).length c') (kB x).length (flat (kB x))) := fun W g => specL7_any x h1 h2 W (hx.below g)
    clear hb hkr ha hx h1 h2
    generalize kB x = K at *
    go_enter Tryz.func5, Tryz.ntmps5
    go_wp2_with fail
    refine (E1.out _ B).mono ?_
    rintro e w1 ⟨rfl, g⟩
    have B1 := via0 g B
    replace P := P.below g P.lt
    obtain ⟨v0, v1, v2, v3, v4, v5⟩ := P.row6
    have q := P.lt
    clear g
    go_wp2_with fail
    refine (E2.out _ B1).mono ?_
    rintro e w2 ⟨a2, c2, rfl, g2, o2⟩
    have O2 := hidP (owns_mono o2 B1.size)
    have B2 := via0 g2 B1
    clear o2 g2
    go_wp2
    go_ret
    rw [hO.out]
    exact ⟨a2, c2, rfl, B2, O2.out⟩
end Go.Proofs.YtfljinafechmhaaGreat.Gen
