/-
  Logs: what the laws' sz, to and eq functions of them do; a log opened. No condition but that there are at most 1048576 entries, and the length that every text has.
-/
import Derived.Test.YtddijnmdeabjbaaGreatEnt
set_option linter.unusedVariables false
set_option linter.unusedSimpArgs false
set_option maxRecDepth 100000
set_option maxHeartbeats 8000000
namespace Go.Proofs.YtddijnmdeabjbaaGreat.Gen
open ChangeShapes WideShapes ChangeAt RowKit Joins Deep Base
theorem At.hid {α : Type} [Cel α] {w : World} {A : Option Addr} {l : List α} (hA : At w A l) : Hid (∀ W : World, Below w.heap.size w W -> At W A l) := fun W hW => hA.below hW
theorem szLog_any (base bt : Int) (A : Option Addr) (cap : Nat) (l : List En) (hl : l.length <= 9223372036854775807) (hr : ∀ x ∈ l, x.fit) (left : Int) (h0 : 0 <= left) (h1 : left <= 1048576) (w : World) (hA : At w A l) :
 Calls Tryz.prog 108 #[.agg #[.int .i64 base, .int .i64 bt, .slice A l.length cap], .int .i64 left] w fun e w' => (∃ r : Int, e = .returned (.int .i64 r) /\ (r < 0 ∨ (0 <= r /\ r = left - (l.length : Int) - (Qad szEn l : Int)))) /\ Below w.heap.size w w' := by
 have HA := hA.hid
 have Hr := hidP hr
 clear hA hr
 go_enter Tryz.func108, Tryz.ntmps108
 go_wp2_with fail
 refine (Qbm A cap l hl Hr.out left h0 h1 _ (HA.out _ (by repeat (first | exact Below.refl _ _ | assumption | refine via0 (by assumption) ?_ | refine Below.drew ?_ | refine Qaa ?_ _)))).mono ?_
 rintro e w1 ⟨⟨r, rfl, hr⟩, g1⟩
 have HR := hidP hr
 have B1 : Below w.heap.size w w1 := by repeat (first | exact Below.refl _ _ | assumption | refine via0 (by assumption) ?_ | refine Below.drew ?_ | refine Qaa ?_ _)
 clear hr
 by_cases hn : r < 0
 . go_wp2
   go_ret
   exact ⟨⟨-1, rfl, .inl (by omega)⟩, B1⟩
 . go_wp2
   go_ret
   exact ⟨⟨r, rfl, HR.out⟩, B1⟩
theorem toLog_any (base bt : Int) (A : Option Addr) (cap : Nat) (l : List En) (hl : l.length <= 1048576) (w : World) (hA : At w A l) :
 Calls Tryz.prog 117 #[.agg #[.int .i64 base, .int .i64 bt, .slice A l.length cap]] w
  fun e w' => ∃ b, e = .returned (.agg #[.int .i64 base, .int .i64 bt, .slice (some ⟨b, 0, none⟩) l.length l.length]) /\ Below w.heap.size w w' /\ w.heap.size <= b /\ b < w'.heap.size /\ In w' b 0 l /\ w'.there b 0 (l.length * 9) := by
 have HA := hA.hid
 clear hA
 go_enter Tryz.func117, Tryz.ntmps117
 go_wp2_with (go_at_call 95; refine (Qbk A cap l hl _ (HA.out _ ?_)).mono ?_; (repeat (first | exact Below.refl _ _ | assumption | refine via0 (by assumption) ?_ | refine Below.drew ?_ | refine Qaa ?_ _)); rintro e w1 ⟨rfl, g1, s1, i1, t1⟩; obtain ⟨k1, m1⟩ := Qap g1)
 have i2 : In w1 (w.heap.size + 1 + 1 + 1) 0 l := by simpa using i1
 have t2 : w1.there (w.heap.size + 1 + 1 + 1) 0 (l.length * 9) := by simpa using t1
 have s2 : w.heap.size + 1 + 1 + 1 < w1.heap.size := by simpa using s1
 have g2 : Below w.heap.size w w1 := via0 g1 (by repeat (first | exact Below.refl _ _ | assumption | refine via0 (by assumption) ?_ | refine Below.drew ?_ | refine Qaa ?_ _))
 refine bodyPost_ret (v := .agg #[.int .i64 base, .int .i64 bt, .slice (some ⟨w.heap.size + 1 + 1 + 1, 0, none⟩) l.length l.length]) (by simp [results, Tryz.results117, go_sem, k1]) rfl ⟨w.heap.size + 1 + 1 + 1, rfl, ?_, by omega, by simp; omega, ?_, ?_⟩
 . exact Qag (Qag (Qag (Qag (g2) (by omega) _) (by omega) _) (by omega) _) (by omega) _
 . exact In.set (In.set (In.set (In.set (i2) _ _ (by simp)) _ _ (by simp)) _ _ (by simp)) _ _ (by simp)
 . exact Qac (Qac (Qac (Qac (t2) _ _ _) _ _ _) _ _ _) _ _ _
theorem eqLog_same (base bt : Int) (A A' : Option Addr) (cap cap' : Nat) (l : List En) (hl : l.length <= 9223372036854775807) (w : World) (hA : At w A l) (hA' : At w A' l) :
 Calls Tryz.prog 131 #[.agg #[.int .i64 base, .int .i64 bt, .slice A l.length cap], .agg #[.int .i64 base, .int .i64 bt, .slice A' l.length cap']] w fun e w' => e = .returned (.bool true) /\ Below w.heap.size w w' := by
 have HA := hA.hid
 have HA' := hA'.hid
 clear hA hA'
 go_enter Tryz.func131, Tryz.ntmps131
 go_wp2_with (go_at_call 106; refine (Qbh A A' cap cap' l hl _ (HA.out _ ?_) (HA'.out _ ?_)).mono ?_; (repeat (first | exact Below.refl _ _ | assumption | refine via0 (by assumption) ?_ | refine Below.drew ?_ | refine Qaa ?_ _)); (repeat (first | exact Below.refl _ _ | assumption | refine via0 (by assumption) ?_ | refine Below.drew ?_ | refine Qaa ?_ _)); rintro e w1 ⟨rfl, g1⟩)
 go_ret
 refine ⟨rfl, ?_⟩
 repeat (first | exact Below.refl _ _ | assumption | refine via0 (by assumption) ?_ | refine Below.drew ?_ | refine Qaa ?_ _)
end Go.Proofs.YtddijnmdeabjbaaGreat.Gen
