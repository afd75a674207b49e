/-
  Messages: their sz, their to, and how a law's message lies. No condition.
-/
import Derived.Test.YtddijnmdeabjbaaGreatRpcV
set_option linter.unusedVariables false
set_option linter.unusedSimpArgs false
set_option maxRecDepth 100000
set_option maxHeartbeats 8000000
namespace Go.Proofs.YtddijnmdeabjbaaGreat.Gen
open ChangeShapes WideShapes ChangeAt RowKit Joins Deep Base
theorem szRpc_any (kind frm too term index iterm commit : Int) (ok : Bool) (snap : ByteArray) (hs : snap.size <= 9223372036854775807) (A : Option Addr) (cap : Nat) (l : List En) (hl : l.length <= 9223372036854775807) (hr : ∀ x ∈ l, x.fit) (left : Int) (h0 : 0 <= left) (h1 : left <= 1048576) (w : World) (hA : At w A l) :
 Calls Tryz.prog 51 #[.agg #[.int .i64 kind, .int .i64 frm, .int .i64 too, .int .i64 term, .int .i64 index, .int .i64 iterm, .int .i64 commit, .slice A l.length cap, .bool ok, .string snap], .int .i64 left] w fun e w' => (∃ r : Int, e = .returned (.int .i64 r) /\ (r < 0 ∨ (0 <= r /\ r = left - (l.length : Int) - (Qad szEn l : Int) - (snap.size : Int)))) /\ Below w.heap.size w w' := by
 have HA := hidP hA
 have Hr := hidP hr
 clear hA hr
 go_enter Tryz.func51, Tryz.ntmps51
 go_wp2_with fail
 refine (Qbm A cap l hl Hr.out left h0 h1 _ (HA.out.below (by repeat (first | exact Below.refl _ _ | assumption | refine via0 (by assumption) ?_ | refine Below.drew ?_ | refine Qaa ?_ _)))).mono ?_
 rintro e w1 ⟨⟨r, rfl, hr⟩, g1⟩
 have B1 : Below w.heap.size w w1 := by repeat (first | exact Below.refl _ _ | assumption | refine via0 (by assumption) ?_ | refine Below.drew ?_ | refine Qaa ?_ _)
 have p1 := (Blk.new w 117 #[.int .i64 kind, .int .i64 frm, .int .i64 too, .int .i64 term, .int .i64 index, .int .i64 iterm, .int .i64 commit, .slice A l.length cap, .bool ok, .string snap]).below g1 (by simp)
 obtain ⟨d0, d1, d2, d3, d4, d5, d6, d7, d8, d9⟩ := p1.row10
 have q1 := p1.lt
 have hr1 : r < 0 ∨ (0 <= r /\ r <= 1048576) := by
  rcases hr with h | ⟨h, e⟩
  . exact .inl h
  . exact .inr ⟨h, by omega⟩
 have HR := hidP hr
 clear hr g1
 by_cases hn : r < 0
 . go_wp2
   go_ret
   exact ⟨⟨-1, rfl, .inl (by omega)⟩, B1⟩
 . obtain ⟨hr2, hr3⟩ : 0 <= r /\ r <= 1048576 := by omega
   by_cases hn2 : r - (snap.size : Int) < 0
   . go_wp2
     go_ret
     exact ⟨⟨-1, rfl, .inl (by omega)⟩, B1⟩
   . go_wp2
     go_ret
     refine ⟨⟨_, rfl, .inr ⟨by omega, ?_⟩⟩, B1⟩
     rcases HR.out with h | ⟨_, h⟩
     . omega
     . omega
theorem toRpc_any (kind frm too term index iterm commit : Int) (ok : Bool) (snap : ByteArray) (A : Option Addr) (cap : Nat) (l : List En) (hl : l.length <= 1048576) (w : World) (hA : At w A l) :
 Calls Tryz.prog 62 #[.agg #[.int .i64 kind, .int .i64 frm, .int .i64 too, .int .i64 term, .int .i64 index, .int .i64 iterm, .int .i64 commit, .slice A l.length cap, .bool ok, .string snap]] w
  fun e w' => ∃ b, e = .returned (.agg #[.int .i64 kind, .int .i64 frm, .int .i64 too, .int .i64 term, .int .i64 index, .int .i64 iterm, .int .i64 commit, .slice (some ⟨b, 0, none⟩) l.length l.length, .bool ok, .string snap]) /\ Below w.heap.size w w' /\ w.heap.size <= b /\ b < w'.heap.size /\ In w' b 0 l /\ w'.there b 0 (l.length * 9) := by
 have HA := hidP hA
 clear hA
 go_enter Tryz.func62, Tryz.ntmps62
 go_wp2_with (go_at_call 95; refine (Qbk A cap l hl _ (HA.out.below ?_)).mono ?_; (repeat (first | exact Below.refl _ _ | refine Qaa ?_ _ | refine Qag ?_ (by simp<;>omega) _)); rintro e w1 ⟨rfl, g1, s1, i1, t1⟩; obtain ⟨k1, m1⟩ := Qap g1)
 have i2 : In w1 (w.heap.size + 1 + 1 + 1) 0 l := by simpa using i1
 have t2 : w1.there (w.heap.size + 1 + 1 + 1) 0 (l.length * 9) := by simpa using t1
 have s2 : w.heap.size + 1 + 1 + 1 < w1.heap.size := by simpa using s1
 have g2 : Below w.heap.size w w1 := via0 g1 (by repeat (first | exact Below.refl _ _ | refine Qaa ?_ _ | refine Qag ?_ (by simp<;>omega) _))
 refine bodyPost_ret (v := .agg #[.int .i64 kind, .int .i64 frm, .int .i64 too, .int .i64 term, .int .i64 index, .int .i64 iterm, .int .i64 commit, .slice (some ⟨w.heap.size + 1 + 1 + 1, 0, none⟩) l.length l.length, .bool ok, .string snap]) (by simp [results, Tryz.results62, go_sem, k1]) rfl ⟨w.heap.size + 1 + 1 + 1, rfl, ?_, by omega, by simp; omega, ?_, ?_⟩
 . repeat (first | with_reducible exact g2 | refine Qag ?_ (by omega) _)
 . repeat (first | with_reducible exact i2 | refine In.set ?_ _ _ (by simp))
 . repeat (first | with_reducible exact t2 | refine Qac ?_ _ _ _)
theorem cellsRpc : Tryz.prog.cellsOf 117 = 10 := by kernel_rfl
end Go.Proofs.YtddijnmdeabjbaaGreat.Gen
