/-
  Which logs are right: by the specification and by the program, the same. No condition but the length that every text has, and that there are at most 3000000 entries.
-/
import Derived.Test.YtenfinilhibmhaaEnt
import Derived.Test.YtenfinilhibmhaaCmdAns
import Derived.Test.YtenfinilhibmhaaInB
namespace Go.Proofs.Ytenfinilhibmhaa.Gen
open Go.ChangeShapes Go.WideShapes Go.ChangeAt Go.RowKit Go.Joins Go.Deep Base
set_option linter.unusedVariables false

/-- Which entries' commands are right. -/
def enF (x : En) : Bool := CmdOk.okB x.who x.seq x.op x.a x.b x.c x.key x.text
/-- Terms that ascend, from t on. -/
def termsB : Int → List En → Bool
  | _, [] => true
  | t, x :: l => inB x.term t 300 && termsB x.term l
/-- Which logs are right. -/
def logB (base bt : Int) (l : List En) : Bool := inB base 0 300 && inB bt 0 300 && decide ((l.length : Int) ≤ 300 - base) && termsB bt l && l.all enF

theorem terms_drop (t : Int) (l : List En) (n : Nat) (hn : n < l.length) : termsB t (l.drop n) = (inB l[n].term t 300 && termsB l[n].term (l.drop (n + 1))) := by
  rw [List.drop_eq_getElem_cons hn]; rfl
theorem all_drop (f : En → Bool) (l : List En) (n : Nat) (hn : n < l.length) : (l.drop n).all f = (f l[n] && (l.drop (n + 1)).all f) := by
  rw [List.drop_eq_getElem_cons hn]; rfl
theorem in_le {x lo hi : Int} (h : inB x lo hi = true) : lo ≤ x ∧ x ≤ hi := by simpa [inB] using h

theorem isIndex_any (x : Int) (w : World) : Calls Try.prog 17 #[.int .i64 x] w fun e w' => e = .returned (.bool (inB x 0 300)) ∧ w' = w := by
  go_enter Try.func17, Try.ntmps17
  go_wp2_with (go_at_call 13; refine (within_any _ _ _ _).mono ?_; rintro e w' ⟨rfl, rfl⟩)
  go_ret
  exact ⟨rfl, rfl⟩

end Go.Proofs.Ytenfinilhibmhaa.Gen
