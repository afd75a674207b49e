/-
  Which logs are right: by the specification and by the program, the same. No condition but the length that every text has, and that there are at most 3000000 entries.
-/
import Derived.Test.YtajbldnhjpjghaaGreatDoorDrawKR
set_option linter.unusedVariables false
set_option linter.unusedSimpArgs false
set_option maxRecDepth 100000
set_option maxHeartbeats 8000000
set_option maxRecDepth 100000
set_option maxHeartbeats 8000000
namespace Go.Proofs.YtajbldnhjpjghaaGreatDoor.Gen
open ChangeShapes WideShapes ChangeAt RowKit Joins Deep Base
def enF (x:En):Bool:=CmdOk.okB x.who x.seq x.op x.a x.b x.c x.key x.text
theorem all_drop (f:En->Bool) (l:List En) (n:Nat) (hn:n<l.length):(l.drop n).all f=(f l[n]&&(l.drop (n+1)).all f):=by
 rw[List.drop_eq_getElem_cons hn];rfl
theorem in_le {x lo hi:Int} (h:inB x lo hi=true):lo<=x/\x<=hi:=by simpa [inB]using h
theorem Qe0 (x:Int) (w:World):Calls Tryz.prog 39 #[.int .i64 x] w fun e w' =>e= .returned (.bool (inB x 0 300))/\w' =w:=by
 go_enter Tryz.func39,Tryz.ntmps39;go_wp2_with (go_at_call 40;refine(Qc3 _ _ _ _).mono ?_;rintro e w' ⟨rfl,rfl⟩);go_ret;exact⟨rfl,rfl⟩
end Go.Proofs.YtajbldnhjpjghaaGreatDoor.Gen
