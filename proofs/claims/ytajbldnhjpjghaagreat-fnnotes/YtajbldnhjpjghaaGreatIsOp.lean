/-
  isOp at this seat: an Op is right when it has a name. No condition.
-/
import Derived.Test.YtajbldnhjpjghaaGreatCmdParts
set_option linter.unusedVariables false
set_option linter.unusedSimpArgs false
set_option maxRecDepth 100000
set_option maxHeartbeats 8000000
set_option maxRecDepth 100000
set_option maxHeartbeats 8000000
namespace Go.Proofs.YtajbldnhjpjghaaGreat.CmdOk
open ChangeShapes WideShapes ChangeAt RowKit Joins Base
theorem Qmg (w:World):(Op.equalIn 10000 154 (.agg opNs) (.agg opNs)).run Tryz.prog w= .ok true w:=by kernel_rfl
theorem Qp9 (op:Int) (h:inB op 0 10=true) (w:World):(Op.equalIn 10000 154 (.agg (opW op)) (.agg opNs)).run Tryz.prog w= .ok (!inB op 1 10) w:=by
 rcases Qn4 op with h' |rfl|rfl|rfl|rfl|rfl|rfl|rfl|rfl|rfl|rfl|rfl
 . rw[h]at h';cases h'
 all_goals kernel_rfl
theorem Qqk (op:Int) (h:inB op 0 10=false) (w:World):
 Calls Tryz.prog 80 #[.int .i64 op] w fun e w' =>e= .returned (.bool false)/\Below w.heap.size w w' :=by
 have heq:=Qmg;go_enter Tryz.func80,Tryz.ntmps80;go_wp2_with (go_at_call 94;refine(Qjm _).mono ?_;rintro e w1 ⟨rfl,g1⟩;obtain⟨c1,f1⟩:=Qeh g1;have s1:=g1.size;try simp at s1)
 go_region_with (go_at_call 95;refine(Qkl _ h _).mono ?_;rintro e w2 ⟨rfl,g2⟩;obtain⟨c2,f2⟩:=Qeh g2;have s2:=g2.size;try simp at s2;have q2:w1.heap.size<w2.heap.size:=by omega)
 all_goals
  go_wp2;go_ret;refine⟨rfl,?_⟩
  repeat(first|exact Below.refl _ _|(refine via (by assumption) (by first|omega|(simp;done)|(simp;omega)) ?_)|refine Below.drew ?_|refine Below.setCell ?_ (by first|omega|(simp;done)|(simp;omega)) _|refine Below.alloc ?_ (by first|omega|(simp;done)|(simp;omega)) _)
theorem Qql (op:Int) (w:World):
 Calls Tryz.prog 80 #[.int .i64 op] w fun e w' =>e= .returned (.bool (inB op 1 10))/\Below w.heap.size w w' :=by
 cases h:inB op 0 10
 . have e:inB op 1 10=false:=(by simp only[inB,decide_eq_false_iff_not]at h ⊢;omega);rw[e];exact Qqk op h w
 have heq:=Qp9 op h;go_enter Tryz.func80,Tryz.ntmps80;go_wp2_with (go_at_call 94;refine(Qjm _).mono ?_;rintro e w1 ⟨rfl,g1⟩;obtain⟨c1,f1⟩:=Qeh g1;have s1:=g1.size;try simp at s1)
 go_region_with (go_at_call 95;refine(Qmb _ h _).mono ?_;rintro e w2 ⟨rfl,g2⟩;obtain⟨c2,f2⟩:=Qeh g2;have s2:=g2.size;try simp at s2;have q2:w1.heap.size<w2.heap.size:=by omega)
 all_goals
  go_wp2;go_ret;refine⟨rfl,?_⟩
  repeat(first|exact Below.refl _ _|(refine via (by assumption) (by first|omega|(simp;done)|(simp;omega)) ?_)|refine Below.drew ?_|refine Below.setCell ?_ (by first|omega|(simp;done)|(simp;omega)) _|refine Below.alloc ?_ (by first|omega|(simp;done)|(simp;omega)) _)
end Go.Proofs.YtajbldnhjpjghaaGreat.CmdOk
