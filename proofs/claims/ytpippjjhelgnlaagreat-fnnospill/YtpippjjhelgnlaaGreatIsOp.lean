/-
  isOp at this seat: an Op is right when it has a name. No condition.
-/
import Derived.Test.YtpippjjhelgnlaaGreatCmdParts
set_option linter.unusedVariables false
set_option linter.unusedSimpArgs false
set_option maxRecDepth 100000
set_option maxHeartbeats 8000000
namespace Go.Proofs.YtpippjjhelgnlaaGreat.CmdOk
open ChangeShapes WideShapes ChangeAt RowKit Joins Base
theorem op_ways (op:Int):inB op 0 10=false∨op=0∨op=1∨op=2∨op=3∨op=4∨op=5∨op=6∨op=7∨op=8∨op=9∨op=10:=by
 simp only[inB,decide_eq_false_iff_not];omega
theorem Qhs (w:World):(Op.equalIn 10000 257 (.agg (Qaf ⟨#[110,111,110,101]⟩ ⟨#[112,117,116]⟩ ⟨#[103,101,116]⟩ ⟨#[101,112,111,99,104]⟩ ⟨#[106,111,105,110]⟩ ⟨#[108,101,97,118,101]⟩ ⟨#[109,97,114,107]⟩ ⟨#[114,101,97,100]⟩ ⟨#[116,105,99,107]⟩ ⟨#[116,114,105,109]⟩ ⟨#[112,97,99,107]⟩)) (.agg (Qaf ⟨#[110,111,110,101]⟩ ⟨#[112,117,116]⟩ ⟨#[103,101,116]⟩ ⟨#[101,112,111,99,104]⟩ ⟨#[106,111,105,110]⟩ ⟨#[108,101,97,118,101]⟩ ⟨#[109,97,114,107]⟩ ⟨#[114,101,97,100]⟩ ⟨#[116,105,99,107]⟩ ⟨#[116,114,105,109]⟩ ⟨#[112,97,99,107]⟩))).run Tryz.prog w= .ok true w:=by kernel_rfl
theorem Qjf (w:World):(Op.equalIn 10000 257 (.agg (Qaf ⟨#[110,111,110,101]⟩ ⟨#[110,111,110,101]⟩ ⟨#[103,101,116]⟩ ⟨#[101,112,111,99,104]⟩ ⟨#[106,111,105,110]⟩ ⟨#[108,101,97,118,101]⟩ ⟨#[109,97,114,107]⟩ ⟨#[114,101,97,100]⟩ ⟨#[116,105,99,107]⟩ ⟨#[116,114,105,109]⟩ ⟨#[112,97,99,107]⟩)) (.agg (Qaf ⟨#[110,111,110,101]⟩ ⟨#[112,117,116]⟩ ⟨#[103,101,116]⟩ ⟨#[101,112,111,99,104]⟩ ⟨#[106,111,105,110]⟩ ⟨#[108,101,97,118,101]⟩ ⟨#[109,97,114,107]⟩ ⟨#[114,101,97,100]⟩ ⟨#[116,105,99,107]⟩ ⟨#[116,114,105,109]⟩ ⟨#[112,97,99,107]⟩))).run Tryz.prog w= .ok false w:=by kernel_rfl
theorem Qje (w:World):(Op.equalIn 10000 257 (.agg (Qaf ⟨#[110,111,110,101]⟩ ⟨#[112,117,116]⟩ ⟨#[110,111,110,101]⟩ ⟨#[101,112,111,99,104]⟩ ⟨#[106,111,105,110]⟩ ⟨#[108,101,97,118,101]⟩ ⟨#[109,97,114,107]⟩ ⟨#[114,101,97,100]⟩ ⟨#[116,105,99,107]⟩ ⟨#[116,114,105,109]⟩ ⟨#[112,97,99,107]⟩)) (.agg (Qaf ⟨#[110,111,110,101]⟩ ⟨#[112,117,116]⟩ ⟨#[103,101,116]⟩ ⟨#[101,112,111,99,104]⟩ ⟨#[106,111,105,110]⟩ ⟨#[108,101,97,118,101]⟩ ⟨#[109,97,114,107]⟩ ⟨#[114,101,97,100]⟩ ⟨#[116,105,99,107]⟩ ⟨#[116,114,105,109]⟩ ⟨#[112,97,99,107]⟩))).run Tryz.prog w= .ok false w:=by kernel_rfl
theorem Qjd (w:World):(Op.equalIn 10000 257 (.agg (Qaf ⟨#[110,111,110,101]⟩ ⟨#[112,117,116]⟩ ⟨#[103,101,116]⟩ ⟨#[110,111,110,101]⟩ ⟨#[106,111,105,110]⟩ ⟨#[108,101,97,118,101]⟩ ⟨#[109,97,114,107]⟩ ⟨#[114,101,97,100]⟩ ⟨#[116,105,99,107]⟩ ⟨#[116,114,105,109]⟩ ⟨#[112,97,99,107]⟩)) (.agg (Qaf ⟨#[110,111,110,101]⟩ ⟨#[112,117,116]⟩ ⟨#[103,101,116]⟩ ⟨#[101,112,111,99,104]⟩ ⟨#[106,111,105,110]⟩ ⟨#[108,101,97,118,101]⟩ ⟨#[109,97,114,107]⟩ ⟨#[114,101,97,100]⟩ ⟨#[116,105,99,107]⟩ ⟨#[116,114,105,109]⟩ ⟨#[112,97,99,107]⟩))).run Tryz.prog w= .ok false w:=by kernel_rfl
theorem Qjc (w:World):(Op.equalIn 10000 257 (.agg (Qaf ⟨#[110,111,110,101]⟩ ⟨#[112,117,116]⟩ ⟨#[103,101,116]⟩ ⟨#[101,112,111,99,104]⟩ ⟨#[110,111,110,101]⟩ ⟨#[108,101,97,118,101]⟩ ⟨#[109,97,114,107]⟩ ⟨#[114,101,97,100]⟩ ⟨#[116,105,99,107]⟩ ⟨#[116,114,105,109]⟩ ⟨#[112,97,99,107]⟩)) (.agg (Qaf ⟨#[110,111,110,101]⟩ ⟨#[112,117,116]⟩ ⟨#[103,101,116]⟩ ⟨#[101,112,111,99,104]⟩ ⟨#[106,111,105,110]⟩ ⟨#[108,101,97,118,101]⟩ ⟨#[109,97,114,107]⟩ ⟨#[114,101,97,100]⟩ ⟨#[116,105,99,107]⟩ ⟨#[116,114,105,109]⟩ ⟨#[112,97,99,107]⟩))).run Tryz.prog w= .ok false w:=by kernel_rfl
theorem Qjb (w:World):(Op.equalIn 10000 257 (.agg (Qaf ⟨#[110,111,110,101]⟩ ⟨#[112,117,116]⟩ ⟨#[103,101,116]⟩ ⟨#[101,112,111,99,104]⟩ ⟨#[106,111,105,110]⟩ ⟨#[110,111,110,101]⟩ ⟨#[109,97,114,107]⟩ ⟨#[114,101,97,100]⟩ ⟨#[116,105,99,107]⟩ ⟨#[116,114,105,109]⟩ ⟨#[112,97,99,107]⟩)) (.agg (Qaf ⟨#[110,111,110,101]⟩ ⟨#[112,117,116]⟩ ⟨#[103,101,116]⟩ ⟨#[101,112,111,99,104]⟩ ⟨#[106,111,105,110]⟩ ⟨#[108,101,97,118,101]⟩ ⟨#[109,97,114,107]⟩ ⟨#[114,101,97,100]⟩ ⟨#[116,105,99,107]⟩ ⟨#[116,114,105,109]⟩ ⟨#[112,97,99,107]⟩))).run Tryz.prog w= .ok false w:=by kernel_rfl
theorem Qja (w:World):(Op.equalIn 10000 257 (.agg (Qaf ⟨#[110,111,110,101]⟩ ⟨#[112,117,116]⟩ ⟨#[103,101,116]⟩ ⟨#[101,112,111,99,104]⟩ ⟨#[106,111,105,110]⟩ ⟨#[108,101,97,118,101]⟩ ⟨#[110,111,110,101]⟩ ⟨#[114,101,97,100]⟩ ⟨#[116,105,99,107]⟩ ⟨#[116,114,105,109]⟩ ⟨#[112,97,99,107]⟩)) (.agg (Qaf ⟨#[110,111,110,101]⟩ ⟨#[112,117,116]⟩ ⟨#[103,101,116]⟩ ⟨#[101,112,111,99,104]⟩ ⟨#[106,111,105,110]⟩ ⟨#[108,101,97,118,101]⟩ ⟨#[109,97,114,107]⟩ ⟨#[114,101,97,100]⟩ ⟨#[116,105,99,107]⟩ ⟨#[116,114,105,109]⟩ ⟨#[112,97,99,107]⟩))).run Tryz.prog w= .ok false w:=by kernel_rfl
theorem Qi9 (w:World):(Op.equalIn 10000 257 (.agg (Qaf ⟨#[110,111,110,101]⟩ ⟨#[112,117,116]⟩ ⟨#[103,101,116]⟩ ⟨#[101,112,111,99,104]⟩ ⟨#[106,111,105,110]⟩ ⟨#[108,101,97,118,101]⟩ ⟨#[109,97,114,107]⟩ ⟨#[110,111,110,101]⟩ ⟨#[116,105,99,107]⟩ ⟨#[116,114,105,109]⟩ ⟨#[112,97,99,107]⟩)) (.agg (Qaf ⟨#[110,111,110,101]⟩ ⟨#[112,117,116]⟩ ⟨#[103,101,116]⟩ ⟨#[101,112,111,99,104]⟩ ⟨#[106,111,105,110]⟩ ⟨#[108,101,97,118,101]⟩ ⟨#[109,97,114,107]⟩ ⟨#[114,101,97,100]⟩ ⟨#[116,105,99,107]⟩ ⟨#[116,114,105,109]⟩ ⟨#[112,97,99,107]⟩))).run Tryz.prog w= .ok false w:=by kernel_rfl
theorem Qi8 (w:World):(Op.equalIn 10000 257 (.agg (Qaf ⟨#[110,111,110,101]⟩ ⟨#[112,117,116]⟩ ⟨#[103,101,116]⟩ ⟨#[101,112,111,99,104]⟩ ⟨#[106,111,105,110]⟩ ⟨#[108,101,97,118,101]⟩ ⟨#[109,97,114,107]⟩ ⟨#[114,101,97,100]⟩ ⟨#[110,111,110,101]⟩ ⟨#[116,114,105,109]⟩ ⟨#[112,97,99,107]⟩)) (.agg (Qaf ⟨#[110,111,110,101]⟩ ⟨#[112,117,116]⟩ ⟨#[103,101,116]⟩ ⟨#[101,112,111,99,104]⟩ ⟨#[106,111,105,110]⟩ ⟨#[108,101,97,118,101]⟩ ⟨#[109,97,114,107]⟩ ⟨#[114,101,97,100]⟩ ⟨#[116,105,99,107]⟩ ⟨#[116,114,105,109]⟩ ⟨#[112,97,99,107]⟩))).run Tryz.prog w= .ok false w:=by kernel_rfl
theorem Qi7 (w:World):(Op.equalIn 10000 257 (.agg (Qaf ⟨#[110,111,110,101]⟩ ⟨#[112,117,116]⟩ ⟨#[103,101,116]⟩ ⟨#[101,112,111,99,104]⟩ ⟨#[106,111,105,110]⟩ ⟨#[108,101,97,118,101]⟩ ⟨#[109,97,114,107]⟩ ⟨#[114,101,97,100]⟩ ⟨#[116,105,99,107]⟩ ⟨#[110,111,110,101]⟩ ⟨#[112,97,99,107]⟩)) (.agg (Qaf ⟨#[110,111,110,101]⟩ ⟨#[112,117,116]⟩ ⟨#[103,101,116]⟩ ⟨#[101,112,111,99,104]⟩ ⟨#[106,111,105,110]⟩ ⟨#[108,101,97,118,101]⟩ ⟨#[109,97,114,107]⟩ ⟨#[114,101,97,100]⟩ ⟨#[116,105,99,107]⟩ ⟨#[116,114,105,109]⟩ ⟨#[112,97,99,107]⟩))).run Tryz.prog w= .ok false w:=by kernel_rfl
theorem Qh9 (w:World):(Op.equalIn 10000 257 (.agg (Qaf ⟨#[110,111,110,101]⟩ ⟨#[112,117,116]⟩ ⟨#[103,101,116]⟩ ⟨#[101,112,111,99,104]⟩ ⟨#[106,111,105,110]⟩ ⟨#[108,101,97,118,101]⟩ ⟨#[109,97,114,107]⟩ ⟨#[114,101,97,100]⟩ ⟨#[116,105,99,107]⟩ ⟨#[116,114,105,109]⟩ ⟨#[110,111,110,101]⟩)) (.agg (Qaf ⟨#[110,111,110,101]⟩ ⟨#[112,117,116]⟩ ⟨#[103,101,116]⟩ ⟨#[101,112,111,99,104]⟩ ⟨#[106,111,105,110]⟩ ⟨#[108,101,97,118,101]⟩ ⟨#[109,97,114,107]⟩ ⟨#[114,101,97,100]⟩ ⟨#[116,105,99,107]⟩ ⟨#[116,114,105,109]⟩ ⟨#[112,97,99,107]⟩))).run Tryz.prog w= .ok false w:=by kernel_rfl
theorem isOp_out (op:Int) (h:inB op 0 10=false) (w:World):
 Calls Tryz.prog 181 #[.int .i64 op] w fun e w' =>e= .returned (.bool false)/\Below w.heap.size w w' :=by
 have heq:=Qhs;go_enter Tryz.func181,Tryz.ntmps181;go_wp2_with (go_at_call 202;refine(Qb9 _).mono ?_;rintro e w1 ⟨rfl,g1⟩;obtain⟨c1,f1⟩:=Qcd g1;have s1:=g1.size;try simp at s1)
 go_region_with (go_at_call 203;refine(Qke _ h _).mono ?_;rintro e w2 ⟨rfl,g2⟩;obtain⟨c2,f2⟩:=Qcd g2;have s2:=g2.size;try simp at s2;have q2:w1.heap.size<w2.heap.size:=by omega)
 all_goals
  go_wp2;go_ret;refine⟨rfl,?_⟩
  repeat(first|exact Below.refl _ _|(refine via (by assumption) (by first|omega|(simp;done)|(simp;omega)) ?_)|refine Below.drew ?_|refine Below.setCell ?_ (by first|omega|(simp;done)|(simp;omega)) _|refine Below.alloc ?_ (by first|omega|(simp;done)|(simp;omega)) _)
theorem isOp_0 (w:World):
 Calls Tryz.prog 181 #[.int .i64 0] w fun e w' =>e= .returned (.bool false)/\Below w.heap.size w w' :=by
 have heq:=Qhs;go_enter Tryz.func181,Tryz.ntmps181;go_wp2_with (go_at_call 202;refine(Qb9 _).mono ?_;rintro e w1 ⟨rfl,g1⟩;obtain⟨c1,f1⟩:=Qcd g1;have s1:=g1.size;try simp at s1)
 go_region_with (go_at_call 203;refine(without_0 _).mono ?_;rintro e w2 ⟨rfl,g2⟩;obtain⟨c2,f2⟩:=Qcd g2;have s2:=g2.size;try simp at s2;have q2:w1.heap.size<w2.heap.size:=by omega)
 all_goals
  go_wp2;go_ret;refine⟨rfl,?_⟩
  repeat(first|exact Below.refl _ _|(refine via (by assumption) (by first|omega|(simp;done)|(simp;omega)) ?_)|refine Below.drew ?_|refine Below.setCell ?_ (by first|omega|(simp;done)|(simp;omega)) _|refine Below.alloc ?_ (by first|omega|(simp;done)|(simp;omega)) _)
theorem isOp_1 (w:World):
 Calls Tryz.prog 181 #[.int .i64 1] w fun e w' =>e= .returned (.bool true)/\Below w.heap.size w w' :=by
 have heq:=Qjf;go_enter Tryz.func181,Tryz.ntmps181;go_wp2_with (go_at_call 202;refine(Qb9 _).mono ?_;rintro e w1 ⟨rfl,g1⟩;obtain⟨c1,f1⟩:=Qcd g1;have s1:=g1.size;try simp at s1)
 go_region_with (go_at_call 203;refine(without_1 _).mono ?_;rintro e w2 ⟨rfl,g2⟩;obtain⟨c2,f2⟩:=Qcd g2;have s2:=g2.size;try simp at s2;have q2:w1.heap.size<w2.heap.size:=by omega)
 all_goals
  go_wp2;go_ret;refine⟨rfl,?_⟩
  repeat(first|exact Below.refl _ _|(refine via (by assumption) (by first|omega|(simp;done)|(simp;omega)) ?_)|refine Below.drew ?_|refine Below.setCell ?_ (by first|omega|(simp;done)|(simp;omega)) _|refine Below.alloc ?_ (by first|omega|(simp;done)|(simp;omega)) _)
theorem isOp_2 (w:World):
 Calls Tryz.prog 181 #[.int .i64 2] w fun e w' =>e= .returned (.bool true)/\Below w.heap.size w w' :=by
 have heq:=Qje;go_enter Tryz.func181,Tryz.ntmps181;go_wp2_with (go_at_call 202;refine(Qb9 _).mono ?_;rintro e w1 ⟨rfl,g1⟩;obtain⟨c1,f1⟩:=Qcd g1;have s1:=g1.size;try simp at s1)
 go_region_with (go_at_call 203;refine(without_2 _).mono ?_;rintro e w2 ⟨rfl,g2⟩;obtain⟨c2,f2⟩:=Qcd g2;have s2:=g2.size;try simp at s2;have q2:w1.heap.size<w2.heap.size:=by omega)
 all_goals
  go_wp2;go_ret;refine⟨rfl,?_⟩
  repeat(first|exact Below.refl _ _|(refine via (by assumption) (by first|omega|(simp;done)|(simp;omega)) ?_)|refine Below.drew ?_|refine Below.setCell ?_ (by first|omega|(simp;done)|(simp;omega)) _|refine Below.alloc ?_ (by first|omega|(simp;done)|(simp;omega)) _)
theorem isOp_3 (w:World):
 Calls Tryz.prog 181 #[.int .i64 3] w fun e w' =>e= .returned (.bool true)/\Below w.heap.size w w' :=by
 have heq:=Qjd;go_enter Tryz.func181,Tryz.ntmps181;go_wp2_with (go_at_call 202;refine(Qb9 _).mono ?_;rintro e w1 ⟨rfl,g1⟩;obtain⟨c1,f1⟩:=Qcd g1;have s1:=g1.size;try simp at s1)
 go_region_with (go_at_call 203;refine(without_3 _).mono ?_;rintro e w2 ⟨rfl,g2⟩;obtain⟨c2,f2⟩:=Qcd g2;have s2:=g2.size;try simp at s2;have q2:w1.heap.size<w2.heap.size:=by omega)
 all_goals
  go_wp2;go_ret;refine⟨rfl,?_⟩
  repeat(first|exact Below.refl _ _|(refine via (by assumption) (by first|omega|(simp;done)|(simp;omega)) ?_)|refine Below.drew ?_|refine Below.setCell ?_ (by first|omega|(simp;done)|(simp;omega)) _|refine Below.alloc ?_ (by first|omega|(simp;done)|(simp;omega)) _)
theorem isOp_4 (w:World):
 Calls Tryz.prog 181 #[.int .i64 4] w fun e w' =>e= .returned (.bool true)/\Below w.heap.size w w' :=by
 have heq:=Qjc;go_enter Tryz.func181,Tryz.ntmps181;go_wp2_with (go_at_call 202;refine(Qb9 _).mono ?_;rintro e w1 ⟨rfl,g1⟩;obtain⟨c1,f1⟩:=Qcd g1;have s1:=g1.size;try simp at s1)
 go_region_with (go_at_call 203;refine(without_4 _).mono ?_;rintro e w2 ⟨rfl,g2⟩;obtain⟨c2,f2⟩:=Qcd g2;have s2:=g2.size;try simp at s2;have q2:w1.heap.size<w2.heap.size:=by omega)
 all_goals
  go_wp2;go_ret;refine⟨rfl,?_⟩
  repeat(first|exact Below.refl _ _|(refine via (by assumption) (by first|omega|(simp;done)|(simp;omega)) ?_)|refine Below.drew ?_|refine Below.setCell ?_ (by first|omega|(simp;done)|(simp;omega)) _|refine Below.alloc ?_ (by first|omega|(simp;done)|(simp;omega)) _)
theorem isOp_5 (w:World):
 Calls Tryz.prog 181 #[.int .i64 5] w fun e w' =>e= .returned (.bool true)/\Below w.heap.size w w' :=by
 have heq:=Qjb;go_enter Tryz.func181,Tryz.ntmps181;go_wp2_with (go_at_call 202;refine(Qb9 _).mono ?_;rintro e w1 ⟨rfl,g1⟩;obtain⟨c1,f1⟩:=Qcd g1;have s1:=g1.size;try simp at s1)
 go_region_with (go_at_call 203;refine(without_5 _).mono ?_;rintro e w2 ⟨rfl,g2⟩;obtain⟨c2,f2⟩:=Qcd g2;have s2:=g2.size;try simp at s2;have q2:w1.heap.size<w2.heap.size:=by omega)
 all_goals
  go_wp2;go_ret;refine⟨rfl,?_⟩
  repeat(first|exact Below.refl _ _|(refine via (by assumption) (by first|omega|(simp;done)|(simp;omega)) ?_)|refine Below.drew ?_|refine Below.setCell ?_ (by first|omega|(simp;done)|(simp;omega)) _|refine Below.alloc ?_ (by first|omega|(simp;done)|(simp;omega)) _)
theorem isOp_6 (w:World):
 Calls Tryz.prog 181 #[.int .i64 6] w fun e w' =>e= .returned (.bool true)/\Below w.heap.size w w' :=by
 have heq:=Qja;go_enter Tryz.func181,Tryz.ntmps181;go_wp2_with (go_at_call 202;refine(Qb9 _).mono ?_;rintro e w1 ⟨rfl,g1⟩;obtain⟨c1,f1⟩:=Qcd g1;have s1:=g1.size;try simp at s1)
 go_region_with (go_at_call 203;refine(without_6 _).mono ?_;rintro e w2 ⟨rfl,g2⟩;obtain⟨c2,f2⟩:=Qcd g2;have s2:=g2.size;try simp at s2;have q2:w1.heap.size<w2.heap.size:=by omega)
 all_goals
  go_wp2;go_ret;refine⟨rfl,?_⟩
  repeat(first|exact Below.refl _ _|(refine via (by assumption) (by first|omega|(simp;done)|(simp;omega)) ?_)|refine Below.drew ?_|refine Below.setCell ?_ (by first|omega|(simp;done)|(simp;omega)) _|refine Below.alloc ?_ (by first|omega|(simp;done)|(simp;omega)) _)
theorem isOp_7 (w:World):
 Calls Tryz.prog 181 #[.int .i64 7] w fun e w' =>e= .returned (.bool true)/\Below w.heap.size w w' :=by
 have heq:=Qi9;go_enter Tryz.func181,Tryz.ntmps181;go_wp2_with (go_at_call 202;refine(Qb9 _).mono ?_;rintro e w1 ⟨rfl,g1⟩;obtain⟨c1,f1⟩:=Qcd g1;have s1:=g1.size;try simp at s1)
 go_region_with (go_at_call 203;refine(without_7 _).mono ?_;rintro e w2 ⟨rfl,g2⟩;obtain⟨c2,f2⟩:=Qcd g2;have s2:=g2.size;try simp at s2;have q2:w1.heap.size<w2.heap.size:=by omega)
 all_goals
  go_wp2;go_ret;refine⟨rfl,?_⟩
  repeat(first|exact Below.refl _ _|(refine via (by assumption) (by first|omega|(simp;done)|(simp;omega)) ?_)|refine Below.drew ?_|refine Below.setCell ?_ (by first|omega|(simp;done)|(simp;omega)) _|refine Below.alloc ?_ (by first|omega|(simp;done)|(simp;omega)) _)
theorem isOp_8 (w:World):
 Calls Tryz.prog 181 #[.int .i64 8] w fun e w' =>e= .returned (.bool true)/\Below w.heap.size w w' :=by
 have heq:=Qi8;go_enter Tryz.func181,Tryz.ntmps181;go_wp2_with (go_at_call 202;refine(Qb9 _).mono ?_;rintro e w1 ⟨rfl,g1⟩;obtain⟨c1,f1⟩:=Qcd g1;have s1:=g1.size;try simp at s1)
 go_region_with (go_at_call 203;refine(without_8 _).mono ?_;rintro e w2 ⟨rfl,g2⟩;obtain⟨c2,f2⟩:=Qcd g2;have s2:=g2.size;try simp at s2;have q2:w1.heap.size<w2.heap.size:=by omega)
 all_goals
  go_wp2;go_ret;refine⟨rfl,?_⟩
  repeat(first|exact Below.refl _ _|(refine via (by assumption) (by first|omega|(simp;done)|(simp;omega)) ?_)|refine Below.drew ?_|refine Below.setCell ?_ (by first|omega|(simp;done)|(simp;omega)) _|refine Below.alloc ?_ (by first|omega|(simp;done)|(simp;omega)) _)
theorem isOp_9 (w:World):
 Calls Tryz.prog 181 #[.int .i64 9] w fun e w' =>e= .returned (.bool true)/\Below w.heap.size w w' :=by
 have heq:=Qi7;go_enter Tryz.func181,Tryz.ntmps181;go_wp2_with (go_at_call 202;refine(Qb9 _).mono ?_;rintro e w1 ⟨rfl,g1⟩;obtain⟨c1,f1⟩:=Qcd g1;have s1:=g1.size;try simp at s1)
 go_region_with (go_at_call 203;refine(without_9 _).mono ?_;rintro e w2 ⟨rfl,g2⟩;obtain⟨c2,f2⟩:=Qcd g2;have s2:=g2.size;try simp at s2;have q2:w1.heap.size<w2.heap.size:=by omega)
 all_goals
  go_wp2;go_ret;refine⟨rfl,?_⟩
  repeat(first|exact Below.refl _ _|(refine via (by assumption) (by first|omega|(simp;done)|(simp;omega)) ?_)|refine Below.drew ?_|refine Below.setCell ?_ (by first|omega|(simp;done)|(simp;omega)) _|refine Below.alloc ?_ (by first|omega|(simp;done)|(simp;omega)) _)
theorem isOp_10 (w:World):
 Calls Tryz.prog 181 #[.int .i64 10] w fun e w' =>e= .returned (.bool true)/\Below w.heap.size w w' :=by
 have heq:=Qh9;go_enter Tryz.func181,Tryz.ntmps181;go_wp2_with (go_at_call 202;refine(Qb9 _).mono ?_;rintro e w1 ⟨rfl,g1⟩;obtain⟨c1,f1⟩:=Qcd g1;have s1:=g1.size;try simp at s1)
 go_region_with (go_at_call 203;refine(without_10 _).mono ?_;rintro e w2 ⟨rfl,g2⟩;obtain⟨c2,f2⟩:=Qcd g2;have s2:=g2.size;try simp at s2;have q2:w1.heap.size<w2.heap.size:=by omega)
 all_goals
  go_wp2;go_ret;refine⟨rfl,?_⟩
  repeat(first|exact Below.refl _ _|(refine via (by assumption) (by first|omega|(simp;done)|(simp;omega)) ?_)|refine Below.drew ?_|refine Below.setCell ?_ (by first|omega|(simp;done)|(simp;omega)) _|refine Below.alloc ?_ (by first|omega|(simp;done)|(simp;omega)) _)
theorem isOp_any (op:Int) (w:World):
 Calls Tryz.prog 181 #[.int .i64 op] w fun e w' =>e= .returned (.bool (inB op 1 10))/\Below w.heap.size w w' :=by
 rcases op_ways op with h|rfl|rfl|rfl|rfl|rfl|rfl|rfl|rfl|rfl|rfl|rfl
 . have e:inB op 1 10=false:=(by simp only[inB,decide_eq_false_iff_not]at h ⊢;omega);rw[e];exact isOp_out op h w
 . exact isOp_0 w
 . exact isOp_1 w
 . exact isOp_2 w
 . exact isOp_3 w
 . exact isOp_4 w
 . exact isOp_5 w
 . exact isOp_6 w
 . exact isOp_7 w
 . exact isOp_8 w
 . exact isOp_9 w
 . exact isOp_10 w
end Go.Proofs.YtpippjjhelgnlaaGreat.CmdOk
