/-
  What the program's CmdOk and the specification's answer: the same. No condition but the length that every text has.
-/
import Derived.Test.YtajbldnhjpjghaaGreatIsOp
set_option linter.unusedVariables false
set_option linter.unusedSimpArgs false
set_option maxRecDepth 100000
set_option maxHeartbeats 8000000
set_option maxRecDepth 100000
set_option maxHeartbeats 8000000
namespace Go.Proofs.YtajbldnhjpjghaaGreat.CmdOk
open ChangeShapes WideShapes ChangeAt RowKit Joins Base
theorem own:ownKnob Tryz.prog.godebug=none:=by kernel_rfl
theorem Qoj:laidOutB Tryz.prog=true:=by kernel_rfl
def restB (who seq op a b c:Int) (k t:ByteArray):Bool:=
  inB who 0 3&&inB seq 1 100000&&inB op 1 10&&inB a 0 100000&&inB b 0 100000&&inB c 0 100000&&textB k&&textB t
def nobodyB (seq op a b c:Int) (k t:ByteArray):Bool:=
  seq==0&&op==0&&a==0&&b==0&&c==0&&k.toList== []&&t.toList== []
def okB (who seq op a b c:Int) (k t:ByteArray):Bool:=if who= -1 then nobodyB seq op a b c k t else restB who seq op a b c k t
theorem eqC (who seq op a b c:Int) (k t:ByteArray) (w:World):
 (Op.equalIn 10000 55 (.agg (Qab who seq op a b c k t)) (.agg (Qab (-1) 0 0 0 0 0 ⟨#[]⟩ ⟨#[]⟩))).run Tryz.prog w= .ok (who== -1&&nobodyB seq op a b c k t) w:=by
 have u3:=Tryz.underlying3;have us:=Tryz.underlying9;have hS:Tryz.prog.underlying 55=some (.struct (Tryz.prog.fieldsOf 55)):=by kernel_rfl
 rw[show(10000:Nat)=9999+1 from rfl,run_equalIn_agg w 9999 55 _ _ hS (by kernel_rfl)];simp only[Program.fieldsOf,Tryz.underlying55];go_simp;simp only[nobodyB]
 repeat' split
 all_goals simp_all
theorem Qtq (p0 p1 p2 p3 p4 p5 p6 p7:Bool):p0=false∨(p0=true/\p1=false)∨(p0=true/\p1=true/\p2=false)∨(p0=true/\p1=true/\p2=true/\p3=false)∨
 (p0=true/\p1=true/\p2=true/\p3=true/\p4=false)∨(p0=true/\p1=true/\p2=true/\p3=true/\p4=true/\p5=false)∨
 (p0=true/\p1=true/\p2=true/\p3=true/\p4=true/\p5=true/\p6=false)∨(p0=true/\p1=true/\p2=true/\p3=true/\p4=true/\p5=true/\p6=true/\p7=false)∨
 (p0=true/\p1=true/\p2=true/\p3=true/\p4=true/\p5=true/\p6=true/\p7=true):=by
 cases p0<;>cases p1<;>cases p2<;>cases p3<;>cases p4<;>cases p5<;>cases p6<;>cases p7<;>simp
theorem Qkn (seq op a b c:Int) (k t:ByteArray) (w:World):
 Calls Tryz.prog 60 #[.agg (Qab (-1) seq op a b c k t)] w fun e w' =>e= .returned (.bool (nobodyB seq op a b c k t))/\Below w.heap.size w w' :=by
 have heq:=eqC (-1) seq op a b c k t;go_enter Tryz.func60,Tryz.ntmps60;go_wp2;go_ret;exact⟨by simp,by repeat(first|exact Below.refl _ _|(refine via (by assumption) (by first|omega|(simp;done)|(simp;omega)) ?_)|refine Below.drew ?_|refine Below.setCell ?_ (by first|omega|(simp;done)|(simp;omega)) _|refine Below.alloc ?_ (by first|omega|(simp;done)|(simp;omega)) _)⟩
theorem Qnq (who seq op a b c:Int) (k t:ByteArray) (hk:k.size<=9223372036854775807) (ht:t.size<=9223372036854775807) (hw:((who:Int)== -1)=false) (w:World):
 Calls Tryz.prog 60 #[.agg (Qab who seq op a b c k t)] w fun e w' =>e= .returned (.bool (restB who seq op a b c k t))/\Below w.heap.size w w' :=by
 rcases Qtq (inB who 0 3) (inB seq 1 100000) (inB op 1 10) (inB a 0 100000) (inB b 0 100000) (inB c 0 100000) (textB k) (textB t)with h0|⟨h0,h1⟩|⟨h0,h1,h2⟩|⟨h0,h1,h2,h3⟩|⟨h0,h1,h2,h3,h4⟩|⟨h0,h1,h2,h3,h4,h5⟩|⟨h0,h1,h2,h3,h4,h5,h6⟩|⟨h0,h1,h2,h3,h4,h5,h6,h7⟩|⟨h0,h1,h2,h3,h4,h5,h6,h7⟩
 all_goals
  go_enter Tryz.func60,Tryz.ntmps60;go_wp2_with (first
   |(go_at_call 35;refine(Qcf _ _ _ _).mono ?_;rintro e w' ⟨rfl,rfl⟩)
   |(go_at_call_of 82 (Value.string k);refine(Qdh k hk _).mono ?_;rintro e w1 ⟨rfl,g1⟩;obtain⟨c1,f1⟩:=Qeh g1;have s1:=g1.size;try simp at s1;have q1:w.heap.size<w1.heap.size:=by omega)
   |(go_at_call_of 82 (Value.string t);refine(Qdh t ht _).mono ?_;rintro e w1 ⟨rfl,g1⟩;obtain⟨c1,f1⟩:=Qeh g1;have s1:=g1.size;try simp at s1;have q1:w.heap.size<w1.heap.size:=by omega))
  go_ret;refine⟨by simp[restB, *],?_⟩
  repeat(first|exact Below.refl _ _|(refine via (by assumption) (by first|omega|(simp;done)|(simp;omega)) ?_)|refine Below.drew ?_|refine Below.setCell ?_ (by first|omega|(simp;done)|(simp;omega)) _|refine Below.alloc ?_ (by first|omega|(simp;done)|(simp;omega)) _)
theorem spec_any (who seq op a b c:Int) (k t:ByteArray) (hk:k.size<=9223372036854775807) (ht:t.size<=9223372036854775807) (w:World):
 Calls Tryz.prog 60 #[.agg (Qab who seq op a b c k t)] w fun e w' =>e= .returned (.bool (okB who seq op a b c k t))/\Below w.heap.size w w' :=by
 unfold okB;by_cases h:who= -1
 . subst h;rw[if_pos rfl];exact Qkn seq op a b c k t w
 . rw[if_neg h];exact Qnq who seq op a b c k t hk ht (by simpa using h) w
theorem Qk6 (seq op a b c:Int) (k t:ByteArray) (w:World):
 Calls Tryz.prog 59 #[.agg (Qab (-1) seq op a b c k t)] w fun e w' =>e= .returned (.bool (nobodyB seq op a b c k t))/\Below w.heap.size w w' :=by
 have heq:=eqC (-1) seq op a b c k t;go_enter Tryz.func59,Tryz.ntmps59;go_wp2;go_ret;exact⟨by simp,by repeat(first|exact Below.refl _ _|(refine via (by assumption) (by first|omega|(simp;done)|(simp;omega)) ?_)|refine Below.drew ?_|refine Below.setCell ?_ (by first|omega|(simp;done)|(simp;omega)) _|refine Below.alloc ?_ (by first|omega|(simp;done)|(simp;omega)) _)⟩
theorem Qov (who seq op a b c:Int) (k t:ByteArray) (hk:k.size<=9223372036854775807) (ht:t.size<=9223372036854775807) (hw:((who:Int)== -1)=false) (w:World):
 Calls Tryz.prog 59 #[.agg (Qab who seq op a b c k t)] w fun e w' =>e= .returned (.bool (restB who seq op a b c k t))/\Below w.heap.size w w' :=by
 rcases Qtq (inB who 0 3) (inB seq 1 100000) (inB op 1 10) (inB a 0 100000) (inB b 0 100000) (inB c 0 100000) (textB k) (textB t)with h0|⟨h0,h1⟩|⟨h0,h1,h2⟩|⟨h0,h1,h2,h3⟩|⟨h0,h1,h2,h3,h4⟩|⟨h0,h1,h2,h3,h4,h5⟩|⟨h0,h1,h2,h3,h4,h5,h6⟩|⟨h0,h1,h2,h3,h4,h5,h6,h7⟩|⟨h0,h1,h2,h3,h4,h5,h6,h7⟩
 all_goals
  go_enter Tryz.func59,Tryz.ntmps59;go_wp2_with (first
   |(go_at_call 32;refine(Qc7 _ _ _ _).mono ?_;rintro e w' ⟨rfl,rfl⟩)
   |(go_at_call 80;refine(Qql _ _).mono ?_;rintro e w1 ⟨rfl,g1⟩;obtain⟨c1,f1⟩:=Qeh g1;have s1:=g1.size;try simp at s1;have q1:w.heap.size<w1.heap.size:=by omega)
   |(go_at_call_of 81 (Value.string k);refine(Qeo k hk _).mono ?_;rintro e w1 ⟨rfl,g1⟩;obtain⟨c1,f1⟩:=Qeh g1;have s1:=g1.size;try simp at s1;have q1:w.heap.size<w1.heap.size:=by omega)
   |(go_at_call_of 81 (Value.string t);refine(Qeo t ht _).mono ?_;rintro e w1 ⟨rfl,g1⟩;obtain⟨c1,f1⟩:=Qeh g1;have s1:=g1.size;try simp at s1;have q1:w.heap.size<w1.heap.size:=by omega))
  go_ret;refine⟨by simp[restB, *],?_⟩
  repeat(first|exact Below.refl _ _|(refine via (by assumption) (by first|omega|(simp;done)|(simp;omega)) ?_)|refine Below.drew ?_|refine Below.setCell ?_ (by first|omega|(simp;done)|(simp;omega)) _|refine Below.alloc ?_ (by first|omega|(simp;done)|(simp;omega)) _)
theorem impl_any (who seq op a b c:Int) (k t:ByteArray) (hk:k.size<=9223372036854775807) (ht:t.size<=9223372036854775807) (w:World):
 Calls Tryz.prog 59 #[.agg (Qab who seq op a b c k t)] w fun e w' =>e= .returned (.bool (okB who seq op a b c k t))/\Below w.heap.size w w' :=by
 unfold okB;by_cases h:who= -1
 . subst h;rw[if_pos rfl];exact Qk6 seq op a b c k t w
 . rw[if_neg h];exact Qov who seq op a b c k t hk ht (by simpa using h) w
end Go.Proofs.YtajbldnhjpjghaaGreat.CmdOk
