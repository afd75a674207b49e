/-
  Parts of CmdOk at this seat: numbers within limits, plain texts, names of Ops. No condition but the length that every text has.
-/
import Derived.Test.YtpippjjhelgnlaaGreatBase
set_option linter.unusedVariables false
set_option linter.unusedSimpArgs false
set_option maxRecDepth 100000
set_option maxHeartbeats 8000000
namespace Go.Proofs.YtpippjjhelgnlaaGreat.CmdOk
open ChangeShapes WideShapes ChangeAt RowKit Joins Base
def inB (x lo hi:Int):Bool:=decide (lo<=x/\x<=hi)
theorem Qcb (x lo hi:Int) (w:World):
 Calls Tryz.prog 71 (Qc4 x lo hi) w fun e w' =>e= .returned (.bool (inB x lo hi))/\w' =w:=by
 by_cases h1:lo<=x<;>by_cases h2:x<=hi<;>
 . go_enter Tryz.func71,Tryz.ntmps71;go_wp2;go_ret;exact⟨by simp[inB,h1,h2],rfl⟩
theorem Qc6 (x lo hi:Int) (w:World):
 Calls Tryz.prog 46 (Qc4 x lo hi) w fun e w' =>e= .returned (.bool (inB x lo hi))/\w' =w:=by
 by_cases h1:lo<=x<;>by_cases h2:x<=hi<;>
 . go_enter Tryz.func46,Tryz.ntmps46;go_wp2;go_ret;exact⟨by simp[inB,h1,h2],rfl⟩
def Qch (x:Nat):Bool:=decide ((97<=x/\x<=122)∨(48<=x/\x<=57)∨x=32)
theorem Qdx (x:Nat):
 ((97:Int)<=x/\(x:Int)<=122/\Qch x=true)∨((97:Int)<=x/\¬(x:Int)<=122/\(48:Int)<=x/\¬(x:Int)<=57/\((x:Int)==32)=false/\Qch x=false)∨
 (¬(97:Int)<=x/\(48:Int)<=x/\(x:Int)<=57/\Qch x=true)∨(¬(97:Int)<=x/\(48:Int)<=x/\¬(x:Int)<=57/\((x:Int)==32)=false/\Qch x=false)∨
 (¬(97:Int)<=x/\¬(48:Int)<=x/\((x:Int)==32)=true/\Qch x=true)∨(¬(97:Int)<=x/\¬(48:Int)<=x/\((x:Int)==32)=false/\Qch x=false):=by
 simp only[beq_eq_false_iff_ne,beq_iff_eq,ne_eq,Qch,decide_eq_true_eq,decide_eq_false_iff_not];omega
theorem Qef (x:Nat) (w:World):
 Calls Tryz.prog 166 #[.int .u8 (x:Int)] w fun e w' =>e= .returned (.bool (Qch x))/\w' =w:=by
 rcases Qdx x with⟨h1,h2,hp⟩|⟨h1,h2,h3,h4,h5,hp⟩|⟨h1,h2,h3,hp⟩|⟨h1,h2,h3,h4,hp⟩|⟨h1,h2,h3,hp⟩|⟨h1,h2,h3,hp⟩<;>
 . rw[hp];go_enter Tryz.func166,Tryz.ntmps166;go_wp2;go_ret;exact⟨rfl,rfl⟩
def Qa1 (s:ByteArray) (i:Nat):Bool:=(s.data.toList.drop i).all (fun x=>Qch x.toNat)
def textB (s:ByteArray):Bool:=Qa1 s 0&&decide (s.size<=30)
theorem Qdo {s:ByteArray} {i:Nat} (h:s.size<=i):Qa1 s i=true:=by
 have:s.data.toList.drop i= []:=List.drop_eq_nil_of_le (by simpa using h);simp[Qa1,this]
theorem Qdf {s:ByteArray} {i:Nat} (h:i<s.size):Qa1 s i=(Qch (s[i]'h).toNat&&Qa1 s (i+1)):=by
 have h' :i<s.data.toList.length:=by simpa using h
 unfold Qa1;rw[List.drop_eq_getElem_cons h',List.all_cons];rfl
theorem Qei (s:ByteArray) (hs:s.size<=9223372036854775807) (w:World):
 Calls Tryz.prog 109 #[.string s] w fun e w' =>e= .returned (.bool (textB s))/\Below w.heap.size w w' :=by
 by_cases hl:(s.size:Int)>30
 . have e1:textB s=false:=(by simp[textB];omega);rw[e1];go_enter Tryz.func109,Tryz.ntmps109;go_wp2;go_ret;exact⟨rfl,Below.refl _ _⟩
 . have e1:textB s=Qa1 s 0:=(by simp[textB];omega);rw[e1];go_enter Tryz.func109,Tryz.ntmps109;go_wp2
   go_loopw [3] (fun i w' =>∃n:Nat,i= .int .i64 (n:Int)/\n<=s.size/\Qa1 s n=Qa1 s 0/\Below w.heap.size w w') (fun i _=>s.size - (intOf i).toNat)
   case atStart=>exact⟨0,rfl,by omega,rfl,Below.refl _ _⟩
   case round=>
    obtain⟨n,rfl,hn,hE,hb⟩:=hrel;by_cases hlt:n<s.size
    . have hst:=Qdf hlt;cases hp:Qch s[n].toNat
      . have hE' :Qa1 s 0=false:=(by rw[← hE,hst,hp];rfl);clear hE hst;go_wp2_with (go_at_call 166;refine(Qef _ _).mono ?_;rintro e w' ⟨rfl,rfl⟩);go_ret;exact⟨by first|rfl|(rw[hE'];rfl),hb⟩
      . have hE' :Qa1 s (n+1)=Qa1 s 0:=(by rw[← hE,hst,hp];rfl);clear hE hst;go_wp2_with (go_at_call 166;refine(Qef _ _).mono ?_;rintro e w' ⟨rfl,rfl⟩);exact⟨⟨n+1,by go_num,by omega,hE',hb⟩,by simp[intOf];omega⟩
    . have hE' :Qa1 s 0=true:=(by rw[← hE,Qdo (by omega)]);go_wp2;go_ret;exact⟨by first|rfl|(rw[hE'];rfl),hb⟩
theorem Qdc (s:ByteArray) (hs:s.size<=9223372036854775807) (w:World):
 Calls Tryz.prog 163 #[.string s] w fun e w' =>e= .returned (.bool (textB s))/\Below w.heap.size w w' :=by
 go_enter Tryz.func163,Tryz.ntmps163;go_wp2
 go_loopw [3] (fun i w' =>∃n:Nat,i= .int .i64 (n:Int)/\n<=s.size/\Qa1 s n=Qa1 s 0/\Below w.heap.size w w') (fun i _=>s.size - (intOf i).toNat)
 case atStart=>exact⟨0,rfl,by omega,rfl,Below.refl _ _⟩
 case round=>
  obtain⟨n,rfl,hn,hE,hb⟩:=hrel;by_cases hlt:n<s.size
  . have hst:=Qdf hlt;rcases Qdx s[n].toNat with⟨h1,h2,hp⟩|⟨h1,h2,h3,h4,h5,hp⟩|⟨h1,h2,h3,hp⟩|⟨h1,h2,h3,h4,hp⟩|⟨h1,h2,h3,hp⟩|⟨h1,h2,h3,hp⟩
    . have hE' :Qa1 s (n+1)=Qa1 s 0:=(by rw[← hE,hst,hp];rfl);clear hE hst hp;go_wp2;exact⟨⟨n+1,by go_num,by omega,hE',hb⟩,by simp[intOf];omega⟩
    . have hE' :textB s=false:=by
       have h0:Qa1 s 0=false:=(by rw[← hE,hst,hp];rfl);simp[textB,h0]
      clear hE hst hp;go_wp2;go_ret;exact⟨by first|rfl|(rw[hE'];rfl),hb⟩
    . have hE' :Qa1 s (n+1)=Qa1 s 0:=(by rw[← hE,hst,hp];rfl);clear hE hst hp;go_wp2;exact⟨⟨n+1,by go_num,by omega,hE',hb⟩,by simp[intOf];omega⟩
    . have hE' :textB s=false:=by
       have h0:Qa1 s 0=false:=(by rw[← hE,hst,hp];rfl);simp[textB,h0]
      clear hE hst hp;go_wp2;go_ret;exact⟨by first|rfl|(rw[hE'];rfl),hb⟩
    . have hE' :Qa1 s (n+1)=Qa1 s 0:=(by rw[← hE,hst,hp];rfl);clear hE hst hp;go_wp2;exact⟨⟨n+1,by go_num,by omega,hE',hb⟩,by simp[intOf];omega⟩
    . have hE' :textB s=false:=by
       have h0:Qa1 s 0=false:=(by rw[← hE,hst,hp];rfl);simp[textB,h0]
      clear hE hst hp;go_wp2;go_ret;exact⟨by first|rfl|(rw[hE'];rfl),hb⟩
  . have hE' :Qa1 s 0=true:=(by rw[← hE,Qdo (by omega)]);have hE2:textB s=decide (s.size<=30):=(by simp[textB,hE']);by_cases hl:(s.size:Int)<=30
    . have:s.size<=30:=(by omega);go_wp2;go_ret;exact⟨by first|(rw[hE2];simp[this];done)|simp,hb⟩
    . have:¬s.size<=30:=(by omega);go_wp2;go_ret;exact⟨by first|(rw[hE2];simp[this];done)|simp,hb⟩
theorem Qb9 (w:World):
 Calls Tryz.prog 202 #[] w fun e w' =>e= .returned (.agg (Qaf ⟨#[110,111,110,101]⟩ ⟨#[112,117,116]⟩ ⟨#[103,101,116]⟩ ⟨#[101,112,111,99,104]⟩ ⟨#[106,111,105,110]⟩ ⟨#[108,101,97,118,101]⟩ ⟨#[109,97,114,107]⟩ ⟨#[114,101,97,100]⟩ ⟨#[116,105,99,107]⟩ ⟨#[116,114,105,109]⟩ ⟨#[112,97,99,107]⟩))/\Below w.heap.size w w' :=by
 go_enter Tryz.func202,Tryz.ntmps202;go_wp2;exact bodyPost_ret (v:= .agg (Qaf ⟨#[110,111,110,101]⟩ ⟨#[112,117,116]⟩ ⟨#[103,101,116]⟩ ⟨#[101,112,111,99,104]⟩ ⟨#[106,111,105,110]⟩ ⟨#[108,101,97,118,101]⟩ ⟨#[109,97,114,107]⟩ ⟨#[114,101,97,100]⟩ ⟨#[116,105,99,107]⟩ ⟨#[116,114,105,109]⟩ ⟨#[112,97,99,107]⟩)) (by simp[results,Tryz.results202,go_sem]) rfl
  ⟨rfl,by repeat(first|exact Below.refl _ _|refine Below.drew ?_|refine Below.alloc ?_ (by simp<;>omega) _)⟩
theorem Qb7 (op:Int) (w:World):
 Calls Tryz.prog 218 #[.agg (Qaf ⟨#[110,111,110,101]⟩ ⟨#[112,117,116]⟩ ⟨#[103,101,116]⟩ ⟨#[101,112,111,99,104]⟩ ⟨#[106,111,105,110]⟩ ⟨#[108,101,97,118,101]⟩ ⟨#[109,97,114,107]⟩ ⟨#[114,101,97,100]⟩ ⟨#[116,105,99,107]⟩ ⟨#[116,114,105,109]⟩ ⟨#[112,97,99,107]⟩),.int .i64 op] w fun e w' =>e= .returned (.bool (inB op 0 10))/\w' =w.alloc (.cells (Qaf ⟨#[110,111,110,101]⟩ ⟨#[112,117,116]⟩ ⟨#[103,101,116]⟩ ⟨#[101,112,111,99,104]⟩ ⟨#[106,111,105,110]⟩ ⟨#[108,101,97,118,101]⟩ ⟨#[109,97,114,107]⟩ ⟨#[114,101,97,100]⟩ ⟨#[116,105,99,107]⟩ ⟨#[116,114,105,109]⟩ ⟨#[112,97,99,107]⟩) 257):=by
 go_enter Tryz.func218,Tryz.ntmps218;go_wp2_with (go_at_call 46;refine(Qc6 _ _ _ _).mono ?_;rintro e w' ⟨rfl,rfl⟩);go_ret;exact⟨rfl,rfl⟩
theorem Qke (op:Int) (h:inB op 0 10=false) (w:World):
 Calls Tryz.prog 203 #[.agg (Qaf ⟨#[110,111,110,101]⟩ ⟨#[112,117,116]⟩ ⟨#[103,101,116]⟩ ⟨#[101,112,111,99,104]⟩ ⟨#[106,111,105,110]⟩ ⟨#[108,101,97,118,101]⟩ ⟨#[109,97,114,107]⟩ ⟨#[114,101,97,100]⟩ ⟨#[116,105,99,107]⟩ ⟨#[116,114,105,109]⟩ ⟨#[112,97,99,107]⟩),.int .i64 op] w fun e w' =>e= .returned (.agg (Qaf ⟨#[110,111,110,101]⟩ ⟨#[112,117,116]⟩ ⟨#[103,101,116]⟩ ⟨#[101,112,111,99,104]⟩ ⟨#[106,111,105,110]⟩ ⟨#[108,101,97,118,101]⟩ ⟨#[109,97,114,107]⟩ ⟨#[114,101,97,100]⟩ ⟨#[116,105,99,107]⟩ ⟨#[116,114,105,109]⟩ ⟨#[112,97,99,107]⟩))/\Below w.heap.size w w' :=by
 go_enter Tryz.func203,Tryz.ntmps203;go_wp2_with (go_at_call 218;refine(Qb7 _ _).mono ?_;rintro e w1 ⟨rfl,rfl⟩);exact bodyPost_ret (v:= .agg (Qaf ⟨#[110,111,110,101]⟩ ⟨#[112,117,116]⟩ ⟨#[103,101,116]⟩ ⟨#[101,112,111,99,104]⟩ ⟨#[106,111,105,110]⟩ ⟨#[108,101,97,118,101]⟩ ⟨#[109,97,114,107]⟩ ⟨#[114,101,97,100]⟩ ⟨#[116,105,99,107]⟩ ⟨#[116,114,105,109]⟩ ⟨#[112,97,99,107]⟩)) (by simp[results,Tryz.results203,go_sem]) rfl
  ⟨rfl,by repeat(first|exact Below.refl _ _|(refine via (by assumption) (by first|omega|(simp;done)|(simp;omega)) ?_)|refine Below.drew ?_|refine Below.setCell ?_ (by first|omega|(simp;done)|(simp;omega)) _|refine Below.alloc ?_ (by first|omega|(simp;done)|(simp;omega)) _)⟩
theorem without_0 (w:World):
 Calls Tryz.prog 203 #[.agg (Qaf ⟨#[110,111,110,101]⟩ ⟨#[112,117,116]⟩ ⟨#[103,101,116]⟩ ⟨#[101,112,111,99,104]⟩ ⟨#[106,111,105,110]⟩ ⟨#[108,101,97,118,101]⟩ ⟨#[109,97,114,107]⟩ ⟨#[114,101,97,100]⟩ ⟨#[116,105,99,107]⟩ ⟨#[116,114,105,109]⟩ ⟨#[112,97,99,107]⟩),.int .i64 0] w fun e w' =>e= .returned (.agg (Qaf ⟨#[110,111,110,101]⟩ ⟨#[112,117,116]⟩ ⟨#[103,101,116]⟩ ⟨#[101,112,111,99,104]⟩ ⟨#[106,111,105,110]⟩ ⟨#[108,101,97,118,101]⟩ ⟨#[109,97,114,107]⟩ ⟨#[114,101,97,100]⟩ ⟨#[116,105,99,107]⟩ ⟨#[116,114,105,109]⟩ ⟨#[112,97,99,107]⟩))/\Below w.heap.size w w' :=by
 have h:inB 0 0 10=true:=by decide
 go_enter Tryz.func203,Tryz.ntmps203;go_wp2_with (go_at_call 218;refine(Qb7 _ _).mono ?_;rintro e w1 ⟨rfl,rfl⟩);exact bodyPost_ret (v:= .agg (Qaf ⟨#[110,111,110,101]⟩ ⟨#[112,117,116]⟩ ⟨#[103,101,116]⟩ ⟨#[101,112,111,99,104]⟩ ⟨#[106,111,105,110]⟩ ⟨#[108,101,97,118,101]⟩ ⟨#[109,97,114,107]⟩ ⟨#[114,101,97,100]⟩ ⟨#[116,105,99,107]⟩ ⟨#[116,114,105,109]⟩ ⟨#[112,97,99,107]⟩)) (by simp[results,Tryz.results203,go_sem]) rfl
  ⟨rfl,by repeat(first|exact Below.refl _ _|(refine via (by assumption) (by first|omega|(simp;done)|(simp;omega)) ?_)|refine Below.drew ?_|refine Below.setCell ?_ (by first|omega|(simp;done)|(simp;omega)) _|refine Below.alloc ?_ (by first|omega|(simp;done)|(simp;omega)) _)⟩
theorem without_1 (w:World):
 Calls Tryz.prog 203 #[.agg (Qaf ⟨#[110,111,110,101]⟩ ⟨#[112,117,116]⟩ ⟨#[103,101,116]⟩ ⟨#[101,112,111,99,104]⟩ ⟨#[106,111,105,110]⟩ ⟨#[108,101,97,118,101]⟩ ⟨#[109,97,114,107]⟩ ⟨#[114,101,97,100]⟩ ⟨#[116,105,99,107]⟩ ⟨#[116,114,105,109]⟩ ⟨#[112,97,99,107]⟩),.int .i64 1] w fun e w' =>e= .returned (.agg (Qaf ⟨#[110,111,110,101]⟩ ⟨#[110,111,110,101]⟩ ⟨#[103,101,116]⟩ ⟨#[101,112,111,99,104]⟩ ⟨#[106,111,105,110]⟩ ⟨#[108,101,97,118,101]⟩ ⟨#[109,97,114,107]⟩ ⟨#[114,101,97,100]⟩ ⟨#[116,105,99,107]⟩ ⟨#[116,114,105,109]⟩ ⟨#[112,97,99,107]⟩))/\Below w.heap.size w w' :=by
 have h:inB 1 0 10=true:=by decide
 go_enter Tryz.func203,Tryz.ntmps203;go_wp2_with (go_at_call 218;refine(Qb7 _ _).mono ?_;rintro e w1 ⟨rfl,rfl⟩);exact bodyPost_ret (v:= .agg (Qaf ⟨#[110,111,110,101]⟩ ⟨#[110,111,110,101]⟩ ⟨#[103,101,116]⟩ ⟨#[101,112,111,99,104]⟩ ⟨#[106,111,105,110]⟩ ⟨#[108,101,97,118,101]⟩ ⟨#[109,97,114,107]⟩ ⟨#[114,101,97,100]⟩ ⟨#[116,105,99,107]⟩ ⟨#[116,114,105,109]⟩ ⟨#[112,97,99,107]⟩)) (by simp[results,Tryz.results203,go_sem]) rfl
  ⟨rfl,by repeat(first|exact Below.refl _ _|(refine via (by assumption) (by first|omega|(simp;done)|(simp;omega)) ?_)|refine Below.drew ?_|refine Below.setCell ?_ (by first|omega|(simp;done)|(simp;omega)) _|refine Below.alloc ?_ (by first|omega|(simp;done)|(simp;omega)) _)⟩
theorem without_2 (w:World):
 Calls Tryz.prog 203 #[.agg (Qaf ⟨#[110,111,110,101]⟩ ⟨#[112,117,116]⟩ ⟨#[103,101,116]⟩ ⟨#[101,112,111,99,104]⟩ ⟨#[106,111,105,110]⟩ ⟨#[108,101,97,118,101]⟩ ⟨#[109,97,114,107]⟩ ⟨#[114,101,97,100]⟩ ⟨#[116,105,99,107]⟩ ⟨#[116,114,105,109]⟩ ⟨#[112,97,99,107]⟩),.int .i64 2] w fun e w' =>e= .returned (.agg (Qaf ⟨#[110,111,110,101]⟩ ⟨#[112,117,116]⟩ ⟨#[110,111,110,101]⟩ ⟨#[101,112,111,99,104]⟩ ⟨#[106,111,105,110]⟩ ⟨#[108,101,97,118,101]⟩ ⟨#[109,97,114,107]⟩ ⟨#[114,101,97,100]⟩ ⟨#[116,105,99,107]⟩ ⟨#[116,114,105,109]⟩ ⟨#[112,97,99,107]⟩))/\Below w.heap.size w w' :=by
 have h:inB 2 0 10=true:=by decide
 go_enter Tryz.func203,Tryz.ntmps203;go_wp2_with (go_at_call 218;refine(Qb7 _ _).mono ?_;rintro e w1 ⟨rfl,rfl⟩);exact bodyPost_ret (v:= .agg (Qaf ⟨#[110,111,110,101]⟩ ⟨#[112,117,116]⟩ ⟨#[110,111,110,101]⟩ ⟨#[101,112,111,99,104]⟩ ⟨#[106,111,105,110]⟩ ⟨#[108,101,97,118,101]⟩ ⟨#[109,97,114,107]⟩ ⟨#[114,101,97,100]⟩ ⟨#[116,105,99,107]⟩ ⟨#[116,114,105,109]⟩ ⟨#[112,97,99,107]⟩)) (by simp[results,Tryz.results203,go_sem]) rfl
  ⟨rfl,by repeat(first|exact Below.refl _ _|(refine via (by assumption) (by first|omega|(simp;done)|(simp;omega)) ?_)|refine Below.drew ?_|refine Below.setCell ?_ (by first|omega|(simp;done)|(simp;omega)) _|refine Below.alloc ?_ (by first|omega|(simp;done)|(simp;omega)) _)⟩
theorem without_3 (w:World):
 Calls Tryz.prog 203 #[.agg (Qaf ⟨#[110,111,110,101]⟩ ⟨#[112,117,116]⟩ ⟨#[103,101,116]⟩ ⟨#[101,112,111,99,104]⟩ ⟨#[106,111,105,110]⟩ ⟨#[108,101,97,118,101]⟩ ⟨#[109,97,114,107]⟩ ⟨#[114,101,97,100]⟩ ⟨#[116,105,99,107]⟩ ⟨#[116,114,105,109]⟩ ⟨#[112,97,99,107]⟩),.int .i64 3] w fun e w' =>e= .returned (.agg (Qaf ⟨#[110,111,110,101]⟩ ⟨#[112,117,116]⟩ ⟨#[103,101,116]⟩ ⟨#[110,111,110,101]⟩ ⟨#[106,111,105,110]⟩ ⟨#[108,101,97,118,101]⟩ ⟨#[109,97,114,107]⟩ ⟨#[114,101,97,100]⟩ ⟨#[116,105,99,107]⟩ ⟨#[116,114,105,109]⟩ ⟨#[112,97,99,107]⟩))/\Below w.heap.size w w' :=by
 have h:inB 3 0 10=true:=by decide
 go_enter Tryz.func203,Tryz.ntmps203;go_wp2_with (go_at_call 218;refine(Qb7 _ _).mono ?_;rintro e w1 ⟨rfl,rfl⟩);exact bodyPost_ret (v:= .agg (Qaf ⟨#[110,111,110,101]⟩ ⟨#[112,117,116]⟩ ⟨#[103,101,116]⟩ ⟨#[110,111,110,101]⟩ ⟨#[106,111,105,110]⟩ ⟨#[108,101,97,118,101]⟩ ⟨#[109,97,114,107]⟩ ⟨#[114,101,97,100]⟩ ⟨#[116,105,99,107]⟩ ⟨#[116,114,105,109]⟩ ⟨#[112,97,99,107]⟩)) (by simp[results,Tryz.results203,go_sem]) rfl
  ⟨rfl,by repeat(first|exact Below.refl _ _|(refine via (by assumption) (by first|omega|(simp;done)|(simp;omega)) ?_)|refine Below.drew ?_|refine Below.setCell ?_ (by first|omega|(simp;done)|(simp;omega)) _|refine Below.alloc ?_ (by first|omega|(simp;done)|(simp;omega)) _)⟩
theorem without_4 (w:World):
 Calls Tryz.prog 203 #[.agg (Qaf ⟨#[110,111,110,101]⟩ ⟨#[112,117,116]⟩ ⟨#[103,101,116]⟩ ⟨#[101,112,111,99,104]⟩ ⟨#[106,111,105,110]⟩ ⟨#[108,101,97,118,101]⟩ ⟨#[109,97,114,107]⟩ ⟨#[114,101,97,100]⟩ ⟨#[116,105,99,107]⟩ ⟨#[116,114,105,109]⟩ ⟨#[112,97,99,107]⟩),.int .i64 4] w fun e w' =>e= .returned (.agg (Qaf ⟨#[110,111,110,101]⟩ ⟨#[112,117,116]⟩ ⟨#[103,101,116]⟩ ⟨#[101,112,111,99,104]⟩ ⟨#[110,111,110,101]⟩ ⟨#[108,101,97,118,101]⟩ ⟨#[109,97,114,107]⟩ ⟨#[114,101,97,100]⟩ ⟨#[116,105,99,107]⟩ ⟨#[116,114,105,109]⟩ ⟨#[112,97,99,107]⟩))/\Below w.heap.size w w' :=by
 have h:inB 4 0 10=true:=by decide
 go_enter Tryz.func203,Tryz.ntmps203;go_wp2_with (go_at_call 218;refine(Qb7 _ _).mono ?_;rintro e w1 ⟨rfl,rfl⟩);exact bodyPost_ret (v:= .agg (Qaf ⟨#[110,111,110,101]⟩ ⟨#[112,117,116]⟩ ⟨#[103,101,116]⟩ ⟨#[101,112,111,99,104]⟩ ⟨#[110,111,110,101]⟩ ⟨#[108,101,97,118,101]⟩ ⟨#[109,97,114,107]⟩ ⟨#[114,101,97,100]⟩ ⟨#[116,105,99,107]⟩ ⟨#[116,114,105,109]⟩ ⟨#[112,97,99,107]⟩)) (by simp[results,Tryz.results203,go_sem]) rfl
  ⟨rfl,by repeat(first|exact Below.refl _ _|(refine via (by assumption) (by first|omega|(simp;done)|(simp;omega)) ?_)|refine Below.drew ?_|refine Below.setCell ?_ (by first|omega|(simp;done)|(simp;omega)) _|refine Below.alloc ?_ (by first|omega|(simp;done)|(simp;omega)) _)⟩
theorem without_5 (w:World):
 Calls Tryz.prog 203 #[.agg (Qaf ⟨#[110,111,110,101]⟩ ⟨#[112,117,116]⟩ ⟨#[103,101,116]⟩ ⟨#[101,112,111,99,104]⟩ ⟨#[106,111,105,110]⟩ ⟨#[108,101,97,118,101]⟩ ⟨#[109,97,114,107]⟩ ⟨#[114,101,97,100]⟩ ⟨#[116,105,99,107]⟩ ⟨#[116,114,105,109]⟩ ⟨#[112,97,99,107]⟩),.int .i64 5] w fun e w' =>e= .returned (.agg (Qaf ⟨#[110,111,110,101]⟩ ⟨#[112,117,116]⟩ ⟨#[103,101,116]⟩ ⟨#[101,112,111,99,104]⟩ ⟨#[106,111,105,110]⟩ ⟨#[110,111,110,101]⟩ ⟨#[109,97,114,107]⟩ ⟨#[114,101,97,100]⟩ ⟨#[116,105,99,107]⟩ ⟨#[116,114,105,109]⟩ ⟨#[112,97,99,107]⟩))/\Below w.heap.size w w' :=by
 have h:inB 5 0 10=true:=by decide
 go_enter Tryz.func203,Tryz.ntmps203;go_wp2_with (go_at_call 218;refine(Qb7 _ _).mono ?_;rintro e w1 ⟨rfl,rfl⟩);exact bodyPost_ret (v:= .agg (Qaf ⟨#[110,111,110,101]⟩ ⟨#[112,117,116]⟩ ⟨#[103,101,116]⟩ ⟨#[101,112,111,99,104]⟩ ⟨#[106,111,105,110]⟩ ⟨#[110,111,110,101]⟩ ⟨#[109,97,114,107]⟩ ⟨#[114,101,97,100]⟩ ⟨#[116,105,99,107]⟩ ⟨#[116,114,105,109]⟩ ⟨#[112,97,99,107]⟩)) (by simp[results,Tryz.results203,go_sem]) rfl
  ⟨rfl,by repeat(first|exact Below.refl _ _|(refine via (by assumption) (by first|omega|(simp;done)|(simp;omega)) ?_)|refine Below.drew ?_|refine Below.setCell ?_ (by first|omega|(simp;done)|(simp;omega)) _|refine Below.alloc ?_ (by first|omega|(simp;done)|(simp;omega)) _)⟩
theorem without_6 (w:World):
 Calls Tryz.prog 203 #[.agg (Qaf ⟨#[110,111,110,101]⟩ ⟨#[112,117,116]⟩ ⟨#[103,101,116]⟩ ⟨#[101,112,111,99,104]⟩ ⟨#[106,111,105,110]⟩ ⟨#[108,101,97,118,101]⟩ ⟨#[109,97,114,107]⟩ ⟨#[114,101,97,100]⟩ ⟨#[116,105,99,107]⟩ ⟨#[116,114,105,109]⟩ ⟨#[112,97,99,107]⟩),.int .i64 6] w fun e w' =>e= .returned (.agg (Qaf ⟨#[110,111,110,101]⟩ ⟨#[112,117,116]⟩ ⟨#[103,101,116]⟩ ⟨#[101,112,111,99,104]⟩ ⟨#[106,111,105,110]⟩ ⟨#[108,101,97,118,101]⟩ ⟨#[110,111,110,101]⟩ ⟨#[114,101,97,100]⟩ ⟨#[116,105,99,107]⟩ ⟨#[116,114,105,109]⟩ ⟨#[112,97,99,107]⟩))/\Below w.heap.size w w' :=by
 have h:inB 6 0 10=true:=by decide
 go_enter Tryz.func203,Tryz.ntmps203;go_wp2_with (go_at_call 218;refine(Qb7 _ _).mono ?_;rintro e w1 ⟨rfl,rfl⟩);exact bodyPost_ret (v:= .agg (Qaf ⟨#[110,111,110,101]⟩ ⟨#[112,117,116]⟩ ⟨#[103,101,116]⟩ ⟨#[101,112,111,99,104]⟩ ⟨#[106,111,105,110]⟩ ⟨#[108,101,97,118,101]⟩ ⟨#[110,111,110,101]⟩ ⟨#[114,101,97,100]⟩ ⟨#[116,105,99,107]⟩ ⟨#[116,114,105,109]⟩ ⟨#[112,97,99,107]⟩)) (by simp[results,Tryz.results203,go_sem]) rfl
  ⟨rfl,by repeat(first|exact Below.refl _ _|(refine via (by assumption) (by first|omega|(simp;done)|(simp;omega)) ?_)|refine Below.drew ?_|refine Below.setCell ?_ (by first|omega|(simp;done)|(simp;omega)) _|refine Below.alloc ?_ (by first|omega|(simp;done)|(simp;omega)) _)⟩
theorem without_7 (w:World):
 Calls Tryz.prog 203 #[.agg (Qaf ⟨#[110,111,110,101]⟩ ⟨#[112,117,116]⟩ ⟨#[103,101,116]⟩ ⟨#[101,112,111,99,104]⟩ ⟨#[106,111,105,110]⟩ ⟨#[108,101,97,118,101]⟩ ⟨#[109,97,114,107]⟩ ⟨#[114,101,97,100]⟩ ⟨#[116,105,99,107]⟩ ⟨#[116,114,105,109]⟩ ⟨#[112,97,99,107]⟩),.int .i64 7] w fun e w' =>e= .returned (.agg (Qaf ⟨#[110,111,110,101]⟩ ⟨#[112,117,116]⟩ ⟨#[103,101,116]⟩ ⟨#[101,112,111,99,104]⟩ ⟨#[106,111,105,110]⟩ ⟨#[108,101,97,118,101]⟩ ⟨#[109,97,114,107]⟩ ⟨#[110,111,110,101]⟩ ⟨#[116,105,99,107]⟩ ⟨#[116,114,105,109]⟩ ⟨#[112,97,99,107]⟩))/\Below w.heap.size w w' :=by
 have h:inB 7 0 10=true:=by decide
 go_enter Tryz.func203,Tryz.ntmps203;go_wp2_with (go_at_call 218;refine(Qb7 _ _).mono ?_;rintro e w1 ⟨rfl,rfl⟩);exact bodyPost_ret (v:= .agg (Qaf ⟨#[110,111,110,101]⟩ ⟨#[112,117,116]⟩ ⟨#[103,101,116]⟩ ⟨#[101,112,111,99,104]⟩ ⟨#[106,111,105,110]⟩ ⟨#[108,101,97,118,101]⟩ ⟨#[109,97,114,107]⟩ ⟨#[110,111,110,101]⟩ ⟨#[116,105,99,107]⟩ ⟨#[116,114,105,109]⟩ ⟨#[112,97,99,107]⟩)) (by simp[results,Tryz.results203,go_sem]) rfl
  ⟨rfl,by repeat(first|exact Below.refl _ _|(refine via (by assumption) (by first|omega|(simp;done)|(simp;omega)) ?_)|refine Below.drew ?_|refine Below.setCell ?_ (by first|omega|(simp;done)|(simp;omega)) _|refine Below.alloc ?_ (by first|omega|(simp;done)|(simp;omega)) _)⟩
theorem without_8 (w:World):
 Calls Tryz.prog 203 #[.agg (Qaf ⟨#[110,111,110,101]⟩ ⟨#[112,117,116]⟩ ⟨#[103,101,116]⟩ ⟨#[101,112,111,99,104]⟩ ⟨#[106,111,105,110]⟩ ⟨#[108,101,97,118,101]⟩ ⟨#[109,97,114,107]⟩ ⟨#[114,101,97,100]⟩ ⟨#[116,105,99,107]⟩ ⟨#[116,114,105,109]⟩ ⟨#[112,97,99,107]⟩),.int .i64 8] w fun e w' =>e= .returned (.agg (Qaf ⟨#[110,111,110,101]⟩ ⟨#[112,117,116]⟩ ⟨#[103,101,116]⟩ ⟨#[101,112,111,99,104]⟩ ⟨#[106,111,105,110]⟩ ⟨#[108,101,97,118,101]⟩ ⟨#[109,97,114,107]⟩ ⟨#[114,101,97,100]⟩ ⟨#[110,111,110,101]⟩ ⟨#[116,114,105,109]⟩ ⟨#[112,97,99,107]⟩))/\Below w.heap.size w w' :=by
 have h:inB 8 0 10=true:=by decide
 go_enter Tryz.func203,Tryz.ntmps203;go_wp2_with (go_at_call 218;refine(Qb7 _ _).mono ?_;rintro e w1 ⟨rfl,rfl⟩);exact bodyPost_ret (v:= .agg (Qaf ⟨#[110,111,110,101]⟩ ⟨#[112,117,116]⟩ ⟨#[103,101,116]⟩ ⟨#[101,112,111,99,104]⟩ ⟨#[106,111,105,110]⟩ ⟨#[108,101,97,118,101]⟩ ⟨#[109,97,114,107]⟩ ⟨#[114,101,97,100]⟩ ⟨#[110,111,110,101]⟩ ⟨#[116,114,105,109]⟩ ⟨#[112,97,99,107]⟩)) (by simp[results,Tryz.results203,go_sem]) rfl
  ⟨rfl,by repeat(first|exact Below.refl _ _|(refine via (by assumption) (by first|omega|(simp;done)|(simp;omega)) ?_)|refine Below.drew ?_|refine Below.setCell ?_ (by first|omega|(simp;done)|(simp;omega)) _|refine Below.alloc ?_ (by first|omega|(simp;done)|(simp;omega)) _)⟩
theorem without_9 (w:World):
 Calls Tryz.prog 203 #[.agg (Qaf ⟨#[110,111,110,101]⟩ ⟨#[112,117,116]⟩ ⟨#[103,101,116]⟩ ⟨#[101,112,111,99,104]⟩ ⟨#[106,111,105,110]⟩ ⟨#[108,101,97,118,101]⟩ ⟨#[109,97,114,107]⟩ ⟨#[114,101,97,100]⟩ ⟨#[116,105,99,107]⟩ ⟨#[116,114,105,109]⟩ ⟨#[112,97,99,107]⟩),.int .i64 9] w fun e w' =>e= .returned (.agg (Qaf ⟨#[110,111,110,101]⟩ ⟨#[112,117,116]⟩ ⟨#[103,101,116]⟩ ⟨#[101,112,111,99,104]⟩ ⟨#[106,111,105,110]⟩ ⟨#[108,101,97,118,101]⟩ ⟨#[109,97,114,107]⟩ ⟨#[114,101,97,100]⟩ ⟨#[116,105,99,107]⟩ ⟨#[110,111,110,101]⟩ ⟨#[112,97,99,107]⟩))/\Below w.heap.size w w' :=by
 have h:inB 9 0 10=true:=by decide
 go_enter Tryz.func203,Tryz.ntmps203;go_wp2_with (go_at_call 218;refine(Qb7 _ _).mono ?_;rintro e w1 ⟨rfl,rfl⟩);exact bodyPost_ret (v:= .agg (Qaf ⟨#[110,111,110,101]⟩ ⟨#[112,117,116]⟩ ⟨#[103,101,116]⟩ ⟨#[101,112,111,99,104]⟩ ⟨#[106,111,105,110]⟩ ⟨#[108,101,97,118,101]⟩ ⟨#[109,97,114,107]⟩ ⟨#[114,101,97,100]⟩ ⟨#[116,105,99,107]⟩ ⟨#[110,111,110,101]⟩ ⟨#[112,97,99,107]⟩)) (by simp[results,Tryz.results203,go_sem]) rfl
  ⟨rfl,by repeat(first|exact Below.refl _ _|(refine via (by assumption) (by first|omega|(simp;done)|(simp;omega)) ?_)|refine Below.drew ?_|refine Below.setCell ?_ (by first|omega|(simp;done)|(simp;omega)) _|refine Below.alloc ?_ (by first|omega|(simp;done)|(simp;omega)) _)⟩
theorem without_10 (w:World):
 Calls Tryz.prog 203 #[.agg (Qaf ⟨#[110,111,110,101]⟩ ⟨#[112,117,116]⟩ ⟨#[103,101,116]⟩ ⟨#[101,112,111,99,104]⟩ ⟨#[106,111,105,110]⟩ ⟨#[108,101,97,118,101]⟩ ⟨#[109,97,114,107]⟩ ⟨#[114,101,97,100]⟩ ⟨#[116,105,99,107]⟩ ⟨#[116,114,105,109]⟩ ⟨#[112,97,99,107]⟩),.int .i64 10] w fun e w' =>e= .returned (.agg (Qaf ⟨#[110,111,110,101]⟩ ⟨#[112,117,116]⟩ ⟨#[103,101,116]⟩ ⟨#[101,112,111,99,104]⟩ ⟨#[106,111,105,110]⟩ ⟨#[108,101,97,118,101]⟩ ⟨#[109,97,114,107]⟩ ⟨#[114,101,97,100]⟩ ⟨#[116,105,99,107]⟩ ⟨#[116,114,105,109]⟩ ⟨#[110,111,110,101]⟩))/\Below w.heap.size w w' :=by
 have h:inB 10 0 10=true:=by decide
 go_enter Tryz.func203,Tryz.ntmps203;go_wp2_with (go_at_call 218;refine(Qb7 _ _).mono ?_;rintro e w1 ⟨rfl,rfl⟩);exact bodyPost_ret (v:= .agg (Qaf ⟨#[110,111,110,101]⟩ ⟨#[112,117,116]⟩ ⟨#[103,101,116]⟩ ⟨#[101,112,111,99,104]⟩ ⟨#[106,111,105,110]⟩ ⟨#[108,101,97,118,101]⟩ ⟨#[109,97,114,107]⟩ ⟨#[114,101,97,100]⟩ ⟨#[116,105,99,107]⟩ ⟨#[116,114,105,109]⟩ ⟨#[110,111,110,101]⟩)) (by simp[results,Tryz.results203,go_sem]) rfl
  ⟨rfl,by repeat(first|exact Below.refl _ _|(refine via (by assumption) (by first|omega|(simp;done)|(simp;omega)) ?_)|refine Below.drew ?_|refine Below.setCell ?_ (by first|omega|(simp;done)|(simp;omega)) _|refine Below.alloc ?_ (by first|omega|(simp;done)|(simp;omega)) _)⟩
end Go.Proofs.YtpippjjhelgnlaaGreat.CmdOk
