/-
  Parts of CmdOk at this seat: numbers within limits, plain texts, names of Ops. No condition but the length that every text has.
-/
import Derived.Test.YtajbldnhjpjghaaGreatBase
set_option linter.unusedVariables false
set_option linter.unusedSimpArgs false
set_option maxRecDepth 100000
set_option maxHeartbeats 8000000
set_option maxRecDepth 100000
set_option maxHeartbeats 8000000
namespace Go.Proofs.YtajbldnhjpjghaaGreat.CmdOk
open ChangeShapes WideShapes ChangeAt RowKit Joins Base
abbrev opNs:Array Value:=(Qii ⟨#[110,111,110,101]⟩ ⟨#[112,117,116]⟩ ⟨#[103,101,116]⟩ ⟨#[101,112,111,99,104]⟩ ⟨#[106,111,105,110]⟩ ⟨#[108,101,97,118,101]⟩ ⟨#[109,97,114,107]⟩ ⟨#[114,101,97,100]⟩ ⟨#[116,105,99,107]⟩ ⟨#[116,114,105,109]⟩ ⟨#[112,97,99,107]⟩)
def opW (op:Int):Array Value:=opNs.setIfInBounds op.toNat (.string ⟨#[110,111,110,101]⟩)
def inB (x lo hi:Int):Bool:=decide (lo<=x/\x<=hi)
theorem Qcf (x lo hi:Int) (w:World):
 Calls Tryz.prog 35 (Qck x lo hi) w fun e w' =>e= .returned (.bool (inB x lo hi))/\w' =w:=by
 by_cases h1:lo<=x<;>by_cases h2:x<=hi<;>
 . go_enter Tryz.func35,Tryz.ntmps35;go_wp2;go_ret;exact⟨by simp[inB,h1,h2],rfl⟩
theorem Qc7 (x lo hi:Int) (w:World):
 Calls Tryz.prog 32 (Qck x lo hi) w fun e w' =>e= .returned (.bool (inB x lo hi))/\w' =w:=by
 by_cases h1:lo<=x<;>by_cases h2:x<=hi<;>
 . go_enter Tryz.func32,Tryz.ntmps32;go_wp2;go_ret;exact⟨by simp[inB,h1,h2],rfl⟩
def Qcm (x:Nat):Bool:=decide ((97<=x/\x<=122)∨(48<=x/\x<=57)∨x=32)
theorem Qd2 (x:Nat):
 ((97:Int)<=x/\(x:Int)<=122/\Qcm x=true)∨((97:Int)<=x/\¬(x:Int)<=122/\(48:Int)<=x/\¬(x:Int)<=57/\((x:Int)==32)=false/\Qcm x=false)∨
 (¬(97:Int)<=x/\(48:Int)<=x/\(x:Int)<=57/\Qcm x=true)∨(¬(97:Int)<=x/\(48:Int)<=x/\¬(x:Int)<=57/\((x:Int)==32)=false/\Qcm x=false)∨
 (¬(97:Int)<=x/\¬(48:Int)<=x/\((x:Int)==32)=true/\Qcm x=true)∨(¬(97:Int)<=x/\¬(48:Int)<=x/\((x:Int)==32)=false/\Qcm x=false):=by
 simp only[beq_eq_false_iff_ne,beq_iff_eq,ne_eq,Qcm,decide_eq_true_eq,decide_eq_false_iff_not];omega
theorem Qek (x:Nat) (w:World):
 Calls Tryz.prog 96 #[.int .u8 (x:Int)] w fun e w' =>e= .returned (.bool (Qcm x))/\w' =w:=by
 rcases Qd2 x with⟨h1,h2,hp⟩|⟨h1,h2,h3,h4,h5,hp⟩|⟨h1,h2,h3,hp⟩|⟨h1,h2,h3,h4,hp⟩|⟨h1,h2,h3,hp⟩|⟨h1,h2,h3,hp⟩<;>
 . rw[hp];go_enter Tryz.func96,Tryz.ntmps96;go_wp2;go_ret;exact⟨rfl,rfl⟩
def Qaz (s:ByteArray) (i:Nat):Bool:=(s.data.toList.drop i).all (fun x=>Qcm x.toNat)
def textB (s:ByteArray):Bool:=Qaz s 0&&decide (s.size<=30)
theorem Qdu {s:ByteArray} {i:Nat} (h:s.size<=i):Qaz s i=true:=by
 have:s.data.toList.drop i= []:=List.drop_eq_nil_of_le (by simpa using h);simp[Qaz,this]
theorem Qdk {s:ByteArray} {i:Nat} (h:i<s.size):Qaz s i=(Qcm (s[i]'h).toNat&&Qaz s (i+1)):=by
 have h' :i<s.data.toList.length:=by simpa using h
 unfold Qaz;rw[List.drop_eq_getElem_cons h',List.all_cons];rfl
theorem Qeo (s:ByteArray) (hs:s.size<=9223372036854775807) (w:World):
 Calls Tryz.prog 81 #[.string s] w fun e w' =>e= .returned (.bool (textB s))/\Below w.heap.size w w' :=by
 by_cases hl:(s.size:Int)>30
 . have e1:textB s=false:=(by simp[textB];omega);rw[e1];go_enter Tryz.func81,Tryz.ntmps81;go_wp2;go_ret;exact⟨rfl,Below.refl _ _⟩
 . have e1:textB s=Qaz s 0:=(by simp[textB];omega);rw[e1];go_enter Tryz.func81,Tryz.ntmps81;go_wp2
   go_loopw [3] (fun i w' =>∃n:Nat,i= .int .i64 (n:Int)/\n<=s.size/\Qaz s n=Qaz s 0/\Below w.heap.size w w') (fun i _=>s.size - (intOf i).toNat)
   case atStart=>exact⟨0,rfl,by omega,rfl,Below.refl _ _⟩
   case round=>
    obtain⟨n,rfl,hn,hE,hb⟩:=hrel;by_cases hlt:n<s.size
    . have hst:=Qdk hlt;cases hp:Qcm s[n].toNat
      . have hE' :Qaz s 0=false:=(by rw[← hE,hst,hp];rfl);clear hE hst;go_wp2_with (go_at_call 96;refine(Qek _ _).mono ?_;rintro e w' ⟨rfl,rfl⟩);go_ret;exact⟨by first|rfl|(rw[hE'];rfl),hb⟩
      . have hE' :Qaz s (n+1)=Qaz s 0:=(by rw[← hE,hst,hp];rfl);clear hE hst;go_wp2_with (go_at_call 96;refine(Qek _ _).mono ?_;rintro e w' ⟨rfl,rfl⟩);exact⟨⟨n+1,by go_num,by omega,hE',hb⟩,by simp[intOf];omega⟩
    . have hE' :Qaz s 0=true:=(by rw[← hE,Qdu (by omega)]);go_wp2;go_ret;exact⟨by first|rfl|(rw[hE'];rfl),hb⟩
theorem Qdh (s:ByteArray) (hs:s.size<=9223372036854775807) (w:World):
 Calls Tryz.prog 82 #[.string s] w fun e w' =>e= .returned (.bool (textB s))/\Below w.heap.size w w' :=by
 go_enter Tryz.func82,Tryz.ntmps82;go_wp2
 go_loopw [3] (fun i w' =>∃n:Nat,i= .int .i64 (n:Int)/\n<=s.size/\Qaz s n=Qaz s 0/\Below w.heap.size w w') (fun i _=>s.size - (intOf i).toNat)
 case atStart=>exact⟨0,rfl,by omega,rfl,Below.refl _ _⟩
 case round=>
  obtain⟨n,rfl,hn,hE,hb⟩:=hrel;by_cases hlt:n<s.size
  . have hst:=Qdk hlt;rcases Qd2 s[n].toNat with⟨h1,h2,hp⟩|⟨h1,h2,h3,h4,h5,hp⟩|⟨h1,h2,h3,hp⟩|⟨h1,h2,h3,h4,hp⟩|⟨h1,h2,h3,hp⟩|⟨h1,h2,h3,hp⟩
    . have hE' :Qaz s (n+1)=Qaz s 0:=(by rw[← hE,hst,hp];rfl);clear hE hst hp;go_wp2;exact⟨⟨n+1,by go_num,by omega,hE',hb⟩,by simp[intOf];omega⟩
    . have hE' :textB s=false:=by
       have h0:Qaz s 0=false:=(by rw[← hE,hst,hp];rfl);simp[textB,h0]
      clear hE hst hp;go_wp2;go_ret;exact⟨by first|rfl|(rw[hE'];rfl),hb⟩
    . have hE' :Qaz s (n+1)=Qaz s 0:=(by rw[← hE,hst,hp];rfl);clear hE hst hp;go_wp2;exact⟨⟨n+1,by go_num,by omega,hE',hb⟩,by simp[intOf];omega⟩
    . have hE' :textB s=false:=by
       have h0:Qaz s 0=false:=(by rw[← hE,hst,hp];rfl);simp[textB,h0]
      clear hE hst hp;go_wp2;go_ret;exact⟨by first|rfl|(rw[hE'];rfl),hb⟩
    . have hE' :Qaz s (n+1)=Qaz s 0:=(by rw[← hE,hst,hp];rfl);clear hE hst hp;go_wp2;exact⟨⟨n+1,by go_num,by omega,hE',hb⟩,by simp[intOf];omega⟩
    . have hE' :textB s=false:=by
       have h0:Qaz s 0=false:=(by rw[← hE,hst,hp];rfl);simp[textB,h0]
      clear hE hst hp;go_wp2;go_ret;exact⟨by first|rfl|(rw[hE'];rfl),hb⟩
  . have hE' :Qaz s 0=true:=(by rw[← hE,Qdu (by omega)]);have hE2:textB s=decide (s.size<=30):=(by simp[textB,hE']);by_cases hl:(s.size:Int)<=30
    . have:s.size<=30:=(by omega);go_wp2;go_ret;exact⟨by first|(rw[hE2];simp[this];done)|simp,hb⟩
    . have:¬s.size<=30:=(by omega);go_wp2;go_ret;exact⟨by first|(rw[hE2];simp[this];done)|simp,hb⟩
theorem Qjm (w:World):
 Calls Tryz.prog 94 #[] w fun e w' =>e= .returned (.agg opNs)/\Below w.heap.size w w' :=by
 go_enter Tryz.func94,Tryz.ntmps94;go_wp2;exact bodyPost_ret (v:= .agg opNs) (by simp[results,Tryz.results94,go_sem]) rfl
  ⟨rfl,by repeat(first|exact Below.refl _ _|refine Below.drew ?_|refine Below.alloc ?_ (by simp<;>omega) _)⟩
theorem Qjd (op:Int) (w:World):
 Calls Tryz.prog 102 #[.agg opNs,.int .i64 op] w fun e w' =>e= .returned (.bool (inB op 0 10))/\w' =w.alloc (.cells opNs 154):=by
 go_enter Tryz.func102,Tryz.ntmps102;go_wp2_with (go_at_call 32;refine(Qc7 _ _ _ _).mono ?_;rintro e w' ⟨rfl,rfl⟩);go_ret;exact⟨rfl,rfl⟩
theorem Qkl (op:Int) (h:inB op 0 10=false) (w:World):
 Calls Tryz.prog 95 #[.agg opNs,.int .i64 op] w fun e w' =>e= .returned (.agg opNs)/\Below w.heap.size w w' :=by
 go_enter Tryz.func95,Tryz.ntmps95;go_wp2_with (go_at_call 102;refine(Qjd _ _).mono ?_;rintro e w1 ⟨rfl,rfl⟩);exact bodyPost_ret (v:= .agg opNs) (by simp[results,Tryz.results95,go_sem]) rfl
  ⟨rfl,by repeat(first|exact Below.refl _ _|(refine via (by assumption) (by first|omega|(simp;done)|(simp;omega)) ?_)|refine Below.drew ?_|refine Below.setCell ?_ (by first|omega|(simp;done)|(simp;omega)) _|refine Below.alloc ?_ (by first|omega|(simp;done)|(simp;omega)) _)⟩
theorem Qn4 (op:Int):inB op 0 10=false∨op=0∨op=1∨op=2∨op=3∨op=4∨op=5∨op=6∨op=7∨op=8∨op=9∨op=10:=by
 simp only[inB,decide_eq_false_iff_not];omega
theorem Qmb (op:Int) (h:inB op 0 10=true) (w:World):
 Calls Tryz.prog 95 #[.agg opNs,.int .i64 op] w fun e w' =>e= .returned (.agg (opW op))/\Below w.heap.size w w' :=by
 rcases Qn4 op with h' |rfl|rfl|rfl|rfl|rfl|rfl|rfl|rfl|rfl|rfl|rfl
 . rw[h]at h';cases h'
 all_goals
  go_enter Tryz.func95,Tryz.ntmps95;go_wp2_with (go_at_call 102;refine(Qjd _ _).mono ?_;rintro e w1 ⟨rfl,rfl⟩);exact bodyPost_ret (v:= .agg (opW _)) (by simp[results,Tryz.results95,go_sem];try rfl) rfl
   ⟨rfl,by repeat(first|exact Below.refl _ _|(refine via (by assumption) (by first|omega|(simp;done)|(simp;omega)) ?_)|refine Below.drew ?_|refine Below.setCell ?_ (by first|omega|(simp;done)|(simp;omega)) _|refine Below.alloc ?_ (by first|omega|(simp;done)|(simp;omega)) _)⟩
end Go.Proofs.YtajbldnhjpjghaaGreat.CmdOk
