/-
  Parts of CmdOk at this seat: numbers within limits, plain texts, names of Ops. No condition but the length that every text has.
-/
import Derived.Test.YtajbldnhjpjghaaGreatDoorBase
set_option linter.unusedVariables false
set_option linter.unusedSimpArgs false
set_option maxRecDepth 100000
set_option maxHeartbeats 8000000
set_option maxRecDepth 100000
set_option maxHeartbeats 8000000
namespace Go.Proofs.YtajbldnhjpjghaaGreatDoor.CmdOk
open ChangeShapes WideShapes ChangeAt RowKit Joins Base
abbrev opNs:Array Value:=(Qir ⟨#[110,111,110,101]⟩ ⟨#[112,117,116]⟩ ⟨#[103,101,116]⟩ ⟨#[101,112,111,99,104]⟩ ⟨#[106,111,105,110]⟩ ⟨#[108,101,97,118,101]⟩ ⟨#[109,97,114,107]⟩ ⟨#[114,101,97,100]⟩ ⟨#[116,105,99,107]⟩ ⟨#[116,114,105,109]⟩ ⟨#[112,97,99,107]⟩)
def opW (op:Int):Array Value:=opNs.setIfInBounds op.toNat (.string ⟨#[110,111,110,101]⟩)
def inB (x lo hi:Int):Bool:=decide (lo<=x/\x<=hi)
theorem Qca (x lo hi:Int) (w:World):
 Calls Tryz.prog 71 (Qc1 x lo hi) w fun e w' =>e= .returned (.bool (inB x lo hi))/\w' =w:=by
 by_cases h1:lo<=x<;>by_cases h2:x<=hi<;>
 . go_enter Tryz.func71,Tryz.ntmps71;go_wp2;go_ret;exact⟨by simp[inB,h1,h2],rfl⟩
theorem Qc3 (x lo hi:Int) (w:World):
 Calls Tryz.prog 40 (Qc1 x lo hi) w fun e w' =>e= .returned (.bool (inB x lo hi))/\w' =w:=by
 by_cases h1:lo<=x<;>by_cases h2:x<=hi<;>
 . go_enter Tryz.func40,Tryz.ntmps40;go_wp2;go_ret;exact⟨by simp[inB,h1,h2],rfl⟩
def Qce (x:Nat):Bool:=decide ((97<=x/\x<=122)∨(48<=x/\x<=57)∨x=32)
theorem Qdu (x:Nat):
 ((97:Int)<=x/\(x:Int)<=122/\Qce x=true)∨((97:Int)<=x/\¬(x:Int)<=122/\(48:Int)<=x/\¬(x:Int)<=57/\((x:Int)==32)=false/\Qce x=false)∨
 (¬(97:Int)<=x/\(48:Int)<=x/\(x:Int)<=57/\Qce x=true)∨(¬(97:Int)<=x/\(48:Int)<=x/\¬(x:Int)<=57/\((x:Int)==32)=false/\Qce x=false)∨
 (¬(97:Int)<=x/\¬(48:Int)<=x/\((x:Int)==32)=true/\Qce x=true)∨(¬(97:Int)<=x/\¬(48:Int)<=x/\((x:Int)==32)=false/\Qce x=false):=by
 simp only[beq_eq_false_iff_ne,beq_iff_eq,ne_eq,Qce,decide_eq_true_eq,decide_eq_false_iff_not];omega
theorem Qed (x:Nat) (w:World):
 Calls Tryz.prog 99 #[.int .u8 (x:Int)] w fun e w' =>e= .returned (.bool (Qce x))/\w' =w:=by
 rcases Qdu x with⟨h1,h2,hp⟩|⟨h1,h2,h3,h4,h5,hp⟩|⟨h1,h2,h3,hp⟩|⟨h1,h2,h3,h4,hp⟩|⟨h1,h2,h3,hp⟩|⟨h1,h2,h3,hp⟩<;>
 . rw[hp];go_enter Tryz.func99,Tryz.ntmps99;go_wp2;go_ret;exact⟨rfl,rfl⟩
def Qay (s:ByteArray) (i:Nat):Bool:=(s.data.toList.drop i).all (fun x=>Qce x.toNat)
def textB (s:ByteArray):Bool:=Qay s 0&&decide (s.size<=30)
theorem Qdm {s:ByteArray} {i:Nat} (h:s.size<=i):Qay s i=true:=by
 have:s.data.toList.drop i= []:=List.drop_eq_nil_of_le (by simpa using h);simp[Qay,this]
theorem Qde {s:ByteArray} {i:Nat} (h:i<s.size):Qay s i=(Qce (s[i]'h).toNat&&Qay s (i+1)):=by
 have h' :i<s.data.toList.length:=by simpa using h
 unfold Qay;rw[List.drop_eq_getElem_cons h',List.all_cons];rfl
theorem Qeg (s:ByteArray) (hs:s.size<=9223372036854775807) (w:World):
 Calls Tryz.prog 90 #[.string s] w fun e w' =>e= .returned (.bool (textB s))/\Below w.heap.size w w' :=by
 by_cases hl:(s.size:Int)>30
 . have e1:textB s=false:=(by simp[textB];omega);rw[e1];go_enter Tryz.func90,Tryz.ntmps90;go_wp2;go_ret;exact⟨rfl,Below.refl _ _⟩
 . have e1:textB s=Qay s 0:=(by simp[textB];omega);rw[e1];go_enter Tryz.func90,Tryz.ntmps90;go_wp2
   go_loopw [3] (fun i w' =>∃n:Nat,i= .int .i64 (n:Int)/\n<=s.size/\Qay s n=Qay s 0/\Below w.heap.size w w') (fun i _=>s.size - (intOf i).toNat)
   case atStart=>exact⟨0,rfl,by omega,rfl,Below.refl _ _⟩
   case round=>
    obtain⟨n,rfl,hn,hE,hb⟩:=hrel;by_cases hlt:n<s.size
    . have hst:=Qde hlt;cases hp:Qce s[n].toNat
      . have hE' :Qay s 0=false:=(by rw[← hE,hst,hp];rfl);clear hE hst;go_wp2_with (go_at_call 99;refine(Qed _ _).mono ?_;rintro e w' ⟨rfl,rfl⟩);go_ret;exact⟨by first|rfl|(rw[hE'];rfl),hb⟩
      . have hE' :Qay s (n+1)=Qay s 0:=(by rw[← hE,hst,hp];rfl);clear hE hst;go_wp2_with (go_at_call 99;refine(Qed _ _).mono ?_;rintro e w' ⟨rfl,rfl⟩);exact⟨⟨n+1,by go_num,by omega,hE',hb⟩,by simp[intOf];omega⟩
    . have hE' :Qay s 0=true:=(by rw[← hE,Qdm (by omega)]);go_wp2;go_ret;exact⟨by first|rfl|(rw[hE'];rfl),hb⟩
theorem Qdb (s:ByteArray) (hs:s.size<=9223372036854775807) (w:World):
 Calls Tryz.prog 96 #[.string s] w fun e w' =>e= .returned (.bool (textB s))/\Below w.heap.size w w' :=by
 go_enter Tryz.func96,Tryz.ntmps96;go_wp2
 go_loopw [3] (fun i w' =>∃n:Nat,i= .int .i64 (n:Int)/\n<=s.size/\Qay s n=Qay s 0/\Below w.heap.size w w') (fun i _=>s.size - (intOf i).toNat)
 case atStart=>exact⟨0,rfl,by omega,rfl,Below.refl _ _⟩
 case round=>
  obtain⟨n,rfl,hn,hE,hb⟩:=hrel;by_cases hlt:n<s.size
  . have hst:=Qde hlt;rcases Qdu s[n].toNat with⟨h1,h2,hp⟩|⟨h1,h2,h3,h4,h5,hp⟩|⟨h1,h2,h3,hp⟩|⟨h1,h2,h3,h4,hp⟩|⟨h1,h2,h3,hp⟩|⟨h1,h2,h3,hp⟩
    . have hE' :Qay s (n+1)=Qay s 0:=(by rw[← hE,hst,hp];rfl);clear hE hst hp;go_wp2;exact⟨⟨n+1,by go_num,by omega,hE',hb⟩,by simp[intOf];omega⟩
    . have hE' :textB s=false:=by
       have h0:Qay s 0=false:=(by rw[← hE,hst,hp];rfl);simp[textB,h0]
      clear hE hst hp;go_wp2;go_ret;exact⟨by first|rfl|(rw[hE'];rfl),hb⟩
    . have hE' :Qay s (n+1)=Qay s 0:=(by rw[← hE,hst,hp];rfl);clear hE hst hp;go_wp2;exact⟨⟨n+1,by go_num,by omega,hE',hb⟩,by simp[intOf];omega⟩
    . have hE' :textB s=false:=by
       have h0:Qay s 0=false:=(by rw[← hE,hst,hp];rfl);simp[textB,h0]
      clear hE hst hp;go_wp2;go_ret;exact⟨by first|rfl|(rw[hE'];rfl),hb⟩
    . have hE' :Qay s (n+1)=Qay s 0:=(by rw[← hE,hst,hp];rfl);clear hE hst hp;go_wp2;exact⟨⟨n+1,by go_num,by omega,hE',hb⟩,by simp[intOf];omega⟩
    . have hE' :textB s=false:=by
       have h0:Qay s 0=false:=(by rw[← hE,hst,hp];rfl);simp[textB,h0]
      clear hE hst hp;go_wp2;go_ret;exact⟨by first|rfl|(rw[hE'];rfl),hb⟩
  . have hE' :Qay s 0=true:=(by rw[← hE,Qdm (by omega)]);have hE2:textB s=decide (s.size<=30):=(by simp[textB,hE']);by_cases hl:(s.size:Int)<=30
    . have:s.size<=30:=(by omega);go_wp2;go_ret;exact⟨by first|(rw[hE2];simp[this];done)|simp,hb⟩
    . have:¬s.size<=30:=(by omega);go_wp2;go_ret;exact⟨by first|(rw[hE2];simp[this];done)|simp,hb⟩
theorem Qjx (w:World):
 Calls Tryz.prog 97 #[] w fun e w' =>e= .returned (.agg opNs)/\Below w.heap.size w w' :=by
 go_enter Tryz.func97,Tryz.ntmps97;go_wp2;exact bodyPost_ret (v:= .agg opNs) (by simp[results,Tryz.results97,go_sem]) rfl
  ⟨rfl,by repeat(first|exact Below.refl _ _|refine Below.drew ?_|refine Below.alloc ?_ (by simp<;>omega) _)⟩
theorem Qjo (op:Int) (w:World):
 Calls Tryz.prog 104 #[.agg opNs,.int .i64 op] w fun e w' =>e= .returned (.bool (inB op 0 10))/\w' =w.alloc (.cells opNs 182):=by
 go_enter Tryz.func104,Tryz.ntmps104;go_wp2_with (go_at_call 40;refine(Qc3 _ _ _ _).mono ?_;rintro e w' ⟨rfl,rfl⟩);go_ret;exact⟨rfl,rfl⟩
theorem Qku (op:Int) (h:inB op 0 10=false) (w:World):
 Calls Tryz.prog 98 #[.agg opNs,.int .i64 op] w fun e w' =>e= .returned (.agg opNs)/\Below w.heap.size w w' :=by
 go_enter Tryz.func98,Tryz.ntmps98;go_wp2_with (go_at_call 104;refine(Qjo _ _).mono ?_;rintro e w1 ⟨rfl,rfl⟩);exact bodyPost_ret (v:= .agg opNs) (by simp[results,Tryz.results98,go_sem]) rfl
  ⟨rfl,by repeat(first|exact Below.refl _ _|(refine via (by assumption) (by first|omega|(simp;done)|(simp;omega)) ?_)|refine Below.drew ?_|refine Below.setCell ?_ (by first|omega|(simp;done)|(simp;omega)) _|refine Below.alloc ?_ (by first|omega|(simp;done)|(simp;omega)) _)⟩
theorem op_ways (op:Int):inB op 0 10=false∨op=0∨op=1∨op=2∨op=3∨op=4∨op=5∨op=6∨op=7∨op=8∨op=9∨op=10:=by
 simp only[inB,decide_eq_false_iff_not];omega
theorem without_in (op:Int) (h:inB op 0 10=true) (w:World):
 Calls Tryz.prog 98 #[.agg opNs,.int .i64 op] w fun e w' =>e= .returned (.agg (opW op))/\Below w.heap.size w w' :=by
 rcases op_ways op with h' |rfl|rfl|rfl|rfl|rfl|rfl|rfl|rfl|rfl|rfl|rfl
 . rw[h]at h';cases h'
 all_goals
  go_enter Tryz.func98,Tryz.ntmps98;go_wp2_with (go_at_call 104;refine(Qjo _ _).mono ?_;rintro e w1 ⟨rfl,rfl⟩);exact bodyPost_ret (v:= .agg (opW _)) (by simp[results,Tryz.results98,go_sem];try rfl) rfl
   ⟨rfl,by repeat(first|exact Below.refl _ _|(refine via (by assumption) (by first|omega|(simp;done)|(simp;omega)) ?_)|refine Below.drew ?_|refine Below.setCell ?_ (by first|omega|(simp;done)|(simp;omega)) _|refine Below.alloc ?_ (by first|omega|(simp;done)|(simp;omega)) _)⟩
end Go.Proofs.YtajbldnhjpjghaaGreatDoor.CmdOk
