/-
  Laws of our own that every claim of this seat leans on: how a law's row is closed once its call is known to answer true and to turn nothing that was there. No condition.
-/
import Derived.Test.YtajbldnhjpjghaaGreatRows
import Derived.Lib.SmallJoins
import Derived.Deep.RegionHeld3
import Derived.Deep.AppendLies
import Derived.Deep.Upon
set_option linter.unusedVariables false
set_option linter.unusedSimpArgs false
set_option maxRecDepth 100000
set_option maxHeartbeats 8000000
set_option maxRecDepth 100000
set_option maxHeartbeats 8000000
namespace Go.Proofs.YtajbldnhjpjghaaGreat
abbrev l0II:Array Value:= #[.int .i64 0,.int .i64 0]
abbrev Qjx:Array Value:= #[.int .i64 0,.int .i64 0,.bool false]
abbrev Qe0:Array Value:= #[.int .i64 0,.int .i64 0,.int .i64 0,.int .i64 0]
abbrev Qbe:Array Value:= #[.int .i64 0,.int .i64 0,.int .i64 0,.int .i64 0,.int .i64 0,.int .i64 0,.int .i64 0,.string ⟨#[]⟩,.string ⟨#[]⟩]
abbrev Qar:Array Value:= #[.int .i64 0,.int .i64 0,.int .i64 0,.int .i64 0,.int .i64 0,.int .i64 0,.string ⟨#[]⟩,.string ⟨#[]⟩]
abbrev Qdz:Array Value:= #[.int .i64 0,.int .i64 0,.int .i64 0,.int .i64 0,.slice none 0 0]
abbrev Qah:Array Value:= #[.int .i64 0,.int .i64 0,.int .i64 0,.int .i64 0,.slice none 0 0,.string ⟨#[]⟩]
abbrev Qco:Array Value:= #[.int .i64 0,.int .i64 0,.slice none 0 0]
abbrev Qaq:Array Value:= #[.int .i64 0,.int .i64 0,.string ⟨#[]⟩,.string ⟨#[]⟩]
abbrev Qcu:Array Value:= #[.int .i64 0,.slice none 0 0,.slice none 0 0,.slice none 0 0]
abbrev Qdy:Array Value:= #[.int .i64 0,.string ⟨#[]⟩,.string ⟨#[]⟩,.int .i64 0,.int .i64 0]
abbrev Qte:Array Value:= #[.slice none 0 0,.int .i64 0,.bool false]
abbrev Qae:Array Value:= #[.slice none 0 0,.slice none 0 0,.slice none 0 0,.int .i64 0,.slice none 0 0,.slice none 0 0]
abbrev Qsa:Array Value:= #[.string ⟨#[]⟩,.int .i64 0,.bool false]
abbrev l1II (i0:Int) (i1:Int):Array Value:= #[.int .i64 i0,.int .i64 i1]
abbrev Qk3 (i0:Int) (i1:Int) (b2:Bool):Array Value:= #[.int .i64 i0,.int .i64 i1,.bool b2]
abbrev Qck (i0:Int) (i1:Int) (i2:Int):Array Value:= #[.int .i64 i0,.int .i64 i1,.int .i64 i2]
abbrev Qaj (i0:Int) (i1:Int) (i2:Int) (i3:Int):Array Value:= #[.int .i64 i0,.int .i64 i1,.int .i64 i2,.int .i64 i3]
abbrev Qk2 (i0:Int) (i1:Int) (i2:Int) (i3:Int) (i4:Int):Array Value:= #[.int .i64 i0,.int .i64 i1,.int .i64 i2,.int .i64 i3,.int .i64 i4]
abbrev Qcs (i0:Int) (i1:Int) (i2:Int) (i3:Int) (i4:Int) (i5:Int):Array Value:= #[.int .i64 i0,.int .i64 i1,.int .i64 i2,.int .i64 i3,.int .i64 i4,.int .i64 i5]
abbrev Qcw (i0:Int) (i1:Int) (i2:Int) (i3:Int) (i4:Int) (i5:Int) (i6:Int) (i7:Int) (i8:Int) (i9:Int) (i10:Int) (i11:Int) (i12:Int) (i13:Int):Array Value:= #[.int .i64 i0,.int .i64 i1,.int .i64 i2,.int .i64 i3,.int .i64 i4,.int .i64 i5,.int .i64 i6,.int .i64 i7,.int .i64 i8,.int .i64 i9,.int .i64 i10,.int .i64 i11,.int .i64 i12,.int .i64 i13]
abbrev Qbg (i0:Int) (i1:Int) (i2:Int) (i3:Int) (i4:Int) (i5:Int) (i6:Int) (t7:ByteArray) (t8:ByteArray):Array Value:= #[.int .i64 i0,.int .i64 i1,.int .i64 i2,.int .i64 i3,.int .i64 i4,.int .i64 i5,.int .i64 i6,.string t7,.string t8]
abbrev Qab (i0:Int) (i1:Int) (i2:Int) (i3:Int) (i4:Int) (i5:Int) (t6:ByteArray) (t7:ByteArray):Array Value:= #[.int .i64 i0,.int .i64 i1,.int .i64 i2,.int .i64 i3,.int .i64 i4,.int .i64 i5,.string t6,.string t7]
abbrev Qal (i0:Int) (i1:Int) (i2:Int) (i3:Int) (a4:Option Addr) (n4 c4:Nat):Array Value:= #[.int .i64 i0,.int .i64 i1,.int .i64 i2,.int .i64 i3,.slice a4 n4 c4]
abbrev Qag (i0:Int) (i1:Int) (i2:Int) (i3:Int) (a4:Option Addr) (n4 c4:Nat) (t5:ByteArray):Array Value:= #[.int .i64 i0,.int .i64 i1,.int .i64 i2,.int .i64 i3,.slice a4 n4 c4,.string t5]
abbrev Qa5 (i0:Int) (i1:Int) (a2:Option Addr) (n2 c2:Nat):Array Value:= #[.int .i64 i0,.int .i64 i1,.slice a2 n2 c2]
abbrev Qax (i0:Int) (i1:Int) (t2:ByteArray) (t3:ByteArray):Array Value:= #[.int .i64 i0,.int .i64 i1,.string t2,.string t3]
abbrev Qak (i0:Int) (a1:Option Addr) (n1 c1:Nat) (a2:Option Addr) (n2 c2:Nat) (a3:Option Addr) (n3 c3:Nat):Array Value:= #[.int .i64 i0,.slice a1 n1 c1,.slice a2 n2 c2,.slice a3 n3 c3]
abbrev Qbs (i0:Int) (t1:ByteArray) (t2:ByteArray) (i3:Int) (i4:Int):Array Value:= #[.int .i64 i0,.string t1,.string t2,.int .i64 i3,.int .i64 i4]
abbrev l1SI (a0:Option Addr) (n0 c0:Nat) (i1:Int):Array Value:= #[.slice a0 n0 c0,.int .i64 i1]
abbrev Qjw (a0:Option Addr) (n0 c0:Nat) (i1:Int) (b2:Bool):Array Value:= #[.slice a0 n0 c0,.int .i64 i1,.bool b2]
abbrev Qf3 (a0:Option Addr) (n0 c0:Nat) (i1:Int) (i2:Int):Array Value:= #[.slice a0 n0 c0,.int .i64 i1,.int .i64 i2]
abbrev l1SS (a0:Option Addr) (n0 c0:Nat) (a1:Option Addr) (n1 c1:Nat):Array Value:= #[.slice a0 n0 c0,.slice a1 n1 c1]
abbrev Qaa (a0:Option Addr) (n0 c0:Nat) (a1:Option Addr) (n1 c1:Nat) (a2:Option Addr) (n2 c2:Nat) (i3:Int) (a4:Option Addr) (n4 c4:Nat) (a5:Option Addr) (n5 c5:Nat):Array Value:= #[.slice a0 n0 c0,.slice a1 n1 c1,.slice a2 n2 c2,.int .i64 i3,.slice a4 n4 c4,.slice a5 n5 c5]
abbrev l1ST (a0:Option Addr) (n0 c0:Nat) (t1:ByteArray):Array Value:= #[.slice a0 n0 c0,.string t1]
abbrev Qtd (t0:ByteArray) (i1:Int) (b2:Bool):Array Value:= #[.string t0,.int .i64 i1,.bool b2]
abbrev l1TT (t0:ByteArray) (t1:ByteArray):Array Value:= #[.string t0,.string t1]
abbrev Qos (t0:ByteArray) (t1:ByteArray) (t2:ByteArray) (t3:ByteArray) (t4:ByteArray):Array Value:= #[.string t0,.string t1,.string t2,.string t3,.string t4]
abbrev Qii (t0:ByteArray) (t1:ByteArray) (t2:ByteArray) (t3:ByteArray) (t4:ByteArray) (t5:ByteArray) (t6:ByteArray) (t7:ByteArray) (t8:ByteArray) (t9:ByteArray) (t10:ByteArray):Array Value:= #[.string t0,.string t1,.string t2,.string t3,.string t4,.string t5,.string t6,.string t7,.string t8,.string t9,.string t10]
end Go.Proofs.YtajbldnhjpjghaaGreat
namespace Go.Proofs.YtajbldnhjpjghaaGreat.Base
open ChangeShapes WideShapes ChangeAt RowKit
theorem Qeh {W w1:World} (hb:Below W.heap.size W w1):(∀b o,b<W.heap.size->w1.cell? ⟨b,o,none⟩=W.cell? ⟨b,o,none⟩)/\(∀b o,b<W.heap.size->w1.frozen? ⟨b,o,none⟩=W.frozen? ⟨b,o,none⟩):=
 ⟨fun b o h=>hb.cell (p:=⟨b,o,none⟩) h,fun b o h=>hb.frozen (p:=⟨b,o,none⟩) h⟩
theorem via {B:Nat} {a b c:World} (k:Below b.heap.size b c) (hB:B<=b.heap.size) (h:Below B a b):Below B a c:=h.trans (k.mono hB)
theorem Qe9 {H:Type} {enc:TypeId × Value->H} {P:Program} (hl:laidOutB P=true) {W W' :World} (hb:Below W.heap.size W W'):
 ∀(ts:List TypeId) (vs:List Value) (ds:List (DataW H)) (ps:List MemPlace),ts.all (fun t=>P.readableRec t&&decide (t<P.types.size))=true->
  DataW.TrodAll enc P W 0 (fun _=>true) true ts vs ds ps->(∀x∈ps,x.block<W.heap.size)->
  DataW.TrodAll enc P W' 0 (fun b=>decide (b<W.heap.size)) true ts vs ds ps
 | [],[],[],ps,_,h,_=>h
 |t::ts,v::vs,d::ds,ps,hr,h,hlt=>by
  obtain⟨p,q,h1,h2,rfl⟩:=h;simp only[List.all_cons,Bool.and_eq_true,decide_eq_true_eq]at hr;refine⟨p,q,Below.trod hl hr.1.1 hr.1.2 h1 hb (fun x hx=>hlt x (by simp[hx])),?_,rfl⟩;exact Qe9 hl hb ts vs ds q hr.2 h2 (fun x hx=>hlt x (by simp[hx]))
 | [],_::_,_,_,_,h,_=>h.elim
 | [],[],_::_,_,_,h,_=>h.elim
 |_::_,[],_,_,_,h,_=>h.elim
 |_::_,_::_,[],_,_,h,_=>h.elim
theorem Qnx {H:Type} {enc:TypeId × Value->H} {P:Program} {f:Func} {s:ChangeSpec} {W W' :World} {args:Array Value} {ds gs:List (DataW H)} {before:List MemPlace} {tb:TypeId}
 (hl:laidOutB P=true) (hr:f.params.toList.all (fun t=>P.readableRec t&&decide (t<P.types.size))=true)
 (hres:f.resultTypes= #[tb]) (hbool:P.underlying tb=some .bool) (hvars:s.vars= [])
 (hs:s.fn H (ds++gs)={results:= [.lit (.bool true)],args:=ds})
 (hW:DataW.Whole enc P f.params.toList s.vars false W args.toList ds gs before) (hb:Below W.heap.size W W'):
 s.post enc P f false true false false W args (.bool true) W' :=by
 have hW' :=hW;have hlt:=hW.lt;obtain⟨p,q,hA,hV,rfl,_,_⟩:=hW;refine⟨ds,gs,p++q,[],p,[],hW',?_,?_,?_,hb.frame _,fun h=>by cases h⟩
 . rw[hs,hres];exact trodAll_mk1 (shut_bool hbool true)
 . rw[hs];exact Qe9 hl hb _ _ _ _ hr hA (fun x hx=>hlt x (by simp[hx]))
 . rw[hs,hvars];rfl
end Go.Proofs.YtajbldnhjpjghaaGreat.Base
namespace Go.Proofs.YtajbldnhjpjghaaGreat.Items
open ChangeShapes WideShapes ChangeAt RowKit Base
def inB (x lo hi:Int):Bool:=decide (lo<=x/\x<=hi)
theorem Qcf (x lo hi:Int) (w:World):
 Calls Tryz.prog 35 (Qck x lo hi) w fun e w' =>e= .returned (.bool (inB x lo hi))/\w' =w:=by
 by_cases h1:lo<=x<;>by_cases h2:x<=hi<;>
 . go_enter Tryz.func35,Tryz.ntmps35;go_wp2;go_ret;exact⟨by simp[inB,h1,h2],rfl⟩
def Qcm (x:Nat):Bool:=decide ((97<=x/\x<=122)∨(48<=x/\x<=57)∨x=32)
theorem Qd2 (x:Nat):
 ((97:Int)<=x/\(x:Int)<=122/\Qcm x=true)∨((97:Int)<=x/\¬(x:Int)<=122/\(48:Int)<=x/\¬(x:Int)<=57/\((x:Int)==32)=false/\Qcm x=false)∨
 (¬(97:Int)<=x/\(48:Int)<=x/\(x:Int)<=57/\Qcm x=true)∨(¬(97:Int)<=x/\(48:Int)<=x/\¬(x:Int)<=57/\((x:Int)==32)=false/\Qcm x=false)∨
 (¬(97:Int)<=x/\¬(48:Int)<=x/\((x:Int)==32)=true/\Qcm x=true)∨(¬(97:Int)<=x/\¬(48:Int)<=x/\((x:Int)==32)=false/\Qcm x=false):=by
 simp only[beq_eq_false_iff_ne,beq_iff_eq,ne_eq,Qcm,decide_eq_true_eq,decide_eq_false_iff_not];omega
def Qaz (s:ByteArray) (i:Nat):Bool:=(s.data.toList.drop i).all (fun x=>Qcm x.toNat)
def textB (s:ByteArray):Bool:=Qaz s 0&&decide (s.size<=30)
theorem Qdu {s:ByteArray} {i:Nat} (h:s.size<=i):Qaz s i=true:=by
 have:s.data.toList.drop i= []:=List.drop_eq_nil_of_le (by simpa using h);simp[Qaz,this]
theorem Qdk {s:ByteArray} {i:Nat} (h:i<s.size):Qaz s i=(Qcm (s[i]'h).toNat&&Qaz s (i+1)):=by
 have h' :i<s.data.toList.length:=by simpa using h
 unfold Qaz;rw[List.drop_eq_getElem_cons h',List.all_cons];rfl
theorem Qdh (s:ByteArray) (hs:s.size<=9223372036854775807) (w:World):
 Calls Tryz.prog 82 #[.string s] w fun e w' =>e= .returned (.bool (textB s))/\Below w.heap.size w w' :=by
 go_enter Tryz.func82,Tryz.ntmps82;go_wp2
 go_loopw [3] (fun i w' =>∃n:Nat,i= .int .i64 (n:Int)/\n<=s.size/\Qaz s n=Qaz s 0/\Below w.heap.size w w') (fun i _=>s.size - (intOf i).toNat)
 case atStart=>exact⟨0,rfl,by omega,rfl,Below.refl _ _⟩
 case round=>
  obtain⟨n,rfl,hn,hE,hb⟩:=hrel;by_cases hlt:n<s.size
  . have hst:=Qdk hlt;rcases Qd2 s[n].toNat with⟨h1,h2,hp⟩|⟨h1,h2,h3,h4,h5,hp⟩|⟨h1,h2,h3,hp⟩|⟨h1,h2,h3,h4,hp⟩|⟨h1,h2,h3,hp⟩|⟨h1,h2,h3,hp⟩
    . have hE' :Qaz s (n+1)=Qaz s 0:=(by rw[← hE,hst,hp];rfl);clear hE hst hp;go_wp2;exact⟨⟨n+1,by go_num,by omega,hE',hb⟩,by simp[intOf];omega⟩
    . have hE' :textB s=false:=by
       have h0:Qaz s 0=false:=(by rw[← hE,hst,hp];rfl);simp[textB,h0]
      clear hE hst hp;go_wp2;go_ret;exact⟨by first|rfl|(rw[hE'];rfl),hb⟩
    . have hE' :Qaz s (n+1)=Qaz s 0:=(by rw[← hE,hst,hp];rfl);clear hE hst hp;go_wp2;exact⟨⟨n+1,by go_num,by omega,hE',hb⟩,by simp[intOf];omega⟩
    . have hE' :textB s=false:=by
       have h0:Qaz s 0=false:=(by rw[← hE,hst,hp];rfl);simp[textB,h0]
      clear hE hst hp;go_wp2;go_ret;exact⟨by first|rfl|(rw[hE'];rfl),hb⟩
    . have hE' :Qaz s (n+1)=Qaz s 0:=(by rw[← hE,hst,hp];rfl);clear hE hst hp;go_wp2;exact⟨⟨n+1,by go_num,by omega,hE',hb⟩,by simp[intOf];omega⟩
    . have hE' :textB s=false:=by
       have h0:Qaz s 0=false:=(by rw[← hE,hst,hp];rfl);simp[textB,h0]
      clear hE hst hp;go_wp2;go_ret;exact⟨by first|rfl|(rw[hE'];rfl),hb⟩
  . have hE' :Qaz s 0=true:=(by rw[← hE,Qdu (by omega)]);have hE2:textB s=decide (s.size<=30):=(by simp[textB,hE']);by_cases hl:(s.size:Int)<=30
    . have:s.size<=30:=(by omega);go_wp2;go_ret;exact⟨by first|(rw[hE2];simp[this];done)|simp,hb⟩
    . have:¬s.size<=30:=(by omega);go_wp2;go_ret;exact⟨by first|(rw[hE2];simp[this];done)|simp,hb⟩
theorem Qc7 (x lo hi:Int) (w:World):
 Calls Tryz.prog 32 (Qck x lo hi) w fun e w' =>e= .returned (.bool (inB x lo hi))/\w' =w:=by
 by_cases h1:lo<=x<;>by_cases h2:x<=hi<;>
 . go_enter Tryz.func32,Tryz.ntmps32;go_wp2;go_ret;exact⟨by simp[inB,h1,h2],rfl⟩
theorem Qek (x:Nat) (w:World):
 Calls Tryz.prog 96 #[.int .u8 (x:Int)] w fun e w' =>e= .returned (.bool (Qcm x))/\w' =w:=by
 rcases Qd2 x with⟨h1,h2,hp⟩|⟨h1,h2,h3,h4,h5,hp⟩|⟨h1,h2,h3,hp⟩|⟨h1,h2,h3,h4,hp⟩|⟨h1,h2,h3,hp⟩|⟨h1,h2,h3,hp⟩<;>
 . rw[hp];go_enter Tryz.func96,Tryz.ntmps96;go_wp2;go_ret;exact⟨rfl,rfl⟩
theorem Qeo (s:ByteArray) (hs:s.size<=9223372036854775807) (w:World):
 Calls Tryz.prog 81 #[.string s] w fun e w' =>e= .returned (.bool (textB s))/\Below w.heap.size w w' :=by
 by_cases hl:(s.size:Int)>30
 . have e1:textB s=false:=(by simp[textB];omega);rw[e1];go_enter Tryz.func81,Tryz.ntmps81;go_wp2;go_ret;exact⟨rfl,Below.refl _ _⟩
 . have e1:textB s=Qaz s 0:=(by simp[textB];omega);rw[e1];go_enter Tryz.func81,Tryz.ntmps81;go_wp2
   go_loopw [3] (fun i w' =>∃n:Nat,i= .int .i64 (n:Int)/\n<=s.size/\Qaz s n=Qaz s 0/\Below w.heap.size w w') (fun i _=>s.size - (intOf i).toNat)
   case atStart=>exact⟨0,rfl,by omega,rfl,Below.refl _ _⟩
   case round=>
    obtain⟨n,rfl,hn,hE,hb⟩:=hrel;by_cases hlt:n<s.size
    . have hst:=Qdk hlt;cases hp:Qcm s[n].toNat
      . have hE' :Qaz s 0=false:=(by rw[← hE,hst,hp];rfl);clear hE hst;go_wp2_with (go_at_call 96;refine(Qek _ _).mono ?_;rintro e w' ⟨rfl,rfl⟩);go_ret;exact⟨by first|rfl|(rw[hE'];rfl),hb⟩
      . have hE' :Qaz s (n+1)=Qaz s 0:=(by rw[← hE,hst,hp];rfl);clear hE hst;go_wp2_with (go_at_call 96;refine(Qek _ _).mono ?_;rintro e w' ⟨rfl,rfl⟩);exact⟨⟨n+1,by go_num,by omega,hE',hb⟩,by simp[intOf];omega⟩
    . have hE' :Qaz s 0=true:=(by rw[← hE,Qdu (by omega)]);go_wp2;go_ret;exact⟨by first|rfl|(rw[hE'];rfl),hb⟩
end Go.Proofs.YtajbldnhjpjghaaGreat.Items
namespace Go.Proofs.YtajbldnhjpjghaaGreat.Gen
open ChangeShapes WideShapes ChangeAt RowKit Joins Deep Base
theorem via0 {a b c:World} (k:Below b.heap.size b c) (h:Below a.heap.size a b):Below a.heap.size a c:=h.trans (k.mono h.size)
theorem Qad {a b:World} (h:Below a.heap.size a b) (o:Obj):Below a.heap.size a (b.alloc o):=h.alloc h.size o
theorem hidP {p:Prop} (h:p):Hid p:=h
theorem Qav {n:Nat} {a b:World} (h:Below n a b) {B i:Nat} (hn:n<=B) (v:Value):Below n a (b.setCell ⟨B,i,none⟩ v):=h.setCell (p:=⟨B,i,none⟩) hn v
class Cel (α:Type) where
  k:Nat
  cs:α->List Value
  len:∀x,(cs x).length=k
  one:∀x,∀u∈cs x,u.oneCell' =true
section
variable {α:Type} [Cel α]
def flat (l:List α):List Value:=l.flatMap Cel.cs
theorem Qcp (l:List α):(flat l).length=l.length*Cel.k α:=by
 induction l with
 |nil=>simp[flat]
 |cons a l ih=>simp only[flat,List.flatMap_cons,List.length_append,List.length_cons]at ih ⊢;rw[ih,Cel.len,Nat.add_mul,Nat.one_mul,Nat.add_comm]
theorem Qdd (l m:List α):flat (l++m)=flat l++flat m:=by simp[flat]
theorem Qdg (x:α):flat [x]=Cel.cs x:=by simp[flat]
theorem Qcv (x:α) (l:List α):flat (x::l)=Cel.cs x++flat l:=by simp[flat]
theorem Qj8 (l:List α):∀u∈flat l,u.oneCell' =true:=by
 intro u hu;obtain⟨x,_,hx⟩:=List.mem_flatMap.1 hu;exact Cel.one x u hx
theorem Qev (l:List α):∀(i:Nat) (h:i<l.length) (f:Nat),f<Cel.k α->(flat l)[i*Cel.k α+f]? =(Cel.cs l[i])[f]? :=by
 induction l with
 |nil=>intro i h;simp at h
 |cons a l ih=>
  intro i h f hf;rw[Qcv];cases i with
  |zero=>rw[List.getElem?_append_left (by rw[Cel.len];omega)];simp
  |succ i=>
   rw[List.getElem?_append_right (by rw[Cel.len,Nat.add_mul];omega),Cel.len];have e:(i+1) *Cel.k α+f - Cel.k α=i*Cel.k α+f:=(by rw[Nat.add_mul];omega);rw[e,ih i (by simpa using h) f hf];simp
def In (w:World) (b o:Nat) (l:List α):Prop:=w.rangeAt b o (flat l)
theorem In.cell {w:World} {b o:Nat} {l:List α} (h:In w b o l) (i:Nat) (hi:i<l.length) {f:Nat} {v:Value} (hv:(Cel.cs l[i])[f]? =some v):w.cell? ⟨b,o+i*Cel.k α+f,none⟩=some v:=by
 have hf:f<Cel.k α:=by have:=(List.getElem?_eq_some_iff.1 hv).1;rwa [Cel.len]at this
 have:=h (i*Cel.k α+f) v (by rw[Qev l i hi f hf];exact hv);rwa [← Nat.add_assoc]at this
theorem In.below {w w' :World} {b o:Nat} {l:List α} (h:In w b o l) (hb:b<w.heap.size) (hw:Below w.heap.size w w'):In w' b o l:=
 fun j v hv=>(hw.cell (p:=⟨b,o+j,none⟩) hb).trans (h j v hv)
theorem In.set {w:World} {b o:Nat} {l:List α} (h:In w b o l) (p:Addr) (v:Value) (hp:p.block≠b):In (w.setCell p v) b o l:=fun j u hu=>by
 rw[World.cell?_setCell_other (h:=fun e=>hp (by rw[e]))];exact h j u hu
theorem In.tail {w:World} {b o:Nat} {x:α} {l:List α} (h:In w b o (x::l)):In w b (o+Cel.k α) l:=fun j v hv=>by
 have:=h (Cel.k α+j) v (by rw[Qcv,List.getElem?_append_right (by rw[Cel.len];omega),Cel.len];simpa using hv);rwa [← Nat.add_assoc]at this
theorem In.drop {w:World} {b o:Nat}:∀(j:Nat) {l:List α},In w b o l->In w b (o+j*Cel.k α) (l.drop j)
 |0,l,h=>by simpa using h
 |j+1,[],h=>by intro k v hv;simp[flat]at hv
 |j+1,x::l,h=>by
  have:=In.drop j h.tail;rw[List.drop_succ_cons,show o+(j+1) *Cel.k α=o+Cel.k α+j*Cel.k α by rw[Nat.add_mul];omega];exact this
abbrev At (w:World) (A:Option Addr) (l:List α):Prop:=l= []∨∃b o,A=some ⟨b,o,none⟩/\b<w.heap.size/\In w b o l
theorem At.below {w w' :World} {A:Option Addr} {l:List α} (h:At w A l) (hw:Below w.heap.size w w'):At w' A l:=
 h.imp id fun⟨b,o,e,hb,hi⟩=>⟨b,o,e,Nat.lt_of_lt_of_le hb hw.size,hi.below hb hw⟩
theorem Qfd {w w' :World} {b o:Nat} {cs:List Value} (h:w.rangeAt b o cs) (hb:b<w.heap.size) (hw:Below w.heap.size w w'):w'.rangeAt b o cs:=
 fun j v hv=>(hw.cell (p:=⟨b,o+j,none⟩) hb).trans (h j v hv)
theorem Qgm {w w' :World} {b o n:Nat} (h:w.there b o n) (hb:b<w.heap.size) (hw:Below w.heap.size w w'):w'.there b o n:=fun j hj=>by
 rw[hw.cell (p:=⟨b,o+j,none⟩) hb,hw.frozen (p:=⟨b,o+j,none⟩) hb];exact h j hj
theorem Qiy {w:World} {b o n:Nat} (h:w.there b o n) (b' o' :Nat) (v:Value):(w.setCell ⟨b',o',none⟩ v).there b o n:=World.there_setCells h b' o' [v]
theorem Qlg {w:World} {b o k m n f:Nat} (h:w.there b o (m*k)) (hn:n<m) (hf:f<k):(∃v,w.cell? ⟨b,o+n*k+f,none⟩=some v)/\w.frozen? ⟨b,o+n*k+f,none⟩=false:=by
 have hlt:n*k+f<m*k:=by have:(n+1) *k<=m*k:=Nat.mul_le_mul_right k hn;rw[Nat.add_mul]at this;omega
 have:=h (n*k+f) hlt;rw[← Nat.add_assoc]at this;exact⟨Option.isSome_iff_exists.1 this.1,this.2⟩
def Fresh (B:Nat) (w:World) (v:Value) (l:List α):Prop:=
  ∃(A:Option Addr) (c:Nat),v= .slice A l.length c/\l.length<=c/\(l= []∨∃b o,A=some ⟨b,o,none⟩/\B<=b/\b<w.heap.size/\In w b o l/\w.there b o (l.length*Cel.k α))
theorem Fresh.at {B:Nat} {w:World} {A:Option Addr} {n c:Nat} {l:List α} (h:Fresh B w (.slice A n c) l):At w A l:=by
 obtain⟨A',c',e,_,h⟩:=h;cases e;exact h.imp id fun⟨b,o,e,_,hb,hi,_⟩=>⟨b,o,e,hb,hi⟩
end
structure Only (b:Nat) (w w' :World):Prop where
  os:w'.os=w.os
  tape:w'.tape=w.tape
  output:w'.output=w.output
  size:w.heap.size<=w'.heap.size
  block:∀k,k<w.heap.size->k≠b->w'.heap[k]? =w.heap[k]?
theorem Only.refl (b:Nat) (w:World):Only b w w:=⟨rfl,rfl,rfl,Nat.le_refl _,fun _ _ _=>rfl⟩
theorem Only.below {b:Nat} {w w1 w2:World} (h:Only b w w1) (k:Below w1.heap.size w1 w2):Only b w w2:=
 ⟨k.os.trans h.os,k.tape.trans h.tape,k.output.trans h.output,Nat.le_trans h.size k.size,fun i hi hb=>(k.block i (Nat.lt_of_lt_of_le hi h.size)).trans (h.block i hi hb)⟩
theorem Only.set {b:Nat} {w w1:World} (h:Only b w w1) (o:Nat) (v:Value):Only b w (w1.setCell ⟨b,o,none⟩ v):=
 ⟨h.os,h.tape,h.output,by simpa using h.size,fun i hi hb=>(Below.heap_setCell w1 ⟨b,o,none⟩ v i hb).trans (h.block i hi hb)⟩
theorem Only.toBelow {b B:Nat} {w w1:World} (h:Only b w w1) (hB:B<=b) (hw:B<=w.heap.size):Below B w w1:=
 ⟨h.os,h.tape,h.output,h.size,fun i hi=>h.block i (by omega) (by omega)⟩
theorem Only.cell {b:Nat} {w w1:World} (h:Only b w w1) {p:Addr} (hp:p.block<w.heap.size) (hb:p.block≠b):w1.cell? p=w.cell? p:=World.cell?_of_block (h.block p.block hp hb)
theorem Only.frozen {b:Nat} {w w1:World} (h:Only b w w1) {p:Addr} (hp:p.block<w.heap.size) (hb:p.block≠b):w1.frozen? p=w.frozen? p:=World.frozen?_of_block (h.block p.block hp hb)
theorem In.only {α:Type} [Cel α] {b c o:Nat} {w w1:World} {l:List α} (h:In w c o l) (k:Only b w w1) (hc:c<w.heap.size) (hb:c≠b):In w1 c o l:=
 fun j v hv=>(k.cell (p:=⟨c,o+j,none⟩) hc hb).trans (h j v hv)
theorem Qfk (w:World) (o:Obj):(w.alloc o).heap[w.heap.size]? =some o:=by
 show(w.heap.push o)[w.heap.size]? =some o;simp
def Blk (W:World) (B:Nat) (t:TypeId) (vs:Array Value):Prop:=W.heap[B]? =some (.cells vs t (0,0))
theorem Blk.lt {W:World} {B:Nat} {t:TypeId} {vs:Array Value} (h:Blk W B t vs):B<W.heap.size:=(Array.getElem?_eq_some_iff.1 h).1
theorem Blk.cell {W:World} {B:Nat} {t:TypeId} {vs:Array Value} (h:Blk W B t vs) {i:Nat} {v:Value} (hv:vs[i]? =some v):W.cell? ⟨B,i,none⟩=some v:=by simp[World.cell?,show W.heap[B]? =_ from h,hv]
theorem Blk.new (W:World) (t:TypeId) (vs:Array Value):Blk (W.alloc (.cells vs t)) W.heap.size t vs:=Qfk W _
theorem Blk.kept {W W' :World} {row:Option Nat} {B:Nat} {t:TypeId} {vs:Array Value} (h:Blk W B t vs) (hg:W.grownBy W' row) (hne:some B≠row):Blk W' B t vs:=(hg.block B h.lt hne).trans h
theorem Blk.alloc {W:World} {B:Nat} {t:TypeId} {vs:Array Value} (h:Blk W B t vs) (o:Obj):Blk (W.alloc o) B t vs:=h.kept (World.grownBy_alloc W o none) (by simp)
theorem Blk.other {W:World} {B B' :Nat} {t:TypeId} {vs:Array Value} (h:Blk W B t vs) (hne:B≠B') (i:Nat) (u:Value):Blk (W.setCell ⟨B',i,none⟩ u) B t vs:=
 (Below.heap_setCell W ⟨B',i,none⟩ u B hne).trans h
theorem Blk.below {W W' :World} {n:Nat} {B:Nat} {t:TypeId} {vs:Array Value} (h:Blk W B t vs) (hb:Below n W W') (hn:B<n):Blk W' B t vs:=(hb.block B hn).trans h
theorem Blk.only {W W' :World} {b B:Nat} {t:TypeId} {vs:Array Value} (h:Blk W B t vs) (k:Only b W W') (hne:B≠b):Blk W' B t vs:=(k.block B h.lt hne).trans h
theorem Blk.thaw {W:World} {B:Nat} {t:TypeId} {vs:Array Value} (h:Blk W B t vs) (i:Nat):W.frozen? ⟨B,i,none⟩=false:=by simp[World.frozen?,show W.heap[B]? =_ from h]
theorem Blk.setAt {W:World} {B:Nat} {t:TypeId} {vs:Array Value} (h:Blk W B t vs) (i:Nat) (v:Value):Blk (W.setCell ⟨B,i,none⟩ v) B t (vs.setIfInBounds i v):=by
 obtain⟨hlt,hk⟩:=Array.getElem?_eq_some_iff.1 h;show(W.heap.modify B _)[B]? =_;rw[Array.getElem?_eq_getElem (by rw[Array.size_modify];exact hlt),Array.getElem_modify_self,hk];rfl
theorem Blk.drew {W:World} {B:Nat} {t:TypeId} {vs:Array Value} (h:Blk W B t vs):Blk W.drew B t vs:=h
theorem Blk.row1 {W:World} {B:Nat} {t:TypeId} {a:Value} (h:Blk W B t #[a]):W.cell? ⟨B,0,none⟩=some a:=h.cell (by rfl)
theorem Blk.row2 {W:World} {B:Nat} {t:TypeId} {a b:Value} (h:Blk W B t #[a,b]):W.cell? ⟨B,0,none⟩=some a/\W.cell? ⟨B,1,none⟩=some b:=⟨h.cell (by rfl),h.cell (by rfl)⟩
theorem Blk.row3 {W:World} {B:Nat} {t:TypeId} {a b c:Value} (h:Blk W B t #[a,b,c]):W.cell? ⟨B,0,none⟩=some a/\W.cell? ⟨B,1,none⟩=some b/\W.cell? ⟨B,2,none⟩=some c:=⟨h.cell (by rfl),h.cell (by rfl),h.cell (by rfl)⟩
theorem Blk.row4 {W:World} {B:Nat} {t:TypeId} {a b c d:Value} (h:Blk W B t #[a,b,c,d]):W.cell? ⟨B,0,none⟩=some a/\W.cell? ⟨B,1,none⟩=some b/\W.cell? ⟨B,2,none⟩=some c/\W.cell? ⟨B,3,none⟩=some d:=⟨h.cell (by rfl),h.cell (by rfl),h.cell (by rfl),h.cell (by rfl)⟩
theorem Blk.row5 {W:World} {B:Nat} {t:TypeId} {a b c d e:Value} (h:Blk W B t #[a,b,c,d,e]):W.cell? ⟨B,0,none⟩=some a/\W.cell? ⟨B,1,none⟩=some b/\W.cell? ⟨B,2,none⟩=some c/\W.cell? ⟨B,3,none⟩=some d/\W.cell? ⟨B,4,none⟩=some e:=⟨h.cell (by rfl),h.cell (by rfl),h.cell (by rfl),h.cell (by rfl),h.cell (by rfl)⟩
theorem Qas {B:Nat} {W W' :World} {v:Value} {t:TypeId} {k n:Nat} {xs:List Value} (h:W.ownsRow B t k v n xs) (hb:Below W.heap.size W W'):W'.ownsRow B t k v n xs:=by
 refine⟨h.1,?_⟩;rcases h.2 with⟨rfl,rfl⟩|⟨g,c,cur,rfl,hB,hg,hc,hm,hsz,ht⟩
 . exact .inl ⟨rfl,rfl⟩
 . exact .inr ⟨g,c,cur,rfl,hB,Blk.below (show Blk W g t cur from hg) hb (Blk.lt (show Blk W g t cur from hg)),hc,hm,hsz,ht⟩
theorem Qau {B:Nat} {W:World} {v:Value} {t:TypeId} {k n:Nat} {xs:List Value} (h:W.ownsRow B t k v n xs) (o:Obj):(W.alloc o).ownsRow B t k v n xs:=Qas h (Qad (Below.refl _ _) _)
theorem Qat {B C:Nat} {W:World} {v:Value} {t:TypeId} {k n:Nat} {xs:List Value} (h:W.ownsRow B t k v n xs) (hC:C<=B):W.ownsRow C t k v n xs:=by
 refine⟨h.1,?_⟩;rcases h.2 with⟨rfl,rfl⟩|⟨g,c,cur,rfl,hB,hg,hc,hm,hsz,ht⟩
 . exact .inl ⟨rfl,rfl⟩
 . exact .inr ⟨g,c,cur,rfl,by omega,hg,hc,hm,hsz,ht⟩
theorem Qcn {B:Nat} {W:World} {v:Value} {t:TypeId} {k n:Nat} {xs:List Value} (h:W.ownsRow B t k v n xs) {g:Nat} (hg:v.ownBlock=some g):g<W.heap.size:=by
 rcases h.2 with⟨rfl,rfl⟩|⟨g',c,cur,rfl,hB,hb,_⟩
 . cases hg
 . have:g' =g:=(by simpa [Value.ownBlock]using hg);subst this;exact Blk.lt (show Blk W g' t cur from hb)
theorem Qao {B:Nat} {W:World} {v:Value} {t:TypeId} {k n:Nat} {xs:List Value} (h:W.ownsRow B t k v n xs):∃a c,v= .slice a n c/\n<=c:=by
 rcases h.2 with⟨rfl,rfl⟩|⟨g,c,cur,rfl,hB,hg,hc,_⟩
 . exact⟨none,0,rfl,Nat.le_refl _⟩
 . exact⟨_,_,rfl,hc⟩
theorem Qa9 {B C:Nat} {W:World} {v:Value} {t:TypeId} {k n:Nat} {xs:List Value} (h:W.ownsRow B t k v n xs) (hC:C<B):some C≠v.ownBlock:=by
 rcases h.2 with⟨rfl,rfl⟩|⟨g,c,cur,rfl,hB,_⟩
 . simp[Value.ownBlock]
 . simp[Value.ownBlock];omega
theorem Qam {B C i:Nat} {W:World} {v u:Value} {t:TypeId} {k n:Nat} {xs:List Value} (h:W.ownsRow B t k v n xs) (hne:some C≠v.ownBlock):(W.setCell ⟨C,i,none⟩ u).ownsRow B t k v n xs:=by
 refine⟨h.1,?_⟩;rcases h.2 with⟨rfl,rfl⟩|⟨g,c,cur,rfl,hB,hg,hc,hm,hsz,ht⟩
 . exact .inl ⟨rfl,rfl⟩
 . have hCg:g≠C:=fun e=>hne (by simp[Value.ownBlock,e])
   exact .inr ⟨g,c,cur,rfl,hB,Blk.other (show Blk W g t cur from hg) hCg i u,hc,hm,hsz,ht⟩
section
variable {α:Type} [Cel α]
theorem Qge {B:Nat} {W:World} {g cap:Nat} {cur:Array Value} {t:TypeId} {l:List α} (h:Blk W g t cur) (hB:B<=g) (hc:l.length<=cap) (hsz:cur.size=cap*Cel.k α) (ht:cur.toList.take (l.length*Cel.k α)=flat l):
 Fresh B W (.slice (some ⟨g,0,none⟩) l.length cap) l:=by
 refine⟨_,_,rfl,hc,.inr ⟨g,0,rfl,hB,h.lt,?_,?_⟩⟩
 . intro j v hv;rw[← ht,List.getElem?_take]at hv;split at hv
   . exact(h.cell (i:=0+j) (by simpa using hv))
   . cases hv
 . intro j hj;refine⟨?_,h.thaw _⟩;have hlt:0+j<cur.size:=(by rw[hsz];have:=Nat.mul_le_mul_right (Cel.k α) hc;omega);rw[h.cell (Array.getElem?_eq_getElem hlt)];rfl
theorem Qay {B:Nat} {W:World} {v:Value} {t:TypeId} {l:List α} (h:W.ownsRow B t (Cel.k α) v l.length (flat l)):Fresh B W v l:=by
 rcases h.2 with⟨rfl,h0⟩|⟨g,c,cur,rfl,hB,hg,hc,_,hsz,ht⟩
 . have:l= []:=List.length_eq_zero_iff.1 h0;subst this;exact⟨none,0,rfl,Nat.le_refl _,.inl rfl⟩
 . exact Qge (t:=t) hg hB hc hsz ht
theorem Qcy {B n:Nat} {W:World} {v:Value} {t:TypeId} {l:List α} (hn:n=l.length) (h:W.ownsRow B t (Cel.k α) v n (flat l)):Fresh B W v l:=by
 subst hn;exact Qay h
theorem Qhy {B n:Nat} {W:World} {v:Value} {t:TypeId} {k:Nat} {l:List α} (hn:n=l.length) (h:W.ownsRow B t k v n (flat l)):W.ownsRow B t k v l.length (flat l):=by
 subst hn;exact h
theorem Qc2 {B:Nat} {W:World} {a:Option Addr} {c n:Nat} {t:TypeId} {l:List α} (hn:n=l.length) (h:W.ownsRow B t (Cel.k α) (.slice a n c) n (flat l)):At W a l:=by
 subst hn;exact(Qay h).at
theorem Qf8 {P:Program} (k:Nat) (ts ti:TypeId) (hu:P.underlying ts=some (.slice ti)) (A:Option Addr) (cap:Nat) (w:World):Src P k ts (.slice A 0 cap) 0 [] w:=
 ⟨.inl ⟨_,hu⟩,fun w' =>by cases A<;>rfl,by cases A<;>simp[Builtin.firstCells,loadCells,loadCellsFrom],by cases A<;>simp[Builtin.firstCells,loadCells,loadCellsFrom],by simp,by simp⟩
theorem Qbj {P:Program} {ts ti:TypeId} {z:Value} {bytes:Nat} (hu:P.underlying ts=some (.slice ti)) (hinfo:(P.info? ti).map (fun i=>(i.zero,i.size,i.bytes))=some (some z,Cel.k α,bytes)) (hz:z.cells.size=Cel.k α) (hk:0<Cel.k α) (hby:bytes<=1000)
 (B:Nat) (v:Value) (l m:List α) (A:Option Addr) (cap:Nat) (w:World) (hB:B<=w.heap.size) (hv:w.ownsRow B ti (Cel.k α) v l.length (flat l)) (hA:At w A m) (hlen:l.length+m.length<=3000000):
 ∃v' w',(Builtin.append_ #[ts,ts] ts #[v,.slice A m.length cap]).run P w= .ok v' w' /\w'.ownsRow B ti (Cel.k α) v' (l.length+m.length) (flat (l++m))/\w.grownBy w' v.ownBlock/\(v'.ownBlock=v.ownBlock∨v'.ownBlock=some w.heap.size):=by
 obtain⟨i0,hi,hz0,hz1,hz2⟩:=info_parts hinfo;by_cases h0:m= []
 . subst h0;have e0:∃a n c,v= .slice a n c/\n<=c:=by
    rcases hv.2 with⟨rfl,_⟩|⟨g,c,cur,rfl,_,_,h,_⟩
    . exact⟨_,_,_,rfl,Nat.le_refl _⟩
    . exact⟨_,_,_,rfl,h⟩
   obtain⟨a,n,c,rfl,hle⟩:=e0;exact⟨_,_,run_append_nothing w ts ts ts ti i0 hu hi a n c hle _ (hz1▸Qf8 _ ts ti hu A cap w),by simpa using hv,World.grownBy.refl _ _,.inl rfl⟩
 . obtain⟨b,o,rfl,hb,hin⟩:=hA.resolve_left h0;have hm:0<m.length:=List.length_pos_iff.2 h0;have hsum:(l.length+m.length) *bytes<=140737488355328:=Nat.le_trans (Nat.mul_le_mul hlen hby) (by omega);obtain⟨g,c,w',hr,h1,h2,h3,h4⟩:=run_append_lies (P:=P) w ts ts B ti i0 z (Cel.k α) bytes hu hi hz0 hz1 hz2 hz hk v l.length (flat l) hv ⟨b,o,none⟩ m.length cap (flat m) (Qcp m)
    (fun j u hu=>by rw[Addr.add_mid];exact hin j u hu) (Qj8 m) hm (by simp[maxLen];omega) hsum hB _ rfl
   exact⟨_,_,hr,by rw[Qdd];exact h1,h2,h3.imp (fun e=>by rw[e];rfl) (fun e=>by rw[← e];rfl)⟩
theorem Qga {P:Program} {ts ti:TypeId} {z:Value} {k bytes:Nat} (hu:P.underlying ts=some (.slice ti)) (hinfo:(P.info? ti).map (fun i=>(i.zero,i.size,i.bytes))=some (some z,k,bytes)) (hby:bytes<=1000) (n:Nat) (hn:n<=1048576) (w:World):
 (Instr.makeSlice ts (.int .i64 (n:Int)) (.int .i64 (n:Int))).run P w= .ok (.slice (some ⟨w.heap.size,0,none⟩) n n) (w.alloc (.cells (madeCells z.cells (n*k)) ti)):=by
 obtain⟨i0,hi,hz0,hz1,hz2⟩:=info_parts hinfo;have hsum:bytes*n<=281474976710656:=Nat.le_trans (Nat.mul_le_mul hby hn) (by omega);have r:=run_make (P:=P) w ts ti i0 z hu hi hz0 .i64 .i64 n n (by omega) (Int.le_refl _) (by rw[hz2,← Int.natCast_mul];omega) (by omega);rw[r,hz1];simp
theorem Qfr (w:World) (cs:Array Value) (n k:Nat) (t:TypeId):(w.alloc (.cells (madeCells cs (n*k)) t)).there w.heap.size 0 (n*k):=fun j hj=>by
 have:j<(madeCells cs (n*k)).size:=by rw[size_madeCells];exact hj
 simp[this]
end
theorem Qai {P:Program} {w w' :World} {o:Oper} {a:Act} {K:Act->World->Prop} {Q:Exit->Act->World->Prop} (s x:Operand) (t:TypeId)
 (ho:o.op= .call {callee:= .builtin .append,args:= #[s,x],argTypes:= #[t,t]}) (v xv r:Value) (hs:a.eval s=v) (hx:a.eval x=xv)
 (hr:(Builtin.append_ #[t,t] o.type #[v,xv]).run P w= .ok r w') (h:K (a.put o.dst r) w'):o.wp P a w K Q:=by
 unfold Oper.wp execOp;simp only[ho,resolve,invoke,builtin,Sem.run_bind,Sem.run_pure,Result.andThen_ok,List.map_toArray,List.map_cons,List.map_nil,hs,hx,hr];exact h
theorem Qac {P:Program} {w w' :World} {ops:Array Oper} {rest:List Oper} {o:Oper} {a:Act} {Q:Exit->Act->World->Prop} (hgd:o.guard=none) (s x:Operand) (t:TypeId)
 (ho:o.op= .call {callee:= .builtin .append,args:= #[s,x],argTypes:= #[t,t]}) (v xv r:Value) (hs:a.eval s=v) (hx:a.eval x=xv)
 (hr:(Builtin.append_ #[t,t] o.type #[v,xv]).run P w= .ok r w') (h:wpList P ops Q rest (a.put o.dst r) w'):wpList P ops Q (o::rest) a w:=
 wpList_plain hgd fun _ hK=>Qai s x t ho v xv r hs hx hr (hK _ _ h)
theorem Qez {P:Program} {w w' :World} {ops:Array Oper} {o:Oper} {a:Act} {K:Act->World->Prop} {Q:Exit->Act->World->Prop} {E:Prop} (hgd:o.guard=none) (s x:Operand) (t:TypeId)
 (ho:o.op= .call {callee:= .builtin .append,args:= #[s,x],argTypes:= #[t,t]}) (v xv r:Value) (hs:a.eval s=v) (hx:a.eval x=xv)
 (hr:(Builtin.append_ #[t,t] o.type #[v,xv]).run P w= .ok r w') (h:K (a.put o.dst r) w'):if Region.wanted o (yielded ops a.tmps)=true then Oper.wp P o a w K Q else E:=by
 have hw:Region.wanted o (yielded ops a.tmps)=true:=by simp[Region.wanted,hgd]
 rw[if_pos hw];exact Qai s x t ho v xv r hs hx hr h
def I64 (x:Int):Prop:= -9223372036854775808<=x/\x<=9223372036854775807
theorem Qrf {x:Int} (hx:(Lit.int .i64 x).wf=true):I64 x:=by simpa [I64,Lit.wf,IntKind.min,IntKind.max,IntKind.signed,IntKind.bits]using hx
theorem Que {α:Type} [Cel α] (hk:0<Cel.k α) {W:World} {a:Addr} {len:Nat} {X:Nat->α} {R:α->Prop}
 (hX:∀i,i<len->R (X i)/\(a.add (i*Cel.k α)).spot=none/\(a.add (i*Cel.k α)).block<W.heap.size/\∀j v,(Cel.cs (X i))[j]? =some v->W.cell? ⟨(a.add (i*Cel.k α)).block,(a.add (i*Cel.k α)).off+j,none⟩=some v):
 ∃l:List α,l.length=len/\(∀x∈l,R x)/\At W (some a) l:=by
 refine⟨(List.range len).map X,by simp,?_,?_⟩
 . intro x hxm;obtain⟨i,hi,rfl⟩:=List.mem_map.1 hxm;exact(hX i (by simpa using hi)).1
 . by_cases h0:len=0
   . left;simp[h0]
   . right
     obtain⟨_,hs,hb,_⟩:=hX 0 (by omega);rw[Nat.zero_mul,show a.add 0=a from rfl]at hs hb;obtain⟨b,o,s⟩:=a;simp only at hs hb;subst hs;refine⟨b,o,rfl,hb,?_⟩;intro j v hv;have hj:j<((List.range len).map X).length*Cel.k α:=by
      rw[← Qcp];exact(List.getElem?_eq_some_iff.1 hv).1
     simp only[List.length_map,List.length_range]at hj;have hd:j=j / Cel.k α*Cel.k α+j % Cel.k α:=(by rw[Nat.mul_comm];exact(Nat.div_add_mod j _).symm);have hq:j / Cel.k α<len:=(Nat.div_lt_iff_lt_mul hk).2 hj;have hr:j % Cel.k α<Cel.k α:=Nat.mod_lt _ hk;rw[hd,Qev _ (j / Cel.k α) (by simpa using hq) (j % Cel.k α) hr]at hv;obtain⟨_,_,_,hc⟩:=hX (j / Cel.k α) hq;have:=hc (j % Cel.k α) v (by simpa using hv);rw[Addr.add_mid]at this;rw[hd,← Nat.add_assoc];exact this
theorem four (p q r s:Bool):p=false∨(p=true/\q=false)∨(p=true/\q=true/\r=false)∨(p=true/\q=true/\r=true/\s=false)∨(p=true/\q=true/\r=true/\s=true):=by
 cases p<;>cases q<;>cases r<;>cases s<;>simp
end Go.Proofs.YtajbldnhjpjghaaGreat.Gen
