/-
  The program's lengthOf, endOfLength and rowOf.inUse at this seat.
-/
import Derived.Test.YtpippjjhelgnlaaGreatKNw2
set_option linter.unusedVariables false
set_option linter.unusedSimpArgs false
set_option maxRecDepth 100000
set_option maxHeartbeats 8000000
namespace Go.Proofs.YtpippjjhelgnlaaGreat.Items
open ChangeShapes WideShapes ChangeAt RowKit Shelf Base
def dv (off len:Int):Int:=wrap64 (Int.tdiv off len)
end Go.Proofs.YtpippjjhelgnlaaGreat.Items
namespace Go.Proofs.YtpippjjhelgnlaaGreat.Items
open ChangeShapes WideShapes ChangeAt RowKit Shelf Base
def lenAt (W:World) (B:Nat):Nat:=match W.cell? ⟨B,2,none⟩with|some (.slice _ n _)=>n|_=>0
theorem lenAt_is {W:World} {B n c:Nat} {a:Option Addr} (h:W.cell? ⟨B,2,none⟩=some (.slice a n c)):lenAt W B=n:=by simp[lenAt,h]
theorem In.tail {w:World} {b o:Nat} {x:It} {l:List It} (h:In w b o (x::l)):In w b (o+5) l:=fun j v hv=>by
 have:=h (5+j) v (by rw[Qcq,List.getElem?_append_right (by rw[It.cs_length];omega),It.cs_length];simpa using hv);rwa [← Nat.add_assoc]at this
end Go.Proofs.YtpippjjhelgnlaaGreat.Items
namespace Go.Proofs.YtpippjjhelgnlaaGreat.Items
open ChangeShapes WideShapes ChangeAt RowKit Shelf Base
def Qfu (off length:Int):Int:=wrap64 (wrap64 (dv off length+1) *length)
theorem endOf_is {off length:Int} (h0:0<=off) (h1:off<=100000) (h2:1<=length) (h3:length<=9223372036854775807):Qfu off length=(off / length+1) *length/\off<(off / length+1) *length:=by
 have e1:Int.tdiv off length=off / length:=Int.tdiv_eq_ediv_of_nonneg h0;have q0:0<=off / length:=Int.ediv_nonneg h0 (by omega);have q1:off / length<=off:=Int.ediv_le_self _ h0;have q2:off / length*length<=off:=Int.ediv_mul_le _ (by omega);have lt:off<(off / length+1) *length:=Int.lt_ediv_add_one_mul_self off (by omega);have ex:(off / length+1) *length=off / length*length+length:=by rw[Int.add_mul,Int.one_mul]
 have up:(off / length+1) *length<=9223372036854775807:=by
  by_cases hz:off / length=0
  . rw[hz];omega
  . have:length<=off:=by
     have hq:1<=off / length:=(by omega);have:1*length<=off / length*length:=Int.mul_le_mul_of_nonneg_right hq (by omega);omega
    omega
 refine⟨?_,lt⟩;have w1:dv off length=off / length:=by unfold dv;rw[e1];unfold wrap64;omega
 have w2:wrap64 (off / length+1)=off / length+1:=by unfold wrap64;omega
 unfold Qfu;rw[w1,w2];have:0<=(off / length+1) *length:=by omega
 generalize (off / length+1) *length=z at*;unfold wrap64;omega
def Qkr (l:List It):Prop:=∀x∈l,0<=x.off/\x.off<=100000
def trimF (next length keep:Int):Nat->Int->List It->Int × List It
  |0,st,m=>(st,m)
  |n+1,st,[]=>(st,[])
  |n+1,st,x::t=>if keep<((x::t).length:Int)/\¬dv x.off length=dv (IntKind.i64.wrap (next - 1)) length then trimF next length keep n (Qfu x.off length) ((x::t).dropWhile fun y=>decide (y.off<Qfu x.off length))else(st,x::t)
theorem hidP {p:Prop} (h:p):Hid p:=h
theorem drop_le (p:It->Bool) (l:List It):(l.dropWhile p).length<=l.length:=(List.dropWhile_sublist p).length_le
end Go.Proofs.YtpippjjhelgnlaaGreat.Items
namespace Go.Proofs.YtpippjjhelgnlaaGreat.Items
open ChangeShapes WideShapes ChangeAt RowKit Shelf Base
def up (l:List It):Prop:=l.Pairwise fun x y=>x.off<y.off
theorem chain_up (start nb:Int):∀(l:List It) (p:Option Int),Qfw start nb p l=true->up l/\(∀x∈l,start<=x.off/\x.off<=nb)/\(∀o,p=some o->∀x∈l,o<x.off)
 | [],p,h=>⟨List.Pairwise.nil,by simp,by simp⟩
 |y::l,p,h=>by
  have hs:Qfw start nb (some y.off) l=true/\(start<=y.off/\y.off<=nb)/\(∀o,p=some o->o<y.off):=by
   cases p with
   |none=>simp only[Qfw,Bool.and_eq_true,inB,decide_eq_true_eq]at h;exact⟨h.2,h.1.1.2,by simp⟩
   |some o=>simp only[Qfw,Bool.and_eq_true,inB,decide_eq_true_eq]at h;exact⟨h.2,h.1.1.2,fun o' e=>by cases e;exact h.1.2⟩
  obtain⟨i1,i2,i3⟩:=chain_up start nb l (some y.off) hs.1;refine⟨List.Pairwise.cons (fun x hx=>i3 _ rfl x hx) i1,?_,?_⟩
  . intro x hx;rcases List.mem_cons.1 hx with rfl|hx
    . exact hs.2.1
    . exact i2 x hx
  . intro o ho x hx;rcases List.mem_cons.1 hx with rfl|hx
    . exact hs.2.2 o ho
    . have:=hs.2.2 o ho;have:=i3 _ rfl x hx;omega
theorem rowB_up {start next:Int} {l:List It} (h:rowB start next l=true):up l/\Qkr l/\l.length<=80:=by
 simp only[rowB,Bool.and_eq_true,inB,decide_eq_true_eq]at h;obtain⟨i1,i2,_⟩:=chain_up start (next - 1) l none h.1.1.1;exact⟨i1,fun x hx=>by have:=i2 x hx;omega,h.2⟩
theorem Qez {p q:It->Bool}:∀{l:List It},(∀y∈l,p y=q y)->l.dropWhile p=l.dropWhile q
 | [],_=>rfl
 |y::l,h=>by
  have hy:=h y (by simp);have:=Qez (l:=l) (fun z hz=>h z (by simp[hz]));simp only[List.dropWhile_cons,hy,this]
theorem dv_is {off length:Int} (h0:0<=off) (h1:off<=100000) (h2:1<=length):dv off length=off / length:=by
 have e1:Int.tdiv off length=off / length:=Int.tdiv_eq_ediv_of_nonneg h0;have q0:0<=off / length:=Int.ediv_nonneg h0 (by omega);have q1:off / length<=off:=Int.ediv_le_self _ h0;unfold dv;rw[e1];unfold wrap64;omega
theorem drop_same {x:It} {t:List It} {length:Int} (hu:up (x::t)) (ho:Qkr (x::t)) (h1:1<=length) (h2:length<=9223372036854775807):
 (x::t).dropWhile (fun y=>decide (y.off<Qfu x.off length))=(x::t).dropWhile (fun y=>decide (dv y.off length=dv x.off length)):=by
 apply Qez;intro y hy;have hx:=ho x (by simp);have hy' :=ho y hy;have hle:x.off<=y.off:=by
  rcases List.mem_cons.1 hy with rfl|hy
  . exact Int.le_refl _
  . exact Int.le_of_lt ((List.pairwise_cons.1 hu).1 y hy)
 obtain⟨he,_⟩:=endOf_is hx.1 hx.2 h1 h2;rw[he,dv_is hx.1 hx.2 h1,dv_is hy'.1 hy'.2 h1];have hm:x.off / length<=y.off / length:=Int.ediv_le_ediv (by omega) hle;have hi:y.off<(x.off / length+1) *length↔y.off / length<x.off / length+1:=(Int.ediv_lt_iff_lt_mul (by omega)).symm;rw[decide_eq_decide,hi];omega
theorem up_drop {l:List It} (h:up l) (p:It->Bool):up (l.dropWhile p):=List.Pairwise.sublist (List.dropWhile_sublist p) h
theorem off_drop {l:List It} (h:Qkr l) (p:It->Bool):Qkr (l.dropWhile p):=fun y hy=>h y ((List.dropWhile_sublist p).subset hy)
end Go.Proofs.YtpippjjhelgnlaaGreat.Items
namespace Go.Proofs.YtpippjjhelgnlaaGreat.Items
open ChangeShapes WideShapes ChangeAt RowKit Shelf Base
theorem wrapq (x:Int):IntKind.i64.wrap x=wrap64 x:=by rw[IntKind.wrap_i64];unfold wrap64;rfl
def Qec (key:List UInt8) (l:List It):Bool:=l.any fun y=>y.key.toList==key
def Qee (nb length:Int) (x:It) (t:List It):Bool:=x.key.toList== []|| !Qec x.key.toList t||(dv x.off length==dv nb length)
def packF (nb length:Int):List It->List It
  | []=> []
  |x::t=>if Qee nb length x t then x::packF nb length t else packF nb length t
theorem Qgq {nb length:Int} {l:List It} {n:Nat} (h:n<l.length) (hs:Qee nb length l[n] (l.drop (n+1))=true):packF nb length (l.drop n)=l[n]::packF nb length (l.drop (n+1)):=by
 rw[List.drop_eq_getElem_cons h,packF,if_pos hs]
theorem packF_no {nb length:Int} {l:List It} {n:Nat} (h:n<l.length) (hs:Qee nb length l[n] (l.drop (n+1))=false):packF nb length (l.drop n)=packF nb length (l.drop (n+1)):=by
 rw[List.drop_eq_getElem_cons h,packF,if_neg (by simp[hs])]
theorem Qgr (nb length:Int):∀l:List It,(packF nb length l).Sublist l
 | []=>List.Sublist.slnil
 |x::t=>by
  unfold packF;split
  . exact(Qgr nb length t).cons_cons x
  . exact(Qgr nb length t).cons x
def packB (start next length:Int) (l:List It):Bool:=decide (1<=length)&&rowB start next l
def packL (start next length:Int) (l:List It):List It:=if packB start next length l then packF (IntKind.i64.wrap (next - 1)) length l else l
theorem Qk3 {key:List UInt8} {l:List It} {k:Nat} (h:k<l.length):Qec key (l.drop k)=(l[k].key.toList==key||Qec key (l.drop (k+1))):=by
 unfold Qec;rw[List.drop_eq_getElem_cons h,List.any_cons]
end Go.Proofs.YtpippjjhelgnlaaGreat.Items
namespace Go.Proofs.YtpippjjhelgnlaaGreat.Items
open ChangeShapes WideShapes ChangeAt RowKit Shelf Base
theorem Qka (start nb:Int):∀(l:List It) (p:Option Int),Qfw start nb p l=true↔(∀x∈l,itemB x=true/\start<=x.off/\x.off<=nb)/\up l/\(∀o,p=some o->∀x∈l,o<x.off)
 | [],p=>by simp[Qfw,up]
 |y::l,p=>by
  have ih:=Qka start nb l (some y.off);have hp:Qfw start nb p (y::l)=true↔(itemB y=true/\(start<=y.off/\y.off<=nb))/\(∀o,p=some o->o<y.off)/\Qfw start nb (some y.off) l=true:=by
   cases p with
   |none=>simp only[Qfw,Bool.and_eq_true,inB,decide_eq_true_eq];simp
   |some o=>simp only[Qfw,Bool.and_eq_true,inB,decide_eq_true_eq];simp[and_assoc]
  rw[hp,ih]
  constructor
  . rintro ⟨⟨h1,h2⟩,h3,h4,h5,h6⟩;refine⟨?_,List.Pairwise.cons (fun x hx=>h6 _ rfl x hx) h5,?_⟩
    . intro x hx;rcases List.mem_cons.1 hx with rfl|hx
      . exact⟨h1,h2⟩
      . exact h4 x hx
    . intro o ho x hx;rcases List.mem_cons.1 hx with rfl|hx
      . exact h3 o ho
      . have:=h3 o ho;have:=h6 _ rfl x hx;omega
  . rintro ⟨h1,h2,h3⟩;have hu:=List.pairwise_cons.1 h2;exact⟨⟨(h1 y (by simp)).1,(h1 y (by simp)).2⟩,fun o ho=>h3 o ho y (by simp),fun x hx=>h1 x (by simp[hx]),hu.2,fun o ho x hx=>by cases ho;exact hu.1 x hx⟩
theorem rowB_iff (start next:Int) (l:List It):rowB start next l=true↔(∀x∈l,itemB x=true/\start<=x.off/\x.off<=next - 1)/\up l/\0<=start/\start<=next/\next<=100000/\l.length<=80:=by
 have hc:Qa4 start (next - 1) l 0=Qfw start (next - 1) none l:=by simp[Qa4,Qkp]
 simp only[rowB,Bool.and_eq_true,inB,decide_eq_true_eq,hc,Qka]
 constructor
 . rintro ⟨⟨⟨⟨h1,h2,_⟩,h3,h4⟩,h5⟩,h6⟩;exact⟨h1,h2,h3,h4,h5,h6⟩
 . rintro ⟨h1,h2,h3,h4,h5,h6⟩;exact⟨⟨⟨⟨h1,h2,by simp⟩,h3,h4⟩,h5⟩,h6⟩
theorem right_sub {start next:Int} {l m:List It} (h:rowB start next l=true) (hs:m.Sublist l):rowB start next m=true:=by
 rw[rowB_iff]at h ⊢;exact⟨fun x hx=>h.1 x (hs.subset hx),List.Pairwise.sublist hs h.2.1,h.2.2.1,h.2.2.2.1,h.2.2.2.2.1,Nat.le_trans hs.length_le h.2.2.2.2.2⟩
theorem right_pack {start next length:Int} {l:List It} (h:rowB start next l=true):rowB start next (packF (IntKind.i64.wrap (next - 1)) length l)=true:=right_sub h (Qgr _ _ _)
theorem right_trim (next length keep:Int) (hl:1<=length) (hl' :length<=9223372036854775807):∀(n:Nat) (st:Int) (m:List It),rowB st next m=true->rowB (trimF next length keep n st m).1 next (trimF next length keep n st m).2=true/\st<=(trimF next length keep n st m).1
 |0,st,m,h=>⟨h,Int.le_refl _⟩
 |n+1,st,[],h=>⟨h,Int.le_refl _⟩
 |n+1,st,x::t,h=>by
  simp only[trimF];split
  . rename_i hc;have hr:=(rowB_iff _ _ _).1 h;obtain⟨h1,h2,h3,h4,h5,h6⟩:=hr;have hx:=(h1 x (by simp)).2;have hx0:0<=x.off:=(by omega);have hx1:x.off<=100000:=(by omega);obtain⟨he,hlt⟩:=endOf_is hx0 hx1 hl hl';have hw:IntKind.i64.wrap (next - 1)=next - 1:=by rw[IntKind.wrap_i64];omega
    have hd:¬x.off / length=(next - 1) / length:=by
     have:=hc.2;rw[hw,dv_is hx0 hx1 hl,dv_is (by omega) (by omega) hl]at this;exact this
    have hle:x.off / length<=(next - 1) / length:=Int.ediv_le_ediv (by omega) hx.2;have hE:Qfu x.off length<=next - 1:=by
     rw[he];have h1' :x.off / length+1<=(next - 1) / length:=(by omega);have h2' :(x.off / length+1) *length<=(next - 1) / length*length:=Int.mul_le_mul_of_nonneg_right h1' (by omega);have h3' :(next - 1) / length*length<=next - 1:=Int.ediv_mul_le _ (by omega)
     omega
    have hE0:st<=Qfu x.off length:=(by rw[he];omega);generalize Qfu x.off length=E at*;have hD:rowB E next ((x::t).dropWhile fun y=>decide (y.off<E))=true:=by
     rw[rowB_iff];have hsub:((x::t).dropWhile fun y=>decide (y.off<E)).Sublist (x::t):=List.dropWhile_sublist _;refine⟨?_,List.Pairwise.sublist hsub h2,by omega,by omega,h5,Nat.le_trans hsub.length_le h6⟩;have key:∀(l:List It),up l->∀y∈l.dropWhile (fun y=>decide (y.off<E)),E<=y.off:=by
      intro l
      induction l with
      |nil=>intro _ y hy;simp at hy
      |cons z l ih=>
       intro hu y hy;have hu' :=List.pairwise_cons.1 hu;by_cases hz:z.off<E
       . rw[List.dropWhile_cons_of_pos (by simpa using hz)]at hy;exact ih hu'.2 y hy
       . rw[List.dropWhile_cons_of_neg (by simpa using hz)]at hy;rcases List.mem_cons.1 hy with rfl|hy
         . omega
         . have:=hu'.1 y hy;omega
     intro y hy;have:=h1 y (hsub.subset hy);exact⟨this.1,key _ h2 y hy,this.2.2⟩
    have:=right_trim next length keep hl hl' n E _ hD
    exact⟨this.1,by omega⟩
  . exact⟨h,Int.le_refl _⟩
end Go.Proofs.YtpippjjhelgnlaaGreat.Items
namespace Go.Proofs.YtpippjjhelgnlaaGreat.Items
open ChangeShapes WideShapes ChangeAt RowKit Base
def findFrom (l:List It) (off:Int) (n:Nat):Option It:=(l.drop n).find? fun x=>decide (off<=x.off)
theorem Qj5 {l:List It} {off:Int} {n:Nat} (h:l.length<=n):findFrom l off n=none:=by
 unfold findFrom;rw[List.drop_eq_nil_of_le h];rfl
theorem Qj4 {l:List It} {off:Int} {n:Nat} (h:n<l.length) (hx:off<=l[n].off):findFrom l off n=some l[n]:=by
 unfold findFrom;rw[List.drop_eq_getElem_cons h,List.find?_cons_of_pos (by simpa using hx)]
theorem Qif {l:List It} {off:Int} {n:Nat} (h:n<l.length) (hx:¬off<=l[n].off):findFrom l off n=findFrom l off (n+1):=by
 unfold findFrom;rw[List.drop_eq_getElem_cons h,List.find?_cons_of_neg (by simpa using hx)]
def getIt (start:Int) (l:List It) (off:Int):It:=if off<start then It.zero else(findFrom l off 0).getD It.zero
def getHow (start:Int) (l:List It) (off:Int):Int:=if off<start then 1 else if(findFrom l off 0).isSome then 0 else 2
theorem specRowGet_any (start next off:Int) (A:Option Addr) (cap:Nat) (l:List It) (hl:l.length<=1048576) (w:World) (hA:l= []∨∃b o,A=some ⟨b,o,none⟩/\b<w.heap.size/\In w b o l):
 Calls Tryz.prog 221 #[.agg (Qa3 start next A l.length cap),.int .i64 off] w
  fun e w' =>e= .returned (.tuple #[(getIt start l off).v,.int .i64 (getHow start l off)])/\Below w.heap.size w w' :=by
 by_cases h0:off<start
 . have e1:getIt start l off=It.zero:=(by simp[getIt,h0]);have e2:getHow start l off=1:=(by simp[getHow,h0]);rw[e1,e2];go_enter Tryz.func221,Tryz.ntmps221;go_wp2;exact bodyPost_ret (v:= .tuple #[It.zero.v,.int .i64 1]) (by simp[results,Tryz.results221,go_sem,It.zero,It.v]) rfl ⟨rfl,by repeat(first|exact Below.refl _ _|assumption|refine via0 (by assumption) ?_|refine Below.drew ?_|refine Qad ?_ _|refine Below.setCell ?_ (by first|exact Nat.le_refl _|(simp;done)|(simp;omega)) _)⟩
 . have e1:getIt start l off=(findFrom l off 0).getD It.zero:=(by simp[getIt,h0]);have e2:getHow start l off=if(findFrom l off 0).isSome then 0 else 2:=by simp[getHow,h0]
   have E1:Hid (getIt start l off=(findFrom l off 0).getD It.zero):=e1;have E2:Hid (getHow start l off=if(findFrom l off 0).isSome then 0 else 2):=e2;have HA:Hid (l= []∨∃b o,A=some ⟨b,o,none⟩/\b<w.heap.size/\In w b o l):=hA;clear hA e1 e2;go_enter Tryz.func221,Tryz.ntmps221;go_wp2
   go_loopw [6] (fun i w' =>∃(n:Nat),i= .int .i64 (n:Int)/\n<=l.length/\w' =(w.alloc (.cells (Qa3 start next A l.length cap) 69)).alloc (.cells Qdt 150)/\Hid (findFrom l off n=findFrom l off 0)) (fun i _=>l.length - (intOf i).toNat)
   case atStart=>exact⟨0,rfl,by omega,rfl,rfl⟩
   case round=>
    obtain⟨n,rfl,hn,rfl,hf⟩:=hrel;by_cases hlt:n<l.length
    . obtain⟨b,o,rfl,hbs,hin⟩:∃b o,A=some ⟨b,o,none⟩/\b<w.heap.size/\In w b o l:=by
       rcases HA.out with h|h
       . subst h;simp at hlt
       . exact h
      obtain⟨c0,c1,c2,c3,c4⟩:=hin.get n hlt;by_cases hx:l[n].off>=off
      . have hF:Hid (findFrom l off 0=some l[n]):=(by show findFrom l off 0=some l[n];rw[← hf.out,Qj4 hlt hx]);go_wp2;exact bodyPost_ret (v:= .tuple #[l[n].v,.int .i64 0]) (by simp[results,Tryz.results221,go_sem,It.v]) rfl ⟨by rw[E1.out,E2.out,hF.out];rfl,by repeat(first|exact Below.refl _ _|assumption|refine via0 (by assumption) ?_|refine Below.drew ?_|refine Qad ?_ _|refine Below.setCell ?_ (by first|exact Nat.le_refl _|(simp;done)|(simp;omega)) _)⟩
      . have hF:Hid (findFrom l off (n+1)=findFrom l off 0):=(by show findFrom l off (n+1)=findFrom l off 0;rw[← hf.out,Qif hlt hx]);go_wp2;exact⟨⟨n+1,by go_num,by omega,by first|trivial|rfl,hF⟩,by simp[intOf];omega⟩
    . have hF:Hid (findFrom l off 0=none):=(by show findFrom l off 0=none;rw[← hf.out,Qj5 (by omega)]);go_wp2;exact bodyPost_ret (v:= .tuple #[It.zero.v,.int .i64 2]) (by simp[results,Tryz.results221,go_sem,It.zero,It.v]) rfl ⟨by rw[E1.out,E2.out,hF.out];rfl,by repeat(first|exact Below.refl _ _|assumption|refine via0 (by assumption) ?_|refine Below.drew ?_|refine Qad ?_ _|refine Below.setCell ?_ (by first|exact Nat.le_refl _|(simp;done)|(simp;omega)) _)⟩
end Go.Proofs.YtpippjjhelgnlaaGreat.Items
