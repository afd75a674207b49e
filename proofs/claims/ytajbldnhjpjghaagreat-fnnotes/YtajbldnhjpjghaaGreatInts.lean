/-
  Lists of numbers: how they lie, and what the laws' to, sz, eq, mark and held functions of them do. No condition but that there are at most 1048576.
-/
import Derived.Test.YtajbldnhjpjghaaGreatCmdAns
import Derived.Test.YtajbldnhjpjghaaGreatTold
set_option linter.unusedVariables false
set_option linter.unusedSimpArgs false
set_option maxRecDepth 100000
set_option maxHeartbeats 8000000
set_option maxRecDepth 100000
set_option maxHeartbeats 8000000
namespace Go.Proofs.YtajbldnhjpjghaaGreat.Gen
open ChangeShapes WideShapes ChangeAt RowKit Joins Deep Base
instance:Cel Int where
  k:=1
  cs x:= [.int .i64 x]
  len _:=rfl
  one x u hu:=by simp at hu;subst hu;rfl
theorem In.getInt {w:World} {b o:Nat} {l:List Int} (h:In w b o l) (i:Nat) (hi:i<l.length):w.cell? ⟨b,o+i,none⟩=some (.int .i64 l[i]):=by
 have:=h.cell i hi (f:=0) rfl;have e:o+i*Cel.k Int+0=o+i:=by show o+i*1+0=o+i;omega
 rwa [e]at this
theorem Qec:(Tryz.prog.info? 3).map (fun i=>(i.zero,i.size,i.bytes))=some (some (.int .i64 0),1,8):=by kernel_rfl
def Qbo (L:List Int):List UInt8:=L.flatMap numI
theorem Qmi (x:Int) (L:List Int):Qbo (x::L)=numI x++Qbo L:=by simp[Qbo]
theorem Qji (L M:List Int):Qbo (L++M)=Qbo L++Qbo M:=by simp[Qbo]
theorem Qhz {L:List Int} {n:Nat} (h:n<L.length):Qbo (L.take (n+1))=Qbo (L.take n)++numI L[n]:=by
 rw[List.take_succ_eq_append_getElem h,Qji];simp[Qbo]
theorem Qca (L:List Int):(Qbo L).length<=5*L.length:=by
 induction L with
 |nil=>simp[Qbo]
 |cons x L ih=>rw[Qmi,List.length_append,List.length_cons];have:=Qbm x;omega
theorem Qcj {B:Nat} {a a' :Option Addr} {c c' :Nat} {xs ys:List UInt8} {W:World} (hB:B<=W.heap.size) (hv:W.ownsRow B 5 1 (.slice a xs.length c) xs.length (flat xs)) (hy:At W a' ys) (hlen:xs.length+ys.length<=1000000000):
 ∃a2 c2 W',(Builtin.append_ #[22,22] 22 (l1SS a xs.length c a' ys.length c')).run Tryz.prog W= .ok (.slice a2 (xs++ys).length c2) W' /\
  W'.ownsRow B 5 1 (.slice a2 (xs++ys).length c2) (xs++ys).length (flat (xs++ys))/\W.grownBy W' (Value.slice a xs.length c).ownBlock:=by
 obtain⟨v',W',hr,hown,hg,_⟩:=Qef B (.slice a xs.length c) xs ys a' c' W hB hv hy hlen;obtain⟨a2,c2,rfl,_⟩:=Qao hown;have e:(xs++ys).length=xs.length+ys.length:=by simp
 exact⟨a2,c2,W',by rw[e];exact hr,by rw[e];exact hown,hg⟩
theorem Qb3 (A:Option Addr) (cap:Nat) (L:List Int) (hL:L.length<=300000) (w:World) (hA:At w A L):
 Calls Tryz.prog 79 #[.slice A L.length cap] w fun e w' =>∃a c,e= .returned (.slice a (Qbo L).length c)/\Below w.heap.size w w' /\w'.ownsRow w.heap.size 5 1 (.slice a (Qbo L).length c) (Qbo L).length (flat (Qbo L)):=by
 have own0:Hid ((w.alloc (.cells #[] 5)).ownsRow w.heap.size 5 1 (.slice (some ⟨w.heap.size,0,none⟩) 0 0) 0 []):=by
  refine⟨by simp,.inr ⟨w.heap.size,0,#[],rfl,Nat.le_refl _,Blk.new w 5 #[],by omega,by simp[maxLen],rfl,rfl⟩⟩
 have HA:=hidP hA;clear hA;go_enter Tryz.func79,Tryz.ntmps79;go_wp2
 go_loopw [3,4] (fun v i W=>∃(n:Nat) (a:Option Addr) (c:Nat),i= .int .i64 (n:Int)/\v= .slice a (Qbo (L.take n)).length c/\n<=L.length/\Hid (W.ownsRow w.heap.size 5 1 (.slice a (Qbo (L.take n)).length c) (Qbo (L.take n)).length (flat (Qbo (L.take n))))/\Below w.heap.size w W) (fun _ i _=>L.length - (intOf i).toNat)
 case atStart=>exact⟨0,_,_,rfl,rfl,by omega,own0,Qad (Below.refl _ w) _⟩
 case round=>
  obtain⟨n,a,c,rfl,rfl,hn,hO,hbl⟩:=hrel;by_cases hlt:n<L.length
  . obtain⟨b,o,rfl,hbs,hin⟩:∃b o,A=some ⟨b,o,none⟩/\b<w.heap.size/\In w b o L:=by
     rcases HA.out with h|h
     . subst h;simp at hlt
     . exact h
    have c0:=(hin.below hbs hbl).getInt n hlt;have hi0:(0:Int)<=(n:Int):=(by omega);have hi1:(n:Int)<(L.length:Int):=(by omega);have hto:=hidP (Qhz hlt);have hle:Hid ((Qbo (L.take n)).length<=1500000):=(by have:=Qca (L.take n);rw[List.length_take]at this;exact hidP (by omega));generalize Qbo (L.take n)=xs at*;generalize L[n]=x at*;clear hin;go_wp2_with fail;refine(Qa4 x _).mono ?_;rintro e w1 ⟨a1,c1,rfl,g1,o1⟩;obtain⟨a2,c2,w2,hr,hown,hg⟩:=Qcj (c' :=c1) (Nat.le_trans hbl.size g1.size) (Qas hO.out g1) (Qay o1).at (by have:=hle.out;have:=Qbm x;omega);have HB:=hidP ((via0 g1 hbl).grown hg (via0 g1 hbl).size (fun j e=>Nat.le_of_not_lt fun q=>Qa9 (Qas hO.out g1) q e.symm));have HO:=hidP hown;clear hown hg o1 g1 hO hbl;go_wp2_with (at_builtin;refine Qac rfl _ _ _ rfl _ _ _ rfl rfl hr ?_);refine⟨⟨n+1,a2,c2,by go_num,by rw[hto.out,List.length_append],by omega,?_,HB.out⟩,by simp[intOf];omega⟩;show Hid _;rw[hto.out];exact HO
  . obtain rfl:n=L.length:=(by omega);rw[List.take_length]at hO;rw[List.take_length];go_wp2;go_ret;exact⟨a,c,rfl,hbl,hO.out⟩
theorem Qgx (P:Nat->Prop) (b:Nat) (A:Option Addr) (cap:Nat) (L:List Int) (hL:L.length<=300000) (hr:∀x∈L,0<=x/\x<=2147483647) (xs:List UInt8) (hx:xs.length+5*L.length<=599990000) (w:World)
 (hA:At w A L) (hP:L= []∨∀k o,A=some ⟨k,o,none⟩->P k) (hW:Wr P b w xs):
 Calls Tryz.prog 51 #[.pointer (some ⟨b,0,none⟩),.slice A L.length cap] w fun e w' =>e= .returned (.tuple #[])/\Turn P w w' /\Wr P b w' (xs++Qbo L):=by
 have HA:=hidP hA;have HP:=hidP hP;have HW:=hidP hW;have HR:=hidP hr;clear hA hP hW hr;go_enter Tryz.func51,Tryz.ntmps51;go_wp2
 go_loopw [8] (fun i W=>∃(n:Nat),i= .int .i64 (n:Int)/\n<=L.length/\Hid (Turn P w W)/\Hid (Wr P b W (xs++Qbo (L.take n)))) (fun i _=>L.length - (intOf i).toNat)
 case atStart=>exact⟨0,rfl,by omega,Turn.refl _ _,by simpa [Qbo]using HW⟩
 case round=>
  obtain⟨n,rfl,hn,hT,hO⟩:=hrel;by_cases hlt:n<L.length
  . obtain⟨k,o,rfl,hbs,hin⟩:∃b o,A=some ⟨b,o,none⟩/\b<w.heap.size/\In w b o L:=by
     rcases HA.out with h|h
     . subst h;simp at hlt
     . exact h
    have hPk:P k:=by
     rcases HP.out with h|h
     . subst h;simp at hlt
     . exact h k o rfl
    have c0:=(hin.turn hT.out hPk).getInt n hlt;have hi0:(0:Int)<=(n:Int):=(by omega);have hi1:(n:Int)<(L.length:Int):=(by omega);have hto:=hidP (Qhz hlt);have hle:(xs++Qbo (L.take n)).length<=599990000:=(by have:=Qca (L.take n);rw[List.length_take]at this;rw[List.length_append];omega);have hrx:=HR.out L[n] (List.getElem_mem hlt);obtain⟨m,hm⟩:∃m:Nat,L[n]=(m:Int):=⟨(L[n]).toNat,by omega⟩
    rw[hm]at c0 hto hrx;clear hin hm;go_wp2_with fail;refine(Qfq P b m (by omega) _ (by omega) _ hO.out).mono ?_;rintro e w1 ⟨rfl,t1,h1⟩;have HT1:=hidP (hT.out.trans t1);rw[Qb7 (show m<=2147483647 by omega)]at hto;rw[List.append_assoc,← hto.out]at h1;have H1:=hidP h1;clear t1 h1 hT hO;go_wp2;exact⟨⟨n+1,by go_num,by omega,HT1,H1⟩,by simp[intOf];omega⟩
  . obtain rfl:n=L.length:=(by omega);rw[List.take_length]at hO;go_wp2
    go_end0
    exact⟨rfl,hT.out,hO.out⟩
def cmB (who seq op a b c:Int) (k t:ByteArray):List UInt8:=Qbo [who+1,seq,op,a,b,c]++txtB k++txtB t
def cmO (who seq op a b c:Int) (k t:ByteArray):List UInt8:=if CmdOk.okB who seq op a b c k t=true then cmB who seq op a b c k t else []
structure CmR (who seq op a b c:Int) (k t:ByteArray):Prop where
  w0: -1<=who/\who<=3
  s0:0<=seq/\seq<=100000
  o0:0<=op/\op<=10
  a0:0<=a/\a<=100000
  b0:0<=b/\b<=100000
  c0:0<=c/\c<=100000
  k0:k.size<=30
  t0:t.size<=30
theorem Qgw {who seq op a b c:Int} {k t:ByteArray} (h:CmdOk.okB who seq op a b c k t=true):CmR who seq op a b c k t:=by
 unfold CmdOk.okB at h;have hz:∀s:ByteArray,(s.toList== [])=true->s.size<=30:=fun s hs=>by
  have e:s.toList= []:=by simpa using hs
  have h2:s.toList.length=s.size:=by rw[_root_.Go.ByteArray.toList_eq];rfl
  rw[e]at h2;simp at h2;omega
 split at h
 . rename_i e;subst e;simp only[CmdOk.nobodyB,Bool.and_eq_true]at h;obtain⟨⟨⟨⟨⟨⟨h1,h2⟩,h3⟩,h4⟩,h5⟩,h6⟩,h7⟩:=h;simp only[beq_iff_eq]at h1 h2 h3 h4 h5;subst h1 h2 h3 h4 h5;exact⟨by omega,by omega,by omega,by omega,by omega,by omega,hz k h6,hz t h7⟩
 . simp only[CmdOk.restB,CmdOk.textB,CmdOk.inB,Bool.and_eq_true,decide_eq_true_eq]at h;obtain⟨⟨⟨⟨⟨⟨⟨h1,h2⟩,h3⟩,h4⟩,h5⟩,h6⟩,h7⟩,h8⟩:=h;exact⟨by omega,by omega,by omega,by omega,by omega,by omega,h7.2,h8.2⟩
theorem Qri {who seq op a b c:Int} {k t:ByteArray} (h:CmR who seq op a b c k t):(cmB who seq op a b c k t).length<=100:=by
 have h1:=Qca [who+1,seq,op,a,b,c];have h2:=Qcx (n:=k.size) (by have:=h.k0;omega);have h3:=Qcx (n:=t.size) (by have:=h.t0;omega);have:=h.k0;have:=h.t0;unfold cmB;rw[List.length_append,List.length_append,Qb9,Qb9];simp at h1;omega
theorem Qq9 {α:Type} [Cel α] (W:World) (L:List α) (cs:Array Value) (tt:TypeId) (h:cs.toList=flat L):At (W.alloc (.cells cs tt)) (some ⟨W.heap.size,0,none⟩) L:=by
 refine .inr ⟨_,_,rfl,by simp,?_⟩;intro j v hv;rw[← h]at hv;exact(Blk.new W tt cs).cell (i:=0+j) (by simpa using hv)
theorem Qsm (P:Nat->Prop) (z:Nat) (who seq op a b c:Int) (k t:ByteArray) (hR:CmR who seq op a b c k t) (xs:List UInt8) (hx:xs.length<=1900000) (w:World) (hW:Wr P z w xs):
 Calls Tryz.prog 78 #[.pointer (some ⟨z,0,none⟩),.agg (Qab who seq op a b c k t)] w fun e w' =>e= .returned (.tuple #[])/\Turn P w w' /\Wr P z w' (xs++cmB who seq op a b c k t):=by
 obtain⟨w0,s0,o0,a0,b0,c0,k0,t0⟩:=hR;have HW:=hidP hW;have h5:∀j,P j->j<w.heap.size:=by obtain⟨_,_,_,_,_,_,h⟩:=hW;exact h
 have H5:=hidP h5;clear hW h5;go_enter Tryz.func78,Tryz.ntmps78;have hat:=Qq9 (w.alloc (.cells (Qab who seq op a b c k t) 55)) [who+1,seq,op,a,b,c] (Qcs (who+1) seq op a b c) 3 rfl;have hwr:=(HW.out.keep (.cells (Qab who seq op a b c k t) 55)).keep (.cells (Qcs (who+1) seq op a b c) 3);have pz:=(Blk.new w 55 (Qab who seq op a b c k t)).alloc (.cells (Qcs (who+1) seq op a b c) 3);simp only[World.size_alloc]at hat hwr;have hl6:=Qca [who+1,seq,op,a,b,c];simp only[List.length_cons,List.length_nil]at hl6;have t0:Turn P w ((w.alloc (.cells (Qab who seq op a b c k t) 55)).alloc (.cells (Qcs (who+1) seq op a b c) 3)):=Turn.of_below (Qad (Qad (Below.refl _ w) _) _) H5.out;have Hat:=hidP hat;have Hwr:=hidP hwr;have Hpz:=hidP pz;have Ht0:=hidP t0;clear hat hwr pz t0;go_wp2_with fail;refine(Qgx (fun j=>(P j∨j=w.heap.size)∨j=w.heap.size+1) z (some ⟨w.heap.size+1,0,none⟩) 6 [who+1,seq,op,a,b,c] (by simp) (by simp;omega) xs (by simp;omega) _ Hat.out (.inr fun k o e=>by cases e;exact .inr rfl) Hwr.out).mono ?_;rintro e w1 ⟨rfl,t1,h1⟩;have p1:=Hpz.out.turn t1 (.inl (.inr rfl));have T1:=hidP (Ht0.out.trans (t1.mono (fun k hk=> .inl (.inl hk))));have H1:=hidP (h1.mono (Q:=fun j=>P j∨j=w.heap.size) (fun k hk=> .inl hk));have Hp1:=hidP p1;have d6:=p1.cell (i:=6) rfl;have q1:=p1.lt;clear Hat Hwr Hpz t1 h1 p1 Ht0 HW;go_wp2_with fail;refine(Qe8 (fun j=>P j∨j=w.heap.size) z k _ (by rw[List.length_append];omega) _ H1.out).mono ?_;rintro e w2 ⟨rfl,t2,h2⟩;have p2:=Hp1.out.turn t2 (.inr rfl);have T2:=hidP (T1.out.trans (t2.mono (fun k hk=> .inl hk)));have H2:=hidP h2;have d7:=p2.cell (i:=7) rfl;have q2:=p2.lt;clear t2 h2 p2 H1 Hp1 T1 d6;have hlk:=Qcx (n:=k.size) (by omega);go_wp2_with fail
 refine(Qe8 (fun j=>P j∨j=w.heap.size) z t _ (by simp only[List.length_append,Array.length_toList];have:k.data.size=k.size:=rfl;omega) _ H2.out).mono ?_;rintro e w3 ⟨rfl,t3,h3⟩;have T3:=hidP (T2.out.trans (t3.mono (fun k hk=> .inl hk)));have H3:=hidP (h3.mono (Q:=P) (fun k hk=> .inl hk));clear t3 h3 H2 T2;go_wp2
 go_end0
 refine⟨rfl,T3.out,?_⟩;have:=H3.out;simpa only[cmB,txtB,List.append_assoc]using this
theorem Qf1 (who seq op a b c:Int) (k t:ByteArray) (hk:k.size<=9223372036854775807) (ht:t.size<=9223372036854775807) (w:World):
 Calls Tryz.prog 57 #[.agg (Qab who seq op a b c k t)] w fun e w' =>∃a' c',e= .returned (.slice a' (cmO who seq op a b c k t).length c')/\Below w.heap.size w w' /\w'.ownsRow w.heap.size 5 1 (.slice a' (cmO who seq op a b c k t).length c') (cmO who seq op a b c k t).length (flat (cmO who seq op a b c k t)):=by
 have p:=Blk.new w 55 (Qab who seq op a b c k t);have Hp:=hidP p;clear p;go_enter Tryz.func57,Tryz.ntmps57;go_wp2_with fail;refine(CmdOk.spec_any who seq op a b c k t hk ht _).mono ?_;rintro e w1 ⟨rfl,g1⟩;have p1:=Hp.out.below g1 Hp.out.lt;have B1:=via0 g1 (Qad (Below.refl _ w) _);have q1:=p1.lt;cases hok:CmdOk.okB who seq op a b c k t with
 |false=>
  have hO:Hid (cmO who seq op a b c k t= []):=by show _=_;unfold cmO;rw[hok];rfl
  clear g1 p1;go_wp2;go_ret;rw[hO.out];exact⟨_,_,rfl,Qad B1 _,⟨by simp[flat],.inr ⟨w1.heap.size,0,#[],rfl,B1.size,Blk.new w1 5 #[],Nat.le_refl _,by simp[maxLen],rfl,rfl⟩⟩⟩
 |true=>
  have hO:Hid (cmO who seq op a b c k t=cmB who seq op a b c k t):=by show _=_;unfold cmO;rw[hok];rfl
  obtain⟨w0,s0,o0,a0,b0,c0,k0,t0⟩:=Qgw hok;have hat:=hidP (Qq9 w1 [who+1,seq,op,a,b,c] (Qcs (who+1) seq op a b c) 3 rfl);have d0:=p1.cell (i:=0) rfl;have d1:=p1.cell (i:=1) rfl;have d2:=p1.cell (i:=2) rfl;have d3:=p1.cell (i:=3) rfl;have d4:=p1.cell (i:=4) rfl;have d5:=p1.cell (i:=5) rfl;have Hp1:=hidP (p1.alloc (.cells (Qcs (who+1) seq op a b c) 3));have B2:=Qad B1 (.cells (Qcs (who+1) seq op a b c) 3);clear g1 p1 Hp B1;go_wp2_with fail;refine(Qb3 (some ⟨w1.heap.size,0,none⟩) 6 [who+1,seq,op,a,b,c] (by simp) _ hat.out).mono ?_;rintro e w2 ⟨a2,c2,rfl,g2,o2⟩;have hl6:=Qca [who+1,seq,op,a,b,c];simp only[List.length_cons,List.length_nil]at hl6;have hX:Hid (Qbo [who+1,seq,op,a,b,c]++txtB k++txtB t=cmB who seq op a b c k t):=hidP rfl;generalize Qbo [who+1,seq,op,a,b,c]=X at*;have p2:=Hp1.out.below g2 Hp1.out.lt;have B3:=via0 g2 B2;have O2:=hidP (Qat (C:=w1.heap.size) o2 (by simp));have d6:=p2.cell (i:=6) rfl;have q2:=p2.lt;have Hp2:=hidP p2;have s12:=hidP (Nat.le_trans (Nat.le_succ _) (show w1.heap.size+1<=w2.heap.size by have:=g2.size;simpa using this));clear g2 o2 p2 hat d0 d1 d2 d3 d4 d5 Hp1 B2;go_wp2_with fail;refine(Qbw k (by omega) _).mono ?_;rintro e w3 ⟨a3,c3,rfl,g3,o3⟩;have hlK:Hid ((txtB k).length<=35):=by show _<=_;rw[Qb9];have:=Qcx (n:=k.size) (by omega);omega
  have hlX:Hid (X.length<=30):=hidP (by omega);clear hl6;generalize txtB k=K at*;have s13:w1.heap.size<=w3.heap.size:=Nat.le_trans s12.out g3.size;obtain⟨a4,c4,w4,hr4,hown4,hg4⟩:=Qcj (c' :=c3) s13 (Qas O2.out g3) (Qay o3).at (by have:=hlK.out;have:=hlX.out;omega);have B4:=(via0 g3 B3).grown hg4 (via0 g3 B3).size (fun j e=>Nat.le_of_not_lt fun q=>Qa9 (Qas O2.out g3) (Nat.lt_trans q q1) e.symm);have p4:Blk w4 w.heap.size 55 (Qab who seq op a b c k t):=(hg4.block _ (Nat.lt_of_lt_of_le Hp2.out.lt g3.size) (Qa9 (Qas O2.out g3) q1)).trans (Hp2.out.below g3 Hp2.out.lt);have hXK:Hid ((X++K).length<=200):=by show _<=_;rw[List.length_append];have:=hlK.out;have:=hlX.out;omega
  generalize X++K=XK at*;have d7:=p4.cell (i:=7) rfl;have q4:=p4.lt;have s34:=hidP hg4.size;have O4:=hidP hown4;have Hs13:=hidP s13;clear g3 o3 hg4 hown4 p4 O2 Hp2 B3 d6 s12 s13;go_wp2_with (at_builtin;refine Qac rfl _ _ _ rfl _ _ _ rfl rfl hr4 ?_);refine(Qbw t (by omega) _).mono ?_;rintro e w5 ⟨a5,c5,rfl,g5,o5⟩;have hlT:Hid ((txtB t).length<=35):=by show _<=_;rw[Qb9];have:=Qcx (n:=t.size) (by omega);omega
  generalize txtB t=T at*;obtain⟨a6,c6,w6,hr6,hown6,hg6⟩:=Qcj (c' :=c5) (Nat.le_trans Hs13.out (Nat.le_trans s34.out g5.size)) (Qas O4.out g5) (Qay o5).at (by have:=hXK.out;have:=hlT.out;omega);have B6:=hidP ((via0 g5 B4).grown hg6 (via0 g5 B4).size (fun j e=>Nat.le_of_not_lt fun q=>Qa9 (Qas O4.out g5) (Nat.lt_trans q q1) e.symm));have O6:=hidP (Qat (C:=w.heap.size) hown6 (Nat.le_of_lt q1));generalize XK++T=Y at*;clear g5 o5 hg6 hown6 O4 B4 d7 s34 Hs13;go_wp2_with (at_builtin;refine Qac rfl _ _ _ rfl _ _ _ rfl rfl hr6 ?_);go_ret;rw[hO.out,← hX.out];exact⟨a6,c6,rfl,B6.out,O6.out⟩
structure Cm where
  who:Int
  seq:Int
  op:Int
  a:Int
  b:Int
  c:Int
  k:ByteArray
  t:ByteArray
def Cm.v (x:Cm):Value:= .agg (Qab x.who x.seq x.op x.a x.b x.c x.k x.t)
def isCm (x:Cm) (v:Value) (_:World):Prop:=v=x.v
def q1 (l:List UInt8) (o:Option Int):=nS l o
def q2 (l:List UInt8) (o:Option Int):=nS l (nO (q1 l o))
def q3 (l:List UInt8) (o:Option Int):=nS l (nO (q2 l o))
def q4 (l:List UInt8) (o:Option Int):=nS l (nO (q3 l o))
def q5 (l:List UInt8) (o:Option Int):=nS l (nO (q4 l o))
def q6 (l:List UInt8) (o:Option Int):=nS l (nO (q5 l o))
def q7 (l:List UInt8) (o:Option Int):=tS l (nO (q6 l o))
def q8 (l:List UInt8) (o:Option Int):=tS l (nO (q7 l o))
def cmOf (l:List UInt8) (o:Option Int):Cm:=⟨(nV (q1 l o):Int) - 1,nV (q2 l o),nV (q3 l o),nV (q4 l o),nV (q5 l o),nV (q6 l o),tV (q7 l o),tV (q8 l o)⟩
def getC (l:List UInt8) (i:Int):Option (Cm × Nat):=(q8 l (some i)).map fun p=>(cmOf l (some i),p.2)
theorem Qst (l:List UInt8) (o:Option Int):(tV (tS l o)).size<=l.length:=by
 unfold tV tS;cases o with
 |none=>simp[ByteArray.size]
 |some i=>
  cases h:getT l i with
  |none=>simp[h,ByteArray.size]
  |some x=>obtain⟨n,c⟩:=x;simp[h];exact(Qds h).2.2.2
theorem CuO.other {W W' :World} {r b:Nat} {A:Option Addr} {cap:Nat} {l:List UInt8} {o:Option Int} (h:CuO W r A cap l o) (g:Only b W W') (hr:r≠b) (hA:l= []∨∀c o,A=some ⟨c,o,none⟩->c≠b):CuO W' r A cap l o:=by
 obtain⟨i,ok,hc⟩:=h;refine⟨i,ok,hc.box.only g hr,?_,hc.i64,hc.st⟩;rcases hA with h|hA
 . exact .inl h
 . exact hc.src.imp id fun⟨c,o,e,hb,hn,hi⟩=>⟨c,o,e,Nat.lt_of_lt_of_le hb g.size,hn,fun j v hv=>(g.cell (p:=⟨c,o+j,none⟩) hb (hA c o e)).trans (hi j v hv)⟩
theorem CuO.below {W W' :World} {r:Nat} {A:Option Addr} {cap:Nat} {l:List UInt8} {o:Option Int} (h:CuO W r A cap l o) (g:Below W.heap.size W W'):CuO W' r A cap l o:=by
 obtain⟨i,ok,hc⟩:=h;exact⟨i,ok,hc.below g⟩
theorem CuO.far {W:World} {r:Nat} {A:Option Addr} {cap:Nat} {l:List UInt8} {o:Option Int} (h:CuO W r A cap l o):r<W.heap.size/\(l= []∨∀c o,A=some ⟨c,o,none⟩->c<W.heap.size):=by
 obtain⟨i,ok,hc⟩:=h;refine⟨hc.box.lt,hc.src.imp id fun⟨b,o,e,hb,_⟩ c o' e' => ?_⟩;rw[e]at e';cases e';exact hb
theorem Qa8 {b B:Nat} {w w1 w2:World} (h:Only b w w1) (k:Only B w1 w2) (hB:w.heap.size<=B):Only b w w2:=
 ⟨k.os.trans h.os,k.tape.trans h.tape,k.output.trans h.output,Nat.le_trans h.size k.size,fun i hi hb=>(k.block i (Nat.lt_of_lt_of_le hi h.size) (by omega)).trans (h.block i hi hb)⟩
theorem Rd.far {W:World} {r:Nat} {A:Option Addr} {cap:Nat} {l:List UInt8} {i:Int} (h:Rd W r A cap l i):r<W.heap.size/\(l= []∨∀c o,A=some ⟨c,o,none⟩->c<W.heap.size):=by
 refine⟨h.box.lt,h.src.imp id fun⟨b,o,e,hb,_⟩ c o' e' => ?_⟩;rw[e]at e';cases e';exact hb
theorem Rd.apart {W W' :World} {r b:Nat} {A:Option Addr} {cap:Nat} {l:List UInt8} {i:Int} (h:Rd W r A cap l i) (g:Only b W W') (hr:r≠b) (hA:l= []∨∀c o,A=some ⟨c,o,none⟩->c≠b):Rd W' r A cap l i:=by
 refine⟨h.box.only g hr,?_,h.i64⟩;rcases hA with e|hA
 . exact .inl e
 . exact h.src.imp id fun⟨c,o,e,hb,hn,hi⟩=>⟨c,o,e,Nat.lt_of_lt_of_le hb g.size,hn,fun j v hv=>(g.cell (p:=⟨c,o+j,none⟩) hb (hA c o e)).trans (hi j v hv)⟩
theorem Qok (r:Nat) (A:Option Addr) (cap:Nat) (l:List UInt8) (hl:l.length<=1048576) (hcap:l.length<=cap) (hcm:cap<=9223372036854775807) (o:Option Int) (w:World) (h:CuO w r A cap l o):
 Calls Tryz.prog 69 #[.pointer (some ⟨r,0,none⟩)] w fun e w' =>e= .returned (cmOf l o).v/\Only r w w' /\CuO w' r A cap l (nO (q8 l o)):=by
 obtain⟨hr,hfar⟩:=h.far;have Hfar:Hid (l= []∨∀c o,A=some ⟨c,o,none⟩->c≠w.heap.size+1):=hidP (hfar.imp id fun h c o e=>by have:=h c o e;omega);have Hfar0:Hid (l= []∨∀c o,A=some ⟨c,o,none⟩->c≠w.heap.size):=hidP (hfar.imp id fun h c o e=>by have:=h c o e;omega);have px0:=Blk.new (w.alloc (.cells Qar 55)) 55 Qar;have pr0:=(Blk.new w 55 Qar).alloc (.cells Qar 55);simp only[World.size_alloc]at px0;have HC0:=hidP (h.below (Qad (Qad (Below.refl _ w) (.cells Qar 55)) (.cells Qar 55)));have HO0:Hid (Only r w ((w.alloc (.cells Qar 55)).alloc (.cells Qar 55))):=(Only.refl r w).below (Qad (Qad (Below.refl _ w) _) _);have Hpx0:=hidP px0;have Hpr0:=hidP pr0;clear px0 pr0 h hfar;go_enter Tryz.func69,Tryz.ntmps69;go_wp2_with fail;refine(Qce r A cap l hl (o) _ HC0.out).mono ?_;rintro e w1 ⟨rfl,o1,h1⟩;have hn1:nV (q1 l o)<=2147483647:=Qf2 l _;have hv1:nV (nS l (o))=nV (q1 l o):=rfl;rw[hv1];clear hv1;have p1:Blk w1 (w.heap.size+1) 55 Qar:=Hpx0.out.only o1 (by omega);have g1:=Hpr0.out.only o1 (by omega);have d1:w1.cell? ⟨w.heap.size+1,0,none⟩=some (.int .i64 0):=p1.cell (i:=0) rfl;have f1:=p1.thaw 0;have q1' :=p1.lt;have Hpx1:Hid (Blk (w1.setCell ⟨w.heap.size+1,0,none⟩ (Value.int .i64 ((nV (q1 l o):Int) - 1))) (w.heap.size+1) 55 #[Value.int .i64 ((nV (q1 l o):Int) - 1),.int .i64 0,.int .i64 0,.int .i64 0,.int .i64 0,.int .i64 0,.string ⟨#[]⟩,.string ⟨#[]⟩]):=hidP (p1.setAt 0 (Value.int .i64 ((nV (q1 l o):Int) - 1)));have Hpr1:=hidP (g1.other (show w.heap.size≠w.heap.size+1 by omega) 0 (Value.int .i64 ((nV (q1 l o):Int) - 1)));have HC1:=hidP (CuO.other (show CuO w1 r A cap l (nO (q1 l o))from h1) ((Only.refl (w.heap.size+1) w1).set 0 (Value.int .i64 ((nV (q1 l o):Int) - 1))) (by omega) Hfar.out)
 have HO1:=hidP (Qa8 (Qap HO0.out o1) ((Only.refl (w.heap.size+1) w1).set 0 (Value.int .i64 ((nV (q1 l o):Int) - 1))) (by omega));clear o1 h1 p1 g1 HC0 HO0 Hpx0 Hpr0;go_wp2_with fail;refine(Qce r A cap l hl (nO (q1 l o)) _ HC1.out).mono ?_;rintro e w2 ⟨rfl,o2,h2⟩;have hn2:nV (q2 l o)<=2147483647:=Qf2 l _;have hv2:nV (nS l (nO (q1 l o)))=nV (q2 l o):=rfl;rw[hv2];clear hv2;have p2:Blk w2 (w.heap.size+1) 55 #[Value.int .i64 ((nV (q1 l o):Int) - 1),.int .i64 0,.int .i64 0,.int .i64 0,.int .i64 0,.int .i64 0,.string ⟨#[]⟩,.string ⟨#[]⟩]:=Hpx1.out.only o2 (by omega);have g2:=Hpr1.out.only o2 (by omega);have d2:w2.cell? ⟨w.heap.size+1,1,none⟩=some (.int .i64 0):=p2.cell (i:=1) rfl;have f2:=p2.thaw 1;have q2' :=p2.lt;have Hpx2:Hid (Blk (w2.setCell ⟨w.heap.size+1,1,none⟩ (.int .i64 (nV (q2 l o):Int))) (w.heap.size+1) 55 #[Value.int .i64 ((nV (q1 l o):Int) - 1),.int .i64 (nV (q2 l o):Int),.int .i64 0,.int .i64 0,.int .i64 0,.int .i64 0,.string ⟨#[]⟩,.string ⟨#[]⟩]):=hidP (p2.setAt 1 (.int .i64 (nV (q2 l o):Int)));have Hpr2:=hidP (g2.other (show w.heap.size≠w.heap.size+1 by omega) 1 (.int .i64 (nV (q2 l o):Int)));have HC2:=hidP (CuO.other (show CuO w2 r A cap l (nO (q2 l o))from h2) ((Only.refl (w.heap.size+1) w2).set 1 (.int .i64 (nV (q2 l o):Int))) (by omega) Hfar.out);have HO2:=hidP (Qa8 (Qap HO1.out o2) ((Only.refl (w.heap.size+1) w2).set 1 (.int .i64 (nV (q2 l o):Int))) (by omega));clear o2 h2 p2 g2 HC1 HO1 Hpx1 Hpr1 d1 f1 q1';go_wp2_with fail;refine(Qce r A cap l hl (nO (q2 l o)) _ HC2.out).mono ?_;rintro e w3 ⟨rfl,o3,h3⟩;have hn3:nV (q3 l o)<=2147483647:=Qf2 l _;have hv3:nV (nS l (nO (q2 l o)))=nV (q3 l o):=rfl;rw[hv3];clear hv3
 have p3:Blk w3 (w.heap.size+1) 55 #[Value.int .i64 ((nV (q1 l o):Int) - 1),.int .i64 (nV (q2 l o):Int),.int .i64 0,.int .i64 0,.int .i64 0,.int .i64 0,.string ⟨#[]⟩,.string ⟨#[]⟩]:=Hpx2.out.only o3 (by omega);have g3:=Hpr2.out.only o3 (by omega);have d3:w3.cell? ⟨w.heap.size+1,2,none⟩=some (.int .i64 0):=p3.cell (i:=2) rfl;have f3:=p3.thaw 2;have q3' :=p3.lt;have Hpx3:Hid (Blk (w3.setCell ⟨w.heap.size+1,2,none⟩ (.int .i64 (nV (q3 l o):Int))) (w.heap.size+1) 55 #[Value.int .i64 ((nV (q1 l o):Int) - 1),.int .i64 (nV (q2 l o):Int),.int .i64 (nV (q3 l o):Int),.int .i64 0,.int .i64 0,.int .i64 0,.string ⟨#[]⟩,.string ⟨#[]⟩]):=hidP (p3.setAt 2 (.int .i64 (nV (q3 l o):Int)));have Hpr3:=hidP (g3.other (show w.heap.size≠w.heap.size+1 by omega) 2 (.int .i64 (nV (q3 l o):Int)));have HC3:=hidP (CuO.other (show CuO w3 r A cap l (nO (q3 l o))from h3) ((Only.refl (w.heap.size+1) w3).set 2 (.int .i64 (nV (q3 l o):Int))) (by omega) Hfar.out);have HO3:=hidP (Qa8 (Qap HO2.out o3) ((Only.refl (w.heap.size+1) w3).set 2 (.int .i64 (nV (q3 l o):Int))) (by omega));clear o3 h3 p3 g3 HC2 HO2 Hpx2 Hpr2 d2 f2 q2';go_wp2_with fail;refine(Qce r A cap l hl (nO (q3 l o)) _ HC3.out).mono ?_;rintro e w4 ⟨rfl,o4,h4⟩;have hn4:nV (q4 l o)<=2147483647:=Qf2 l _;have hv4:nV (nS l (nO (q3 l o)))=nV (q4 l o):=rfl;rw[hv4];clear hv4;have p4:Blk w4 (w.heap.size+1) 55 #[Value.int .i64 ((nV (q1 l o):Int) - 1),.int .i64 (nV (q2 l o):Int),.int .i64 (nV (q3 l o):Int),.int .i64 0,.int .i64 0,.int .i64 0,.string ⟨#[]⟩,.string ⟨#[]⟩]:=Hpx3.out.only o4 (by omega);have g4:=Hpr3.out.only o4 (by omega);have d4:w4.cell? ⟨w.heap.size+1,3,none⟩=some (.int .i64 0):=p4.cell (i:=3) rfl;have f4:=p4.thaw 3;have q4' :=p4.lt
 have Hpx4:Hid (Blk (w4.setCell ⟨w.heap.size+1,3,none⟩ (.int .i64 (nV (q4 l o):Int))) (w.heap.size+1) 55 #[Value.int .i64 ((nV (q1 l o):Int) - 1),.int .i64 (nV (q2 l o):Int),.int .i64 (nV (q3 l o):Int),.int .i64 (nV (q4 l o):Int),.int .i64 0,.int .i64 0,.string ⟨#[]⟩,.string ⟨#[]⟩]):=hidP (p4.setAt 3 (.int .i64 (nV (q4 l o):Int)));have Hpr4:=hidP (g4.other (show w.heap.size≠w.heap.size+1 by omega) 3 (.int .i64 (nV (q4 l o):Int)));have HC4:=hidP (CuO.other (show CuO w4 r A cap l (nO (q4 l o))from h4) ((Only.refl (w.heap.size+1) w4).set 3 (.int .i64 (nV (q4 l o):Int))) (by omega) Hfar.out);have HO4:=hidP (Qa8 (Qap HO3.out o4) ((Only.refl (w.heap.size+1) w4).set 3 (.int .i64 (nV (q4 l o):Int))) (by omega));clear o4 h4 p4 g4 HC3 HO3 Hpx3 Hpr3 d3 f3 q3';go_wp2_with fail;refine(Qce r A cap l hl (nO (q4 l o)) _ HC4.out).mono ?_;rintro e w5 ⟨rfl,o5,h5⟩;have hn5:nV (q5 l o)<=2147483647:=Qf2 l _;have hv5:nV (nS l (nO (q4 l o)))=nV (q5 l o):=rfl;rw[hv5];clear hv5;have p5:Blk w5 (w.heap.size+1) 55 #[Value.int .i64 ((nV (q1 l o):Int) - 1),.int .i64 (nV (q2 l o):Int),.int .i64 (nV (q3 l o):Int),.int .i64 (nV (q4 l o):Int),.int .i64 0,.int .i64 0,.string ⟨#[]⟩,.string ⟨#[]⟩]:=Hpx4.out.only o5 (by omega);have g5:=Hpr4.out.only o5 (by omega);have d5:w5.cell? ⟨w.heap.size+1,4,none⟩=some (.int .i64 0):=p5.cell (i:=4) rfl;have f5:=p5.thaw 4;have q5' :=p5.lt;have Hpx5:Hid (Blk (w5.setCell ⟨w.heap.size+1,4,none⟩ (.int .i64 (nV (q5 l o):Int))) (w.heap.size+1) 55 #[Value.int .i64 ((nV (q1 l o):Int) - 1),.int .i64 (nV (q2 l o):Int),.int .i64 (nV (q3 l o):Int),.int .i64 (nV (q4 l o):Int),.int .i64 (nV (q5 l o):Int),.int .i64 0,.string ⟨#[]⟩,.string ⟨#[]⟩]):=hidP (p5.setAt 4 (.int .i64 (nV (q5 l o):Int)))
 have Hpr5:=hidP (g5.other (show w.heap.size≠w.heap.size+1 by omega) 4 (.int .i64 (nV (q5 l o):Int)));have HC5:=hidP (CuO.other (show CuO w5 r A cap l (nO (q5 l o))from h5) ((Only.refl (w.heap.size+1) w5).set 4 (.int .i64 (nV (q5 l o):Int))) (by omega) Hfar.out);have HO5:=hidP (Qa8 (Qap HO4.out o5) ((Only.refl (w.heap.size+1) w5).set 4 (.int .i64 (nV (q5 l o):Int))) (by omega));clear o5 h5 p5 g5 HC4 HO4 Hpx4 Hpr4 d4 f4 q4';go_wp2_with fail;refine(Qce r A cap l hl (nO (q5 l o)) _ HC5.out).mono ?_;rintro e w6 ⟨rfl,o6,h6⟩;have hn6:nV (q6 l o)<=2147483647:=Qf2 l _;have hv6:nV (nS l (nO (q5 l o)))=nV (q6 l o):=rfl;rw[hv6];clear hv6;have p6:Blk w6 (w.heap.size+1) 55 #[Value.int .i64 ((nV (q1 l o):Int) - 1),.int .i64 (nV (q2 l o):Int),.int .i64 (nV (q3 l o):Int),.int .i64 (nV (q4 l o):Int),.int .i64 (nV (q5 l o):Int),.int .i64 0,.string ⟨#[]⟩,.string ⟨#[]⟩]:=Hpx5.out.only o6 (by omega);have g6:=Hpr5.out.only o6 (by omega);have d6:w6.cell? ⟨w.heap.size+1,5,none⟩=some (.int .i64 0):=p6.cell (i:=5) rfl;have f6:=p6.thaw 5;have q6' :=p6.lt;have Hpx6:Hid (Blk (w6.setCell ⟨w.heap.size+1,5,none⟩ (.int .i64 (nV (q6 l o):Int))) (w.heap.size+1) 55 #[Value.int .i64 ((nV (q1 l o):Int) - 1),.int .i64 (nV (q2 l o):Int),.int .i64 (nV (q3 l o):Int),.int .i64 (nV (q4 l o):Int),.int .i64 (nV (q5 l o):Int),.int .i64 (nV (q6 l o):Int),.string ⟨#[]⟩,.string ⟨#[]⟩]):=hidP (p6.setAt 5 (.int .i64 (nV (q6 l o):Int)));have Hpr6:=hidP (g6.other (show w.heap.size≠w.heap.size+1 by omega) 5 (.int .i64 (nV (q6 l o):Int)));have HC6:=hidP (CuO.other (show CuO w6 r A cap l (nO (q6 l o))from h6) ((Only.refl (w.heap.size+1) w6).set 5 (.int .i64 (nV (q6 l o):Int))) (by omega) Hfar.out);have HO6:=hidP (Qa8 (Qap HO5.out o6) ((Only.refl (w.heap.size+1) w6).set 5 (.int .i64 (nV (q6 l o):Int))) (by omega))
 clear o6 h6 p6 g6 HC5 HO5 Hpx5 Hpr5 d5 f5 q5';go_wp2_with fail;refine(Qfs r A cap l hl hcap hcm (nO (q6 l o)) _ HC6.out).mono ?_;rintro e w7 ⟨rfl,o7,h7⟩;have hv7:tV (tS l (nO (q6 l o)))=tV (q7 l o):=rfl;rw[hv7];clear hv7;have p7:Blk w7 (w.heap.size+1) 55 #[Value.int .i64 ((nV (q1 l o):Int) - 1),.int .i64 (nV (q2 l o):Int),.int .i64 (nV (q3 l o):Int),.int .i64 (nV (q4 l o):Int),.int .i64 (nV (q5 l o):Int),.int .i64 (nV (q6 l o):Int),.string ⟨#[]⟩,.string ⟨#[]⟩]:=Hpx6.out.only o7 (by omega);have g7:=Hpr6.out.only o7 (by omega);have d7:w7.cell? ⟨w.heap.size+1,6,none⟩=some (.string ⟨#[]⟩):=p7.cell (i:=6) rfl;have f7:=p7.thaw 6;have q7' :=p7.lt;have Hpx7:Hid (Blk (w7.setCell ⟨w.heap.size+1,6,none⟩ (Value.string (tV (q7 l o)))) (w.heap.size+1) 55 #[Value.int .i64 ((nV (q1 l o):Int) - 1),.int .i64 (nV (q2 l o):Int),.int .i64 (nV (q3 l o):Int),.int .i64 (nV (q4 l o):Int),.int .i64 (nV (q5 l o):Int),.int .i64 (nV (q6 l o):Int),Value.string (tV (q7 l o)),.string ⟨#[]⟩]):=hidP (p7.setAt 6 (Value.string (tV (q7 l o))));have Hpr7:=hidP (g7.other (show w.heap.size≠w.heap.size+1 by omega) 6 (Value.string (tV (q7 l o))));have HC7:=hidP (CuO.other (show CuO w7 r A cap l (nO (q7 l o))from h7) ((Only.refl (w.heap.size+1) w7).set 6 (Value.string (tV (q7 l o)))) (by omega) Hfar.out);have HO7:=hidP (Qa8 (Qap HO6.out o7) ((Only.refl (w.heap.size+1) w7).set 6 (Value.string (tV (q7 l o)))) (by omega));clear o7 h7 p7 g7 HC6 HO6 Hpx6 Hpr6 d6 f6 q6';go_wp2_with fail;refine(Qfs r A cap l hl hcap hcm (nO (q7 l o)) _ HC7.out).mono ?_;rintro e w8 ⟨rfl,o8,h8⟩;have hv8:tV (tS l (nO (q7 l o)))=tV (q8 l o):=rfl;rw[hv8];clear hv8
 have p8:Blk w8 (w.heap.size+1) 55 #[Value.int .i64 ((nV (q1 l o):Int) - 1),.int .i64 (nV (q2 l o):Int),.int .i64 (nV (q3 l o):Int),.int .i64 (nV (q4 l o):Int),.int .i64 (nV (q5 l o):Int),.int .i64 (nV (q6 l o):Int),Value.string (tV (q7 l o)),.string ⟨#[]⟩]:=Hpx7.out.only o8 (by omega);have g8:=Hpr7.out.only o8 (by omega);have d8:w8.cell? ⟨w.heap.size+1,7,none⟩=some (.string ⟨#[]⟩):=p8.cell (i:=7) rfl;have f8:=p8.thaw 7;have q8' :=p8.lt;have e0:w8.cell? ⟨w.heap.size+1,0,none⟩=some (Value.int .i64 ((nV (q1 l o):Int) - 1)):=p8.cell (i:=0) rfl;have e1:w8.cell? ⟨w.heap.size+1,1,none⟩=some (.int .i64 (nV (q2 l o):Int)):=p8.cell (i:=1) rfl;have e2:w8.cell? ⟨w.heap.size+1,2,none⟩=some (.int .i64 (nV (q3 l o):Int)):=p8.cell (i:=2) rfl;have e3:w8.cell? ⟨w.heap.size+1,3,none⟩=some (.int .i64 (nV (q4 l o):Int)):=p8.cell (i:=3) rfl;have e4:w8.cell? ⟨w.heap.size+1,4,none⟩=some (.int .i64 (nV (q5 l o):Int)):=p8.cell (i:=4) rfl;have e5:w8.cell? ⟨w.heap.size+1,5,none⟩=some (.int .i64 (nV (q6 l o):Int)):=p8.cell (i:=5) rfl;have e6:w8.cell? ⟨w.heap.size+1,6,none⟩=some (Value.string (tV (q7 l o))):=p8.cell (i:=6) rfl;have r0:w8.cell? ⟨w.heap.size,0,none⟩=some (.int .i64 0):=g8.cell (i:=0) rfl;have z0:=g8.thaw 0;have r1:w8.cell? ⟨w.heap.size,1,none⟩=some (.int .i64 0):=g8.cell (i:=1) rfl;have z1:=g8.thaw 1;have r2:w8.cell? ⟨w.heap.size,2,none⟩=some (.int .i64 0):=g8.cell (i:=2) rfl;have z2:=g8.thaw 2;have r3:w8.cell? ⟨w.heap.size,3,none⟩=some (.int .i64 0):=g8.cell (i:=3) rfl;have z3:=g8.thaw 3;have r4:w8.cell? ⟨w.heap.size,4,none⟩=some (.int .i64 0):=g8.cell (i:=4) rfl;have z4:=g8.thaw 4;have r5:w8.cell? ⟨w.heap.size,5,none⟩=some (.int .i64 0):=g8.cell (i:=5) rfl;have z5:=g8.thaw 5;have r6:w8.cell? ⟨w.heap.size,6,none⟩=some (.string ⟨#[]⟩):=g8.cell (i:=6) rfl;have z6:=g8.thaw 6
 have r7:w8.cell? ⟨w.heap.size,7,none⟩=some (.string ⟨#[]⟩):=g8.cell (i:=7) rfl;have z7:=g8.thaw 7;have qr:=g8.lt;have Hpx8:Hid (Blk (w8.setCell ⟨w.heap.size+1,7,none⟩ (.string (tV (q8 l o)))) (w.heap.size+1) 55 #[Value.int .i64 ((nV (q1 l o):Int) - 1),.int .i64 (nV (q2 l o):Int),.int .i64 (nV (q3 l o):Int),.int .i64 (nV (q4 l o):Int),.int .i64 (nV (q5 l o):Int),.int .i64 (nV (q6 l o):Int),Value.string (tV (q7 l o)),.string (tV (q8 l o))]):=hidP (p8.setAt 7 (.string (tV (q8 l o))));have Hpr8:=hidP (g8.other (show w.heap.size≠w.heap.size+1 by omega) 7 (.string (tV (q8 l o))));have HC8:=hidP (CuO.other (show CuO w8 r A cap l (nO (q8 l o))from h8) ((Only.refl (w.heap.size+1) w8).set 7 (.string (tV (q8 l o)))) (by omega) Hfar.out);have HO8:=hidP (Qa8 (Qap HO7.out o8) ((Only.refl (w.heap.size+1) w8).set 7 (.string (tV (q8 l o)))) (by omega));clear o8 h8 p8 g8 HC7 HO7 Hpx7 Hpr7 d7 f7 q7';have HOz:=hidP (Qa8 (Qa8 (Qa8 (Qa8 (Qa8 (Qa8 (Qa8 (Qa8 (HO8.out) ((Only.refl w.heap.size _).set 0 (Value.int .i64 ((nV (q1 l o):Int) - 1))) (Nat.le_refl _)) ((Only.refl w.heap.size _).set 1 (.int .i64 (nV (q2 l o):Int))) (Nat.le_refl _)) ((Only.refl w.heap.size _).set 2 (.int .i64 (nV (q3 l o):Int))) (Nat.le_refl _)) ((Only.refl w.heap.size _).set 3 (.int .i64 (nV (q4 l o):Int))) (Nat.le_refl _)) ((Only.refl w.heap.size _).set 4 (.int .i64 (nV (q5 l o):Int))) (Nat.le_refl _)) ((Only.refl w.heap.size _).set 5 (.int .i64 (nV (q6 l o):Int))) (Nat.le_refl _)) ((Only.refl w.heap.size _).set 6 (Value.string (tV (q7 l o)))) (Nat.le_refl _)) ((Only.refl w.heap.size _).set 7 (.string (tV (q8 l o)))) (Nat.le_refl _))
 have HCz:=hidP (CuO.other (CuO.other (CuO.other (CuO.other (CuO.other (CuO.other (CuO.other (CuO.other (HC8.out) ((Only.refl w.heap.size _).set 0 (Value.int .i64 ((nV (q1 l o):Int) - 1))) (by omega) Hfar0.out) ((Only.refl w.heap.size _).set 1 (.int .i64 (nV (q2 l o):Int))) (by omega) Hfar0.out) ((Only.refl w.heap.size _).set 2 (.int .i64 (nV (q3 l o):Int))) (by omega) Hfar0.out) ((Only.refl w.heap.size _).set 3 (.int .i64 (nV (q4 l o):Int))) (by omega) Hfar0.out) ((Only.refl w.heap.size _).set 4 (.int .i64 (nV (q5 l o):Int))) (by omega) Hfar0.out) ((Only.refl w.heap.size _).set 5 (.int .i64 (nV (q6 l o):Int))) (by omega) Hfar0.out) ((Only.refl w.heap.size _).set 6 (Value.string (tV (q7 l o)))) (by omega) Hfar0.out) ((Only.refl w.heap.size _).set 7 (.string (tV (q8 l o)))) (by omega) Hfar0.out);clear HO8 HC8 Hpx8 Hpr8;go_wp2;exact bodyPost_ret (v:=(cmOf l o).v) (by simp[results,Tryz.results69,go_sem,Cm.v,cmOf,r0,r1,r2,r3,r4,r5,r6,r7]) rfl ⟨rfl,HOz.out,HCz.out⟩
theorem Qks (r:Nat) (A:Option Addr) (cap:Nat) (l:List UInt8) (i:Int) (hl:l.length<=1048576) (hcap:l.length<=cap) (hcm:cap<=9223372036854775807) (w:World) (h:Rd w r A cap l i):
 Calls Tryz.prog 101 #[.pointer (some ⟨r,0,none⟩)] w fun e w' =>Qey isCm r A cap l w e w' (getC l i):=by
 obtain⟨hr,hfar⟩:=h.far;have Hfar:Hid (l= []∨∀c o,A=some ⟨c,o,none⟩->c≠w.heap.size+1):=hidP (hfar.imp id fun h c o e=>by have:=h c o e;omega);have Hfar0:Hid (l= []∨∀c o,A=some ⟨c,o,none⟩->c≠w.heap.size):=hidP (hfar.imp id fun h c o e=>by have:=h c o e;omega);have px0:=Blk.new (w.alloc (.cells Qar 55)) 55 Qar;have pr0:=(Blk.new w 55 Qar).alloc (.cells Qar 55);simp only[World.size_alloc]at px0;have HC0:=hidP (h.below (Qad (Qad (Below.refl _ w) (.cells Qar 55)) (.cells Qar 55)));have HO0:Hid (Only r w ((w.alloc (.cells Qar 55)).alloc (.cells Qar 55))):=(Only.refl r w).below (Qad (Qad (Below.refl _ w) _) _);have Hpx0:=hidP px0;have Hpr0:=hidP pr0;clear px0 pr0 h hfar;go_enter Tryz.func101,Tryz.ntmps101;go_wp2_with fail;refine(Qbn r A cap l (i) hl _ HC0.out).mono ?_;intro e w1 h1;cases hx1:getN l (i)with
 |none=>
  have hN:getC l i=none:=by simp[getC,q1,q2,q3,q4,q5,q6,q7,q8,nS,tS,nO,hx1]
  rw[hx1]at h1;obtain⟨o1,t,v,rfl⟩:=h1;refine⟨rfl,?_⟩;rw[hN];exact⟨Qap HO0.out o1,t,v,rfl⟩
 |some x=>
 obtain⟨n1,c1⟩:=x;rw[hx1]at h1;obtain⟨o1,h1,v,rfl,rfl⟩:=h1;have hle1:=Qbp hx1;have p1:Blk w1 (w.heap.size+1) 55 Qar:=Hpx0.out.only o1 (by omega);have g1:=Hpr0.out.only o1 (by omega);have d1:w1.cell? ⟨w.heap.size+1,0,none⟩=some (.int .i64 0):=p1.cell (i:=0) rfl;have f1:=p1.thaw 0;have q1' :=p1.lt;have Hpx1:Hid (Blk (w1.setCell ⟨w.heap.size+1,0,none⟩ (Value.int .i64 ((n1:Int) - 1))) (w.heap.size+1) 55 #[Value.int .i64 ((n1:Int) - 1),.int .i64 0,.int .i64 0,.int .i64 0,.int .i64 0,.int .i64 0,.string ⟨#[]⟩,.string ⟨#[]⟩]):=hidP (p1.setAt 0 (Value.int .i64 ((n1:Int) - 1)));have Hpr1:=hidP (g1.other (show w.heap.size≠w.heap.size+1 by omega) 0 (Value.int .i64 ((n1:Int) - 1)));have HC1:=hidP (h1.apart ((Only.refl (w.heap.size+1) w1).set 0 (Value.int .i64 ((n1:Int) - 1))) (by omega) Hfar.out);have HO1:=hidP (Qa8 (Qap HO0.out o1) ((Only.refl (w.heap.size+1) w1).set 0 (Value.int .i64 ((n1:Int) - 1))) (by omega));clear o1 h1 p1 g1 HC0 HO0 Hpx0 Hpr0;go_wp2_with fail;refine(Qbn r A cap l ((c1:Int)) hl _ HC1.out).mono ?_;intro e w2 h2;cases hx2:getN l ((c1:Int))with
 |none=>
  have hN:getC l i=none:=by simp[getC,q1,q2,q3,q4,q5,q6,q7,q8,nS,tS,nO,hx1,hx2]
  rw[hx2]at h2;obtain⟨o2,t,v,rfl⟩:=h2;refine⟨rfl,?_⟩;rw[hN];exact⟨Qap HO1.out o2,t,v,rfl⟩
 |some x=>
 obtain⟨n2,c2⟩:=x;rw[hx2]at h2;obtain⟨o2,h2,v,rfl,rfl⟩:=h2;have hle2:=Qbp hx2;have p2:Blk w2 (w.heap.size+1) 55 #[Value.int .i64 ((n1:Int) - 1),.int .i64 0,.int .i64 0,.int .i64 0,.int .i64 0,.int .i64 0,.string ⟨#[]⟩,.string ⟨#[]⟩]:=Hpx1.out.only o2 (by omega);have g2:=Hpr1.out.only o2 (by omega);have d2:w2.cell? ⟨w.heap.size+1,1,none⟩=some (.int .i64 0):=p2.cell (i:=1) rfl;have f2:=p2.thaw 1;have q2' :=p2.lt;have Hpx2:Hid (Blk (w2.setCell ⟨w.heap.size+1,1,none⟩ (.int .i64 (n2:Int))) (w.heap.size+1) 55 #[Value.int .i64 ((n1:Int) - 1),.int .i64 (n2:Int),.int .i64 0,.int .i64 0,.int .i64 0,.int .i64 0,.string ⟨#[]⟩,.string ⟨#[]⟩]):=hidP (p2.setAt 1 (.int .i64 (n2:Int)));have Hpr2:=hidP (g2.other (show w.heap.size≠w.heap.size+1 by omega) 1 (.int .i64 (n2:Int)));have HC2:=hidP (h2.apart ((Only.refl (w.heap.size+1) w2).set 1 (.int .i64 (n2:Int))) (by omega) Hfar.out);have HO2:=hidP (Qa8 (Qap HO1.out o2) ((Only.refl (w.heap.size+1) w2).set 1 (.int .i64 (n2:Int))) (by omega));clear o2 h2 p2 g2 HC1 HO1 Hpx1 Hpr1 d1 f1 q1';go_wp2_with fail;refine(Qbn r A cap l ((c2:Int)) hl _ HC2.out).mono ?_;intro e w3 h3;cases hx3:getN l ((c2:Int))with
 |none=>
  have hN:getC l i=none:=by simp[getC,q1,q2,q3,q4,q5,q6,q7,q8,nS,tS,nO,hx1,hx2,hx3]
  rw[hx3]at h3;obtain⟨o3,t,v,rfl⟩:=h3;refine⟨rfl,?_⟩;rw[hN];exact⟨Qap HO2.out o3,t,v,rfl⟩
 |some x=>
 obtain⟨n3,c3⟩:=x;rw[hx3]at h3;obtain⟨o3,h3,v,rfl,rfl⟩:=h3;have hle3:=Qbp hx3;have p3:Blk w3 (w.heap.size+1) 55 #[Value.int .i64 ((n1:Int) - 1),.int .i64 (n2:Int),.int .i64 0,.int .i64 0,.int .i64 0,.int .i64 0,.string ⟨#[]⟩,.string ⟨#[]⟩]:=Hpx2.out.only o3 (by omega);have g3:=Hpr2.out.only o3 (by omega);have d3:w3.cell? ⟨w.heap.size+1,2,none⟩=some (.int .i64 0):=p3.cell (i:=2) rfl;have f3:=p3.thaw 2;have q3' :=p3.lt;have Hpx3:Hid (Blk (w3.setCell ⟨w.heap.size+1,2,none⟩ (.int .i64 (n3:Int))) (w.heap.size+1) 55 #[Value.int .i64 ((n1:Int) - 1),.int .i64 (n2:Int),.int .i64 (n3:Int),.int .i64 0,.int .i64 0,.int .i64 0,.string ⟨#[]⟩,.string ⟨#[]⟩]):=hidP (p3.setAt 2 (.int .i64 (n3:Int)));have Hpr3:=hidP (g3.other (show w.heap.size≠w.heap.size+1 by omega) 2 (.int .i64 (n3:Int)));have HC3:=hidP (h3.apart ((Only.refl (w.heap.size+1) w3).set 2 (.int .i64 (n3:Int))) (by omega) Hfar.out);have HO3:=hidP (Qa8 (Qap HO2.out o3) ((Only.refl (w.heap.size+1) w3).set 2 (.int .i64 (n3:Int))) (by omega));clear o3 h3 p3 g3 HC2 HO2 Hpx2 Hpr2 d2 f2 q2';go_wp2_with fail;refine(Qbn r A cap l ((c3:Int)) hl _ HC3.out).mono ?_;intro e w4 h4;cases hx4:getN l ((c3:Int))with
 |none=>
  have hN:getC l i=none:=by simp[getC,q1,q2,q3,q4,q5,q6,q7,q8,nS,tS,nO,hx1,hx2,hx3,hx4]
  rw[hx4]at h4;obtain⟨o4,t,v,rfl⟩:=h4;refine⟨rfl,?_⟩;rw[hN];exact⟨Qap HO3.out o4,t,v,rfl⟩
 |some x=>
 obtain⟨n4,c4⟩:=x;rw[hx4]at h4;obtain⟨o4,h4,v,rfl,rfl⟩:=h4;have hle4:=Qbp hx4;have p4:Blk w4 (w.heap.size+1) 55 #[Value.int .i64 ((n1:Int) - 1),.int .i64 (n2:Int),.int .i64 (n3:Int),.int .i64 0,.int .i64 0,.int .i64 0,.string ⟨#[]⟩,.string ⟨#[]⟩]:=Hpx3.out.only o4 (by omega);have g4:=Hpr3.out.only o4 (by omega);have d4:w4.cell? ⟨w.heap.size+1,3,none⟩=some (.int .i64 0):=p4.cell (i:=3) rfl;have f4:=p4.thaw 3;have q4' :=p4.lt;have Hpx4:Hid (Blk (w4.setCell ⟨w.heap.size+1,3,none⟩ (.int .i64 (n4:Int))) (w.heap.size+1) 55 #[Value.int .i64 ((n1:Int) - 1),.int .i64 (n2:Int),.int .i64 (n3:Int),.int .i64 (n4:Int),.int .i64 0,.int .i64 0,.string ⟨#[]⟩,.string ⟨#[]⟩]):=hidP (p4.setAt 3 (.int .i64 (n4:Int)));have Hpr4:=hidP (g4.other (show w.heap.size≠w.heap.size+1 by omega) 3 (.int .i64 (n4:Int)));have HC4:=hidP (h4.apart ((Only.refl (w.heap.size+1) w4).set 3 (.int .i64 (n4:Int))) (by omega) Hfar.out);have HO4:=hidP (Qa8 (Qap HO3.out o4) ((Only.refl (w.heap.size+1) w4).set 3 (.int .i64 (n4:Int))) (by omega));clear o4 h4 p4 g4 HC3 HO3 Hpx3 Hpr3 d3 f3 q3';go_wp2_with fail;refine(Qbn r A cap l ((c4:Int)) hl _ HC4.out).mono ?_;intro e w5 h5;cases hx5:getN l ((c4:Int))with
 |none=>
  have hN:getC l i=none:=by simp[getC,q1,q2,q3,q4,q5,q6,q7,q8,nS,tS,nO,hx1,hx2,hx3,hx4,hx5]
  rw[hx5]at h5;obtain⟨o5,t,v,rfl⟩:=h5;refine⟨rfl,?_⟩;rw[hN];exact⟨Qap HO4.out o5,t,v,rfl⟩
 |some x=>
 obtain⟨n5,c5⟩:=x;rw[hx5]at h5;obtain⟨o5,h5,v,rfl,rfl⟩:=h5;have hle5:=Qbp hx5;have p5:Blk w5 (w.heap.size+1) 55 #[Value.int .i64 ((n1:Int) - 1),.int .i64 (n2:Int),.int .i64 (n3:Int),.int .i64 (n4:Int),.int .i64 0,.int .i64 0,.string ⟨#[]⟩,.string ⟨#[]⟩]:=Hpx4.out.only o5 (by omega);have g5:=Hpr4.out.only o5 (by omega);have d5:w5.cell? ⟨w.heap.size+1,4,none⟩=some (.int .i64 0):=p5.cell (i:=4) rfl;have f5:=p5.thaw 4;have q5' :=p5.lt;have Hpx5:Hid (Blk (w5.setCell ⟨w.heap.size+1,4,none⟩ (.int .i64 (n5:Int))) (w.heap.size+1) 55 #[Value.int .i64 ((n1:Int) - 1),.int .i64 (n2:Int),.int .i64 (n3:Int),.int .i64 (n4:Int),.int .i64 (n5:Int),.int .i64 0,.string ⟨#[]⟩,.string ⟨#[]⟩]):=hidP (p5.setAt 4 (.int .i64 (n5:Int)));have Hpr5:=hidP (g5.other (show w.heap.size≠w.heap.size+1 by omega) 4 (.int .i64 (n5:Int)));have HC5:=hidP (h5.apart ((Only.refl (w.heap.size+1) w5).set 4 (.int .i64 (n5:Int))) (by omega) Hfar.out);have HO5:=hidP (Qa8 (Qap HO4.out o5) ((Only.refl (w.heap.size+1) w5).set 4 (.int .i64 (n5:Int))) (by omega));clear o5 h5 p5 g5 HC4 HO4 Hpx4 Hpr4 d4 f4 q4';go_wp2_with fail;refine(Qbn r A cap l ((c5:Int)) hl _ HC5.out).mono ?_;intro e w6 h6;cases hx6:getN l ((c5:Int))with
 |none=>
  have hN:getC l i=none:=by simp[getC,q1,q2,q3,q4,q5,q6,q7,q8,nS,tS,nO,hx1,hx2,hx3,hx4,hx5,hx6]
  rw[hx6]at h6;obtain⟨o6,t,v,rfl⟩:=h6;refine⟨rfl,?_⟩;rw[hN];exact⟨Qap HO5.out o6,t,v,rfl⟩
 |some x=>
 obtain⟨n6,c6⟩:=x;rw[hx6]at h6;obtain⟨o6,h6,v,rfl,rfl⟩:=h6;have hle6:=Qbp hx6;have p6:Blk w6 (w.heap.size+1) 55 #[Value.int .i64 ((n1:Int) - 1),.int .i64 (n2:Int),.int .i64 (n3:Int),.int .i64 (n4:Int),.int .i64 (n5:Int),.int .i64 0,.string ⟨#[]⟩,.string ⟨#[]⟩]:=Hpx5.out.only o6 (by omega);have g6:=Hpr5.out.only o6 (by omega);have d6:w6.cell? ⟨w.heap.size+1,5,none⟩=some (.int .i64 0):=p6.cell (i:=5) rfl;have f6:=p6.thaw 5;have q6' :=p6.lt;have Hpx6:Hid (Blk (w6.setCell ⟨w.heap.size+1,5,none⟩ (.int .i64 (n6:Int))) (w.heap.size+1) 55 #[Value.int .i64 ((n1:Int) - 1),.int .i64 (n2:Int),.int .i64 (n3:Int),.int .i64 (n4:Int),.int .i64 (n5:Int),.int .i64 (n6:Int),.string ⟨#[]⟩,.string ⟨#[]⟩]):=hidP (p6.setAt 5 (.int .i64 (n6:Int)));have Hpr6:=hidP (g6.other (show w.heap.size≠w.heap.size+1 by omega) 5 (.int .i64 (n6:Int)));have HC6:=hidP (h6.apart ((Only.refl (w.heap.size+1) w6).set 5 (.int .i64 (n6:Int))) (by omega) Hfar.out);have HO6:=hidP (Qa8 (Qap HO5.out o6) ((Only.refl (w.heap.size+1) w6).set 5 (.int .i64 (n6:Int))) (by omega));clear o6 h6 p6 g6 HC5 HO5 Hpx5 Hpr5 d5 f5 q5';go_wp2_with fail;refine(Qea r A cap l ((c6:Int)) hl hcap hcm _ HC6.out).mono ?_;intro e w7 h7;cases hx7:getT l ((c6:Int))with
 |none=>
  have hN:getC l i=none:=by simp[getC,q1,q2,q3,q4,q5,q6,q7,q8,nS,tS,nO,hx1,hx2,hx3,hx4,hx5,hx6,hx7]
  rw[hx7]at h7;obtain⟨o7,t,v,rfl⟩:=h7;refine⟨rfl,?_⟩;rw[hN];exact⟨Qap HO6.out o7,t,v,rfl⟩
 |some x=>
 obtain⟨s7,c7⟩:=x;rw[hx7]at h7;obtain⟨o7,h7,v,rfl,rfl⟩:=h7;have hle7:=Qds hx7;have p7:Blk w7 (w.heap.size+1) 55 #[Value.int .i64 ((n1:Int) - 1),.int .i64 (n2:Int),.int .i64 (n3:Int),.int .i64 (n4:Int),.int .i64 (n5:Int),.int .i64 (n6:Int),.string ⟨#[]⟩,.string ⟨#[]⟩]:=Hpx6.out.only o7 (by omega);have g7:=Hpr6.out.only o7 (by omega);have d7:w7.cell? ⟨w.heap.size+1,6,none⟩=some (.string ⟨#[]⟩):=p7.cell (i:=6) rfl;have f7:=p7.thaw 6;have q7' :=p7.lt;have Hpx7:Hid (Blk (w7.setCell ⟨w.heap.size+1,6,none⟩ (Value.string s7)) (w.heap.size+1) 55 #[Value.int .i64 ((n1:Int) - 1),.int .i64 (n2:Int),.int .i64 (n3:Int),.int .i64 (n4:Int),.int .i64 (n5:Int),.int .i64 (n6:Int),Value.string s7,.string ⟨#[]⟩]):=hidP (p7.setAt 6 (Value.string s7));have Hpr7:=hidP (g7.other (show w.heap.size≠w.heap.size+1 by omega) 6 (Value.string s7));have HC7:=hidP (h7.apart ((Only.refl (w.heap.size+1) w7).set 6 (Value.string s7)) (by omega) Hfar.out);have HO7:=hidP (Qa8 (Qap HO6.out o7) ((Only.refl (w.heap.size+1) w7).set 6 (Value.string s7)) (by omega));clear o7 h7 p7 g7 HC6 HO6 Hpx6 Hpr6 d6 f6 q6';go_wp2_with fail;refine(Qea r A cap l ((c7:Int)) hl hcap hcm _ HC7.out).mono ?_;intro e w8 h8;cases hx8:getT l ((c7:Int))with
 |none=>
  have hN:getC l i=none:=by simp[getC,q1,q2,q3,q4,q5,q6,q7,q8,nS,tS,nO,hx1,hx2,hx3,hx4,hx5,hx6,hx7,hx8]
  rw[hx8]at h8;obtain⟨o8,t,v,rfl⟩:=h8;refine⟨rfl,?_⟩;rw[hN];exact⟨Qap HO7.out o8,t,v,rfl⟩
 |some x=>
 obtain⟨s8,c8⟩:=x;rw[hx8]at h8;obtain⟨o8,h8,v,rfl,rfl⟩:=h8;have hle8:=Qds hx8;have p8:Blk w8 (w.heap.size+1) 55 #[Value.int .i64 ((n1:Int) - 1),.int .i64 (n2:Int),.int .i64 (n3:Int),.int .i64 (n4:Int),.int .i64 (n5:Int),.int .i64 (n6:Int),Value.string s7,.string ⟨#[]⟩]:=Hpx7.out.only o8 (by omega);have g8:=Hpr7.out.only o8 (by omega);have d8:w8.cell? ⟨w.heap.size+1,7,none⟩=some (.string ⟨#[]⟩):=p8.cell (i:=7) rfl;have f8:=p8.thaw 7;have q8' :=p8.lt;have e0:w8.cell? ⟨w.heap.size+1,0,none⟩=some (Value.int .i64 ((n1:Int) - 1)):=p8.cell (i:=0) rfl;have e1:w8.cell? ⟨w.heap.size+1,1,none⟩=some (.int .i64 (n2:Int)):=p8.cell (i:=1) rfl;have e2:w8.cell? ⟨w.heap.size+1,2,none⟩=some (.int .i64 (n3:Int)):=p8.cell (i:=2) rfl;have e3:w8.cell? ⟨w.heap.size+1,3,none⟩=some (.int .i64 (n4:Int)):=p8.cell (i:=3) rfl;have e4:w8.cell? ⟨w.heap.size+1,4,none⟩=some (.int .i64 (n5:Int)):=p8.cell (i:=4) rfl;have e5:w8.cell? ⟨w.heap.size+1,5,none⟩=some (.int .i64 (n6:Int)):=p8.cell (i:=5) rfl;have e6:w8.cell? ⟨w.heap.size+1,6,none⟩=some (Value.string s7):=p8.cell (i:=6) rfl;have r0:w8.cell? ⟨w.heap.size,0,none⟩=some (.int .i64 0):=g8.cell (i:=0) rfl;have z0:=g8.thaw 0;have r1:w8.cell? ⟨w.heap.size,1,none⟩=some (.int .i64 0):=g8.cell (i:=1) rfl;have z1:=g8.thaw 1;have r2:w8.cell? ⟨w.heap.size,2,none⟩=some (.int .i64 0):=g8.cell (i:=2) rfl;have z2:=g8.thaw 2;have r3:w8.cell? ⟨w.heap.size,3,none⟩=some (.int .i64 0):=g8.cell (i:=3) rfl;have z3:=g8.thaw 3;have r4:w8.cell? ⟨w.heap.size,4,none⟩=some (.int .i64 0):=g8.cell (i:=4) rfl;have z4:=g8.thaw 4;have r5:w8.cell? ⟨w.heap.size,5,none⟩=some (.int .i64 0):=g8.cell (i:=5) rfl;have z5:=g8.thaw 5;have r6:w8.cell? ⟨w.heap.size,6,none⟩=some (.string ⟨#[]⟩):=g8.cell (i:=6) rfl;have z6:=g8.thaw 6
 have r7:w8.cell? ⟨w.heap.size,7,none⟩=some (.string ⟨#[]⟩):=g8.cell (i:=7) rfl;have z7:=g8.thaw 7;have qr:=g8.lt;have Hpx8:Hid (Blk (w8.setCell ⟨w.heap.size+1,7,none⟩ (.string s8)) (w.heap.size+1) 55 #[Value.int .i64 ((n1:Int) - 1),.int .i64 (n2:Int),.int .i64 (n3:Int),.int .i64 (n4:Int),.int .i64 (n5:Int),.int .i64 (n6:Int),Value.string s7,.string s8]):=hidP (p8.setAt 7 (.string s8));have Hpr8:=hidP (g8.other (show w.heap.size≠w.heap.size+1 by omega) 7 (.string s8));have HC8:=hidP (h8.apart ((Only.refl (w.heap.size+1) w8).set 7 (.string s8)) (by omega) Hfar.out);have HO8:=hidP (Qa8 (Qap HO7.out o8) ((Only.refl (w.heap.size+1) w8).set 7 (.string s8)) (by omega));clear o8 h8 p8 g8 HC7 HO7 Hpx7 Hpr7 d7 f7 q7';have HOz:=hidP (Qa8 (Qa8 (Qa8 (Qa8 (Qa8 (Qa8 (Qa8 (Qa8 (HO8.out) ((Only.refl w.heap.size _).set 0 (Value.int .i64 ((n1:Int) - 1))) (Nat.le_refl _)) ((Only.refl w.heap.size _).set 1 (.int .i64 (n2:Int))) (Nat.le_refl _)) ((Only.refl w.heap.size _).set 2 (.int .i64 (n3:Int))) (Nat.le_refl _)) ((Only.refl w.heap.size _).set 3 (.int .i64 (n4:Int))) (Nat.le_refl _)) ((Only.refl w.heap.size _).set 4 (.int .i64 (n5:Int))) (Nat.le_refl _)) ((Only.refl w.heap.size _).set 5 (.int .i64 (n6:Int))) (Nat.le_refl _)) ((Only.refl w.heap.size _).set 6 (Value.string s7)) (Nat.le_refl _)) ((Only.refl w.heap.size _).set 7 (.string s8)) (Nat.le_refl _))
 have HCz:=hidP (Rd.apart (Rd.apart (Rd.apart (Rd.apart (Rd.apart (Rd.apart (Rd.apart (Rd.apart (HC8.out) ((Only.refl w.heap.size _).set 0 (Value.int .i64 ((n1:Int) - 1))) (by omega) Hfar0.out) ((Only.refl w.heap.size _).set 1 (.int .i64 (n2:Int))) (by omega) Hfar0.out) ((Only.refl w.heap.size _).set 2 (.int .i64 (n3:Int))) (by omega) Hfar0.out) ((Only.refl w.heap.size _).set 3 (.int .i64 (n4:Int))) (by omega) Hfar0.out) ((Only.refl w.heap.size _).set 4 (.int .i64 (n5:Int))) (by omega) Hfar0.out) ((Only.refl w.heap.size _).set 5 (.int .i64 (n6:Int))) (by omega) Hfar0.out) ((Only.refl w.heap.size _).set 6 (Value.string s7)) (by omega) Hfar0.out) ((Only.refl w.heap.size _).set 7 (.string s8)) (by omega) Hfar0.out);have hN:Hid (getC l i=some (⟨(n1:Int) - 1,n2,n3,n4,n5,n6,s7,s8⟩,c8)):=hidP (by simp[getC,cmOf,nV,tV,q1,q2,q3,q4,q5,q6,q7,q8,nS,tS,nO,hx1,hx2,hx3,hx4,hx5,hx6,hx7,hx8]);clear HO8 HC8 Hpx8 Hpr8;go_wp2;refine bodyPost_ret (v:=Cm.v ⟨(n1:Int) - 1,n2,n3,n4,n5,n6,s7,s8⟩) (by simp[results,Tryz.results101,go_sem,Cm.v,r0,r1,r2,r3,r4,r5,r6,r7]) rfl ?_;rw[hN.out];exact⟨HOz.out,HCz.out,_,rfl,rfl⟩
end Go.Proofs.YtajbldnhjpjghaaGreat.Gen
namespace Go.Proofs.YtajbldnhjpjghaaGreat.Items
open ChangeShapes WideShapes ChangeAt RowKit Base
def zeroItem:Value:= .agg Qdy
def zeros (n:Nat):Array Value:=madeCells zeroItem.cells (n*5)
theorem Qma (n:Nat):(zeros n).size=n*5:=size_madeCells _ _
theorem Qgm {w w' :World} {b o n:Nat} (h:w.there b o n) (hb:b<w.heap.size) (hw:Below w.heap.size w w'):w'.there b o n:=fun j hj=>by
 rw[hw.cell (p:=⟨b,o+j,none⟩) hb,hw.frozen (p:=⟨b,o+j,none⟩) hb];exact h j hj
theorem Qfr (w:World) (n:Nat):(w.alloc (.cells (zeros n) 136)).there w.heap.size 0 (n*5):=fun j hj=>by
 have:j<(zeros n).size:=by rw[Qma];exact hj
 simp[this]
theorem In.set {w:World} {b o:Nat} {l:List It} (h:In w b o l) (p:Addr) (v:Value) (hp:p.block≠b):In (w.setCell p v) b o l:=fun j u hu=>by
 rw[World.cell?_setCell_other (h:=fun e=>hp (by rw[e]))];exact h j u hu
theorem Qiy {w:World} {b o n:Nat} (h:w.there b o n) (b' o' :Nat) (v:Value):(w.setCell ⟨b',o',none⟩ v).there b o n:=World.there_setCells h b' o' [v]
def Fresh (B:Nat) (w:World) (v:Value) (l:List It):Prop:=
  ∃(A:Option Addr) (c:Nat),v= .slice A l.length c/\l.length<=c/\(l= []∨∃b o,A=some ⟨b,o,none⟩/\B<=b/\b<w.heap.size/\In w b o l/\w.there b o (l.length*5))
open Joins Deep
instance:Inhabited It:=⟨⟨0,⟨#[]⟩,⟨#[]⟩,0,0⟩⟩
abbrev At (w:World) (A:Option Addr) (l:List It):Prop:=l= []∨∃b o,A=some ⟨b,o,none⟩/\b<w.heap.size/\In w b o l
theorem At.below {w w' :World} {A:Option Addr} {l:List It} (h:At w A l) (hw:Below w.heap.size w w'):At w' A l:=
 h.imp id fun⟨b,o,e,hb,hi⟩=>⟨b,o,e,Nat.lt_of_lt_of_le hb hw.size,hi.below hb hw⟩
def I64 (x:Int):Prop:= -9223372036854775808<=x/\x<=9223372036854775807
theorem Qrf {x:Int} (hx:(Lit.int .i64 x).wf=true):I64 x:=by simpa [I64,Lit.wf,IntKind.min,IntKind.max,IntKind.signed,IntKind.bits]using hx
open Shelf
theorem Qt9:(Tryz.prog.info? 136).map (fun i=>(i.zero,i.size,i.bytes))=some (some (.agg Qdy),5,56):=by kernel_rfl
theorem Qpg (l:List It):∀u∈flat l,u.oneCell' =true:=by
 intro u hu;obtain⟨x,_,hx⟩:=List.mem_flatMap.1 hu;simp[It.cs]at hx;rcases hx with rfl|rfl|rfl|rfl|rfl<;>rfl
theorem Qge {B:Nat} {W:World} {g cap:Nat} {cur:Array Value} {t:TypeId} {l:List It} (h:Blk W g t cur) (hB:B<=g) (hc:l.length<=cap) (hsz:cur.size=cap*5) (ht:cur.toList.take (l.length*5)=flat l):
 Fresh B W (.slice (some ⟨g,0,none⟩) l.length cap) l:=by
 refine⟨_,_,rfl,hc,.inr ⟨g,0,rfl,hB,h.lt,?_,?_⟩⟩
 . intro j v hv;rw[← ht,List.getElem?_take]at hv;split at hv
   . exact(h.cell (i:=0+j) (by simpa using hv))
   . cases hv
 . intro j hj;refine⟨?_,h.thaw _⟩;have hlt:0+j<cur.size:=(by rw[hsz];have:=Nat.mul_le_mul_right 5 hc;omega);rw[h.cell (Array.getElem?_eq_getElem hlt)];rfl
theorem Qf8 (A:Option Addr) (cap:Nat) (w:World):Src Tryz.prog 5 132 (.slice A 0 cap) 0 [] w:=
 ⟨.inl ⟨_,Tryz.underlying132⟩,fun w' =>by cases A<;>rfl,by cases A<;>simp[Builtin.firstCells,loadCells,loadCellsFrom],by cases A<;>simp[Builtin.firstCells,loadCells,loadCellsFrom],rfl,by simp⟩
theorem Qai {P:Program} {w w' :World} {o:Oper} {a:Act} {K:Act->World->Prop} {Q:Exit->Act->World->Prop} (s x:Operand) (t:TypeId)
 (ho:o.op= .call {callee:= .builtin .append,args:= #[s,x],argTypes:= #[t,t]}) (v xv r:Value) (hs:a.eval s=v) (hx:a.eval x=xv)
 (hr:(Builtin.append_ #[t,t] o.type #[v,xv]).run P w= .ok r w') (h:K (a.put o.dst r) w'):o.wp P a w K Q:=by
 unfold Oper.wp execOp;simp only[ho,resolve,invoke,builtin,Sem.run_bind,Sem.run_pure,Result.andThen_ok,List.map_toArray,List.map_cons,List.map_nil,hs,hx,hr];exact h
theorem Qac {P:Program} {w w' :World} {ops:Array Oper} {rest:List Oper} {o:Oper} {a:Act} {Q:Exit->Act->World->Prop} (hgd:o.guard=none) (s x:Operand) (t:TypeId)
 (ho:o.op= .call {callee:= .builtin .append,args:= #[s,x],argTypes:= #[t,t]}) (v xv r:Value) (hs:a.eval s=v) (hx:a.eval x=xv)
 (hr:(Builtin.append_ #[t,t] o.type #[v,xv]).run P w= .ok r w') (h:wpList P ops Q rest (a.put o.dst r) w'):wpList P ops Q (o::rest) a w:=
 wpList_plain hgd fun _ hK=>Qai s x t ho v xv r hs hx hr (hK _ _ h)
theorem Qez {P:Program} {w w' :World} {ops:Array Oper} {o:Oper} {a:Act} {K:Act->World->Prop} {Q:Exit->Act->World->Prop} {E:Prop} (hgd:o.guard=none) (s x:Operand) (t:TypeId)
 (ho:o.op= .call {callee:= .builtin .append,args:= #[s,x],argTypes:= #[t,t]}) (v xv r:Value) (hs:a.eval s=v) (hx:a.eval x=xv)
 (hr:(Builtin.append_ #[t,t] o.type #[v,xv]).run P w= .ok r w') (h:K (a.put o.dst r) w'):if Region.wanted o (yielded ops a.tmps)=true then Oper.wp P o a w K Q else E:=by
 have hw:Region.wanted o (yielded ops a.tmps)=true:=by simp[Region.wanted,hgd]
 rw[if_pos hw];exact Qai s x t ho v xv r hs hx hr h
theorem Qc0 (B:Nat) (v:Value) (l m:List It) (A:Option Addr) (cap:Nat) (w:World) (hB:B<=w.heap.size) (hv:w.ownsRow B 136 5 v l.length (flat l)) (hA:At w A m) (hlen:l.length+m.length<=3000000):
 ∃v' w',(Builtin.append_ #[132,132] 132 #[v,.slice A m.length cap]).run Tryz.prog w= .ok v' w' /\w'.ownsRow B 136 5 v' (l.length+m.length) (flat (l++m))/\w.grownBy w' v.ownBlock/\(v'.ownBlock=v.ownBlock∨v'.ownBlock=some w.heap.size):=by
 obtain⟨i0,hi,hz0,hz1,hz2⟩:=info_parts Qt9;by_cases h0:m= []
 . subst h0;have e0:∃a n c,v= .slice a n c/\n<=c:=by
    rcases hv.2 with⟨rfl,_⟩|⟨g,c,cur,rfl,_,_,h,_⟩
    . exact⟨_,_,_,rfl,Nat.le_refl _⟩
    . exact⟨_,_,_,rfl,h⟩
   obtain⟨a,n,c,rfl,hle⟩:=e0;exact⟨_,_,run_append_nothing w 132 132 132 136 i0 Tryz.underlying132 hi a n c hle _ (hz1▸Qf8 A cap w),by simpa using hv,World.grownBy.refl _ _,.inl rfl⟩
 . obtain⟨b,o,rfl,hb,hin⟩:=hA.resolve_left h0;have hm:0<m.length:=List.length_pos_iff.2 h0;obtain⟨g,c,w',hr,h1,h2,h3,h4⟩:=run_append_lies (P:=Tryz.prog) w 132 132 B 136 i0 _ 5 56 Tryz.underlying132 hi hz0 hz1 hz2 rfl (by omega) v l.length (flat l) hv ⟨b,o,none⟩ m.length cap (flat m) (Qcp m)
    (fun j u hu=>by rw[Addr.add_mid];exact hin j u hu) (Qpg m) hm (by simp[maxLen];omega) (by omega) hB _ rfl
   exact⟨_,_,hr,by rw[Qdd];exact h1,h2,h3.imp (fun e=>by rw[e];rfl) (fun e=>by rw[← e];rfl)⟩
theorem Qay {B:Nat} {W:World} {v:Value} {t:TypeId} {l:List It} (h:W.ownsRow B t 5 v l.length (flat l)):Fresh B W v l:=by
 rcases h.2 with⟨rfl,h0⟩|⟨g,c,cur,rfl,hB,hg,hc,_,hsz,ht⟩
 . have:l= []:=List.length_eq_zero_iff.1 h0;subst this;exact⟨none,0,rfl,Nat.le_refl _,.inl rfl⟩
 . exact Qge (t:=t) hg hB hc hsz ht
theorem Qao {B:Nat} {W:World} {v:Value} {t:TypeId} {k n:Nat} {xs:List Value} (h:W.ownsRow B t k v n xs):∃a c,v= .slice a n c/\n<=c:=by
 rcases h.2 with⟨rfl,rfl⟩|⟨g,c,cur,rfl,hB,hg,hc,_⟩
 . exact⟨none,0,rfl,Nat.le_refl _⟩
 . exact⟨_,_,rfl,hc⟩
theorem Qa9 {B C:Nat} {W:World} {v:Value} {t:TypeId} {k n:Nat} {xs:List Value} (h:W.ownsRow B t k v n xs) (hC:C<B):some C≠v.ownBlock:=by
 rcases h.2 with⟨rfl,rfl⟩|⟨g,c,cur,rfl,hB,_⟩
 . simp[Value.ownBlock]
 . simp[Value.ownBlock];omega
theorem Qam {B C i:Nat} {W:World} {v u:Value} {t:TypeId} {k n:Nat} {xs:List Value} (h:W.ownsRow B t k v n xs) (hne:some C≠v.ownBlock):(W.setCell ⟨C,i,none⟩ u).ownsRow B t k v n xs:=by
 refine⟨h.1,?_⟩;rcases h.2 with⟨rfl,rfl⟩|⟨g,c,cur,rfl,hB,hg,hc,hm,hsz,ht⟩
 . exact .inl ⟨rfl,rfl⟩
 . have hCg:g≠C:=fun e=>hne (by simp[Value.ownBlock,e])
   exact .inr ⟨g,c,cur,rfl,hB,Blk.other (show Blk W g t cur from hg) hCg i u,hc,hm,hsz,ht⟩
end Go.Proofs.YtajbldnhjpjghaaGreat.Items
namespace Go.Proofs.YtajbldnhjpjghaaGreat.Gen
open ChangeShapes WideShapes ChangeAt RowKit Joins Deep Base
structure CB (w W:World) (r:Nat) (A:Option Addr) (cap:Nat) (L:List UInt8) (o:Option Int):Prop where
  cu:CuO W r A cap L o
  only:Only r w W
  lr:r<w.heap.size
  la:L= []∨∀c o,A=some ⟨c,o,none⟩->c<w.heap.size
theorem CB.call {w W W1:World} {r:Nat} {A:Option Addr} {cap:Nat} {L:List UInt8} {o o' :Option Int} (h:CB w W r A cap L o) (k:Only r W W1) (c:CuO W1 r A cap L o'):CB w W1 r A cap L o' :=⟨c,Qap h.only k,h.lr,h.la⟩
theorem CuO.offp {W W' :World} {r:Nat} {A:Option Addr} {cap:Nat} {l:List UInt8} {o:Option Int} {S:Nat->Prop} (h:CuO W r A cap l o) (g:Offp S W W') (hr:¬S r) (hA:l= []∨∀c o,A=some ⟨c,o,none⟩->¬S c):CuO W' r A cap l o:=by
 obtain⟨i,ok,hc⟩:=h;refine⟨i,ok,hc.box.offp g hr,?_,hc.i64,hc.st⟩;rcases hA with h|hA
 . exact .inl h
 . exact hc.src.imp id fun⟨c,o,e,hb,hn,hi⟩=>⟨c,o,e,Nat.lt_of_lt_of_le hb g.size,hn,hi.offp g hb (hA c o e)⟩
theorem CB.offp {w W W1:World} {r:Nat} {A:Option Addr} {cap:Nat} {L:List UInt8} {o:Option Int} {S:Nat->Prop} (h:CB w W r A cap L o) (k:Offp S W W1) (hS:∀x,S x->w.heap.size<=x):CB w W1 r A cap L o:=
 ⟨h.cu.offp k (fun e=>by have:=hS _ e;have:=h.lr;omega) (h.la.imp id fun f c o e e' =>by have:=hS _ e';have:=f c o e;omega),Qcd h.only k hS,h.lr,h.la⟩
theorem CB.below {w W W1:World} {r:Nat} {A:Option Addr} {cap:Nat} {L:List UInt8} {o:Option Int} (h:CB w W r A cap L o) (k:Below W.heap.size W W1):CB w W1 r A cap L o:=h.offp (Offp.of_below (S:=fun _=>False) k) (fun x e=>e.elim)
theorem CB.start {w:World} {r:Nat} {A:Option Addr} {cap:Nat} {L:List UInt8} {o:Option Int} (h:CuO w r A cap L o):CB w w r A cap L o:=⟨h,Only.refl _ _,h.far.1,h.far.2⟩
theorem CB.ok {w W:World} {r:Nat} {A:Option Addr} {cap:Nat} {L:List UInt8} {o:Option Int} (h:CB w W r A cap L o):W.cell? ⟨r,2,none⟩=some (.bool o.isSome)/\r<W.heap.size:=by
 obtain⟨i,ok,hc⟩:=h.cu;have e:ok=o.isSome:=by rw[hc.st];cases ok<;>rfl
 exact⟨e▸hc.box.row3.2.2,hc.box.lt⟩
def gl {α:Type} (l:List UInt8) (get:Int->Option (α × Nat)) (o:Option Int):Option (List α × Nat):=o.bind (Qb0 l get)
section
variable {P:Program} {ops:Array Oper} {Q:Exit->Act->World->Prop} {md:Region.Mode} {S:World->Prop} {z:Nat}
def Qc8 (md:Region.Mode) (ops:Array Oper) (z:Nat):Bool:=
  match ops[z]? with
  |none=>false
  |some o=>(List.range ops.size).all fun j=>j==z||o.after.any fun e=>Region.binds md e&&e.on==j
theorem Qp8 {i:Nat} {L:Array Bool} (hz:Qc8 md ops z=true) (hi:i∈Region.ready md ops L) (hne:i≠z):z∉Region.ready md ops L:=fun h=>by
 obtain⟨hu,oi,hoi,_⟩:=mem_ready.1 hi;obtain⟨_,oz,hoz,hall⟩:=mem_ready.1 h;have hlt:i<ops.size:=(Array.getElem?_eq_some_iff.1 hoi).1;simp only[Qc8,hoz,List.all_eq_true,List.mem_range,Bool.or_eq_true,beq_iff_eq]at hz;have h1:=(hz i hlt).resolve_left hne;obtain⟨e,he,hb⟩:=Array.any_eq_true'.1 h1;simp only[Bool.and_eq_true,beq_iff_eq]at hb;have h2:=hall e he hb.1;rw[hb.2]at h2;rcases Nat.lt_or_ge i L.size with h' |h'
 . simp[h']at hu h2;rw[hu]at h2;cases h2
 . simp[Array.getElem?_eq_none h']at h2
def Qcb (P:Program) (md:Region.Mode) (ops:Array Oper) (Q:Exit->Act->World->Prop) (S:World->Prop) (z:Nat):Nat->Array Bool->Act->World->Prop
  |0,L,a,w=>Region.ready md ops L= []/\Q .normal a w
  |n+1,L,a,w=>(Region.ready md ops L= []->Q .normal a w)/\
    ∀i∈Region.ready md ops L,wpOp P ops Q i (fun a' w' =>(i=z∨S w')/\Qcb P md ops Q S z n (L.setIfInBounds i true) a' w') a w
theorem Qlc (n:Nat):∀(L:Array Bool) (a:Act) (w:World),Qcb P md ops Q S z n L a w->wpAny P md ops Q n L a w:=by
 induction n with
 |zero=>exact fun _ _ _ h=>h
 |succ n ih=>exact fun L a w h=>⟨h.1,fun i hi=>wpOp_mono (fun a' w' g=>ih _ a' w' g.2) (h.2 i hi)⟩
theorem Qna {i:Nat} {oi:Oper} {v:Value} (hz:Qc8 md ops z=true) (hi:ops[i]? =some oi) (hs:Region.noSelect ops=true) (hQ:∀c a w,Q (.panic c) (a.put oi.dst v) w->Q (.panic c) a w) (hiz:i≠z) (n:Nat):
 ∀(L:Array Bool) (a:Act) (w:World),Region.free md ops L i=true->i∈Region.ready md ops L->YieldsIf P ops S oi v a->S w->
  Qcb P md ops Q S z n (L.setIfInBounds i true) (a.put oi.dst v) w->Qcb P md ops Q S z (n+1) L a w:=by
 have sel:∀(j:Nat) (o:Oper) cs b,ops[j]? =some o->o.op≠ .select cs b:=Region.noSelect_spec hs
 suffices key:∀(L:Array Bool) (a:Act) (w:World),(∀j oj,ops[j]? =some oj->j≠i->L.getD j true=false->(∀e∈oj.after,Region.binds md e=true->e.on≠i)->oi.apart ops oj=true)->
  i∈Region.ready md ops L->YieldsIf P ops S oi v a->S w->Qcb P md ops Q S z n (L.setIfInBounds i true) (a.put oi.dst v) w->Qcb P md ops Q S z (n+1) L a w from
  fun L a w hf hr hy hS H=>key L a w (Region.free_spec hi hf) hr hy hS H
 induction n with
 |zero=>
  intro L a w _ hr hy hS H
  constructor
  . intro h;rw[h]at hr;exact absurd hr (List.not_mem_nil)
  . intro j hj;rcases Decidable.em (j=i)with e|e
    . subst e;exact hy.wpOp hi hS ⟨.inr hS,H⟩
    . have g:=ready_mono hj e;rw[H.1]at g;exact absurd g (List.not_mem_nil)
 |succ n ih=>
  intro L a w hfr hr hy hS H
  constructor
  . intro h;rw[h]at hr;exact absurd hr (List.not_mem_nil)
  . intro j hj;rcases Decidable.em (j=i)with e|e
    . subst e;exact hy.wpOp hi hS ⟨.inr hS,H⟩
    . obtain⟨hun,oj,hoj,hwait⟩:=mem_ready.1 hj;have hjz:j≠z:=fun h=>by subst h;exact Qp8 hz hr hiz hj
      have iun:=(mem_ready.1 hr).1;have hno:∀d∈oj.after,Region.binds md d=true->d.on≠i:=fun d hd hb q=>by
       have g:=hwait d hd hb;rw[q]at g;rcases Nat.lt_or_ge i L.size with k|k
       . simp[k]at iun g;rw[iun]at g;cases g
       . simp[Array.getElem?_eq_none k]at g
      have step:=wpOp_putIf hoj (hfr j oj hoj e hun hno) (fun cs b=>sel i oi cs b hi) (fun cs b=>sel j oj cs b hoj) hQ hy (H.2 j (ready_mono hj e));refine wpOp_mono (fun a' w' g=> ?_) step;have hS' :S w' :=g.2.1.resolve_left hjz;refine⟨.inr hS',ih _ a' w' (fun k ok hk hki hu hn=> ?_) (ready_mono hr (Ne.symm e)) g.1 hS' ?_⟩
      . refine hfr k ok hk hki ?_ hn;rcases Decidable.em (j=k)with q|q
        . subst q;exact hun
        . rwa [getD_set_ne true q]at hu
      . have:=g.2.2;rwa [Array.setIfInBounds_comm _ _ (Ne.symm e)]at this
theorem Qhs {i:Nat} {oi:Oper} {v:Value} {n:Nat} {L:Array Bool} {a:Act} {w:World} (hz:Qc8 md ops z=true) (hi:ops[i]? =some oi) (hs:Region.noSelect ops=true) (hiz:i≠z)
 (hf:Region.free md ops L i=true) (hr:(Region.ready md ops L).contains i=true) (hQ:∀c a w,Q (.panic c) (a.put oi.dst v) w->Q (.panic c) a w) (hy:YieldsIf P ops S oi v a) (hS:S w)
 (h:Qcb P md ops Q S z n (L.setIfInBounds i true) (a.put oi.dst v) w):Qcb P md ops Q S z (n+1) L a w:=
 Qna hz hi hs hQ hiz n L a w hf (by simpa using hr) hy hS h
theorem Qa0 {i:Nat} {o:Oper} {n:Nat} {L:Array Bool} {a:Act} {w:World} (hr:Region.ready md ops L= [i]) (ho:ops[i]? =some o)
 (h:∀K' :Act->World->Prop,Shut (∀a w,(i=z∨S w)->Qcb P md ops Q S z n (L.setIfInBounds i true) a w->K' a w)->if Region.wanted o (yielded ops a.tmps)=true then Oper.wp P o a w K' Q else K' (a.put o.dst undef) w):
 Qcb P md ops Q S z (n+1) L a w:=by
 refine⟨fun h0=>(by rw[hr]at h0;cases h0),fun j hj=> ?_⟩;rw[hr]at hj;obtain rfl:j=i:=by simpa using hj
 exact wpOp_step ho (fun K' hK=>h K' (fun a w h1 h2=>hK a w ⟨h1,h2⟩))
theorem Qht {i j:Nat} {o p:Oper} {n:Nat} {L:Array Bool} {a:Act} {w:World} (hr:Region.ready md ops L= [i,j]) (ho:ops[i]? =some o) (hp:ops[j]? =some p)
 (h:∀K' :Act->World->Prop,Shut (∀a w,(i=z∨S w)->Qcb P md ops Q S z n (L.setIfInBounds i true) a w->K' a w)->if Region.wanted o (yielded ops a.tmps)=true then Oper.wp P o a w K' Q else K' (a.put o.dst undef) w)
 (h' :∀K' :Act->World->Prop,Shut (∀a w,(j=z∨S w)->Qcb P md ops Q S z n (L.setIfInBounds j true) a w->K' a w)->if Region.wanted p (yielded ops a.tmps)=true then Oper.wp P p a w K' Q else K' (a.put p.dst undef) w):
 Qcb P md ops Q S z (n+1) L a w:=by
 refine⟨fun h0=>(by rw[hr]at h0;cases h0),fun k hk=> ?_⟩;rw[hr]at hk;rcases List.mem_cons.1 hk with rfl|hk
 . exact wpOp_step ho (fun K' hK=>h K' (fun a w h1 h2=>hK a w ⟨h1,h2⟩))
 . obtain rfl:k=j:=(by simpa using hk);exact wpOp_step hp (fun K' hK=>h' K' (fun a w h1 h2=>hK a w ⟨h1,h2⟩))
theorem Qcl {L:Array Bool} {a:Act} {w:World} (hr:Region.ready md ops L= []) (h:Q .normal a w):∀n,Qcb P md ops Q S z n L a w
 |0=>⟨hr,h⟩
 |_+1=>⟨fun _=>h,by rw[hr];simp⟩
theorem Qby {id:Nat} {a:Act} {w:World} (z:Nat) (S:World->Prop) (hm:P.follows .mixedOrders=true) (h:Qcb P .any ops Q S z ops.size (Array.replicate ops.size false) a w.drew):(Code.region id ops true).wp P Q a w:=
 wp_region_any hm (Qlc _ _ _ _ h)
end
end Go.Proofs.YtajbldnhjpjghaaGreat.Gen
namespace Go.Proofs.YtajbldnhjpjghaaGreat
open Gen
theorem zG {α:Type}:(∀(l:List α) (i:Nat) (h:i<l.toArray.size),l.toArray[i]=l[i]'(by simpa using h))/\(∀(a:α) (l:List α) (i:Nat) (h:i+1<(a::l).length),(a::l)[i+1]=l[i]'(by simpa using h))/\(∀(a:α) (l:List α) (h:0<(a::l).length),(a::l)[0]=a):=⟨fun _ _ _=>rfl,fun _ _ _ _=>rfl,fun _ _ _=>rfl⟩
theorem zY {α:Type}:(∀(l:List α) (i:Nat) (h:i<l.toArray.size),l.toArray[i]=l[i]'(by simpa using h))/\(∀(a:α) (l:List α) (i:Nat) (h:i+1<(a::l).length),(a::l)[i+1]=l[i]'(by simpa using h))/\(∀(a:α) (l:List α) (h:0<(a::l).length),(a::l)[0]=a)/\(∀(l:List α) (i:Nat) (v:α),l.toArray.setIfInBounds i v=(l.set i v).toArray)/\(∀(a v:α) (l:List α),(a::l).set 0 v=v::l)/\(∀(a v:α) (l:List α) (i:Nat),(a::l).set (i+1) v=a::l.set i v):=⟨fun _ _ _=>rfl,fun _ _ _ _=>rfl,fun _ _ _=>rfl,fun _ _ _=>by simp,fun _ _ _=>rfl,fun _ _ _ _=>rfl⟩
theorem zX:(∀(a:Act) (v:Value),a.put none v=a)/\(∀(a:Act) (t:Tmp) (v:Value),a.put (some t) v={a with tmps:=a.tmps.setIfInBounds t v}):=⟨fun _ _=>rfl,fun _ _ _=>rfl⟩
section
variable {P:Program} {md:Region.Mode} {ops:Array Oper} {Q:Go.Exit->Act->World->Prop} {S:World->Prop} {fuel:Nat} {listed:Array Bool} {a:Act} {w:World}
def ZTk (_:List Nat) (P:Program) (md:Region.Mode) (ops:Array Oper) (Q:Go.Exit->Act->World->Prop) (S:World->Prop) (fuel:Nat) (listed:Array Bool) (a:Act) (w:World):Prop:=wpAnyH P md ops Q S fuel listed a w
theorem ztk (is:List Nat) (h:ZTk is P md ops Q S fuel listed a w):wpAnyH P md ops Q S fuel listed a w:=h
theorem zt1 (i:Nat) (h:ZTk [i] P md ops Q S fuel listed a w):wpAnyH P md ops Q S fuel listed a w:=h
theorem zte (h:wpAnyH P md ops Q S fuel listed a w):ZTk [] P md ops Q S fuel listed a w:=h
theorem ztn {i:Nat} {is:List Nat} {oi:Oper} {v:Value} (hi:ops[i]? =some oi:=by rfl) (hw:Region.wanted oi (yielded ops a.tmps)=true:=by rfl) (hy:∀w,S w->(execOp a.eval oi).run P w= .ok (.value v) w:=by(intro w hSw;(try dsimp only at hSw);go_simp<;>with_reducible rfl)) (hS:S w:=by assumption) (hs:Region.noSelect ops=true:=by kernel_rfl) (hf:Region.free md ops listed i=true:=by kernel_rfl) (hr:(Region.ready md ops listed).contains i=true:=by kernel_rfl)
 (hQ:∀c a w,Q (.panic c) (a.put oi.dst v) w->Q (.panic c) a w:=by exact fun _ _ _ h=>h) (h:ZTk is P md ops Q S fuel (listed.setIfInBounds i true) (a.put oi.dst v) w):ZTk (i::is) P md ops Q S (fuel+1) listed a w:=wpAnyH_take hi hs hf hr hQ (.inl ⟨hw,hy⟩) hS h
theorem ztu {i:Nat} {is:List Nat} {oi:Oper} (hi:ops[i]? =some oi:=by rfl) (hw:Region.wanted oi (yielded ops a.tmps)=false:=by rfl) (hS:S w:=by assumption) (hs:Region.noSelect ops=true:=by kernel_rfl) (hf:Region.free md ops listed i=true:=by kernel_rfl) (hr:(Region.ready md ops listed).contains i=true:=by kernel_rfl)
 (hQ:∀c a w,Q (.panic c) (a.put oi.dst undef) w->Q (.panic c) a w:=by exact fun _ _ _ h=>h) (h:ZTk is P md ops Q S fuel (listed.setIfInBounds i true) (a.put oi.dst undef) w):ZTk (i::is) P md ops Q S (fuel+1) listed a w:=wpAnyH_take hi hs hf hr hQ (.inr ⟨hw,rfl⟩) hS h
theorem zR1 (i:Nat) {o:Oper} (h:∀K' :Act->World->Prop,Shut (∀a w,S w->(S w->wpAnyH P md ops Q S fuel (listed.setIfInBounds i true) a w)->K' a w)->if Region.wanted o (yielded ops a.tmps)=true then Oper.wp P o a w K' Q else K' (a.put o.dst undef) w) (ho:ops[i]? =some o:=by rfl) (hr:Region.ready md ops listed= [i]:=by kernel_rfl):wpAnyH P md ops Q S (fuel+1) listed a w:=wpAnyH_ready hr (by simp) (.cons ho h .nil)
theorem zR2 (i j:Nat) {o o2:Oper} (h:∀K' :Act->World->Prop,Shut (∀a w,S w->(S w->wpAnyH P md ops Q S fuel (listed.setIfInBounds i true) a w)->K' a w)->if Region.wanted o (yielded ops a.tmps)=true then Oper.wp P o a w K' Q else K' (a.put o.dst undef) w) (h2:∀K' :Act->World->Prop,Shut (∀a w,S w->(S w->wpAnyH P md ops Q S fuel (listed.setIfInBounds j true) a w)->K' a w)->if Region.wanted o2 (yielded ops a.tmps)=true then Oper.wp P o2 a w K' Q else K' (a.put o2.dst undef) w)
 (ho:ops[i]? =some o:=by rfl) (ho2:ops[j]? =some o2:=by rfl) (hr:Region.ready md ops listed= [i,j]:=by kernel_rfl):wpAnyH P md ops Q S (fuel+1) listed a w:=wpAnyH_ready hr (by simp) (.cons ho h (.cons ho2 h2 .nil))
theorem zR3 (i j k:Nat) {o o2 o3:Oper} (h:∀K' :Act->World->Prop,Shut (∀a w,S w->(S w->wpAnyH P md ops Q S fuel (listed.setIfInBounds i true) a w)->K' a w)->if Region.wanted o (yielded ops a.tmps)=true then Oper.wp P o a w K' Q else K' (a.put o.dst undef) w) (h2:∀K' :Act->World->Prop,Shut (∀a w,S w->(S w->wpAnyH P md ops Q S fuel (listed.setIfInBounds j true) a w)->K' a w)->if Region.wanted o2 (yielded ops a.tmps)=true then Oper.wp P o2 a w K' Q else K' (a.put o2.dst undef) w)
 (h3:∀K' :Act->World->Prop,Shut (∀a w,S w->(S w->wpAnyH P md ops Q S fuel (listed.setIfInBounds k true) a w)->K' a w)->if Region.wanted o3 (yielded ops a.tmps)=true then Oper.wp P o3 a w K' Q else K' (a.put o3.dst undef) w)
 (ho:ops[i]? =some o:=by rfl) (ho2:ops[j]? =some o2:=by rfl) (ho3:ops[k]? =some o3:=by rfl) (hr:Region.ready md ops listed= [i,j,k]:=by kernel_rfl):wpAnyH P md ops Q S (fuel+1) listed a w:=wpAnyH_ready hr (by simp) (.cons ho h (.cons ho2 h2 (.cons ho3 h3 .nil)))
theorem zdn (h:Q .normal a w) (hr:Region.ready md ops listed= []:=by kernel_rfl):wpAnyH P md ops (NoPanic Q) S fuel listed a w:=wpAnyH_done hr (NoPanic.normal h) _
end
section
variable {P:Program} {md:Region.Mode} {ops:Array Oper} {Q:Go.Exit->Act->World->Prop} {S:World->Prop} {z fuel:Nat} {listed:Array Bool} {a:Act} {w:World}
def ZPk (_:List Nat) (P:Program) (md:Region.Mode) (ops:Array Oper) (Q:Go.Exit->Act->World->Prop) (S:World->Prop) (z fuel:Nat) (listed:Array Bool) (a:Act) (w:World):Prop:=Qcb P md ops Q S z fuel listed a w
theorem zpk (is:List Nat) (h:ZPk is P md ops Q S z fuel listed a w):Qcb P md ops Q S z fuel listed a w:=h
theorem zp1 (i:Nat) (h:ZPk [i] P md ops Q S z fuel listed a w):Qcb P md ops Q S z fuel listed a w:=h
theorem zpe (h:Qcb P md ops Q S z fuel listed a w):ZPk [] P md ops Q S z fuel listed a w:=h
theorem zpn {i:Nat} {is:List Nat} {oi:Oper} {v:Value} (hi:ops[i]? =some oi:=by rfl) (hw:Region.wanted oi (yielded ops a.tmps)=true:=by rfl) (hy:∀w,S w->(execOp a.eval oi).run P w= .ok (.value v) w:=by(intro w hSw;(try dsimp only at hSw);go_simp<;>with_reducible rfl)) (hS:S w:=by assumption) (hz:Qc8 md ops z=true:=by kernel_rfl) (hs:Region.noSelect ops=true:=by kernel_rfl) (hiz:i≠z:=by decide) (hf:Region.free md ops listed i=true:=by kernel_rfl) (hr:(Region.ready md ops listed).contains i=true:=by kernel_rfl)
 (hQ:∀c a w,Q (.panic c) (a.put oi.dst v) w->Q (.panic c) a w:=by exact fun _ _ _ h=>h) (h:ZPk is P md ops Q S z fuel (listed.setIfInBounds i true) (a.put oi.dst v) w):ZPk (i::is) P md ops Q S z (fuel+1) listed a w:=Qhs hz hi hs hiz hf hr hQ (.inl ⟨hw,hy⟩) hS h
theorem zpu {i:Nat} {is:List Nat} {oi:Oper} (hi:ops[i]? =some oi:=by rfl) (hw:Region.wanted oi (yielded ops a.tmps)=false:=by rfl) (hS:S w:=by assumption) (hz:Qc8 md ops z=true:=by kernel_rfl) (hs:Region.noSelect ops=true:=by kernel_rfl) (hiz:i≠z:=by decide) (hf:Region.free md ops listed i=true:=by kernel_rfl) (hr:(Region.ready md ops listed).contains i=true:=by kernel_rfl)
 (hQ:∀c a w,Q (.panic c) (a.put oi.dst undef) w->Q (.panic c) a w:=by exact fun _ _ _ h=>h) (h:ZPk is P md ops Q S z fuel (listed.setIfInBounds i true) (a.put oi.dst undef) w):ZPk (i::is) P md ops Q S z (fuel+1) listed a w:=Qhs hz hi hs hiz hf hr hQ (.inr ⟨hw,rfl⟩) hS h
end
end Go.Proofs.YtajbldnhjpjghaaGreat
namespace Go.Proofs.YtajbldnhjpjghaaGreat.Gen
open ChangeShapes WideShapes ChangeAt RowKit Joins Deep Base
structure By where
  n:Int
instance:Inhabited By:=⟨⟨0⟩⟩
instance:Cel By where
  k:=1
  cs x:= [.int .u8 x.n]
  len _:=rfl
  one x u hu:=by simp at hu;subst hu;rfl
def By.right (x:By):Prop:=0<=x.n/\x.n<=255
theorem In.getBy {w:World} {b o:Nat} {l:List By} (h:In w b o l) (i:Nat) (hi:i<l.length):w.cell? ⟨b,o+i,none⟩=some (.int .u8 l[i].n):=by
 have:=h.cell i hi (f:=0) rfl;rwa [show(Cel.k By)=1 from rfl,Nat.mul_one,Nat.add_zero]at this
structure Drawn (W:World) (C:Nat) (A:Option Addr) (cap:Nat) (l:List By):Prop where
  cur:∃(i:Nat) (h:Int),i<=l.length/\Blk W C 80 (Qf3 A l.length cap (i:Int) h)
  code:l= []∨∃b o,A=some ⟨b,o,none⟩/\b<C/\In W b o l
  len:l.length<=1048576
  byte:∀x∈l,x.right
theorem Drawn.lt {W:World} {C cap:Nat} {A:Option Addr} {l:List By} (h:Drawn W C A cap l):C<W.heap.size:=by
 obtain⟨i,x,_,hb⟩:=h.cur;exact hb.lt
theorem Drawn.below {W W' :World} {C cap:Nat} {A:Option Addr} {l:List By} (h:Drawn W C A cap l) (g:Below W.heap.size W W'):Drawn W' C A cap l:=by
 have hlt:=h.lt;refine⟨?_,h.code.imp id fun⟨b,o,e,hb,hi⟩=>⟨b,o,e,hb,hi.below (by omega) g⟩,h.len,h.byte⟩;obtain⟨i,x,hi,hb⟩:=h.cur;exact⟨i,x,hi,hb.below g hb.lt⟩
theorem Drawn.only {W W' :World} {C cap c:Nat} {A:Option Addr} {l:List By} (h:Drawn W C A cap l) (k:Only c W W') (hc:C<c):Drawn W' C A cap l:=by
 have hlt:=h.lt;refine⟨?_,h.code.imp id fun⟨b,o,e,hb,hi⟩=>⟨b,o,e,hb,hi.only k (by omega) (by omega)⟩,h.len,h.byte⟩;obtain⟨i,x,hi,hb⟩:=h.cur;exact⟨i,x,hi,hb.only k (by omega)⟩
theorem Only.trans {c:Nat} {a b d:World} (h:Only c a b) (k:Only c b d):Only c a d:=
 ⟨k.os.trans h.os,k.tape.trans h.tape,k.output.trans h.output,Nat.le_trans h.size k.size,fun i hi hb=>(k.block i (Nat.lt_of_lt_of_le hi h.size) hb).trans (h.block i hi hb)⟩
theorem Only.of_below {c:Nat} {a b:World} (h:Below a.heap.size a b):Only c a b:=(Only.refl c a).below h
theorem Only.drew {c:Nat} {a b:World} (h:Only c a b):Only c a b.drew:=⟨h.os,h.tape,h.output,h.size,h.block⟩
theorem Qrk (x:Int):0<=bits .and .i64 x 255/\bits .and .i64 x 255<=255:=by
 have h:(BitVec.ofInt 64 x&&& BitVec.ofInt 64 255).toNat<=255:=by rw[BitVec.toNat_and];exact Nat.le_trans Nat.and_le_right (by decide)
 show 0<=IntKind.i64.wrap (((BitVec.ofInt 64 x&&& BitVec.ofInt 64 255).toNat:Nat):Int)/\IntKind.i64.wrap (((BitVec.ofInt 64 x&&& BitVec.ofInt 64 255).toNat:Nat):Int)<=255;generalize (BitVec.ofInt 64 x&&& BitVec.ofInt 64 255).toNat=m at*;rw[IntKind.wrap_i64];omega
theorem Qfo (C:Nat) (A:Option Addr) (cap:Nat) (l:List By) (w:World) (hD:Drawn w C A cap l):
 Calls Tryz.prog 73 #[.pointer (some ⟨C,0,none⟩)] w fun e w' =>∃x:Int,e= .returned (.int .i64 x)/\0<=x/\x<=255/\Only C w w' /\Drawn w' C A cap l:=by
 obtain⟨⟨i,h,hi,p⟩,hcode,hlen,hby⟩:=hD;have Hcode:=hidP hcode;have Hby:=hidP hby;clear hcode hby;obtain⟨c0,c1,c2⟩:=p.row3;have f1:=p.thaw 1;have f2:=p.thaw 2;go_enter Tryz.func73,Tryz.ntmps73;go_wp2_with fail;have P1:Blk _ C 80 (Qf3 A l.length cap (i:Int) (wrap64 (wrap64 (h*6364136223846793005)+1442695040888963407))):=p.setAt 2 (.int .i64 (wrap64 (wrap64 (h*6364136223846793005)+1442695040888963407)));have O1:=hidP ((Only.refl C w).set 2 (.int .i64 (wrap64 (wrap64 (h*6364136223846793005)+1442695040888963407))));have C1:Hid (l= []∨∃b o,A=some ⟨b,o,none⟩/\b<C/\In (w.setCell ⟨C,2,none⟩ (.int .i64 (wrap64 (wrap64 (h*6364136223846793005)+1442695040888963407)))) b o l):=Hcode.out.imp id fun⟨b,o,e,hb,hi⟩=>⟨b,o,e,hb,hi.set ⟨C,2,none⟩ _ (Nat.ne_of_gt hb)⟩
 generalize wrap64 (wrap64 (h*6364136223846793005)+1442695040888963407)=h' at*;generalize w.setCell ⟨C,2,none⟩ (.int .i64 h')=W1 at*;clear c0 c1 c2 f1 f2 p Hcode;obtain⟨c0,c1,c2⟩:=P1.row3;have f1:=P1.thaw 1;have hq:=P1.lt
 go_region_held3 (fun w' =>w'.cell? ⟨C,0,none⟩=some (.slice A l.length cap)/\w'.cell? ⟨C,1,none⟩=some (.int .i64 (i:Int))/\w'.cell? ⟨C,2,none⟩=some (.int .i64 h')) (first|exact⟨c0,c1,c2⟩|go_keep) (fail)
 obtain⟨x,hx⟩:∃x,x=bits BinOp.and IntKind.i64 (bits BinOp.xor IntKind.i64 (h' / 8589934592) (h' / 35184372088832)) 255:=⟨_,rfl⟩
 have hx0:=Qrk (bits BinOp.xor IntKind.i64 (h' / 8589934592) (h' / 35184372088832));rw[← hx]at hx0;rw[← hx];clear hx;go_wp2_with fail;have hi0:(0:Int)<=(i:Int):=by omega
 by_cases hlt:i<l.length
 . have hi1:(i:Int)<(l.length:Int):=(by omega);obtain⟨b,o,rfl,hb,hin⟩:∃b o,A=some ⟨b,o,none⟩/\b<C/\In W1 b o l:=C1.out.resolve_left (fun h=>by rw[h]at hlt;simp at hlt);have cx:=hin.getBy i hlt;have hby:=Hby.out l[i] (List.getElem_mem hlt);obtain⟨hb0,hb1⟩:=hby;generalize hy:l[i].n=y at*;clear hy
   go_region_held3 (fun w' =>w'.cell? ⟨C,0,none⟩=some (.slice (some ⟨b,o,none⟩) l.length cap)/\w'.cell? ⟨C,1,none⟩=some (.int .i64 (i:Int))/\w'.cell? ⟨C,2,none⟩=some (.int .i64 h')) (first|exact⟨c0,c1,c2⟩|go_keep) (fail)
   go_wp2_with fail
   go_region_held3 (fun w' =>w'.cell? ⟨C,0,none⟩=some (.slice (some ⟨b,o,none⟩) l.length cap)/\w'.cell? ⟨C,1,none⟩=some (.int .i64 (i:Int))/\w'.cell? ⟨C,2,none⟩=some (.int .i64 h')/\w'.cell? ⟨b,o+i,none⟩=some (.int .u8 y)) (first|exact⟨c0,c1,c2,cx⟩|go_keep) (fail)
   have hx1:=Qrk (IntKind.i64.wrap (x+IntKind.i64.wrap y));generalize bits BinOp.and IntKind.i64 (IntKind.i64.wrap (x+IntKind.i64.wrap y)) 255=x1 at*;have P2:=P1.drew.drew.drew;have O2:Hid (Only C w W1.drew.drew.drew):=O1.out.drew.drew.drew;have C2:Hid (l= []∨∃b' o',some (⟨b,o,none⟩:Addr)=some ⟨b',o',none⟩/\b' <C/\In W1.drew.drew.drew b' o' l):=C1.out;generalize W1.drew.drew.drew=W2 at*;clear c0 c1 c2 f1 cx hin;obtain⟨c0,c1,c2⟩:=P2.row3;have f1:=P2.thaw 1;have hi2:(i:Int)<=1048576:=(by omega);go_wp2;go_ret;have P3:Blk _ C 80 (Qf3 (some ⟨b,o,none⟩) l.length cap ((i+1:Nat):Int) h'):=P2.setAt 1 (.int .i64 ((i+1:Nat):Int));exact⟨x1,rfl,hx1.1,hx1.2,O2.out.set _ _,⟨i+1,h',by omega,P3⟩,C2.out.imp id fun⟨b',o',e,hb',hi'⟩=>⟨b',o',e,hb',hi'.set ⟨C,1,none⟩ _ (Nat.ne_of_gt hb')⟩,hlen,Hby.out⟩
 . go_region_held3 (fun w' =>w'.cell? ⟨C,0,none⟩=some (.slice A l.length cap)/\w'.cell? ⟨C,1,none⟩=some (.int .i64 (i:Int))/\w'.cell? ⟨C,2,none⟩=some (.int .i64 h')) (first|exact⟨c0,c1,c2⟩|go_keep) (fail)
   go_wp2;go_ret;exact⟨x,rfl,hx0.1,hx0.2,O1.out.drew.drew,⟨i,h',hi,P1.drew.drew⟩,C1.out,hlen,Hby.out⟩
theorem Qa3 (C:Nat) (A:Option Addr) (cap:Nat) (l:List By) (n:Int) (h1:1<=n) (h2:n<=256) (w:World) (hD:Drawn w C A cap l):
 Calls Tryz.prog 46 #[.pointer (some ⟨C,0,none⟩),.int .i64 n] w fun e w' =>∃x:Int,e= .returned (.int .i64 x)/\0<=x/\x<n/\Only C w w' /\Drawn w' C A cap l:=by
 have HD:=hidP hD;clear hD;have hn:¬n<=0:=by omega
 have hz:¬n=0:=by omega
 go_enter Tryz.func46,Tryz.ntmps46;go_wp2_with fail;refine(Qfo C A cap l _ HD.out).mono ?_;rintro e w1 ⟨x,rfl,hx0,hx1,k1,d1⟩;have hm0:0<=x % n:=Int.emod_nonneg _ hz;have hm1:x % n<n:=Int.emod_lt_of_pos _ (by omega);have hk:=hidP k1;have hd:=hidP d1;clear k1 d1;go_wp2;go_ret;exact⟨x % n,rfl,hm0,hm1,hk.out,hd.out⟩
theorem Qic (C:Nat) (A:Option Addr) (cap:Nat) (l:List By) (n:Int) (h1:1<=n) (h2:n<=256) (w:World) (hD:Drawn w C A cap l):
 Calls Tryz.prog 56 #[.pointer (some ⟨C,0,none⟩),.int .i64 n] w fun e w' =>∃x:Bool,e= .returned (.bool x)/\Only C w w' /\Drawn w' C A cap l:=by
 have HD:=hidP hD;clear hD;go_enter Tryz.func56,Tryz.ntmps56;go_wp2_with fail;refine(Qa3 C A cap l n h1 h2 _ HD.out).mono ?_;rintro e w1 ⟨x,rfl,hx0,hx1,k1,d1⟩;have hk:=hidP k1;have hd:=hidP d1;clear k1 d1;go_wp2;go_ret;exact⟨_,rfl,hk.out,hd.out⟩
structure Nu where
  n:Int
instance:Inhabited Nu:=⟨⟨0⟩⟩
instance:Cel Nu where
  k:=1
  cs x:= [.int .i64 x.n]
  len _:=rfl
  one x u hu:=by simp at hu;subst hu;rfl
theorem In.getNu {w:World} {b o:Nat} {l:List Nu} (h:In w b o l) (i:Nat) (hi:i<l.length):w.cell? ⟨b,o+i,none⟩=some (.int .i64 l[i].n):=by
 have:=h.cell i hi (f:=0) rfl;rwa [show(Cel.k Nu)=1 from rfl,Nat.mul_one,Nat.add_zero]at this
theorem Qb6 (C:Nat) (A:Option Addr) (cap:Nat) (l:List By) (b o c:Nat) (ns:List Nu) (h1:1<=ns.length) (h2:ns.length<=256) (w:World) (hD:Drawn w C A cap l) (hb:b<w.heap.size) (hbC:b≠C) (hin:In w b o ns):
 Calls Tryz.prog 40 #[.pointer (some ⟨C,0,none⟩),.slice (some ⟨b,o,none⟩) ns.length c] w fun e w' =>∃x∈ns,e= .returned (.int .i64 x.n)/\Only C w w' /\Drawn w' C A cap l:=by
 have HD:=hidP hD;have Hin:=hidP hin;clear hD hin;go_enter Tryz.func40,Tryz.ntmps40;go_wp2_with fail;refine(Qa3 C A cap l ns.length (by omega) (by omega) _ HD.out).mono ?_;rintro e w1 ⟨x,rfl,hx0,hx1,k1,d1⟩;obtain⟨j,rfl⟩:∃j:Nat,x=(j:Int):=⟨x.toNat,by omega⟩
 have hj:j<ns.length:=by omega
 have cx:=(Hin.out.only k1 hb hbC).getNu j hj;have hk:=hidP k1;have hd:=hidP d1;clear k1 d1;go_wp2;go_ret;exact⟨ns[j],List.getElem_mem hj,rfl,hk.out,hd.out⟩
theorem Qie (A:Option Addr) (cap:Nat) (l:List By) (hl:l.length<=1048576) (hby:∀x∈l,x.right) (w:World) (hA:At w A l):
 Calls Tryz.prog 20 #[.slice A l.length cap] w fun e w' =>∃C,e= .returned (.pointer (some ⟨C,0,none⟩))/\w.heap.size<=C/\Below w.heap.size w w' /\Drawn w' C A cap l:=by
 have HA:=hidP hA;have Hby:=hidP hby;clear hA hby;go_enter Tryz.func20,Tryz.ntmps20;go_wp2
 go_loopw [3,4] (fun h i w' =>∃(x:Int) (n:Nat),h= .int .i64 x/\i= .int .i64 (n:Int)/\n<=l.length/\n<=4000/\w' =w) (fun _ i _=>4000 - (intOf i).toNat)
 case atStart=>exact⟨_,0,rfl,rfl,by omega,by omega,rfl⟩
 case round=>
  obtain⟨x,n,rfl,rfl,hn,hn',rfl⟩:=hrel;have fin:∀y:Int,Hid (Drawn (wr.alloc (.cells (Qf3 A l.length cap 0 y) 80)) wr.heap.size A cap l):=fun y=>
   ⟨⟨0,y,Nat.zero_le _,Blk.new wr _ _⟩,HA.out.imp id fun⟨b,o,e,hb,hi⟩=>⟨b,o,e,hb,hi.below hb (Qad (Below.refl _ _) _)⟩,hl,Hby.out⟩
  have Fin:=hidP fin;clear fin;by_cases hc:n<l.length/\n<4000
  . obtain⟨h1,h2⟩:=hc;obtain⟨b,o,rfl,hb,hin⟩:∃b o,A=some ⟨b,o,none⟩/\b<wr.heap.size/\In wr b o l:=HA.out.resolve_left (fun h=>by rw[h]at h1;simp at h1);have cx:=hin.getBy n h1;have hi0:(0:Int)<=(n:Int):=(by omega);have hi1:(n:Int)<(l.length:Int):=(by omega);have hi2:(n:Int)<4000:=(by omega);go_wp2;exact⟨⟨_,n+1,rfl,by go_num,by omega,by omega,by first|trivial|rfl⟩,by simp[intOf];omega⟩
  . by_cases h1:n<l.length
    . have h2:¬n<4000:=fun h=>hc ⟨h1,h⟩
      have hi1:(n:Int)<(l.length:Int):=(by omega);have hi2:¬(n:Int)<4000:=(by omega);go_wp2;go_ret;exact⟨_,rfl,Nat.le_refl _,Qad (Below.refl _ _) _,(Fin.out _).out⟩
    . have hi1:¬(n:Int)<(l.length:Int):=(by omega);go_wp2;go_ret;exact⟨_,rfl,Nat.le_refl _,Qad (Below.refl _ _) _,(Fin.out _).out⟩
structure St where
  s:ByteArray
instance:Inhabited St:=⟨⟨⟨#[]⟩⟩⟩
instance:Cel St where
  k:=1
  cs x:= [.string x.s]
  len _:=rfl
  one x u hu:=by simp at hu;subst hu;rfl
theorem In.getSt {w:World} {b o:Nat} {l:List St} (h:In w b o l) (i:Nat) (hi:i<l.length):w.cell? ⟨b,o+i,none⟩=some (.string l[i].s):=by
 have:=h.cell i hi (f:=0) rfl;rwa [show(Cel.k St)=1 from rfl,Nat.mul_one,Nat.add_zero]at this
theorem Qje (C:Nat) (A:Option Addr) (cap:Nat) (l:List By) (b o c:Nat) (ns:List St) (h1:1<=ns.length) (h2:ns.length<=256) (w:World) (hD:Drawn w C A cap l) (hb:b<w.heap.size) (hbC:b≠C) (hin:In w b o ns):
 Calls Tryz.prog 74 #[.pointer (some ⟨C,0,none⟩),.slice (some ⟨b,o,none⟩) ns.length c] w fun e w' =>∃x∈ns,e= .returned (.string x.s)/\Only C w w' /\Drawn w' C A cap l:=by
 have HD:=hidP hD;have Hin:=hidP hin;clear hD hin;go_enter Tryz.func74,Tryz.ntmps74;go_wp2_with fail;refine(Qa3 C A cap l ns.length (by omega) (by omega) _ HD.out).mono ?_;rintro e w1 ⟨x,rfl,hx0,hx1,k1,d1⟩;obtain⟨j,rfl⟩:∃j:Nat,x=(j:Int):=⟨x.toNat,by omega⟩
 have hj:j<ns.length:=by omega
 have cx:=(Hin.out.only k1 hb hbC).getSt j hj;have hk:=hidP k1;have hd:=hidP d1;clear k1 d1;go_wp2;go_ret;exact⟨ns[j],List.getElem_mem hj,rfl,hk.out,hd.out⟩
def five:List St:= [⟨⟨#[]⟩⟩,⟨⟨#[97]⟩⟩,⟨⟨#[98]⟩⟩,⟨⟨#[107,32,49]⟩⟩,⟨⟨#[116,101,120,116]⟩⟩]
theorem Qm1:∀x∈five,Items.textB x.s=true/\x.s.size<=30:=by
 intro x hx;simp only[five,List.mem_cons,List.not_mem_nil,or_false]at hx;rcases hx with rfl|rfl|rfl|rfl|rfl<;>exact⟨by decide+kernel,by decide⟩
theorem Qlh (C:Nat) (A:Option Addr) (cap:Nat) (l:List By) (w:World) (hD:Drawn w C A cap l):
 Calls Tryz.prog 93 #[.pointer (some ⟨C,0,none⟩)] w fun e w' =>∃k:ByteArray,e= .returned (.string k)/\Items.textB k=true/\k.size<=30/\Only C w w' /\Drawn w' C A cap l:=by
 have HD:=hidP hD;have hC:=hD.lt;clear hD;have bx:=Blk.new w 9 (Qos ⟨#[]⟩ ⟨#[97]⟩ ⟨#[98]⟩ ⟨#[107,32,49]⟩ ⟨#[116,101,120,116]⟩);have hin:In (w.alloc (.cells (Qos ⟨#[]⟩ ⟨#[97]⟩ ⟨#[98]⟩ ⟨#[107,32,49]⟩ ⟨#[116,101,120,116]⟩) 9)) w.heap.size 0 five:=fun j u hu=>bx.cell (i:=0+j) (by simpa [flat,Cel.cs,five]using hu)
 have Hin:=hidP hin;clear hin bx;go_enter Tryz.func93,Tryz.ntmps93;go_wp2_with fail;refine(Qje C A cap l w.heap.size 0 5 five (by decide) (by decide) _ (HD.out.below (Qad (Below.refl _ _) _)) (by simp) (by omega) Hin.out).mono ?_;rintro e w1 ⟨x,hx,rfl,k1,d1⟩;have hk:=hidP ((Only.of_below (c:=C) (Qad (Below.refl _ w) _)).trans k1);have hd:=hidP d1;have hr:=hidP (Qm1 x hx);clear k1 d1;go_wp2;go_ret;exact⟨x.s,rfl,hr.out.1,hr.out.2,hk.out,hd.out⟩
end Go.Proofs.YtajbldnhjpjghaaGreat.Gen
