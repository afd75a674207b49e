/-
  The specification's body of a note. Condition: the note is right.
-/
import Derived.Test.YtajbldnhjpjghaaGreatDoorNOk
import Derived.Stop.Asserts
set_option linter.unusedVariables false
set_option linter.unusedSimpArgs false
set_option maxRecDepth 100000
set_option maxHeartbeats 8000000
set_option maxRecDepth 100000
set_option maxHeartbeats 8000000
namespace Go.Proofs.YtajbldnhjpjghaaGreatDoor.Gen
open ChangeShapes WideShapes ChangeAt RowKit Joins Deep Base
theorem via0' {w W0 W:World} (B0:Below w.heap.size w W0) (h:Below W0.heap.size W0 W):Below w.heap.size w W:=via0 h B0
structure NtR (kind term vote prev:Int) (l:List En) (snap:ByteArray):Prop where
  k:1<=kind/\kind<=3
  t:0<=term/\term<=300
  v: -1<=vote/\vote<=4
  p:0<=prev/\prev<=300
  len:l.length<=40
  ok:∀x∈l,enF x=true
  en:∀x∈l,EnR x
  s:snap.size<=30000
theorem Qd2 {kind term vote prev:Int} {l:List En} {snap:ByteArray} (h:Qee kind term vote prev l snap=true):NtR kind term vote prev l snap:=by
 unfold Qee at h;simp only[Bool.and_eq_true,decide_eq_true_eq]at h;obtain⟨⟨⟨⟨⟨⟨h0,h1⟩,h2⟩,h3⟩,h4⟩,h5⟩,h6⟩:=h;have hk:1<=kind/\kind<=3:=by
  unfold ownB at h0;split at h0
  . omega
  . split at h0
    . omega
    . split at h0
      . omega
      . cases h0
 have hall:∀x∈l,entF x=true:=List.all_eq_true.1 h5;have hok:∀x∈l,enF x=true:=fun x hx=>by have:=hall x hx;unfold entF at this;simp only[Bool.and_eq_true]at this;exact this.2
 have hte:∀x∈l,0<=x.term/\x.term<=300:=fun x hx=>by have:=hall x hx;unfold entF at this;simp only[Bool.and_eq_true]at this;exact in_le this.1
 exact⟨hk,in_le h1,in_le h2,in_le h3,h4,hok,fun x hx=>⟨⟨(hte x hx).1,by have:=(hte x hx).2;omega⟩,Qgz (hok x hx)⟩,h6⟩
theorem l9Body_any (kind term vote prev:Int) (snap:ByteArray) (A:Option Addr) (cap:Nat) (l:List En) (hR:NtR kind term vote prev l snap) (hr:∀x∈l,x.fit) (w:World) (hA:At w A l):
 Calls Tryz.prog 52 #[.agg (Qai kind term vote prev A l.length cap snap)] w fun e w' =>∃a c,e= .returned (.slice a (Qco kind term vote prev l snap).length c)/\Below w.heap.size w w' /\w'.ownsRow w.heap.size 5 1 (.slice a (Qco kind term vote prev l snap).length c) (Qco kind term vote prev l snap).length (flat (Qco kind term vote prev l snap)):=by
 obtain⟨k0,t0,v0,p0,hl,hok,hen,hs⟩:=hR;have B0:Hid (Below w.heap.size w (w.alloc (.cells (Qai kind term vote prev A l.length cap snap) 31))):=Qad (Below.refl _ _) _;have P0:Blk (w.alloc (.cells (Qai kind term vote prev A l.length cap snap) 31)) w.heap.size 31 (Qai kind term vote prev A l.length cap snap):=Blk.new w 31 (Qai kind term vote prev A l.length cap snap);have HA:=hidP (hA.below B0.out);have HR:=hidP hok;have HE:=hidP hen;have HF:=hidP hr;clear hA hok hen hr;go_enter Tryz.func52,Tryz.ntmps52;go_wp2_with fail;generalize w.alloc (.cells (Qai kind term vote prev A l.length cap snap) 31)=W0 at*;have SS:∀W:World,Below W0.heap.size W0 W->(fun(W:World)=>W.cell? ⟨w.heap.size,0,none⟩=some (.int .i64 kind)/\W.cell? ⟨w.heap.size,1,none⟩=some (.int .i64 term)) W:=fun W g=>⟨(P0.below g P0.lt).cell (i:=0) rfl,(P0.below g P0.lt).cell (i:=1) rfl⟩
 have S0:=SS W0.drew (Below.drew (Below.refl _ _));refine wp_region_noPanic ?_;refine wp_region_held_drew (S:=(fun(W:World)=>W.cell? ⟨w.heap.size,0,none⟩=some (.int .i64 kind)/\W.cell? ⟨w.heap.size,1,none⟩=some (.int .i64 term))) (by kernel_rfl) ?_ (fun hH=> ?_)
 . exact S0
 refine ztk [0,1,3,4] ?_;repeat(refine ztn (h:= ?_);try simp only[zX,zY])
 refine zte ?_;refine zR1 2 (fun K hK=> ?_);simp only[zG];go_simp;refine(Qa4 kind _).mono ?_;rintro e w1 ⟨a1,c1,rfl,g1,o1⟩;have G1:Below W0.heap.size W0 w1:=via0 g1 (Below.drew (Below.refl _ _));have S1:=SS w1 G1;refine hK.out _ _ S1 fun hH=> ?_;clear hK K;try simp only[zX,zY]
 refine zR1 5 (fun K hK=> ?_);simp only[zG];go_simp;refine(Qa4 term _).mono ?_;rintro e w2 ⟨a2,c2,rfl,g2,o2⟩;have G2:Below W0.heap.size W0 w2:=via0 g2 G1;have OX:Hid (w2.ownsRow W0.heap.size 5 1 (.slice a1 (numI kind).length c1) (numI kind).length (flat (numI kind))):=hidP (Qar o1 g2);have AY:Hid (At w2 a2 (numI term)):=hidP (Qa0 o2).at;obtain⟨a3,c3,w3,hr,own3,hg3⟩:=Qcr (c' :=c2) G2.size OX.out AY.out (by have:=Qbl kind;have:=Qbl term;omega);obtain⟨X2,hX2⟩:∃X2,numI kind++numI term=X2:=⟨_,rfl⟩;rw[hX2]at hr own3;have G3:Below W0.heap.size W0 w3:=G2.grown hg3 G2.size (fun j e=>Nat.le_of_not_lt fun q=>Qa6 OX.out q e.symm);have J3:=hidP (Jo.mk G3 own3);have S2:=SS w2 G2;have S3:=SS w3 G3;clear own3 hg3;refine hK.out _ _ S2 fun hH=> ?_;clear hK K;try simp only[zX,zY]
 refine zR1 6 (fun K hK=> ?_);simp only[zG];rw[if_pos (by rfl)];refine Qag _ _ _ (by rfl) _ _ _ (by rfl) (by rfl) hr ?_;refine hK.out _ _ S3 fun hH=> ?_;clear hK K;try simp only[zX,zY]
 refine zt1 7 ?_;refine ztn (h:= ?_);try simp only[zX,zY]
 refine zte ?_;refine zdn ?_;have L2:Hid (X2.length<=10):=by show _<=_;rw[← hX2,List.length_append];have:=Qbl kind;have:=Qbl term;omega
 have E2:=hidP hX2;clear hX2 hr OX AY G1 G2 G3 g1 g2 o1 o2 S1 S2 S3 S0 SS;have d2:w3.cell? ⟨w.heap.size,2,none⟩=some (Value.int .i64 vote):=(P0.below J3.out.bl P0.lt).cell (i:=2) rfl;have qb:w.heap.size<w3.heap.size:=Nat.lt_of_lt_of_le P0.lt J3.out.bl.size;go_wp2_with fail;refine(Qa4 (vote+1) _).mono ?_;rintro e w4 ⟨a4,c4,rfl,g4,o4⟩;obtain⟨a5,c5,w5,hr,K5,_⟩:=J3.out.app (c1:=c4) g4 (Qa0 o4).at (by have:=L2.out;have:=Qbl (vote+1);omega);obtain⟨X3,hX3⟩:∃X3,X2++numI (vote+1)=X3:=⟨_,rfl⟩
 rw[hX3]at hr K5;have L3:Hid (X3.length<=15):=by show _<=_;rw[← hX3,List.length_append];have:=L2.out;have:=Qbl (vote+1);omega
 have E3:=hidP hX3;have J5:=hidP K5;clear hX3 K5 g4 o4 J3 d2 qb L2;have d3:w5.cell? ⟨w.heap.size,3,none⟩=some (Value.int .i64 prev):=(P0.below J5.out.bl P0.lt).cell (i:=3) rfl;have qb:w.heap.size<w5.heap.size:=Nat.lt_of_lt_of_le P0.lt J5.out.bl.size;go_wp2_with (at_builtin;refine Qac rfl _ _ _ rfl _ _ _ rfl rfl hr ?_);refine(Qa4 prev _).mono ?_;clear hr;rintro e w6 ⟨a6,c6,rfl,g6,o6⟩;obtain⟨a7,c7,w7,hr,K7,_⟩:=J5.out.app (c1:=c6) g6 (Qa0 o6).at (by have:=L3.out;have:=Qbl prev;omega);obtain⟨X4,hX4⟩:∃X4,X3++numI prev=X4:=⟨_,rfl⟩
 rw[hX4]at hr K7;have L4:Hid (X4.length<=20):=by show _<=_;rw[← hX4,List.length_append];have:=L3.out;have:=Qbl prev;omega
 have E4:=hidP hX4;have J7:=hidP K7;clear hX4 K7 g6 o6 J5 d3 qb L3;have d4:w7.cell? ⟨w.heap.size,4,none⟩=some (Value.slice A l.length cap):=(P0.below J7.out.bl P0.lt).cell (i:=4) rfl;have qb:w.heap.size<w7.heap.size:=Nat.lt_of_lt_of_le P0.lt J7.out.bl.size;go_wp2_with (at_builtin;refine Qac rfl _ _ _ rfl _ _ _ rfl rfl hr ?_);refine(Qa4 (l.length:Int) _).mono ?_;clear hr;rintro e w8 ⟨a8,c8,rfl,g8,o8⟩;obtain⟨a9,c9,w9,hr,K9,_⟩:=J7.out.app (c1:=c8) g8 (Qa0 o8).at (by have:=L4.out;have:=Qbl (l.length:Int);omega);obtain⟨X5,hX5⟩:∃X5,X4++numI (l.length:Int)=X5:=⟨_,rfl⟩
 rw[hX5]at hr K9;have L5:Hid (X5.length<=25):=by show _<=_;rw[← hX5,List.length_append];have:=L4.out;have:=Qbl (l.length:Int);omega
 have E5:=hidP hX5;have J9:=hidP K9;clear hX5 K9 g8 o8 J7 d4 qb L4;go_wp2_with (at_builtin;refine Qac rfl _ _ _ rfl _ _ _ rfl rfl hr ?_);clear hr
 go_loopw [3,4] (fun v i W=>∃(n:Nat) (a:Option Addr) (c:Nat) (xs:List UInt8),i= .int .i64 (n:Int)/\v= .slice a (List.length xs) c/\n<=l.length/\Hid (Jo W0 W a c xs)/\Hid (xs=X5++(l.take n).flatMap enB)) (fun _ i _=>l.length - (intOf i).toNat)
 case atStart=>exact⟨0,a9,c9,X5,rfl,rfl,by omega,J9,by simp[Hid]⟩
 case round=>
  clear J9;obtain⟨n,a,c,xs,rfl,rfl,hn,J,EX⟩:=hrel;have d4:wr.cell? ⟨w.heap.size,4,none⟩=some (Value.slice A l.length cap):=(P0.below J.out.bl P0.lt).cell (i:=4) rfl;have d5:wr.cell? ⟨w.heap.size,5,none⟩=some (Value.string snap):=(P0.below J.out.bl P0.lt).cell (i:=5) rfl;have qb:w.heap.size<wr.heap.size:=Nat.lt_of_lt_of_le P0.lt J.out.bl.size;by_cases hlt:n<l.length
  . obtain⟨b,o,rfl,hbs,hIn⟩:∃b o,A=some ⟨b,o,none⟩/\b<W0.heap.size/\In W0 b o l:=by
     rcases HA.out with h|h
     . subst h;simp at hlt
     . exact h
    obtain⟨c0,c1,c2,c3,c4,c5,c6,c7,c8⟩:=(hIn.below hbs J.out.bl).getEn n hlt;have hxok:=HR.out l[n] (List.getElem_mem hlt);have hxf:=HF.out l[n] (List.getElem_mem hlt);have hi0:(0:Int)<=(n:Int):=(by omega);have hi1:(n:Int)<(l.length:Int):=(by omega);have hlx:Hid (xs.length<=5000):=by
     show _<=_;rw[EX.out,List.length_append];have h1:=Qf2 enB l n;have h2:=Qdl enB 105 l (fun x hx=>enB_le (HE.out x hx));have:=L5.out;omega
    have EX2:Hid (xs++(numI l[n].term++cmB l[n].who l[n].seq l[n].op l[n].a l[n].b l[n].c l[n].key l[n].text)=X5++(l.take (n+1)).flatMap enB):=by
     show _=_;rw[Qkh enB hlt,EX.out];simp[enB,List.append_assoc]
    have hcl:=(hidP (cmB_le (HE.out l[n] (List.getElem_mem hlt)).cm))
    clear hIn;generalize l[n]=x at*;obtain⟨term',who,seq,op,aa,bb,cc,key,text⟩:=x;dsimp only at c0 c1 c2 c3 c4 c5 c6 c7 c8 EX2 hcl;have hok:CmdOk.okB who seq op aa bb cc key text=true:=hxok;have hks:key.size<=9223372036854775807:=hxf.1;have hts:text.size<=9223372036854775807:=hxf.2;have pe:=Blk.new wr 93 (Qbq term' who seq op aa bb cc key text);have Hpe:=hidP pe;clear pe hxok hxf;go_wp2_with fail;refine(Qa4 term' _).mono ?_;rintro e v1 ⟨a1,c1',rfl,g1,o1⟩;have pe1:=Hpe.out.below g1 Hpe.out.lt;have gg:=via0 g1 (Qad (Below.refl _ wr) _);obtain⟨a2,c2',v2,hr,K2,kp⟩:=J.out.app (c1:=c1') gg (Qa0 o1).at (by have:=hlx.out;have:=Qbl term';omega);have pe2:=kp _ _ _ (Nat.le_refl _) pe1;obtain⟨Y,hY⟩:∃Y,xs++numI term' =Y:=⟨_,rfl⟩
    rw[hY]at hr K2;have LY:Hid (Y.length<=5010):=(by show _<=_;rw[← hY,List.length_append];have:=hlx.out;have:=Qbl term';omega);have EY:=hidP hY;have J2:=hidP K2;have f1:v2.cell? ⟨wr.heap.size,1,none⟩=some (.int .i64 who):=pe2.cell (i:=1) rfl;have f2:v2.cell? ⟨wr.heap.size,2,none⟩=some (.int .i64 seq):=pe2.cell (i:=2) rfl;have f3:v2.cell? ⟨wr.heap.size,3,none⟩=some (.int .i64 op):=pe2.cell (i:=3) rfl;have f4:v2.cell? ⟨wr.heap.size,4,none⟩=some (.int .i64 aa):=pe2.cell (i:=4) rfl;have f5:v2.cell? ⟨wr.heap.size,5,none⟩=some (.int .i64 bb):=pe2.cell (i:=5) rfl;have f6:v2.cell? ⟨wr.heap.size,6,none⟩=some (.int .i64 cc):=pe2.cell (i:=6) rfl;have f7:v2.cell? ⟨wr.heap.size,7,none⟩=some (.string key):=pe2.cell (i:=7) rfl;have f8:v2.cell? ⟨wr.heap.size,8,none⟩=some (.string text):=pe2.cell (i:=8) rfl;have qe:=pe2.lt;clear hY K2 kp gg g1 o1 pe1 pe2 Hpe J hlx c0 c1 c2 c3 c4 c5 c6 c7 c8 d4 d5 qb;go_wp2_with (at_builtin;refine Qac rfl _ _ _ rfl _ _ _ rfl rfl hr ?_);refine(Qf5 who seq op aa bb cc key text hks hts _).mono ?_;clear hr f1 f2 f3 f4 f5 f6 f7 f8 qe;rintro e v3 ⟨a3,c3',rfl,g3,o3⟩;have hO:cmO who seq op aa bb cc key text=cmB who seq op aa bb cc key text:=(by unfold cmO;rw[hok];rfl);rw[hO]at o3;rw[hO];obtain⟨a4,c4',v4,hr,K4,_⟩:=J2.out.app (c1:=c3') g3 (Qa0 o3).at (by have:=LY.out;have:=hcl.out;omega);have EZ:Hid (Y++cmB who seq op aa bb cc key text=X5++(l.take (n+1)).flatMap enB):=by
     show _=_;rw[← EY.out,← EX2.out];simp[List.append_assoc]
    generalize cmB who seq op aa bb cc key text=M at*;obtain⟨Z,hZ⟩:∃Z,Y++M=Z:=⟨_,rfl⟩
    rw[hZ]at hr K4 EZ;have J4:=hidP K4;clear hZ K4 g3 o3 J2 hO;go_wp2_with (at_builtin;refine Qac rfl _ _ _ rfl _ _ _ rfl rfl hr ?_);exact⟨⟨n+1,a4,c4',Z,by go_num,rfl,by omega,J4,EZ⟩,by simp[intOf];omega⟩
  . obtain rfl:n=l.length:=(by omega);rw[List.take_length]at EX;have hlx:Hid (xs.length<=5000):=by
     show _<=_;rw[EX.out,List.length_append];have h2:=Qdl enB 105 l (fun x hx=>enB_le (HE.out x hx));have:=L5.out;omega
    go_wp2_with fail;refine(Qbt snap (by omega) _).mono ?_;rintro e v1 ⟨a1,c1',rfl,g1,o1⟩;have hlT:Hid ((txtB snap).length<=30005):=(by show _<=_;rw[Qb5];have:=Qcs (n:=snap.size) (by omega);omega);have EB:Hid (xs++txtB snap=Qco kind term vote prev l snap):=by
     show _=_;rw[EX.out,← E5.out,← E4.out,← E3.out,← E2.out];simp[Qco,Qbj,ensB,List.append_assoc]
    generalize txtB snap=T at*;obtain⟨a2,c2',v2,hr,K2,_⟩:=J.out.app (c1:=c1') g1 (Qa0 o1).at (by have:=hlx.out;have:=hlT.out;omega);generalize xs++T=Z at*;have J2:=hidP K2;clear K2 g1 o1 J d4 d5 qb;go_wp2_with (at_builtin;refine Qac rfl _ _ _ rfl _ _ _ rfl rfl hr ?_);go_ret;rw[← EB.out];exact⟨a2,c2',rfl,via0' (B0.out) J2.out.bl,Qax J2.out.own (Nat.le_of_lt P0.lt)⟩
def Qdf (kind term vote prev:Int) (l:List En) (snap:ByteArray):List UInt8:=if Qee kind term vote prev l snap=true then Qb4 (Qco kind term vote prev l snap)else []
theorem Qi3 {kind term vote prev:Int} {l:List En} {snap:ByteArray} (h:NtR kind term vote prev l snap):(Qco kind term vote prev l snap).length<=40000:=by
 have h1:=Qb6 [kind,term,vote+1,prev];have h2:=ensB_le h.en;have h3:=Qcs (n:=snap.size) (by have:=h.s;omega);have:=h.s;have:=h.len;simp only[Qco,List.length_append,Qb5,List.length_cons,List.length_nil]at h1 ⊢;omega
theorem frameB_le {L:List UInt8} (h:L.length<=40000):(Qb4 L).length<=41000:=by
 have h1:=Qcs (n:=L.length) (by omega);simp only[Qb4,List.length_append,Qb1];omega
theorem noteO_le (kind term vote prev:Int) (l:List En) (snap:ByteArray):(Qdf kind term vote prev l snap).length<=41000:=by
 unfold Qdf;split
 . exact frameB_le (Qi3 (Qd2 ‹_›))
 . simp
theorem Pt.of_at {α:Type} [Cel α] {P:Nat->Prop} {w W:World} {A:Option Addr} {L:List α} (h:At w A L) (g:Below w.heap.size w W) (hP:∀k,k<w.heap.size->P k):Pt P W A L:=by
 refine⟨h.below g,?_⟩;rcases h with e|⟨b,o,e,hb,_⟩
 . exact .inl e
 . exact .inr fun k o' e' =>by rw[e]at e';cases e';exact hP b hb
theorem note1_any (z:Nat) (P:Nat->Prop) (y:Nat) (kind term vote prev:Int) (snap:ByteArray) (A:Option Addr) (cap:Nat) (l:List En) (hR:NtR kind term vote prev l snap) (W:World) (hz:Blk W z 31 (Qai kind term vote prev A l.length cap snap)) (hA:Pt P W A l) (h:Wr P y W []):Qig 18 #[.pointer (some ⟨z,0,none⟩)] (some (Qco kind term vote prev l snap)) P y W:=by
 unfold Qig;have HW:=hidP h;have HA:=hidP hA;have HRR:=hidP hR;show Calls Tryz.prog 18 #[.pointer (some ⟨y,0,none⟩),.pointer (some ⟨z,0,none⟩)] W _;obtain⟨c0,c1,c2,c3,c4,c5⟩:=hz.row6n;clear h hz hA hR;go_enter Tryz.func18,Tryz.ntmps18;go_wp2_with fail;refine(wnote_any P y kind term vote prev snap A cap l ⟨by have:=HRR.out.k;omega,HRR.out.k.2⟩ HRR.out.t HRR.out.v HRR.out.p HRR.out.s HRR.out.len HRR.out.en _ HA.out HW.out).mono ?_;rintro e w' ⟨rfl,t1,h1⟩;go_wp2
 go_end0
 exact⟨t1,rfl,h1⟩
theorem note2_any (z:Nat) (P:Nat->Prop) (y:Nat) (A:Option Addr) (cap:Nat) (L:List UInt8) (hL:L.length<=3000000) (W:World) (hz:Blk W z 22 #[.slice A L.length cap]) (hA:Pt P W A L) (h:Wr P y W []):Qig 20 #[.pointer (some ⟨z,0,none⟩)] (some (Qb4 L)) P y W:=by
 unfold Qig;have HW:=hidP h;have HA:=hidP hA;show Calls Tryz.prog 20 #[.pointer (some ⟨y,0,none⟩),.pointer (some ⟨z,0,none⟩)] W _;have c0:=hz.row1;clear h hz hA;go_enter Tryz.func20,Tryz.ntmps20;go_wp2_with fail;refine(framed_any P y A cap L hL _ HA.out HW.out).mono ?_;rintro e w' ⟨rfl,t1,h1⟩;go_wp2
 go_end0
 exact⟨t1,rfl,h1⟩
theorem Qft (kind term vote prev:Int) (snap:ByteArray) (hs:snap.size<=9223372036854775807) (A:Option Addr) (cap:Nat) (l:List En) (hl:l.length<=3000000) (hr:∀x∈l,x.fit) (w:World) (hA:At w A l):
 Calls Tryz.prog 8 #[.agg (Qai kind term vote prev A l.length cap snap)] w fun e w' =>∃a' c',e= .returned (.slice a' (Qdf kind term vote prev l snap).length c')/\Below w.heap.size w w' /\w'.ownsRow w.heap.size 5 1 (.slice a' (Qdf kind term vote prev l snap).length c') (Qdf kind term vote prev l snap).length (flat (Qdf kind term vote prev l snap)):=by
 have hmf:∀(fn:Fn) (first cap:Array Value) (w:World),(Instr.makeFunc fn first cap).run Tryz.prog w= .ok (.func fn first cap) w:=fun _ _ _ _=>rfl
 have Hp:=hidP (Blk.new w 31 (Qai kind term vote prev A l.length cap snap));have B0:Below w.heap.size w (w.alloc (.cells (Qai kind term vote prev A l.length cap snap) 31)):=Qad (Below.refl _ w) _;have HA:=hidP hA;have HF:=hidP hr;clear hA hr;go_enter Tryz.func8,Tryz.ntmps8;go_wp2_with fail;refine(Qev kind term vote prev snap hs A cap l hl HF.out _ (HA.out.below B0)).mono ?_;rintro e w1 ⟨rfl,g1⟩;have p1:=Hp.out.below g1 Hp.out.lt;have B1:=via0 g1 B0;have q1:=p1.lt;cases hok:Qee kind term vote prev l snap with
 |false=>
  have hO:Hid (Qdf kind term vote prev l snap= []):=by show _=_;unfold Qdf;rw[hok];rfl
  clear g1 p1;go_wp2;go_ret;rw[hO.out];exact⟨none,0,rfl,B1,World.ownsRow_nil _ _ _ _⟩
 |true=>
  have hO:Hid (Qdf kind term vote prev l snap=Qb4 (Qco kind term vote prev l snap)):=by show _=_;unfold Qdf;rw[hok];rfl
  have hR:=Qd2 hok;have hbl:=hidP (Qi3 hR);have hwr:=hidP (Qgm 18 #[.pointer (some ⟨w.heap.size,0,none⟩)] (some (Qco kind term vote prev l snap)) w1 (fun p W=>by simp[go_sem])
   (fun W hb P y hP h=>note1_any w.heap.size P y kind term vote prev snap A cap l hR W (p1.below hb p1.lt) (Pt.of_at (HA.out.below B1) hb hP) h))
  clear g1 p1 hR;simp only[Option.getD_some]at hwr;generalize Qco kind term vote prev l snap=L at*;go_wp2_with fail;refine hwr.out.mono ?_;rintro e w2 ⟨a2,c2,rfl,g2,o2⟩;have B2:=via0 g2 B1;have hat2:=(Qa0 o2).at;have p3:=Blk.new w2 22 #[.slice a2 L.length c2];have B3:Below w.heap.size w (w2.alloc (.cells #[.slice a2 L.length c2] 22)):=Qad B2 _;have hat3:=hat2.below (Qad (Below.refl _ w2) (.cells #[.slice a2 L.length c2] 22));have hwr2:=hidP (Qgm 20 #[.pointer (some ⟨w2.heap.size,0,none⟩)] (some (Qb4 L)) (w2.alloc (.cells #[.slice a2 L.length c2] 22)) (fun p W=>by simp[go_sem])
   (fun W hb P y hP h=>note2_any w2.heap.size P y a2 c2 L (by have:=hbl.out;omega) W (p3.below hb p3.lt) (Pt.of_at hat3 hb hP) h))
  simp only[Option.getD_some]at hwr2;clear hwr hat2 hat3 p3 g2 o2;go_wp2_with fail;refine hwr2.out.mono ?_;rintro e w' ⟨a',c',rfl,hb,ho⟩;have hb' :=via0 hb B3;have ho' :=hidP (Qax (C:=w.heap.size) ho B3.size);clear hb ho hwr2;go_wp2;go_ret;rw[hO.out];exact⟨a',c',rfl,hb',ho'.out⟩
theorem Qfo (kind term vote prev:Int) (snap:ByteArray) (hs:snap.size<=9223372036854775807) (A:Option Addr) (cap:Nat) (l:List En) (hl:l.length<=3000000) (hr:∀x∈l,x.fit) (w:World) (hA:At w A l):
 Calls Tryz.prog 24 #[.agg (Qai kind term vote prev A l.length cap snap)] w fun e w' =>∃a' c',e= .returned (.slice a' (Qdf kind term vote prev l snap).length c')/\Below w.heap.size w w' /\w'.ownsRow w.heap.size 5 1 (.slice a' (Qdf kind term vote prev l snap).length c') (Qdf kind term vote prev l snap).length (flat (Qdf kind term vote prev l snap)):=by
 have Hp:=hidP (Blk.new w 31 (Qai kind term vote prev A l.length cap snap));have B0:Below w.heap.size w (w.alloc (.cells (Qai kind term vote prev A l.length cap snap) 31)):=Qad (Below.refl _ w) _;have HA:=hidP hA;have HF:=hidP hr;clear hA hr;go_enter Tryz.func24,Tryz.ntmps24;go_wp2_with fail;refine(Qet kind term vote prev snap hs A cap l hl HF.out _ (HA.out.below B0)).mono ?_;rintro e w1 ⟨rfl,g1⟩;have p1:=Hp.out.below g1 Hp.out.lt;have B1:=via0 g1 B0;have q1:=p1.lt;cases hok:Qee kind term vote prev l snap with
 |false=>
  have hO:Hid (Qdf kind term vote prev l snap= []):=by show _=_;unfold Qdf;rw[hok];rfl
  clear g1 p1;go_wp2;go_ret;rw[hO.out];exact⟨_,_,rfl,Qad B1 _,⟨by simp[flat],.inr ⟨w1.heap.size,0,#[],rfl,B1.size,Blk.new w1 5 #[],Nat.le_refl _,by simp[maxLen],rfl,rfl⟩⟩⟩
 |true=>
  have hO:Hid (Qdf kind term vote prev l snap=Qb4 (Qco kind term vote prev l snap)):=by show _=_;unfold Qdf;rw[hok];rfl
  have hR:=hidP (Qd2 hok);have hbl:=hidP (Qi3 hR.out);obtain⟨d0,d1,d2,d3,d4,d5⟩:=p1.row6n;clear g1 p1;go_wp2_with fail;refine(l9Body_any kind term vote prev snap A cap l hR.out HF.out _ (HA.out.below B1)).mono ?_;rintro e w2 ⟨a2,c2,rfl,g2,o2⟩;have B2:=hidP (via0 g2 B1);have hat2:=hidP (Qa0 o2).at;generalize Qco kind term vote prev l snap=L at*;clear g2 o2 hR d0 d1 d2 d3 d4 d5 q1;go_wp2_with fail;refine(Qa4 (L.length:Int) _).mono ?_;rintro e w3 ⟨a3,c3,rfl,g3,o3⟩;have J3:Jo w2 w3 a3 c3 (numI (L.length:Int)):=⟨g3,o3⟩
  obtain⟨a4,c4,w4,hr4,K4,_⟩:=J3.app (c1:=c2) (Below.refl _ _) (hat2.out.below g3) (by have:=Qbl (L.length:Int);have:=hbl.out;omega);have EX:Hid (numI (L.length:Int)++L++sumB 4 (sumN L)=Qb4 L):=by show _=_;rw[Qcp (by have:=hbl.out;omega)];simp[Qb4,List.append_assoc]
  have LX:Hid ((numI (L.length:Int)++L).length<=41000):=by show _<=_;rw[List.length_append];have:=Qbl (L.length:Int);have:=hbl.out;omega
  generalize numI (L.length:Int)++L=X at*;have J4:=hidP K4;have hat4:=hidP (hat2.out.below J4.out.bl);clear K4 J3 g3 o3;go_wp2_with (at_builtin;refine Qac rfl _ _ _ rfl _ _ _ rfl rfl hr4 ?_);refine(Qg9 a2 c2 L (by have:=hbl.out;omega) _ hat4.out).mono ?_;rintro e w5 ⟨rfl,g5,hy5⟩;obtain⟨a6,c6,w6,hr6,K6,_⟩:=J4.out.app (c1:=4) g5 hy5 (by have:=LX.out;rw[Qb1];omega);rw[Qb1]at hr6;generalize X++sumB 4 (sumN L)=Y at*;have J6:=hidP K6;clear K6 J4 g5 hy5 hr4;go_wp2_with (at_builtin;refine Qac rfl _ _ _ rfl _ _ _ rfl rfl hr6 ?_);go_ret;rw[hO.out,← EX.out];exact⟨a6,c6,rfl,via0 J6.out.bl B2.out,Qax J6.out.own B2.out.size⟩
open Items (It)
theorem DL.app8 {w W W1:World} {C cap:Nat} {A:Option Addr} {l:List By} {a a1:Option Addr} {c c1:Nat} {xs ys:List UInt8} (h:DL 5 w W C cap A l a c xs) (hy:At W a1 ys) (hlen:xs.length+ys.length<=1000000):
 ∃a2 c2 W2,(Builtin.append_ #[22,22] 22 #[.slice a xs.length c,.slice a1 ys.length c1]).run Tryz.prog W= .ok (.slice a2 (xs.length+ys.length) c2) W2/\DL 5 w W2 C cap A l a2 c2 (xs++ys):=by
 have hs:=h.size;obtain⟨v',W2,hr,hown,hgrow,hob⟩:=Qd7 w.heap.size (.slice a xs.length c) xs ys a1 c1 W hs h.own hy (by omega);obtain⟨a2,c2,rfl,_⟩:=Qan hown;have ko:=Qb3 hgrow;have g:Below w.heap.size W W2:=ko.toBelow (fun z hz=>(h.own.lt z hz).1) hs;exact⟨a2,c2,W2,hr,Qfp h.on (Nat.le_refl _) g,h.dr.under g h.hC,by rw[List.length_append];exact hown,h.hC⟩
def DrewB (n:Nat) (C:Nat) (A:Option Addr) (cap:Nat) (l:List By) (w:World) (e:Ending) (w' :World):Prop:=∃(a:Option Addr) (c:Nat) (L:List UInt8),e= .returned (.slice a L.length c)/\L.length<=n/\DL 5 w w' C cap A l a c L
theorem Qiz (C:Nat) (A:Option Addr) (cap:Nat) (l:List By) (w:World) (hD:Drawn w C A cap l):
 Calls Tryz.prog 12 #[.pointer (some ⟨C,0,none⟩)] w fun e w' =>DrewB 130000 C A cap l w e w' :=by
 have hC:=hD.lt;have I0:DL (α:=UInt8) 5 w (w.alloc (.cells #[] 5)) C cap A l (some ⟨w.heap.size,0,none⟩) 0 []:=⟨Only.of_below (Qad (Below.refl _ _) _),hD.below (Qad (Below.refl _ _) _),Qem (α:=UInt8) (Nat.le_refl _) rfl,hC⟩
 clear hD;go_enter Tryz.func12,Tryz.ntmps12;go_wp2
 go_loopw [3,4] (fun ov iv wx=>∃(i:Nat) (a:Option Addr) (c:Nat) (L:List UInt8),ov= .slice a L.length c/\iv= .int .i64 (i:Int)/\i<=3/\Hid (L.length<=i*41000)/\DL 5 w wx C cap A l a c L) (fun _ iv _=>3 - (intOf iv).toNat)
 case atStart=>exact⟨0,_,_,[],rfl,rfl,by omega,by show _<=_;simp,I0⟩
 case round=>
  clear I0;obtain⟨i,la,lc,L,rfl,rfl,hi,hl,P⟩:=hrel;have HP:=hidP P;clear P;go_wp2_with fail;refine(Qbc C A cap l 4 (by omega) (by omega) _ HP.out.dr).mono ?_;rintro e w1 ⟨x,rfl,hx0,hx1,k1,d1⟩;have P1:=HP.out.only k1 d1;clear HP k1 d1;by_cases hlt:(i:Int)<x
  . have HP1:=hidP P1;clear P1;go_wp2_with fail;refine(Qkm C A cap l _ HP1.out.dr).mono ?_;rintro e w2 ⟨kind,term,vote,prev,na,nc,NL,snap,rfl,hn1,hn2,hn3,hav,k2,d2⟩;have P2:=hidP (HP1.out.only k2 d2);have HNB:Hid (∀W:World,Below w2.heap.size w2 W->Calls Tryz.prog 24 #[.agg (Qai kind term vote prev na NL.length nc snap)] W fun e w' =>∃a' c',e= .returned (.slice a' (Qdf kind term vote prev NL snap).length c')/\Below W.heap.size W w' /\w'.ownsRow W.heap.size 5 1 (.slice a' (Qdf kind term vote prev NL snap).length c') (Qdf kind term vote prev NL snap).length (flat (Qdf kind term vote prev NL snap))):=fun W g=>Qfo kind term vote prev snap (by omega) na nc NL (by omega) (fun y hy=>by have:=hn2 y hy;exact⟨by omega,by omega⟩) W (hav.at.below g)
    have hno:=noteO_le kind term vote prev NL snap;generalize Qdf kind term vote prev NL snap=B at HNB hno;clear HP1 k2 d2 hav hn1 hn2 hn3;go_wp2_with fail;refine(HNB.out _ (Below.refl _ _)).mono ?_;rintro e w3 ⟨ba,bc,rfl,g3,o3⟩;have P3:=P2.out.below g3;have hat:At w3 ba B:=Qc7 rfl o3;clear P2 HNB g3 o3;obtain⟨a9,c9,W9,hr,P9⟩:=P3.app8 (c1:=bc) (W1:=w3) hat (by have:=hl.out;omega);obtain⟨m9,hm9⟩:∃m,m=L.length+B.length:=⟨_,rfl⟩
    rw[← hm9]at hr;have Hm:=hidP hm9;clear hm9;go_wp2_with (at_builtin;refine Qac rfl _ _ _ rfl _ _ _ rfl rfl hr ?_);exact⟨⟨i+1,a9,c9,L++B,by rw[List.length_append,Hm.out],by go_num,by omega,by show _<=_;rw[List.length_append];have:=hl.out;omega,P9⟩,by simp[intOf];omega⟩
  . go_wp2;go_ret;exact⟨la,lc,L,rfl,by have:=hl.out;omega,P1⟩
theorem Qiy (A:Option Addr) (cap:Nat) (l:List By) (hl:l.length<=1048576) (hby:∀x∈l,x.right) (w:World) (hA:At w A l):
 Calls Tryz.prog 5 #[.slice A l.length cap] w fun e w' =>∃(L:List UInt8) (a:Option Addr) (c:Nat),e= .returned (.slice a L.length c)/\L.length<=150000/\L.length<=c/\c<=9223372036854775807/\At w' a L/\Below w.heap.size w w' :=by
 have HA:=hidP hA;have Hby:=hidP hby;clear hA hby;go_enter Tryz.func5,Tryz.ntmps5;go_wp2_with fail;refine(new_any A cap l hl Hby.out _ HA.out).mono ?_;rintro e w1 ⟨C,rfl,hC,g1,hD⟩;have hlt:=hD.lt;have HD:=hidP hD;clear hD;go_wp2_with fail;refine(Qiz C A cap l _ HD.out).mono ?_;rintro e w4 ⟨a4,c4,Y,rfl,hY,D4⟩;have s4:=D4.on.size;obtain⟨hcap,hcm⟩:=Qjp D4.own;have HS:=hidP (Qh1 (C:=C) D4.own (by omega));have HD4:=hidP D4.dr;have HB4:=hidP (g1.trans (D4.on.toBelow hC g1.size));clear D4 HD g1;go_wp2_with fail;refine(dent_any C A cap l a4 c4 Y (by omega) hcap hcm _ HD4.out HS.out).mono ?_;rintro e w6 ⟨Z,a6,c6,rfl,hZ,hc6,hm6,hS6,o6,d6⟩;have HB6:=hidP (HB4.out.trans (o6.toBelow hC HB4.out.size));go_wp2;go_ret;exact⟨Z,a6,c6,rfl,by omega,by omega,hm6,hS6.1,HB6.out⟩
open Extern.Stop Stop Extern
theorem as_nil (t:Value) (w:World):
 Calls Tryz.prog 14 #[.nilIface,t] w fun e w' =>e= .returned (.bool false)/\w' =w:=by
 go_enter Tryz.func14,Tryz.ntmps14;go_wp2;go_ret;exact⟨rfl,rfl⟩
theorem Qk2 (t:Addr) (w:World):(ReflectliteValue.unpack (.iface 44 (.pointer (some t)))).run Tryz.prog w
 = .ok (.agg #[.pointer (some ⟨1,44,none⟩),.pointer (some ⟨w.heap.size,0,none⟩),.int .u64 150]) (w.alloc (.cells #[.pointer (some t)] 44)):=by kernel_rfl
theorem rl_typeP (a:Addr) (w:World):(ReflectliteValue.methodAny (ReflectliteValue.valueError "reflectlite.Value.Type" 0) (fun t _ _ _=>ReflectliteType.toType t) #[.agg #[.pointer (some ⟨1,44,none⟩),.pointer (some a),.int .u64 150]]).run Tryz.prog w
 = .ok (.iface 127 (.agg #[.pointer (some ⟨1,44,none⟩)])) w:=by kernel_rfl
theorem Qil (h:Value) (w:World):(Go.method 347 127 (.agg #[h]) "Kind").run Tryz.prog w= .ok (148,h) w:=by kernel_rfl
theorem rl_kindP (w:World):((ReflectliteType.abiMethod fun t=>(fun a:Nat=>Value.int IntKind.u8 (a:Int))<$>Rtype.kind t) #[.pointer (some ⟨1,44,none⟩)]).run Tryz.prog w= .ok (.int .u8 22) w:=by kernel_rfl
theorem rl_kindM (w:World):((ReflectliteType.abiMethod fun t=>(fun a:Nat=>Value.int IntKind.u8 (a:Int))<$>Rtype.kind t) #[.pointer (some ⟨1,38,none⟩)]).run Tryz.prog w= .ok (.int .u8 25) w:=by kernel_rfl
theorem rl_m (z:Sem Value) (f:TypeId->Addr->Nat->Nat->Sem Value) (v:Value):
 ReflectliteValue.method z f #[v]=(do match ← ReflectliteValue.parts v with|none=>z|some (t,a,fl)=>f t a fl (fl % 32)):=rfl
theorem Qjg (a:Addr) (w:World):(ReflectliteValue.parts (.agg #[.pointer (some ⟨1,44,none⟩),.pointer (some a),.int .u64 150])).run Tryz.prog w= .ok (some (44,a,150)) w:=by kernel_rfl
theorem rl_isNilP (a p:Addr) (W:World) (ha:W.cell? a=some (.pointer (some p))):
 (ReflectliteValue.method (ReflectliteValue.valueError "reflectlite.Value.IsNil" 0) ReflectliteValue.isNil #[.agg #[.pointer (some ⟨1,44,none⟩),.pointer (some a),.int .u64 150]]).run Tryz.prog W= .ok (.bool false) W:=by
 rw[rl_m];simp only[Sem.run_bind,Qjg,Result.andThen];simp[ReflectliteValue.isNil,loadVar,isAgg,underlying,Tryz.underlying44,ha,Result.andThen]
theorem Qim (h:Value) (w:World):(Go.method 347 127 (.agg #[h]) "Elem").run Tryz.prog w= .ok (161,.agg #[h]) w:=by kernel_rfl
theorem Qex (h:Value) (w:World):(Go.method 347 127 (.agg #[h]) "Implements").run Tryz.prog w= .ok (162,.agg #[h]) w:=by kernel_rfl
theorem Qec (h:Value) (w:World):(Go.method 347 127 (.agg #[h]) "AssignableTo").run Tryz.prog w= .ok (159,.agg #[h]) w:=by kernel_rfl
theorem rl_elemP (w:World):(ReflectliteType.method ReflectliteType.elem #[.agg #[.pointer (some ⟨1,44,none⟩)]]).run Tryz.prog w= .ok (.iface 127 (.agg #[.pointer (some ⟨1,38,none⟩)])) w:=by kernel_rfl
theorem Qhn (w:World):(ReflectliteType.relation "Implements" ReflectliteType.implements_ #[.agg #[.pointer (some ⟨1,38,none⟩)],.iface 127 (.agg #[.pointer (some ⟨1,40,none⟩)])]).run Tryz.prog w= .ok (.bool true) w:=by kernel_rfl
theorem rl_typeOfM (v:Value) (w:World):(ReflectliteType.typeOf #[.iface 38 v]).run Tryz.prog w= .ok (.iface 127 (.agg #[.pointer (some ⟨1,38,none⟩)])) w:=by kernel_rfl
theorem Qho (w:World):(ReflectliteType.relation "AssignableTo" ReflectliteType.assignableTo #[.agg #[.pointer (some ⟨1,38,none⟩)],.iface 127 (.agg #[.pointer (some ⟨1,38,none⟩)])]).run Tryz.prog w= .ok (.bool true) w:=by kernel_rfl
theorem Qk3 (i:Int) (w:World):(ReflectliteValue.unpack (.iface 38 (.agg #[.int .i64 i]))).run Tryz.prog w
 = .ok (.agg #[.pointer (some ⟨1,38,none⟩),.pointer (some ⟨w.heap.size,0,none⟩),.int .u64 153]) (w.alloc (.cells #[.int .i64 i] 38)):=by kernel_rfl
theorem rl_elemOfP (w:World):(Rtype.elem? 44).run Tryz.prog w= .ok (some 38) w:=by kernel_rfl
theorem rl_mkM (p:Addr) (w:World):(ReflectliteValue.mk 38 p ReflectliteValue.flagAddr).run Tryz.prog w= .ok (.agg #[.pointer (some ⟨1,38,none⟩),.pointer (some p),.int .u64 409]) w:=by kernel_rfl
theorem rl_elemVP (a p:Addr) (W:World) (ha:W.cell? a=some (.pointer (some p))):
 (ReflectliteValue.method (ReflectliteValue.valueError "reflectlite.Value.Elem" 0) ReflectliteValue.elem #[.agg #[.pointer (some ⟨1,44,none⟩),.pointer (some a),.int .u64 150]]).run Tryz.prog W
  = .ok (.agg #[.pointer (some ⟨1,38,none⟩),.pointer (some p),.int .u64 409]) W:=by
 rw[rl_m];simp only[Sem.run_bind,Qjg,Result.andThen];simp[ReflectliteValue.elem,loadVar,isAgg,underlying,Tryz.underlying44,ha,Result.andThen,rl_elemOfP,rl_mkM]
theorem rl_s (v x:Value):ReflectliteValue.set #[v,x]=(do
 let (some (dst,a,fl),some (src,b,_)):=(← ReflectliteValue.parts v,← ReflectliteValue.parts x)
  |unsupported (.noEntry "extern/(internal/reflectlite.Value).Set.zeroValue")
 if fl / ReflectliteValue.flagAddr % 2==0 then unsupported (.noEntry "extern/(internal/reflectlite.Value).Set.unaddressable")
 let val ← loadVar src b
 if ← Rtype.directlyAssignable dst src then storeVar dst a val
 else if ← Rtype.implements dst src then
  if(← Rtype.kind src)==20 then
   match val with
   | .nilIface=>unsupported (.noEntry "extern/reflectlite: a nil value of one interface type handed on as a value of another")
   |_=>storeVar dst a val
  else storeVar dst a (.iface src val)
 else panicString ("reflectlite.Set: value of type " ++(← Rtype.spelt src)++ " is not assignable to type " ++(← Rtype.spelt dst))
 pure (.tuple #[])):=rfl
theorem rl_partsMa (a:Addr) (w:World):(ReflectliteValue.parts (.agg #[.pointer (some ⟨1,38,none⟩),.pointer (some a),.int .u64 409])).run Tryz.prog w= .ok (some (38,a,409)) w:=by kernel_rfl
theorem rl_partsM (a:Addr) (w:World):(ReflectliteValue.parts (.agg #[.pointer (some ⟨1,38,none⟩),.pointer (some a),.int .u64 153])).run Tryz.prog w= .ok (some (38,a,153)) w:=by kernel_rfl
theorem rl_directM (w:World):(Rtype.directlyAssignable 38 38).run Tryz.prog w= .ok true w:=by kernel_rfl
theorem rl_sizeM (w:World):(sizeOf 38).run Tryz.prog w= .ok 1 w:=by kernel_rfl
theorem rl_setM (tb bb:Nat) (i:Int) (old:Value) (W:World) (hb:W.cell? ⟨bb,0,none⟩=some (.int .i64 i)) (ht:W.cell? ⟨tb,0,none⟩=some old) (hf:W.frozen? ⟨tb,0,none⟩=false):
 (ReflectliteValue.set #[.agg #[.pointer (some ⟨1,38,none⟩),.pointer (some ⟨tb,0,none⟩),.int .u64 409],.agg #[.pointer (some ⟨1,38,none⟩),.pointer (some ⟨bb,0,none⟩),.int .u64 153]]).run Tryz.prog W
  = .ok (.tuple #[]) (W.setCell ⟨tb,0,none⟩ (.int .i64 i)):=by
 have hld:(loadCells ⟨bb,0,none⟩ 1).run Tryz.prog W= .ok #[.int .i64 i] W:=by
  have h:=run_loadCells_list (P:=Tryz.prog) W ⟨bb,0,none⟩ [.int .i64 i] (fun j v hj=>by
   have hj' :j<1:=(List.getElem?_eq_some_iff.1 hj).1;obtain rfl:j=0:=(by omega);simp at hj;subst hj;exact hb)
  simpa using h
 rw[rl_s];simp only[Sem.run_bind,rl_partsMa,rl_partsM,Result.andThen];simp[ReflectliteValue.flagAddr,loadVar,isAgg,underlying,Tryz.underlying38,rl_sizeM,hld,Result.andThen,rl_directM,storeVar,Value.cells,storeCells,Addr.add];rw[run_store Tryz.prog W ⟨tb,0,none⟩ _ _ (by rfl)];simp[ht,hf]
theorem as_hit (i:Int) (tb:Nat) (old:Value) (w:World) (hg:w.cell? ⟨0,0,none⟩=some (.iface 127 (.agg #[.pointer (some ⟨1,40,none⟩)]))) (ht0:w.cell? ⟨tb,0,none⟩=some old) (hf0:w.frozen? ⟨tb,0,none⟩=false):
 Calls Tryz.prog 14 #[.iface 38 (.agg #[.int .i64 i]),.iface 44 (.pointer (some ⟨tb,0,none⟩))] w fun ev w' =>ev= .returned (.bool true)/\w' =((((w.alloc (.cells #[.pointer (some ⟨tb,0,none⟩)] 44)).alloc (.cells #[.pointer (some ⟨1,44,none⟩),.pointer (some ⟨w.heap.size,0,none⟩),.int .u64 150] 70)).alloc (.cells #[.pointer (some ⟨1,44,none⟩),.pointer (some ⟨w.heap.size,0,none⟩),.int .u64 150] 70)).alloc (.cells #[.int .i64 i] 38)).setCell ⟨tb,0,none⟩ (.int .i64 i):=by
 have h6:= @run_callFunc_extern Tryz.prog 30 _ (fun args=>ReflectliteValue.unpack (args.getD 0 (.tuple #[]))) Tryz.func30 (by kernel_rfl) (by kernel_rfl) (by kernel_rfl) (by kernel_rfl);have h7:= @run_callFunc_extern Tryz.prog 31 _ (ReflectliteValue.methodAny (ReflectliteValue.valueError "reflectlite.Value.Type" 0) (fun t _ _ _=>ReflectliteType.toType t)) Tryz.func31 (by kernel_rfl) (by kernel_rfl) (by kernel_rfl) (by kernel_rfl);have h8:= @run_callFunc_extern Tryz.prog 32 _ (ReflectliteValue.method (ReflectliteValue.valueError "reflectlite.Value.IsNil" 0) ReflectliteValue.isNil) Tryz.func32 (by kernel_rfl) (by kernel_rfl) (by kernel_rfl) (by kernel_rfl);have h27:= @run_callFunc_extern Tryz.prog 148 _ (ReflectliteType.abiMethod fun t=>do pure (.int .u8 (← Rtype.kind t))) Tryz.func148 (by kernel_rfl) (by kernel_rfl) (by kernel_rfl) (by kernel_rfl);have h37:= @run_callFunc_extern Tryz.prog 161 _ (ReflectliteType.method ReflectliteType.elem) Tryz.func161 (by kernel_rfl) (by kernel_rfl) (by kernel_rfl) (by kernel_rfl);have h38:= @run_callFunc_extern Tryz.prog 162 _ (ReflectliteType.relation "Implements" ReflectliteType.implements_) Tryz.func162 (by kernel_rfl) (by kernel_rfl) (by kernel_rfl) (by kernel_rfl);have h10:= @run_callFunc_extern Tryz.prog 64 _ ReflectliteType.typeOf Tryz.func64 (by kernel_rfl) (by kernel_rfl) (by kernel_rfl) (by kernel_rfl);have h35:= @run_callFunc_extern Tryz.prog 159 _ (ReflectliteType.relation "AssignableTo" ReflectliteType.assignableTo) Tryz.func159 (by kernel_rfl) (by kernel_rfl) (by kernel_rfl) (by kernel_rfl);have h11:= @run_callFunc_extern Tryz.prog 65 _ (ReflectliteValue.method (ReflectliteValue.valueError "reflectlite.Value.Elem" 0) ReflectliteValue.elem) Tryz.func65 (by kernel_rfl) (by kernel_rfl) (by kernel_rfl) (by kernel_rfl)
 have h12:= @run_callFunc_extern Tryz.prog 66 _ ReflectliteValue.set Tryz.func66 (by kernel_rfl) (by kernel_rfl) (by kernel_rfl) (by kernel_rfl);have tO:=rl_typeOfM;have mA:=Qec;have a25:=Qho;have v25:=Qk3;have f6:=Qk2;have f7:=rl_typeP;have mK:=Qil;have mE:=Qim;have mI:=Qex;have k27:=rl_kindP;have k25:=rl_kindM;have e27:=rl_elemP;have i25:=Qhn;have n8:=rl_isNilP ⟨w.heap.size,0,none⟩ ⟨tb,0,none⟩ ((w.alloc (.cells #[.pointer (some ⟨tb,0,none⟩)] 44)).alloc (.cells #[.pointer (some ⟨1,44,none⟩),.pointer (some ⟨w.heap.size,0,none⟩),.int .u64 150] 70)) (by simp);have hlt:0<w.heap.size:=by
  rcases Nat.eq_zero_or_pos w.heap.size with h0|h
  . simp[World.cell?,h0]at hg
  . exact h
 have hg2:((w.alloc (.cells #[.pointer (some ⟨tb,0,none⟩)] 44)).alloc (.cells #[.pointer (some ⟨1,44,none⟩),.pointer (some ⟨w.heap.size,0,none⟩),.int .u64 150] 70)).cell? ⟨0,0,none⟩=some (.iface 127 (.agg #[.pointer (some ⟨1,40,none⟩)])):=by
  rw[World.cell?_alloc_lt _ _ ⟨0,0,none⟩ (by simp),World.cell?_alloc_lt _ _ ⟨0,0,none⟩ hlt];exact hg
 have htl:tb<w.heap.size:=by
  rcases Nat.lt_or_ge tb w.heap.size with h|h
  . exact h
  . simp[World.cell?,Array.getElem?_eq_none h]at ht0
 have el:=rl_elemVP ⟨w.heap.size,0,none⟩ ⟨tb,0,none⟩ (((w.alloc (.cells #[.pointer (some ⟨tb,0,none⟩)] 44)).alloc (.cells #[.pointer (some ⟨1,44,none⟩),.pointer (some ⟨w.heap.size,0,none⟩),.int .u64 150] 70)).alloc (.cells #[.pointer (some ⟨1,44,none⟩),.pointer (some ⟨w.heap.size,0,none⟩),.int .u64 150] 70)) (by rw[World.cell?_alloc_lt _ _ ⟨w.heap.size,0,none⟩ (by simp;omega)];simp);have st:=rl_setM tb (w.heap.size+1+1+1) i old ((((w.alloc (.cells #[.pointer (some ⟨tb,0,none⟩)] 44)).alloc (.cells #[.pointer (some ⟨1,44,none⟩),.pointer (some ⟨w.heap.size,0,none⟩),.int .u64 150] 70)).alloc (.cells #[.pointer (some ⟨1,44,none⟩),.pointer (some ⟨w.heap.size,0,none⟩),.int .u64 150] 70)).alloc (.cells #[.int .i64 i] 38))
  (by rw[World.cell?_alloc_at _ _ _ _ (by simp)];rfl)
  (by rw[World.cell?_alloc_lt _ _ ⟨tb,0,none⟩ (by simp;omega),World.cell?_alloc_lt _ _ ⟨tb,0,none⟩ (by simp;omega),World.cell?_alloc_lt _ _ ⟨tb,0,none⟩ (by simp;omega),World.cell?_alloc_lt _ _ ⟨tb,0,none⟩ htl];exact ht0)
  (by rw[World.frozen?_alloc_old _ _ ⟨tb,0,none⟩ (by simp;omega),World.frozen?_alloc_old _ _ ⟨tb,0,none⟩ (by simp;omega),World.frozen?_alloc_old _ _ ⟨tb,0,none⟩ (by simp;omega),World.frozen?_alloc_old _ _ ⟨tb,0,none⟩ (Nat.ne_of_lt htl)];exact hf0)
 go_enter Tryz.func14,Tryz.ntmps14;go_wp2;refine wp_loop_rounds 1 ?_;rw[rounds_succ];go_wp2;go_ret;exact⟨rfl,rfl⟩
end Go.Proofs.YtajbldnhjpjghaaGreatDoor.Gen
