/-
  The specification's body of a note. Condition: the note is right.
-/
import Derived.Test.YtajbldnhjpjghaaGreatNOk
set_option linter.unusedVariables false
set_option linter.unusedSimpArgs false
set_option maxRecDepth 100000
set_option maxHeartbeats 8000000
set_option maxRecDepth 100000
set_option maxHeartbeats 8000000
namespace Go.Proofs.YtajbldnhjpjghaaGreat.Gen
open ChangeShapes WideShapes ChangeAt RowKit Joins Deep Base
theorem Qt0 {w W0 W:World} (B0:Below w.heap.size w W0) (h:Below W0.heap.size W0 W):Below w.heap.size w W:=via0 h B0
structure NtR (kind term vote prev:Int) (l:List En) (snap:ByteArray):Prop where
  k:1<=kind/\kind<=3
  t:0<=term/\term<=300
  v: -1<=vote/\vote<=4
  p:0<=prev/\prev<=300
  len:l.length<=40
  ok:∀x∈l,enF x=true
  en:∀x∈l,EnR x
  s:snap.size<=30000
theorem Qdr {kind term vote prev:Int} {l:List En} {snap:ByteArray} (h:Qdc kind term vote prev l snap=true):NtR kind term vote prev l snap:=by
 unfold Qdc at h;simp only[Bool.and_eq_true,decide_eq_true_eq]at h;obtain⟨⟨⟨⟨⟨⟨h0,h1⟩,h2⟩,h3⟩,h4⟩,h5⟩,h6⟩:=h;have hk:1<=kind/\kind<=3:=by
  unfold ownB at h0;split at h0
  . omega
  . split at h0
    . omega
    . split at h0
      . omega
      . cases h0
 have hall:∀x∈l,entF x=true:=List.all_eq_true.1 h5;have hok:∀x∈l,enF x=true:=fun x hx=>by have:=hall x hx;unfold entF at this;simp only[Bool.and_eq_true]at this;exact this.2
 have hte:∀x∈l,0<=x.term/\x.term<=300:=fun x hx=>by have:=hall x hx;unfold entF at this;simp only[Bool.and_eq_true]at this;exact Qqn this.1
 exact⟨hk,Qqn h1,Qqn h2,Qqn h3,h4,hok,fun x hx=>⟨⟨(hte x hx).1,by have:=(hte x hx).2;omega⟩,Qgw (hok x hx)⟩,h6⟩
theorem Qmp (kind term vote prev:Int) (snap:ByteArray) (A:Option Addr) (cap:Nat) (l:List En) (hR:NtR kind term vote prev l snap) (hr:∀x∈l,x.fit) (w:World) (hA:At w A l):
 Calls Tryz.prog 27 #[.agg (Qag kind term vote prev A l.length cap snap)] w fun e w' =>∃a c,e= .returned (.slice a (Qb5 kind term vote prev l snap).length c)/\Below w.heap.size w w' /\w'.ownsRow w.heap.size 5 1 (.slice a (Qb5 kind term vote prev l snap).length c) (Qb5 kind term vote prev l snap).length (flat (Qb5 kind term vote prev l snap)):=by
 obtain⟨k0,t0,v0,p0,hl,hok,hen,hs⟩:=hR;have B0:Hid (Below w.heap.size w (w.alloc (.cells (Qag kind term vote prev A l.length cap snap) 26))):=Qad (Below.refl _ _) _;have P0:Blk (w.alloc (.cells (Qag kind term vote prev A l.length cap snap) 26)) w.heap.size 26 (Qag kind term vote prev A l.length cap snap):=Blk.new w 26 (Qag kind term vote prev A l.length cap snap);have HA:=hidP (hA.below B0.out);have HR:=hidP hok;have HE:=hidP hen;have HF:=hidP hr;clear hA hok hen hr;go_enter Tryz.func27,Tryz.ntmps27;go_wp2_with fail;generalize w.alloc (.cells (Qag kind term vote prev A l.length cap snap) 26)=W0 at*;have SS:∀W:World,Below W0.heap.size W0 W->(fun(W:World)=>W.cell? ⟨w.heap.size,0,none⟩=some (.int .i64 kind)/\W.cell? ⟨w.heap.size,1,none⟩=some (.int .i64 term)) W:=fun W g=>⟨(P0.below g P0.lt).cell (i:=0) rfl,(P0.below g P0.lt).cell (i:=1) rfl⟩
 have S0:=SS W0.drew (Below.drew (Below.refl _ _));refine wp_region_noPanic ?_;refine wp_region_held_drew (S:=(fun(W:World)=>W.cell? ⟨w.heap.size,0,none⟩=some (.int .i64 kind)/\W.cell? ⟨w.heap.size,1,none⟩=some (.int .i64 term))) (by kernel_rfl) ?_ (fun hH=> ?_)
 . exact S0
 refine ztk [0,1,3,4] ?_;repeat(refine ztn (h:= ?_);try simp only[zX,zY])
 refine zte ?_;refine zR1 2 (fun K hK=> ?_);simp only[zG];go_simp;refine(Qa4 kind _).mono ?_;rintro e w1 ⟨a1,c1,rfl,g1,o1⟩;have G1:Below W0.heap.size W0 w1:=via0 g1 (Below.drew (Below.refl _ _));have S1:=SS w1 G1;refine hK.out _ _ S1 fun hH=> ?_;clear hK K;try simp only[zX,zY]
 refine zR1 5 (fun K hK=> ?_);simp only[zG];go_simp;refine(Qa4 term _).mono ?_;rintro e w2 ⟨a2,c2,rfl,g2,o2⟩;have G2:Below W0.heap.size W0 w2:=via0 g2 G1;have OX:Hid (w2.ownsRow W0.heap.size 5 1 (.slice a1 (numI kind).length c1) (numI kind).length (flat (numI kind))):=hidP (Qas o1 g2);have AY:Hid (At w2 a2 (numI term)):=hidP (Qay o2).at;obtain⟨a3,c3,w3,hr,own3,hg3⟩:=Qcj (c' :=c2) G2.size OX.out AY.out (by have:=Qbm kind;have:=Qbm term;omega);obtain⟨X2,hX2⟩:∃X2,numI kind++numI term=X2:=⟨_,rfl⟩;rw[hX2]at hr own3;have G3:Below W0.heap.size W0 w3:=G2.grown hg3 G2.size (fun j e=>Nat.le_of_not_lt fun q=>Qa9 OX.out q e.symm);have J3:=hidP (Jo.mk G3 own3);have S2:=SS w2 G2;have S3:=SS w3 G3;clear own3 hg3;refine hK.out _ _ S2 fun hH=> ?_;clear hK K;try simp only[zX,zY]
 refine zR1 6 (fun K hK=> ?_);simp only[zG];rw[if_pos (by rfl)];refine Qai _ _ _ (by rfl) _ _ _ (by rfl) (by rfl) hr ?_;refine hK.out _ _ S3 fun hH=> ?_;clear hK K;try simp only[zX,zY]
 refine zt1 7 ?_;refine ztn (h:= ?_);try simp only[zX,zY]
 refine zte ?_;refine zdn ?_;have L2:Hid (X2.length<=10):=by show _<=_;rw[← hX2,List.length_append];have:=Qbm kind;have:=Qbm term;omega
 have E2:=hidP hX2;clear hX2 hr OX AY G1 G2 G3 g1 g2 o1 o2 S1 S2 S3 S0 SS;have d2:w3.cell? ⟨w.heap.size,2,none⟩=some (Value.int .i64 vote):=(P0.below J3.out.bl P0.lt).cell (i:=2) rfl;have qb:w.heap.size<w3.heap.size:=Nat.lt_of_lt_of_le P0.lt J3.out.bl.size;go_wp2_with fail;refine(Qa4 (vote+1) _).mono ?_;rintro e w4 ⟨a4,c4,rfl,g4,o4⟩;obtain⟨a5,c5,w5,hr,K5,_⟩:=J3.out.app (c1:=c4) g4 (Qay o4).at (by have:=L2.out;have:=Qbm (vote+1);omega);obtain⟨X3,hX3⟩:∃X3,X2++numI (vote+1)=X3:=⟨_,rfl⟩
 rw[hX3]at hr K5;have L3:Hid (X3.length<=15):=by show _<=_;rw[← hX3,List.length_append];have:=L2.out;have:=Qbm (vote+1);omega
 have E3:=hidP hX3;have J5:=hidP K5;clear hX3 K5 g4 o4 J3 d2 qb L2;have d3:w5.cell? ⟨w.heap.size,3,none⟩=some (Value.int .i64 prev):=(P0.below J5.out.bl P0.lt).cell (i:=3) rfl;have qb:w.heap.size<w5.heap.size:=Nat.lt_of_lt_of_le P0.lt J5.out.bl.size;go_wp2_with (at_builtin;refine Qac rfl _ _ _ rfl _ _ _ rfl rfl hr ?_);refine(Qa4 prev _).mono ?_;clear hr;rintro e w6 ⟨a6,c6,rfl,g6,o6⟩;obtain⟨a7,c7,w7,hr,K7,_⟩:=J5.out.app (c1:=c6) g6 (Qay o6).at (by have:=L3.out;have:=Qbm prev;omega);obtain⟨X4,hX4⟩:∃X4,X3++numI prev=X4:=⟨_,rfl⟩
 rw[hX4]at hr K7;have L4:Hid (X4.length<=20):=by show _<=_;rw[← hX4,List.length_append];have:=L3.out;have:=Qbm prev;omega
 have E4:=hidP hX4;have J7:=hidP K7;clear hX4 K7 g6 o6 J5 d3 qb L3;have d4:w7.cell? ⟨w.heap.size,4,none⟩=some (Value.slice A l.length cap):=(P0.below J7.out.bl P0.lt).cell (i:=4) rfl;have qb:w.heap.size<w7.heap.size:=Nat.lt_of_lt_of_le P0.lt J7.out.bl.size;go_wp2_with (at_builtin;refine Qac rfl _ _ _ rfl _ _ _ rfl rfl hr ?_);refine(Qa4 (l.length:Int) _).mono ?_;clear hr;rintro e w8 ⟨a8,c8,rfl,g8,o8⟩;obtain⟨a9,c9,w9,hr,K9,_⟩:=J7.out.app (c1:=c8) g8 (Qay o8).at (by have:=L4.out;have:=Qbm (l.length:Int);omega);obtain⟨X5,hX5⟩:∃X5,X4++numI (l.length:Int)=X5:=⟨_,rfl⟩
 rw[hX5]at hr K9;have L5:Hid (X5.length<=25):=by show _<=_;rw[← hX5,List.length_append];have:=L4.out;have:=Qbm (l.length:Int);omega
 have E5:=hidP hX5;have J9:=hidP K9;clear hX5 K9 g8 o8 J7 d4 qb L4;go_wp2_with (at_builtin;refine Qac rfl _ _ _ rfl _ _ _ rfl rfl hr ?_);clear hr
 go_loopw [3,4] (fun v i W=>∃(n:Nat) (a:Option Addr) (c:Nat) (xs:List UInt8),i= .int .i64 (n:Int)/\v= .slice a (List.length xs) c/\n<=l.length/\Hid (Jo W0 W a c xs)/\Hid (xs=X5++(l.take n).flatMap enB)) (fun _ i _=>l.length - (intOf i).toNat)
 case atStart=>exact⟨0,a9,c9,X5,rfl,rfl,by omega,J9,by simp[Hid]⟩
 case round=>
  clear J9;obtain⟨n,a,c,xs,rfl,rfl,hn,J,EX⟩:=hrel;have d4:wr.cell? ⟨w.heap.size,4,none⟩=some (Value.slice A l.length cap):=(P0.below J.out.bl P0.lt).cell (i:=4) rfl;have d5:wr.cell? ⟨w.heap.size,5,none⟩=some (Value.string snap):=(P0.below J.out.bl P0.lt).cell (i:=5) rfl;have qb:w.heap.size<wr.heap.size:=Nat.lt_of_lt_of_le P0.lt J.out.bl.size;by_cases hlt:n<l.length
  . obtain⟨b,o,rfl,hbs,hIn⟩:∃b o,A=some ⟨b,o,none⟩/\b<W0.heap.size/\In W0 b o l:=by
     rcases HA.out with h|h
     . subst h;simp at hlt
     . exact h
    obtain⟨c0,c1,c2,c3,c4,c5,c6,c7,c8⟩:=(hIn.below hbs J.out.bl).getEn n hlt;have hxok:=HR.out l[n] (List.getElem_mem hlt);have hxf:=HF.out l[n] (List.getElem_mem hlt);have hi0:(0:Int)<=(n:Int):=(by omega);have hi1:(n:Int)<(l.length:Int):=(by omega);have hlx:Hid (xs.length<=5000):=by
     show _<=_;rw[EX.out,List.length_append];have h1:=Qfz enB l n;have h2:=Qdt enB 105 l (fun x hx=>Ql2 (HE.out x hx));have:=L5.out;omega
    have EX2:Hid (xs++(numI l[n].term++cmB l[n].who l[n].seq l[n].op l[n].a l[n].b l[n].c l[n].key l[n].text)=X5++(l.take (n+1)).flatMap enB):=by
     show _=_;rw[Qj7 enB hlt,EX.out];simp[enB,List.append_assoc]
    have hcl:=(hidP (Qri (HE.out l[n] (List.getElem_mem hlt)).cm))
    clear hIn;generalize l[n]=x at*;obtain⟨term',who,seq,op,aa,bb,cc,key,text⟩:=x;dsimp only at c0 c1 c2 c3 c4 c5 c6 c7 c8 EX2 hcl;have hok:CmdOk.okB who seq op aa bb cc key text=true:=hxok;have hks:key.size<=9223372036854775807:=hxf.1;have hts:text.size<=9223372036854775807:=hxf.2;have pe:=Blk.new wr 57 (Qbg term' who seq op aa bb cc key text);have Hpe:=hidP pe;clear pe hxok hxf;go_wp2_with fail;refine(Qa4 term' _).mono ?_;rintro e v1 ⟨a1,c1',rfl,g1,o1⟩;have pe1:=Hpe.out.below g1 Hpe.out.lt;have gg:=via0 g1 (Qad (Below.refl _ wr) _);obtain⟨a2,c2',v2,hr,K2,kp⟩:=J.out.app (c1:=c1') gg (Qay o1).at (by have:=hlx.out;have:=Qbm term';omega);have pe2:=kp _ _ _ (Nat.le_refl _) pe1;obtain⟨Y,hY⟩:∃Y,xs++numI term' =Y:=⟨_,rfl⟩
    rw[hY]at hr K2;have LY:Hid (Y.length<=5010):=(by show _<=_;rw[← hY,List.length_append];have:=hlx.out;have:=Qbm term';omega);have EY:=hidP hY;have J2:=hidP K2;have f1:v2.cell? ⟨wr.heap.size,1,none⟩=some (.int .i64 who):=pe2.cell (i:=1) rfl;have f2:v2.cell? ⟨wr.heap.size,2,none⟩=some (.int .i64 seq):=pe2.cell (i:=2) rfl;have f3:v2.cell? ⟨wr.heap.size,3,none⟩=some (.int .i64 op):=pe2.cell (i:=3) rfl;have f4:v2.cell? ⟨wr.heap.size,4,none⟩=some (.int .i64 aa):=pe2.cell (i:=4) rfl;have f5:v2.cell? ⟨wr.heap.size,5,none⟩=some (.int .i64 bb):=pe2.cell (i:=5) rfl;have f6:v2.cell? ⟨wr.heap.size,6,none⟩=some (.int .i64 cc):=pe2.cell (i:=6) rfl;have f7:v2.cell? ⟨wr.heap.size,7,none⟩=some (.string key):=pe2.cell (i:=7) rfl;have f8:v2.cell? ⟨wr.heap.size,8,none⟩=some (.string text):=pe2.cell (i:=8) rfl;have qe:=pe2.lt;clear hY K2 kp gg g1 o1 pe1 pe2 Hpe J hlx c0 c1 c2 c3 c4 c5 c6 c7 c8 d4 d5 qb;go_wp2_with (at_builtin;refine Qac rfl _ _ _ rfl _ _ _ rfl rfl hr ?_);refine(Qf1 who seq op aa bb cc key text hks hts _).mono ?_;clear hr f1 f2 f3 f4 f5 f6 f7 f8 qe;rintro e v3 ⟨a3,c3',rfl,g3,o3⟩;have hO:cmO who seq op aa bb cc key text=cmB who seq op aa bb cc key text:=(by unfold cmO;rw[hok];rfl);rw[hO]at o3;rw[hO];obtain⟨a4,c4',v4,hr,K4,_⟩:=J2.out.app (c1:=c3') g3 (Qay o3).at (by have:=LY.out;have:=hcl.out;omega);have EZ:Hid (Y++cmB who seq op aa bb cc key text=X5++(l.take (n+1)).flatMap enB):=by
     show _=_;rw[← EY.out,← EX2.out];simp[List.append_assoc]
    generalize cmB who seq op aa bb cc key text=M at*;obtain⟨Z,hZ⟩:∃Z,Y++M=Z:=⟨_,rfl⟩
    rw[hZ]at hr K4 EZ;have J4:=hidP K4;clear hZ K4 g3 o3 J2 hO;go_wp2_with (at_builtin;refine Qac rfl _ _ _ rfl _ _ _ rfl rfl hr ?_);exact⟨⟨n+1,a4,c4',Z,by go_num,rfl,by omega,J4,EZ⟩,by simp[intOf];omega⟩
  . obtain rfl:n=l.length:=(by omega);rw[List.take_length]at EX;have hlx:Hid (xs.length<=5000):=by
     show _<=_;rw[EX.out,List.length_append];have h2:=Qdt enB 105 l (fun x hx=>Ql2 (HE.out x hx));have:=L5.out;omega
    go_wp2_with fail;refine(Qbw snap (by omega) _).mono ?_;rintro e v1 ⟨a1,c1',rfl,g1,o1⟩;have hlT:Hid ((txtB snap).length<=30005):=(by show _<=_;rw[Qb9];have:=Qcx (n:=snap.size) (by omega);omega);have EB:Hid (xs++txtB snap=Qb5 kind term vote prev l snap):=by
     show _=_;rw[EX.out,← E5.out,← E4.out,← E3.out,← E2.out];simp[Qb5,Qbo,ensB,List.append_assoc]
    generalize txtB snap=T at*;obtain⟨a2,c2',v2,hr,K2,_⟩:=J.out.app (c1:=c1') g1 (Qay o1).at (by have:=hlx.out;have:=hlT.out;omega);generalize xs++T=Z at*;have J2:=hidP K2;clear K2 g1 o1 J d4 d5 qb;go_wp2_with (at_builtin;refine Qac rfl _ _ _ rfl _ _ _ rfl rfl hr ?_);go_ret;rw[← EB.out];exact⟨a2,c2',rfl,Qt0 (B0.out) J2.out.bl,Qat J2.out.own (Nat.le_of_lt P0.lt)⟩
def Qcg (kind term vote prev:Int) (l:List En) (snap:ByteArray):List UInt8:=if Qdc kind term vote prev l snap=true then Qbk (Qb5 kind term vote prev l snap)else []
theorem Qis {kind term vote prev:Int} {l:List En} {snap:ByteArray} (h:NtR kind term vote prev l snap):(Qb5 kind term vote prev l snap).length<=40000:=by
 have h1:=Qca [kind,term,vote+1,prev];have h2:=Qpj h.en;have h3:=Qcx (n:=snap.size) (by have:=h.s;omega);have:=h.s;have:=h.len;simp only[Qb5,List.length_append,Qb9,List.length_cons,List.length_nil]at h1 ⊢;omega
theorem Qpa {L:List UInt8} (h:L.length<=40000):(Qbk L).length<=41000:=by
 have h1:=Qcx (n:=L.length) (by omega);simp only[Qbk,List.length_append,Qbd];omega
theorem Qid (kind term vote prev:Int) (l:List En) (snap:ByteArray):(Qcg kind term vote prev l snap).length<=41000:=by
 unfold Qcg;split
 . exact Qpa (Qis (Qdr ‹_›))
 . simp
theorem Pt.of_at {α:Type} [Cel α] {P:Nat->Prop} {w W:World} {A:Option Addr} {L:List α} (h:At w A L) (g:Below w.heap.size w W) (hP:∀k,k<w.heap.size->P k):Pt P W A L:=by
 refine⟨h.below g,?_⟩;rcases h with e|⟨b,o,e,hb,_⟩
 . exact .inl e
 . exact .inr fun k o' e' =>by rw[e]at e';cases e';exact hP b hb
theorem Qn7 (z:Nat) (P:Nat->Prop) (y:Nat) (kind term vote prev:Int) (snap:ByteArray) (A:Option Addr) (cap:Nat) (l:List En) (hR:NtR kind term vote prev l snap) (W:World) (hz:Blk W z 26 (Qag kind term vote prev A l.length cap snap)) (hA:Pt P W A l) (h:Wr P y W []):Qh5 22 #[.pointer (some ⟨z,0,none⟩)] (some (Qb5 kind term vote prev l snap)) P y W:=by
 unfold Qh5;have HW:=hidP h;have HA:=hidP hA;have HRR:=hidP hR;show Calls Tryz.prog 22 #[.pointer (some ⟨y,0,none⟩),.pointer (some ⟨z,0,none⟩)] W _;obtain⟨c0,c1,c2,c3,c4,c5⟩:=hz.row6n;clear h hz hA hR;go_enter Tryz.func22,Tryz.ntmps22;go_wp2_with fail;refine(Qm9 P y kind term vote prev snap A cap l ⟨by have:=HRR.out.k;omega,HRR.out.k.2⟩ HRR.out.t HRR.out.v HRR.out.p HRR.out.s HRR.out.len HRR.out.en _ HA.out HW.out).mono ?_;rintro e w' ⟨rfl,t1,h1⟩;go_wp2
 go_end0
 exact⟨t1,rfl,h1⟩
theorem Qn6 (z:Nat) (P:Nat->Prop) (y:Nat) (A:Option Addr) (cap:Nat) (L:List UInt8) (hL:L.length<=3000000) (W:World) (hz:Blk W z 22 #[.slice A L.length cap]) (hA:Pt P W A L) (h:Wr P y W []):Qh5 24 #[.pointer (some ⟨z,0,none⟩)] (some (Qbk L)) P y W:=by
 unfold Qh5;have HW:=hidP h;have HA:=hidP hA;show Calls Tryz.prog 24 #[.pointer (some ⟨y,0,none⟩),.pointer (some ⟨z,0,none⟩)] W _;have c0:=hz.row1;clear h hz hA;go_enter Tryz.func24,Tryz.ntmps24;go_wp2_with fail;refine(Qmy P y A cap L hL _ HA.out HW.out).mono ?_;rintro e w' ⟨rfl,t1,h1⟩;go_wp2
 go_end0
 exact⟨t1,rfl,h1⟩
theorem Qd4 (kind term vote prev:Int) (snap:ByteArray) (hs:snap.size<=9223372036854775807) (A:Option Addr) (cap:Nat) (l:List En) (hl:l.length<=3000000) (hr:∀x∈l,x.fit) (w:World) (hA:At w A l):
 Calls Tryz.prog 6 #[.agg (Qag kind term vote prev A l.length cap snap)] w fun e w' =>∃a' c',e= .returned (.slice a' (Qcg kind term vote prev l snap).length c')/\Below w.heap.size w w' /\w'.ownsRow w.heap.size 5 1 (.slice a' (Qcg kind term vote prev l snap).length c') (Qcg kind term vote prev l snap).length (flat (Qcg kind term vote prev l snap)):=by
 have hmf:∀(fn:Fn) (first cap:Array Value) (w:World),(Instr.makeFunc fn first cap).run Tryz.prog w= .ok (.func fn first cap) w:=fun _ _ _ _=>rfl
 have Hp:=hidP (Blk.new w 26 (Qag kind term vote prev A l.length cap snap));have B0:Below w.heap.size w (w.alloc (.cells (Qag kind term vote prev A l.length cap snap) 26)):=Qad (Below.refl _ w) _;have HA:=hidP hA;have HF:=hidP hr;clear hA hr;go_enter Tryz.func6,Tryz.ntmps6;go_wp2_with fail;refine(Qdf kind term vote prev snap hs A cap l hl HF.out _ (HA.out.below B0)).mono ?_;rintro e w1 ⟨rfl,g1⟩;have p1:=Hp.out.below g1 Hp.out.lt;have B1:=via0 g1 B0;have q1:=p1.lt;cases hok:Qdc kind term vote prev l snap with
 |false=>
  have hO:Hid (Qcg kind term vote prev l snap= []):=by show _=_;unfold Qcg;rw[hok];rfl
  clear g1 p1;go_wp2;go_ret;rw[hO.out];exact⟨none,0,rfl,B1,World.ownsRow_nil _ _ _ _⟩
 |true=>
  have hO:Hid (Qcg kind term vote prev l snap=Qbk (Qb5 kind term vote prev l snap)):=by show _=_;unfold Qcg;rw[hok];rfl
  have hR:=Qdr hok;have hbl:=hidP (Qis hR);have hwr:=hidP (Qgj 22 #[.pointer (some ⟨w.heap.size,0,none⟩)] (some (Qb5 kind term vote prev l snap)) w1 (fun p W=>by simp[go_sem])
   (fun W hb P y hP h=>Qn7 w.heap.size P y kind term vote prev snap A cap l hR W (p1.below hb p1.lt) (Pt.of_at (HA.out.below B1) hb hP) h))
  clear g1 p1 hR;simp only[Option.getD_some]at hwr;generalize Qb5 kind term vote prev l snap=L at*;go_wp2_with fail;refine hwr.out.mono ?_;rintro e w2 ⟨a2,c2,rfl,g2,o2⟩;have B2:=via0 g2 B1;have hat2:=(Qay o2).at;have p3:=Blk.new w2 22 #[.slice a2 L.length c2];have B3:Below w.heap.size w (w2.alloc (.cells #[.slice a2 L.length c2] 22)):=Qad B2 _;have hat3:=hat2.below (Qad (Below.refl _ w2) (.cells #[.slice a2 L.length c2] 22));have hwr2:=hidP (Qgj 24 #[.pointer (some ⟨w2.heap.size,0,none⟩)] (some (Qbk L)) (w2.alloc (.cells #[.slice a2 L.length c2] 22)) (fun p W=>by simp[go_sem])
   (fun W hb P y hP h=>Qn6 w2.heap.size P y a2 c2 L (by have:=hbl.out;omega) W (p3.below hb p3.lt) (Pt.of_at hat3 hb hP) h))
  simp only[Option.getD_some]at hwr2;clear hwr hat2 hat3 p3 g2 o2;go_wp2_with fail;refine hwr2.out.mono ?_;rintro e w' ⟨a',c',rfl,hb,ho⟩;have hb' :=via0 hb B3;have ho' :=hidP (Qat (C:=w.heap.size) ho B3.size);clear hb ho hwr2;go_wp2;go_ret;rw[hO.out];exact⟨a',c',rfl,hb',ho'.out⟩
theorem Qc9 (kind term vote prev:Int) (snap:ByteArray) (hs:snap.size<=9223372036854775807) (A:Option Addr) (cap:Nat) (l:List En) (hl:l.length<=3000000) (hr:∀x∈l,x.fit) (w:World) (hA:At w A l):
 Calls Tryz.prog 9 #[.agg (Qag kind term vote prev A l.length cap snap)] w fun e w' =>∃a' c',e= .returned (.slice a' (Qcg kind term vote prev l snap).length c')/\Below w.heap.size w w' /\w'.ownsRow w.heap.size 5 1 (.slice a' (Qcg kind term vote prev l snap).length c') (Qcg kind term vote prev l snap).length (flat (Qcg kind term vote prev l snap)):=by
 have Hp:=hidP (Blk.new w 26 (Qag kind term vote prev A l.length cap snap));have B0:Below w.heap.size w (w.alloc (.cells (Qag kind term vote prev A l.length cap snap) 26)):=Qad (Below.refl _ w) _;have HA:=hidP hA;have HF:=hidP hr;clear hA hr;go_enter Tryz.func9,Tryz.ntmps9;go_wp2_with fail;refine(Qdw kind term vote prev snap hs A cap l hl HF.out _ (HA.out.below B0)).mono ?_;rintro e w1 ⟨rfl,g1⟩;have p1:=Hp.out.below g1 Hp.out.lt;have B1:=via0 g1 B0;have q1:=p1.lt;cases hok:Qdc kind term vote prev l snap with
 |false=>
  have hO:Hid (Qcg kind term vote prev l snap= []):=by show _=_;unfold Qcg;rw[hok];rfl
  clear g1 p1;go_wp2;go_ret;rw[hO.out];exact⟨_,_,rfl,Qad B1 _,⟨by simp[flat],.inr ⟨w1.heap.size,0,#[],rfl,B1.size,Blk.new w1 5 #[],Nat.le_refl _,by simp[maxLen],rfl,rfl⟩⟩⟩
 |true=>
  have hO:Hid (Qcg kind term vote prev l snap=Qbk (Qb5 kind term vote prev l snap)):=by show _=_;unfold Qcg;rw[hok];rfl
  have hR:=hidP (Qdr hok);have hbl:=hidP (Qis hR.out);obtain⟨d0,d1,d2,d3,d4,d5⟩:=p1.row6n;clear g1 p1;go_wp2_with fail;refine(Qmp kind term vote prev snap A cap l hR.out HF.out _ (HA.out.below B1)).mono ?_;rintro e w2 ⟨a2,c2,rfl,g2,o2⟩;have B2:=hidP (via0 g2 B1);have hat2:=hidP (Qay o2).at;generalize Qb5 kind term vote prev l snap=L at*;clear g2 o2 hR d0 d1 d2 d3 d4 d5 q1;go_wp2_with fail;refine(Qa4 (L.length:Int) _).mono ?_;rintro e w3 ⟨a3,c3,rfl,g3,o3⟩;have J3:Jo w2 w3 a3 c3 (numI (L.length:Int)):=⟨g3,o3⟩
  obtain⟨a4,c4,w4,hr4,K4,_⟩:=J3.app (c1:=c2) (Below.refl _ _) (hat2.out.below g3) (by have:=Qbm (L.length:Int);have:=hbl.out;omega);have EX:Hid (numI (L.length:Int)++L++sumB 4 (sumN L)=Qbk L):=by show _=_;rw[Qb7 (by have:=hbl.out;omega)];simp[Qbk,List.append_assoc]
  have LX:Hid ((numI (L.length:Int)++L).length<=41000):=by show _<=_;rw[List.length_append];have:=Qbm (L.length:Int);have:=hbl.out;omega
  generalize numI (L.length:Int)++L=X at*;have J4:=hidP K4;have hat4:=hidP (hat2.out.below J4.out.bl);clear K4 J3 g3 o3;go_wp2_with (at_builtin;refine Qac rfl _ _ _ rfl _ _ _ rfl rfl hr4 ?_);refine(Qg4 a2 c2 L (by have:=hbl.out;omega) _ hat4.out).mono ?_;rintro e w5 ⟨rfl,g5,hy5⟩;obtain⟨a6,c6,w6,hr6,K6,_⟩:=J4.out.app (c1:=4) g5 hy5 (by have:=LX.out;rw[Qbd];omega);rw[Qbd]at hr6;generalize X++sumB 4 (sumN L)=Y at*;have J6:=hidP K6;clear K6 J4 g5 hy5 hr4;go_wp2_with (at_builtin;refine Qac rfl _ _ _ rfl _ _ _ rfl rfl hr6 ?_);go_ret;rw[hO.out,← EX.out];exact⟨a6,c6,rfl,via0 J6.out.bl B2.out,Qat J6.out.own B2.out.size⟩
open Items (It)
theorem DL.app8 {w W W1:World} {C cap:Nat} {A:Option Addr} {l:List By} {a a1:Option Addr} {c c1:Nat} {xs ys:List UInt8} (h:DL 5 w W C cap A l a c xs) (hy:At W a1 ys) (hlen:xs.length+ys.length<=1000000):
 ∃a2 c2 W2,(Builtin.append_ #[22,22] 22 (l1SS a xs.length c a1 ys.length c1)).run Tryz.prog W= .ok (.slice a2 (xs.length+ys.length) c2) W2/\DL 5 w W2 C cap A l a2 c2 (xs++ys):=by
 have hs:=h.size;obtain⟨v',W2,hr,hown,hgrow,hob⟩:=Qef w.heap.size (.slice a xs.length c) xs ys a1 c1 W hs h.own hy (by omega);obtain⟨a2,c2,rfl,_⟩:=Qao hown;have ko:=Qb8 hgrow;have g:Below w.heap.size W W2:=ko.toBelow (fun z hz=>(h.own.lt z hz).1) hs;exact⟨a2,c2,W2,hr,Qdo h.on (Nat.le_refl _) g,h.dr.under g h.hC,by rw[List.length_append];exact hown,h.hC⟩
def Qui (n:Nat) (C:Nat) (A:Option Addr) (cap:Nat) (l:List By) (w:World) (e:Ending) (w' :World):Prop:=∃(a:Option Addr) (c:Nat) (L:List UInt8),e= .returned (.slice a L.length c)/\L.length<=n/\DL 5 w w' C cap A l a c L
theorem Qip (C:Nat) (A:Option Addr) (cap:Nat) (l:List By) (w:World) (hD:Drawn w C A cap l):
 Calls Tryz.prog 39 #[.pointer (some ⟨C,0,none⟩)] w fun e w' =>Qui 130000 C A cap l w e w' :=by
 have hC:=hD.lt;have I0:DL (α:=UInt8) 5 w (w.alloc (.cells #[] 5)) C cap A l (some ⟨w.heap.size,0,none⟩) 0 []:=⟨Only.of_below (Qad (Below.refl _ _) _),hD.below (Qad (Below.refl _ _) _),Qet (α:=UInt8) (Nat.le_refl _) rfl,hC⟩
 clear hD;go_enter Tryz.func39,Tryz.ntmps39;go_wp2
 go_loopw [3,4] (fun ov iv wx=>∃(i:Nat) (a:Option Addr) (c:Nat) (L:List UInt8),ov= .slice a L.length c/\iv= .int .i64 (i:Int)/\i<=3/\Hid (L.length<=i*41000)/\DL 5 w wx C cap A l a c L) (fun _ iv _=>3 - (intOf iv).toNat)
 case atStart=>exact⟨0,_,_,[],rfl,rfl,by omega,by show _<=_;simp,I0⟩
 case round=>
  clear I0;obtain⟨i,la,lc,L,rfl,rfl,hi,hl,P⟩:=hrel;have HP:=hidP P;clear P;go_wp2_with fail;refine(Qa3 C A cap l 4 (by omega) (by omega) _ HP.out.dr).mono ?_;rintro e w1 ⟨x,rfl,hx0,hx1,k1,d1⟩;have P1:=HP.out.only k1 d1;clear HP k1 d1;by_cases hlt:(i:Int)<x
  . have HP1:=hidP P1;clear P1;go_wp2_with fail;refine(Qep C A cap l _ HP1.out.dr).mono ?_;rintro e w2 ⟨kind,term,vote,prev,na,nc,NL,snap,rfl,hn1,hn2,hn3,hav,k2,d2⟩;have P2:=hidP (HP1.out.only k2 d2);have HNB:Hid (∀W:World,Below w2.heap.size w2 W->Calls Tryz.prog 9 #[.agg (Qag kind term vote prev na NL.length nc snap)] W fun e w' =>∃a' c',e= .returned (.slice a' (Qcg kind term vote prev NL snap).length c')/\Below W.heap.size W w' /\w'.ownsRow W.heap.size 5 1 (.slice a' (Qcg kind term vote prev NL snap).length c') (Qcg kind term vote prev NL snap).length (flat (Qcg kind term vote prev NL snap))):=fun W g=>Qc9 kind term vote prev snap (by omega) na nc NL (by omega) (fun y hy=>by have:=hn2 y hy;exact⟨by omega,by omega⟩) W (hav.at.below g)
    have hno:=Qid kind term vote prev NL snap;generalize Qcg kind term vote prev NL snap=B at HNB hno;clear HP1 k2 d2 hav hn1 hn2 hn3;go_wp2_with fail;refine(HNB.out _ (Below.refl _ _)).mono ?_;rintro e w3 ⟨ba,bc,rfl,g3,o3⟩;have P3:=P2.out.below g3;have hat:At w3 ba B:=Qc2 rfl o3;clear P2 HNB g3 o3;obtain⟨a9,c9,W9,hr,P9⟩:=P3.app8 (c1:=bc) (W1:=w3) hat (by have:=hl.out;omega);obtain⟨m9,hm9⟩:∃m,m=L.length+B.length:=⟨_,rfl⟩
    rw[← hm9]at hr;have Hm:=hidP hm9;clear hm9;go_wp2_with (at_builtin;refine Qac rfl _ _ _ rfl _ _ _ rfl rfl hr ?_);exact⟨⟨i+1,a9,c9,L++B,by rw[List.length_append,Hm.out],by go_num,by omega,by show _<=_;rw[List.length_append];have:=hl.out;omega,P9⟩,by simp[intOf];omega⟩
  . go_wp2;go_ret;exact⟨la,lc,L,rfl,by have:=hl.out;omega,P1⟩
structure Nx (w W:World) (C cap:Nat) (A:Option Addr) (l:List By) (P:Nat) (k t v p:Int) (a:Option Addr) (c:Nat) (L:List En) (s:ByteArray):Prop where
  on:Only C w W
  dr:Drawn W C A cap l
  r:Blk W w.heap.size 26 Qah
  b:Blk W P 26 (Qag k t v p a L.length c s)
  own:OwE W (w.heap.size+1) a c L
  ne:∀x,(Value.slice a L.length c).ownBlock=some x->x≠P
  hP:w.heap.size<P
  hC:C<w.heap.size
section
variable {w W W' :World} {C cap:Nat} {A:Option Addr} {l:List By} {P:Nat} {k t v p k' t' v' p' :Int} {a:Option Addr} {c:Nat} {L:List En} {s:ByteArray}
theorem Nx.below (h:Nx w W C cap A l P k t v p a c L s) (g:Below W.heap.size W W'):Nx w W' C cap A l P k t v p a c L s:=⟨h.on.below g,h.dr.below g,h.r.below g h.r.lt,h.b.below g h.b.lt,Qas h.own g,h.ne,h.hP,h.hC⟩
theorem Nx.only (h:Nx w W C cap A l P k t v p a c L s) (q:Only C W W') (d:Drawn W' C A cap l):Nx w W' C cap A l P k t v p a c L s:=
 ⟨h.on.trans q,d,h.r.only q (by have:=h.hC;omega),h.b.only q (by have:=h.hC;have:=h.hP;omega),Qbi h.own q (by have:=h.hC;omega),h.ne,h.hP,h.hC⟩
theorem Nx.put (h:Nx w W C cap A l P k t v p a c L s) (i:Nat) (u:Value) (k' t' v' p' :Int) (e:((Qag k t v p a L.length c s):Array Value).setIfInBounds i u=(Qag k' t' v' p' a L.length c s)):Nx w (W.setCell ⟨P,i,none⟩ u) C cap A l P k' t' v' p' a c L s:=by
 have ko:Only P W (W.setCell ⟨P,i,none⟩ u):=(Only.refl P W).set i u;have hP:=h.hP;have hC:=h.hC;refine⟨Qaf h.on ko (by omega),h.dr.only ko (by omega),h.r.only ko (by omega),?_,Qbc h.own (Offp.of_only ko) (fun x hx=>h.ne x hx),h.ne,h.hP,h.hC⟩;have:=h.b.setAt i u;rwa [e]at this
theorem Nx.app (h:Nx w W C cap A l P k t v p a c L s) (x:En) (cs:Array Value) (hcs:cs.toList=Cel.cs x) (hx:L.length<=1000000):
 ∃a2 c2 W2,(Builtin.append_ #[24,24] 24 (l1SS a L.length c (some ⟨W.heap.size,0,none⟩) 1 1)).run Tryz.prog (W.alloc (.cells cs 57))= .ok (.slice a2 (L.length+1) c2) W2/\Blk W2 P 26 (Qag k t v p a L.length c s)/\Nx w (W2.setCell ⟨P,4,none⟩ (.slice a2 (L.length+1) c2)) C cap A l P k t v p a2 c2 (L++ [x]) s:=by
 have h1:=h.below (Qad (Below.refl _ W) (.cells cs 57));have hX:At (W.alloc (.cells cs 57)) (some ⟨W.heap.size,0,none⟩) [x]:=by
  refine .inr ⟨_,0,rfl,by simp,fun j u hu=> ?_⟩;rw[Qdg,← hcs]at hu;rw[Nat.zero_add];exact(Blk.new W 57 cs).cell (by simpa using hu)
 have hs:=h1.on.size;have hP:=h.hP;have hC:=h.hC;have hb:=h.b.lt;have hwl:=h1.r.lt;obtain⟨v',W2,hr,hown,hgrow,hob⟩:=Qbj (P:=Tryz.prog) (α:=En) Tryz.underlying24 Qlu rfl (by decide) (by decide) (w.heap.size+1) (.slice a L.length c) L [x] (some ⟨W.heap.size,0,none⟩) 1 _ (by omega) h1.own hX (by simp;omega);simp only[List.length_cons,List.length_nil,Nat.zero_add]at hown hr;obtain⟨a2,c2,rfl,_⟩:=Qao hown;have g:Below (w.heap.size+1) (W.alloc (.cells cs 57)) W2:=(Qb8 hgrow).toBelow (fun z hz=>(h1.own.lt z hz).1) (by omega);have hlen:(L++ [x]).length=L.length+1:=by simp
 have hne:∀y,(Value.slice a2 (L.length+1) c2).ownBlock=some y->y≠P:=fun y hy e=>by
  rcases hob with q|q
  . exact h.ne y (by rw[← q];exact hy) e
  . rw[hy]at q;have:y=(W.alloc (.cells cs 57)).heap.size:=Option.some.inj q;simp at this;omega
 have hB:Blk W2 P 26 (Qag k t v p a L.length c s):=(hgrow.block P h1.b.lt (fun e=>h.ne P e.symm rfl)).trans h1.b;have ko:Only P W2 (W2.setCell ⟨P,4,none⟩ (.slice a2 (L.length+1) c2)):=(Only.refl P W2).set 4 _;have hr2:Blk W2 w.heap.size 26 Qah:=(g.block w.heap.size (by omega)).trans h1.r;have hon:Only C w W2:=Qdo h1.on (Nat.le_succ _) g;have hdr:Drawn W2 C A cap l:=h1.dr.under g (by omega);refine⟨a2,c2,W2,hr,hB,Qaf hon ko (by omega),hdr.only ko (by omega),hr2.only ko (by omega),?_,?_,by rw[hlen];exact hne,h.hP,h.hC⟩
 . have:=hB.setAt 4 (.slice a2 (L.length+1) c2);rw[hlen];exact this
 . have:=Qbc hown (Offp.of_only ko) (fun y hy=>hne y hy);show World.ownsRow _ _ _ _ _ _ _;rw[hlen];exact this
end
def Quf (C:Nat) (A:Option Addr) (cap:Nat) (l:List By) (w:World) (e:Ending) (w' :World):Prop:=∃(kind term vote prev:Int) (a:Option Addr) (c:Nat) (L:List En) (snap:ByteArray),e= .returned (.agg (Qag kind term vote prev a L.length c snap))/\L.length<=300/\(∀x∈L,x.key.size<=40/\x.text.size<=40)/\snap.size<=300000/\OwE w' w.heap.size a c L/\Only C w w' /\Drawn w' C A cap l
def lenN (W:World) (B:Nat):Nat:=match W.cell? ⟨B,4,none⟩with|some (.slice _ n _)=>n|_=>0
theorem Qoh {W:World} {B n c:Nat} {a:Option Addr} (h:W.cell? ⟨B,4,none⟩=some (.slice a n c)):lenN W B=n:=by simp[lenN,h]
theorem Qkc (C:Nat) (A:Option Addr) (cap:Nat) (l:List By) (w:World) (hD:Drawn w C A cap l):
 Calls Tryz.prog 19 #[.pointer (some ⟨C,0,none⟩)] w fun e w' =>Quf C A cap l w e w' :=by
 have hC:=hD.lt;have HD:=hidP (hD.below (Qad (Below.refl _ w) (.cells Qah 26)));have HO:=hidP (show Only C w (w.alloc (.cells Qah 26))from Only.of_below (Qad (Below.refl _ _) _));have HR:=hidP (Blk.new w 26 Qah);clear hD;go_enter Tryz.func19,Tryz.ntmps19;go_wp2_with fail;refine(Qep C A cap l _ HD.out).mono ?_;rintro e w1 ⟨k,t,v,p,a,c,L,s,rfl,hn1,hn2,hn3,hav,k1,d1⟩;have hs1:=k1.size;have hlt:=hav.lt;have N0:Nx w (w1.alloc (.cells (Qag k t v p a L.length c s) 26)) C cap A l w1.heap.size k t v p a c L s:=by
  have al:=Qad (Below.refl _ w1) (.cells (Qag k t v p a L.length c s) 26);refine⟨(HO.out.trans k1).below al,d1.below al,(HR.out.only k1 (by omega)).below al ?_,Blk.new w1 _ _,Qas (Qat hav (by simp)) al,fun x hx=> ?_,?_,hC⟩
  . have:=HR.out.lt;omega
  . have:=(hlt x hx).2;omega
  . have:=HR.out.lt;omega
 have HN0:=hidP N0;have HL:Hid (L.length<=300/\(∀x∈L,x.key.size<=40/\x.text.size<=40)/\s.size<=300000):=hidP ⟨by omega,fun x hx=>by have:=hn2 x hx;omega,hn3⟩;have HL2:=hidP hn1;clear N0 k1 d1 hav hn1 hn2 hn3 HD HO HR hs1 hlt;go_upto_region 2 with fail;generalize w1.alloc (.cells (Qag k t v p a L.length c s) 26)=W1 at HN0 ⊢;generalize w1.heap.size=P at HN0 ⊢;go_wp2_with fail;refine(Qa3 C A cap l 14 (by omega) (by omega) _ HN0.out.dr).mono ?_;rintro e w2 ⟨x,rfl,hx0,hx1,k2,d2⟩;have N1:=hidP (HN0.out.only k2 d2);clear HN0 k2 d2;by_cases h0:x=0
 . subst h0;go_wp2_with fail;refine(Qa3 C A cap l 6 (by omega) (by omega) _ N1.out.dr).mono ?_;rintro e w3 ⟨y,rfl,hy0,hy1,k3,d3⟩;have N:=N1.out.only k3 d3;clear N1 k3 d3;obtain⟨b0,b1,b2,b3,b4,b5⟩:=N.b.row6n;have f0:=N.b.thaw 0;have qb:=N.b.lt;replace N:=N.put 0 (.int .i64 (y - 1)) (y - 1) t v p rfl;have HN:=hidP N;clear N;go_upto_region 14 with fail;have N:=HN.out;clear HN b0 b1 b2 b3 b4 b5 f0 qb;generalize w3.setCell ⟨P,0,none⟩ (.int .i64 (y - 1))=Z at N ⊢;obtain⟨r0,r1,r2,r3,r4,r5⟩:=N.r.row6n;obtain⟨b0,b1,b2,b3,b4,b5⟩:=N.b.row6n;have f0:=N.r.thaw 0;have f1:=N.r.thaw 1;have f2:=N.r.thaw 2;have f3:=N.r.thaw 3;have f4:=N.r.thaw 4;have f5:=N.r.thaw 5;have qr:=N.r.lt;have qb:=N.b.lt;have hPP:=N.hP;have hne:P≠w.heap.size:=(by omega);have hne2:w.heap.size≠P:=(by omega);have HN:=hidP N;clear N;go_wp2;have ko:∀u0 u1 u2 u3 u4 u5:Value,Only w.heap.size Z ((((((Z.setCell ⟨w.heap.size,0,none⟩ u0).setCell ⟨w.heap.size,1,none⟩ u1).setCell ⟨w.heap.size,2,none⟩ u2).setCell ⟨w.heap.size,3,none⟩ u3).setCell ⟨w.heap.size,4,none⟩ u4).setCell ⟨w.heap.size,5,none⟩ u5):=fun u0 u1 u2 u3 u4 u5=>((((((Only.refl w.heap.size Z).set 0 u0).set 1 u1).set 2 u2).set 3 u3).set 4 u4).set 5 u5
   refine bodyPost_ret (v:= .agg (Qag (y - 1) (t) (v) (p) a (List.length L) c s)) (by simp[results,Tryz.results19,go_sem,r0,r1,r2,r3,r4,r5]) rfl ⟨y - 1,t,v,p,a,c,L,s,rfl,HL.out.1,HL.out.2.1,HL.out.2.2,(Qat (Qbi HN.out.own (ko _ _ _ _ _ _) (by omega)) (by omega)),Qaf HN.out.on (ko _ _ _ _ _ _) (Nat.le_refl _),HN.out.dr.only (ko _ _ _ _ _ _) HN.out.hC⟩
 by_cases h1:x=1
 . subst h1;have HI:=hidP (Qjl w2 ([⟨-1⟩,⟨300⟩,⟨301⟩]:List Nu) (Qck (-1) (300) (301)) 3 rfl);have N2:=hidP (N1.out.below (Qad (Below.refl _ w2) (.cells (Qck (-1) (300) (301)) 3)));have hw2:C<w2.heap.size:=Nat.lt_of_lt_of_le N1.out.dr.lt (Nat.le_refl _);clear N1;go_wp2_with fail;refine(Qb6 C A cap l w2.heap.size 0 3 ([⟨-1⟩,⟨300⟩,⟨301⟩]:List Nu) (by simp) (by simp) _ N2.out.dr (by simp) (by omega) HI.out).mono ?_;rintro e w3 ⟨y,hy,rfl,k3,d3⟩;have N:=N2.out.only k3 d3;clear N2 HI k3 d3 hy;generalize y.n=z;obtain⟨b0,b1,b2,b3,b4,b5⟩:=N.b.row6n;have f1:=N.b.thaw 1;have qb:=N.b.lt;replace N:=N.put 1 (.int .i64 z) k z v p rfl;have HN:=hidP N;clear N;go_upto_region 14 with fail;have N:=HN.out;clear HN b0 b1 b2 b3 b4 b5 f1 qb;generalize w3.setCell ⟨P,1,none⟩ (.int .i64 z)=Z at N ⊢;obtain⟨r0,r1,r2,r3,r4,r5⟩:=N.r.row6n;obtain⟨b0,b1,b2,b3,b4,b5⟩:=N.b.row6n;have f0:=N.r.thaw 0;have f1:=N.r.thaw 1;have f2:=N.r.thaw 2;have f3:=N.r.thaw 3;have f4:=N.r.thaw 4;have f5:=N.r.thaw 5;have qr:=N.r.lt;have qb:=N.b.lt;have hPP:=N.hP;have hne:P≠w.heap.size:=(by omega);have hne2:w.heap.size≠P:=(by omega);have HN:=hidP N;clear N;go_wp2;have ko:∀u0 u1 u2 u3 u4 u5:Value,Only w.heap.size Z ((((((Z.setCell ⟨w.heap.size,0,none⟩ u0).setCell ⟨w.heap.size,1,none⟩ u1).setCell ⟨w.heap.size,2,none⟩ u2).setCell ⟨w.heap.size,3,none⟩ u3).setCell ⟨w.heap.size,4,none⟩ u4).setCell ⟨w.heap.size,5,none⟩ u5):=fun u0 u1 u2 u3 u4 u5=>((((((Only.refl w.heap.size Z).set 0 u0).set 1 u1).set 2 u2).set 3 u3).set 4 u4).set 5 u5
   refine bodyPost_ret (v:= .agg (Qag (k) (z) (v) (p) a (List.length L) c s)) (by simp[results,Tryz.results19,go_sem,r0,r1,r2,r3,r4,r5]) rfl ⟨k,z,v,p,a,c,L,s,rfl,HL.out.1,HL.out.2.1,HL.out.2.2,(Qat (Qbi HN.out.own (ko _ _ _ _ _ _) (by omega)) (by omega)),Qaf HN.out.on (ko _ _ _ _ _ _) (Nat.le_refl _),HN.out.dr.only (ko _ _ _ _ _ _) HN.out.hC⟩
 by_cases h2:x=2
 . subst h2;have HI:=hidP (Qjl w2 ([⟨-2⟩,⟨4⟩,⟨5⟩]:List Nu) (Qck (-2) (4) (5)) 3 rfl);have N2:=hidP (N1.out.below (Qad (Below.refl _ w2) (.cells (Qck (-2) (4) (5)) 3)));have hw2:C<w2.heap.size:=Nat.lt_of_lt_of_le N1.out.dr.lt (Nat.le_refl _);clear N1;go_wp2_with fail;refine(Qb6 C A cap l w2.heap.size 0 3 ([⟨-2⟩,⟨4⟩,⟨5⟩]:List Nu) (by simp) (by simp) _ N2.out.dr (by simp) (by omega) HI.out).mono ?_;rintro e w3 ⟨y,hy,rfl,k3,d3⟩;have N:=N2.out.only k3 d3;clear N2 HI k3 d3 hy;generalize y.n=z;obtain⟨b0,b1,b2,b3,b4,b5⟩:=N.b.row6n;have f2:=N.b.thaw 2;have qb:=N.b.lt;replace N:=N.put 2 (.int .i64 z) k t z p rfl;have HN:=hidP N;clear N;go_upto_region 14 with fail;have N:=HN.out;clear HN b0 b1 b2 b3 b4 b5 f2 qb;generalize w3.setCell ⟨P,2,none⟩ (.int .i64 z)=Z at N ⊢;obtain⟨r0,r1,r2,r3,r4,r5⟩:=N.r.row6n;obtain⟨b0,b1,b2,b3,b4,b5⟩:=N.b.row6n;have f0:=N.r.thaw 0;have f1:=N.r.thaw 1;have f2:=N.r.thaw 2;have f3:=N.r.thaw 3;have f4:=N.r.thaw 4;have f5:=N.r.thaw 5;have qr:=N.r.lt;have qb:=N.b.lt;have hPP:=N.hP;have hne:P≠w.heap.size:=(by omega);have hne2:w.heap.size≠P:=(by omega);have HN:=hidP N;clear N;go_wp2;have ko:∀u0 u1 u2 u3 u4 u5:Value,Only w.heap.size Z ((((((Z.setCell ⟨w.heap.size,0,none⟩ u0).setCell ⟨w.heap.size,1,none⟩ u1).setCell ⟨w.heap.size,2,none⟩ u2).setCell ⟨w.heap.size,3,none⟩ u3).setCell ⟨w.heap.size,4,none⟩ u4).setCell ⟨w.heap.size,5,none⟩ u5):=fun u0 u1 u2 u3 u4 u5=>((((((Only.refl w.heap.size Z).set 0 u0).set 1 u1).set 2 u2).set 3 u3).set 4 u4).set 5 u5
   refine bodyPost_ret (v:= .agg (Qag (k) (t) (z) (p) a (List.length L) c s)) (by simp[results,Tryz.results19,go_sem,r0,r1,r2,r3,r4,r5]) rfl ⟨k,t,z,p,a,c,L,s,rfl,HL.out.1,HL.out.2.1,HL.out.2.2,(Qat (Qbi HN.out.own (ko _ _ _ _ _ _) (by omega)) (by omega)),Qaf HN.out.on (ko _ _ _ _ _ _) (Nat.le_refl _),HN.out.dr.only (ko _ _ _ _ _ _) HN.out.hC⟩
 by_cases h3:x=3
 . subst h3;go_upto_region 10 with fail;have SS:Hid (∀V:World,Nx w V C cap A l P k t v p a c L s->(fun(V:World)=>V.cell? ⟨P,4,none⟩=some (.slice a L.length c)) V):=hidP (fun V n=>n.b.row6n.2.2.2.2.1);have N:Nx w w2.drew C cap A l P k t v p a c L s:=N1.out.below (Below.refl _ _).drew;clear N1;refine wp_region_noPanic ?_;have hH:((fun(V:World)=>V.cell? ⟨P,4,none⟩=some (.slice a L.length c))) _:=SS.out _ N;refine Qe2 12 ((fun(V:World)=>V.cell? ⟨P,4,none⟩=some (.slice a L.length c))) (by kernel_rfl) ?_;refine' Qa6 (i:=0) (v:=_) (by kernel_rfl) rfl (by kernel_rfl) (by decide) (by kernel_rfl) (by kernel_rfl) (by kernel_rfl) (fun _ _ _ h=>h) (Or.inl ⟨by rfl,?hy1⟩) (by assumption) ?rest1
   case hy1=>(intro w hSw;(try dsimp only at hSw);go_simp<;>with_reducible rfl)
   try simp only[zX,zY]
   refine' Qa6 (i:=1) (v:=_) (by kernel_rfl) rfl (by kernel_rfl) (by decide) (by kernel_rfl) (by kernel_rfl) (by kernel_rfl) (fun _ _ _ h=>h) (Or.inl ⟨by rfl,?hy2⟩) (by assumption) ?rest2
   case hy2=>(intro w hSw;(try dsimp only at hSw);go_simp<;>with_reducible rfl)
   try simp only[zX,zY]
   refine' Qa6 (i:=2) (v:=_) (by kernel_rfl) rfl (by kernel_rfl) (by decide) (by kernel_rfl) (by kernel_rfl) (by kernel_rfl) (fun _ _ _ h=>h) (Or.inl ⟨by rfl,?hy3⟩) (by assumption) ?rest3
   case hy3=>(intro w hSw;(try dsimp only at hSw);go_simp<;>with_reducible rfl)
   try simp only[zX,zY]
   refine' Qa6 (i:=4) (v:=_) (by kernel_rfl) rfl (by kernel_rfl) (by decide) (by kernel_rfl) (by kernel_rfl) (by kernel_rfl) (fun _ _ _ h=>h) (Or.inl ⟨by rfl,?hy4⟩) (by assumption) ?rest4
   case hy4=>(intro w hSw;(try dsimp only at hSw);go_simp<;>with_reducible rfl)
   try simp only[zX,zY]
   refine' Qa6 (i:=5) (v:=_) (by kernel_rfl) rfl (by kernel_rfl) (by decide) (by kernel_rfl) (by kernel_rfl) (by kernel_rfl) (fun _ _ _ h=>h) (Or.inl ⟨by rfl,?hy5⟩) (by assumption) ?rest5
   case hy5=>(intro w hSw;(try dsimp only at hSw);go_simp<;>with_reducible rfl)
   try simp only[zX,zY]
   refine Qcc (i:=3) (by kernel_rfl) rfl (fun K hK=> ?_);simp only[zG];go_simp;refine(Qa3 C A cap l 3 (by omega) (by omega) _ N.dr).mono ?_;rintro e w3 ⟨y,rfl,hy0,hy1,k3,d3⟩;replace N:=N.only k3 d3;have hH3:=SS.out _ N;clear k3 d3;refine hK.out _ _ (.inr hH3) ?_;clear hK K
   try simp only[zX,zY]
   refine Qcc (i:=6) (by kernel_rfl) rfl (fun K hK=> ?_);simp only[zG];go_simp;refine(Qee C A cap l _ N.dr).mono ?_;rintro e w4 ⟨who,seq,op,ca,cb,cc,ck,ct,rfl,hdc,k4,d4⟩;replace N:=N.only k4 d4;have hsz:=hdc.size;have hH4:=SS.out _ N;clear k4 d4 hdc;refine hK.out _ _ (.inr hH4) ?_;clear hK K
   try simp only[zX,zY]
   refine Qcc (i:=7) (by kernel_rfl) rfl (fun K hK=> ?_);simp only[zG];go_simp;refine(Qnp C A cap l who seq op ca cb cc ck ct (by omega) (by omega) _ N.dr).mono ?_;rintro e w5 ⟨who,seq,op,ca,cb,cc,ck,ct,rfl,hck,hct,k5,d5⟩;replace N:=N.only k5 d5;clear k5 d5 hsz;obtain⟨a2,c2,W2,hr,hB2,N2⟩:=N.app (⟨y,who,seq,op,ca,cb,cc,ck,ct⟩:En) (Qbg y who seq op ca cb cc ck ct) rfl (by have:=HL2.out;omega);have HNa:=hidP (N.below (Qad (Below.refl _ w5) (.cells (Qbg y who seq op ca cb cc ck ct) 57)));have HB2:=hidP hB2;have HN2:=hidP N2;have HN:=hidP N;have hH5:=SS.out _ N;have hH6:=SS.out _ HNa.out;have hH7:(fun(V:World)=>V.cell? ⟨P,4,none⟩=some (.slice a L.length c)) W2:=HB2.out.row6n.2.2.2.2.1;clear N N2 hB2;refine hK.out _ _ (.inr hH5) ?_;clear hK K
   try simp only[zX,zY]
   refine' Qa6 (i:=8) (v:=_) (by kernel_rfl) rfl (by kernel_rfl) (by decide) (by kernel_rfl) (by kernel_rfl) (by kernel_rfl) (fun _ _ _ h=>h) (Or.inl ⟨by rfl,?hy6⟩) (by assumption) ?rest6
   case hy6=>(intro w hSw;(try dsimp only at hSw);go_simp<;>with_reducible rfl)
   try simp only[zX,zY]
   refine Qcc (i:=9) (by kernel_rfl) rfl (fun K hK=> ?_);simp only[zG];go_simp;refine hK.out _ _ (.inr hH6) ?_;clear hK K
   try simp only[zX,zY]
   refine Qcc (i:=10) (by kernel_rfl) rfl (fun K hK=> ?_);simp only[zG];rw[if_pos (by rfl)];refine Qai _ _ _ (by rfl) _ _ _ (by rfl) (by rfl) hr ?_;refine hK.out _ _ (.inr hH7) ?_;clear hK K
   try simp only[zX,zY]
   refine' Qhu (i:=11) (v:=_) rfl (by kernel_rfl) (by decide) (by kernel_rfl) (by kernel_rfl) (fun _ _ _ h=>h) (Or.inl ⟨by rfl,?hy7⟩) (by assumption) ?rest7
   case hy7=>(intro w hSw;(try dsimp only at hSw);go_simp<;>with_reducible rfl)
   try simp only[zX,zY]
   refine Qcc (i:=12) (by kernel_rfl) rfl (fun K hK=> ?_);simp only[zG];have f4:=HB2.out.thaw 4;have qb:=HB2.out.lt;obtain⟨b0,b1,b2,b3,b4,b5⟩:=HB2.out.row6n;go_simp;refine hK.out _ _ (.inl rfl) ?_;clear hK K
   try simp only[zX,zY]
   refine Qgk (by kernel_rfl) ?_ _;refine NoPanic.normal ?_;have HL3:Hid ((L++ [(⟨y,who,seq,op,ca,cb,cc,ck,ct⟩:En)]).length<=300/\(∀x∈L++ [(⟨y,who,seq,op,ca,cb,cc,ck,ct⟩:En)],x.key.size<=40/\x.text.size<=40)/\s.size<=300000):=hidP ⟨by have:=HL2.out;simp;omega,fun x hx=>by
    rcases List.mem_append.1 hx with h|h
    . exact HL.out.2.1 x h
    . rw[List.mem_singleton]at h;subst h;exact⟨hck,hct⟩,HL.out.2.2⟩
   clear HL;have HL:=HL3;have N:=HN2.out;clear HN2 HB2 HNa HN HL3 b0 b1 b2 b3 b4 b5 f4 qb;go_upto_region 14 with fail;generalize W2.setCell ⟨P,4,none⟩ (.slice a2 (L.length+1) c2)=Z at N ⊢;have hl1:(L++ [(⟨y,who,seq,op,ca,cb,cc,ck,ct⟩:En)]).length=L.length+1:=(by simp);rw[← hl1];obtain⟨r0,r1,r2,r3,r4,r5⟩:=N.r.row6n;obtain⟨b0,b1,b2,b3,b4,b5⟩:=N.b.row6n;have f0:=N.r.thaw 0;have f1:=N.r.thaw 1;have f2:=N.r.thaw 2;have f3:=N.r.thaw 3;have f4:=N.r.thaw 4;have f5:=N.r.thaw 5;have qr:=N.r.lt;have qb:=N.b.lt;have hPP:=N.hP;have hne:P≠w.heap.size:=(by omega);have hne2:w.heap.size≠P:=(by omega);have HN:=hidP N;clear N;go_wp2;have ko:∀u0 u1 u2 u3 u4 u5:Value,Only w.heap.size Z ((((((Z.setCell ⟨w.heap.size,0,none⟩ u0).setCell ⟨w.heap.size,1,none⟩ u1).setCell ⟨w.heap.size,2,none⟩ u2).setCell ⟨w.heap.size,3,none⟩ u3).setCell ⟨w.heap.size,4,none⟩ u4).setCell ⟨w.heap.size,5,none⟩ u5):=fun u0 u1 u2 u3 u4 u5=>((((((Only.refl w.heap.size Z).set 0 u0).set 1 u1).set 2 u2).set 3 u3).set 4 u4).set 5 u5
   refine bodyPost_ret (v:= .agg (Qag (k) (t) (v) (p) a2 (List.length (L++ [(⟨y,who,seq,op,ca,cb,cc,ck,ct⟩:En)])) c2 s)) (by simp[results,Tryz.results19,go_sem,r0,r1,r2,r3,r4,r5]) rfl ⟨k,t,v,p,a2,c2,(L++ [(⟨y,who,seq,op,ca,cb,cc,ck,ct⟩:En)]),s,rfl,HL.out.1,HL.out.2.1,HL.out.2.2,(Qat (Qbi HN.out.own (ko _ _ _ _ _ _) (by omega)) (by omega)),Qaf HN.out.on (ko _ _ _ _ _ _) (Nat.le_refl _),HN.out.dr.only (ko _ _ _ _ _ _) HN.out.hC⟩
 by_cases h4:x=4
 . subst h4;have HLL:=HL;clear HL HL2;go_wp2
   go_loopw [] (fun W=>∃(a:Option Addr) (c:Nat) (L:List En),Hid (Nx w W C cap A l P k t v p a c L s)/\Hid (L.length<=300/\(∀x∈L,x.key.size<=40/\x.text.size<=40)/\s.size<=300000)) (fun W=>300 - lenN W P)
   case atStart=>exact⟨a,c,L,N1,HLL⟩
   case round=>
    clear N1 HLL;obtain⟨a,c,L,N1,HL⟩:=hrel;have hlen:=Qoh N1.out.b.row6n.2.2.2.2.1;have SS:Hid (∀V:World,Nx w V C cap A l P k t v p a c L s->(fun(V:World)=>V.cell? ⟨P,4,none⟩=some (.slice a L.length c)) V):=hidP (fun V n=>n.b.row6n.2.2.2.2.1);have N:Nx w wr.drew C cap A l P k t v p a c L s:=N1.out.below (Below.refl _ _).drew;clear N1;go_upto_region 12 with fail;refine wp_region_noPanic ?_;refine wp_region_held_drew (S:=(fun(V:World)=>V.cell? ⟨P,4,none⟩=some (.slice a L.length c))) (by kernel_rfl) (SS.out _ N) (fun hH=> ?_);refine ztk [0,1,2,3] ?_;repeat(refine ztn (hS:=hH) (h:= ?_);try simp only[zX,zY])
    refine zte ?_;refine zR1 4 (fun K hK=> ?_);simp only[zG];go_simp;refine(Qa3 C A cap l 2 (by omega) (by omega) _ N.dr).mono ?_;rintro e Z ⟨y,rfl,hy0,hy1,k3,d3⟩;replace N:=N.only k3 d3;refine hK.out _ _ (SS.out _ N) (fun hH=> ?_);clear hK K k3 d3
    try simp only[zX,zY]
    have hwr:IntKind.i64.wrap (40+y)=40+y:=(by rw[IntKind.wrap_i64];omega);refine ztk [5,6] ?_;repeat(refine ztn (hS:=hH) (h:= ?_);try simp only[zX,zY])
    refine zte ?_;refine zdn ?_;by_cases hlt:(L.length:Int)<40+y
    . obtain⟨a2,c2,W2,hr,hB2,N2⟩:=N.app (⟨0, -1,0,0,0,0,0,⟨#[]⟩,⟨#[]⟩⟩:En) (Qbg 0 (-1) 0 0 0 0 0 ⟨#[]⟩ ⟨#[]⟩) rfl (by omega);have f4:=hB2.thaw 4;have qb:=hB2.lt;have HN2:=hidP N2;have b4:=N.b.row6n.2.2.2.2.1;have qz:=N.b.lt;have HL3:Hid ((L++ [(⟨0, -1,0,0,0,0,0,⟨#[]⟩,⟨#[]⟩⟩:En)]).length<=300/\(∀x∈L++ [(⟨0, -1,0,0,0,0,0,⟨#[]⟩,⟨#[]⟩⟩:En)],x.key.size<=40/\x.text.size<=40)/\s.size<=300000):=hidP ⟨by simp;omega,fun x hx=>by
       rcases List.mem_append.1 hx with h|h
       . exact HL.out.2.1 x h
       . rw[List.mem_singleton]at h;subst h;exact⟨by decide,by decide⟩,HL.out.2.2⟩
      have hmeas:300 - lenN (W2.setCell ⟨P,4,none⟩ (.slice a2 (L.length+1) c2)) P<300 - lenN wr P:=by
       have e:=Qoh N2.b.row6n.2.2.2.2.1;simp only[List.length_append,List.length_cons,List.length_nil]at e;rw[e,hlen];omega
      obtain⟨b0',b1',b2',b3',b4',b5'⟩:=hB2.row6n;clear N N2 hB2 SS;go_wp2_with (at_builtin;refine Qac rfl _ _ _ rfl _ _ _ rfl rfl hr ?_);exact⟨⟨a2,c2,_,HN2,HL3⟩,hmeas⟩
    . skip
      obtain⟨r0,r1,r2,r3,r4,r5⟩:=N.r.row6n;obtain⟨b0,b1,b2,b3,b4,b5⟩:=N.b.row6n;have f0:=N.r.thaw 0;have f1:=N.r.thaw 1;have f2:=N.r.thaw 2;have f3:=N.r.thaw 3;have f4:=N.r.thaw 4;have f5:=N.r.thaw 5;have qr:=N.r.lt;have qb:=N.b.lt;have hPP:=N.hP;have hne:P≠w.heap.size:=(by omega);have hne2:w.heap.size≠P:=(by omega);have HN:=hidP N;clear N;go_wp2;have ko:∀u0 u1 u2 u3 u4 u5:Value,Only w.heap.size Z ((((((Z.setCell ⟨w.heap.size,0,none⟩ u0).setCell ⟨w.heap.size,1,none⟩ u1).setCell ⟨w.heap.size,2,none⟩ u2).setCell ⟨w.heap.size,3,none⟩ u3).setCell ⟨w.heap.size,4,none⟩ u4).setCell ⟨w.heap.size,5,none⟩ u5):=fun u0 u1 u2 u3 u4 u5=>((((((Only.refl w.heap.size Z).set 0 u0).set 1 u1).set 2 u2).set 3 u3).set 4 u4).set 5 u5
      refine bodyPost_ret (v:= .agg (Qag (k) (t) (v) (p) a (List.length L) c s)) (by simp[results,Tryz.results19,go_sem,r0,r1,r2,r3,r4,r5]) rfl ⟨k,t,v,p,a,c,L,s,rfl,HL.out.1,HL.out.2.1,HL.out.2.2,(Qat (Qbi HN.out.own (ko _ _ _ _ _ _) (by omega)) (by omega)),Qaf HN.out.on (ko _ _ _ _ _ _) (Nat.le_refl _),HN.out.dr.only (ko _ _ _ _ _ _) HN.out.hC⟩
 have N:=N1.out;clear N1;go_upto_region 14 with fail;generalize w2=Z at N ⊢;obtain⟨r0,r1,r2,r3,r4,r5⟩:=N.r.row6n;obtain⟨b0,b1,b2,b3,b4,b5⟩:=N.b.row6n;have f0:=N.r.thaw 0;have f1:=N.r.thaw 1;have f2:=N.r.thaw 2;have f3:=N.r.thaw 3;have f4:=N.r.thaw 4;have f5:=N.r.thaw 5;have qr:=N.r.lt;have qb:=N.b.lt;have hPP:=N.hP;have hne:P≠w.heap.size:=by omega
 have hne2:w.heap.size≠P:=by omega
 have HN:=hidP N;clear N;go_wp2;have ko:∀u0 u1 u2 u3 u4 u5:Value,Only w.heap.size Z ((((((Z.setCell ⟨w.heap.size,0,none⟩ u0).setCell ⟨w.heap.size,1,none⟩ u1).setCell ⟨w.heap.size,2,none⟩ u2).setCell ⟨w.heap.size,3,none⟩ u3).setCell ⟨w.heap.size,4,none⟩ u4).setCell ⟨w.heap.size,5,none⟩ u5):=fun u0 u1 u2 u3 u4 u5=>((((((Only.refl w.heap.size Z).set 0 u0).set 1 u1).set 2 u2).set 3 u3).set 4 u4).set 5 u5
 refine bodyPost_ret (v:= .agg (Qag (k) (t) (v) (p) a (List.length L) c s)) (by simp[results,Tryz.results19,go_sem,r0,r1,r2,r3,r4,r5]) rfl ⟨k,t,v,p,a,c,L,s,rfl,HL.out.1,HL.out.2.1,HL.out.2.2,(Qat (Qbi HN.out.own (ko _ _ _ _ _ _) (by omega)) (by omega)),Qaf HN.out.on (ko _ _ _ _ _ _) (Nat.le_refl _),HN.out.dr.only (ko _ _ _ _ _ _) HN.out.hC⟩
theorem Qm3 (A:Option Addr) (cap:Nat) (l:List By) (hl:l.length<=1048576) (hby:∀x∈l,x.right) (w:World) (hA:At w A l):
 Calls Tryz.prog 5 #[.slice A l.length cap] w fun e w' =>∃(kind term vote prev:Int) (a:Option Addr) (c:Nat) (L:List En) (snap:ByteArray),e= .returned (.agg (Qag kind term vote prev a L.length c snap))/\L.length<=300/\(∀x∈L,x.key.size<=40/\x.text.size<=40)/\snap.size<=300000/\At w' a L/\Below w.heap.size w w' :=by
 have HA:=hidP (hA.below (Qad (Below.refl _ w) (.cells Qah 26)));have Hby:=hidP hby;have HB:=hidP (Qad (Below.refl _ w) (.cells Qah 26));have HR:=hidP (Blk.new w 26 Qah);clear hA hby;go_enter Tryz.func5,Tryz.ntmps5;go_wp2_with fail;refine(Qie A cap l hl Hby.out _ HA.out).mono ?_;rintro e w1 ⟨C,rfl,hC,g1,hD⟩;have HD:=hidP hD;have R1:=hidP (HR.out.below g1 HR.out.lt);have hCw:w.heap.size<C:=by have:=HR.out.lt;omega
 clear hD HR;go_wp2_with fail;refine(Qkc C A cap l _ HD.out).mono ?_;rintro e w2 ⟨k,t,v,p,a,c,L,s,rfl,h1,h2,h3,hat,k2,d2⟩;have R2:=R1.out.only k2 (by omega);have B2:=HB.out.trans ((g1.mono (by simp)).trans (k2.toBelow (by omega) (by have:=g1.size;simp at this;omega)));obtain⟨r0,r1,r2,r3,r4,r5⟩:=R2.row6n;have f0:=R2.thaw 0;have f1:=R2.thaw 1;have f2:=R2.thaw 2;have f3:=R2.thaw 3;have f4:=R2.thaw 4;have f5:=R2.thaw 5;have qr:=R2.lt;have HB2:=hidP B2;have HT:=hidP hat;have H3:=hidP (And.intro h1 (And.intro h2 h3));have hw1:w.heap.size<w1.heap.size:=R1.out.lt;clear B2 hat h1 h2 h3 HD R1 k2 d2 g1 HB;go_wp2;have ko:∀u0 u1 u2 u3 u4 u5:Value,Only w.heap.size w2 ((((((w2.setCell ⟨w.heap.size,0,none⟩ u0).setCell ⟨w.heap.size,1,none⟩ u1).setCell ⟨w.heap.size,2,none⟩ u2).setCell ⟨w.heap.size,3,none⟩ u3).setCell ⟨w.heap.size,4,none⟩ u4).setCell ⟨w.heap.size,5,none⟩ u5):=fun u0 u1 u2 u3 u4 u5=>((((((Only.refl w.heap.size w2).set 0 u0).set 1 u1).set 2 u2).set 3 u3).set 4 u4).set 5 u5
 refine bodyPost_ret (v:= .agg (Qag k t v p a (List.length L) c s)) (by simp[results,Tryz.results5,go_sem,r0,r1,r2,r3,r4,r5]) rfl ⟨k,t,v,p,a,c,L,s,rfl,H3.out.1,H3.out.2.1,H3.out.2.2,(OwE.at (Qbi HT.out (ko _ _ _ _ _ _) hw1)),HB2.out.trans ((ko _ _ _ _ _ _).toBelow (Nat.le_refl _) HB2.out.size)⟩
theorem Qm2 (A:Option Addr) (cap:Nat) (l:List By) (hl:l.length<=1048576) (hby:∀x∈l,x.right) (w:World) (hA:At w A l):
 Calls Tryz.prog 7 #[.slice A l.length cap] w fun e w' =>∃(kind term vote prev:Int) (a:Option Addr) (c:Nat) (L:List En) (snap:ByteArray),e= .returned (.agg (Qag kind term vote prev a L.length c snap))/\L.length<=300/\(∀x∈L,x.key.size<=40/\x.text.size<=40)/\snap.size<=300000/\At w' a L/\Below w.heap.size w w' :=by
 have HA:=hidP (hA.below (Qad (Below.refl _ w) (.cells Qah 26)));have Hby:=hidP hby;have HB:=hidP (Qad (Below.refl _ w) (.cells Qah 26));have HR:=hidP (Blk.new w 26 Qah);clear hA hby;go_enter Tryz.func7,Tryz.ntmps7;go_wp2_with fail;refine(Qie A cap l hl Hby.out _ HA.out).mono ?_;rintro e w1 ⟨C,rfl,hC,g1,hD⟩;have HD:=hidP hD;have R1:=hidP (HR.out.below g1 HR.out.lt);have hCw:w.heap.size<C:=by have:=HR.out.lt;omega
 clear hD HR;go_wp2_with fail;refine(Qkc C A cap l _ HD.out).mono ?_;rintro e w2 ⟨k,t,v,p,a,c,L,s,rfl,h1,h2,h3,hat,k2,d2⟩;have R2:=R1.out.only k2 (by omega);have B2:=HB.out.trans ((g1.mono (by simp)).trans (k2.toBelow (by omega) (by have:=g1.size;simp at this;omega)));obtain⟨r0,r1,r2,r3,r4,r5⟩:=R2.row6n;have f0:=R2.thaw 0;have f1:=R2.thaw 1;have f2:=R2.thaw 2;have f3:=R2.thaw 3;have f4:=R2.thaw 4;have f5:=R2.thaw 5;have qr:=R2.lt;have HB2:=hidP B2;have HT:=hidP hat;have H3:=hidP (And.intro h1 (And.intro h2 h3));have hw1:w.heap.size<w1.heap.size:=R1.out.lt;clear B2 hat h1 h2 h3 HD R1 k2 d2 g1 HB;go_wp2;have ko:∀u0 u1 u2 u3 u4 u5:Value,Only w.heap.size w2 ((((((w2.setCell ⟨w.heap.size,0,none⟩ u0).setCell ⟨w.heap.size,1,none⟩ u1).setCell ⟨w.heap.size,2,none⟩ u2).setCell ⟨w.heap.size,3,none⟩ u3).setCell ⟨w.heap.size,4,none⟩ u4).setCell ⟨w.heap.size,5,none⟩ u5):=fun u0 u1 u2 u3 u4 u5=>((((((Only.refl w.heap.size w2).set 0 u0).set 1 u1).set 2 u2).set 3 u3).set 4 u4).set 5 u5
 refine bodyPost_ret (v:= .agg (Qag k t v p a (List.length L) c s)) (by simp[results,Tryz.results7,go_sem,r0,r1,r2,r3,r4,r5]) rfl ⟨k,t,v,p,a,c,L,s,rfl,H3.out.1,H3.out.2.1,H3.out.2.2,(OwE.at (Qbi HT.out (ko _ _ _ _ _ _) hw1)),HB2.out.trans ((ko _ _ _ _ _ _).toBelow (Nat.le_refl _) HB2.out.size)⟩
theorem Qk9 (A:Option Addr) (cap:Nat) (l:List By) (hl:l.length<=1048576) (hby:∀x∈l,x.right) (w:World) (hA:At w A l):
 Calls Tryz.prog 8 #[.slice A l.length cap] w fun e w' =>∃(L:List UInt8) (a:Option Addr) (c:Nat),e= .returned (.slice a L.length c)/\L.length<=30/\At w' a L/\Below w.heap.size w w' :=by
 have HA:=hidP hA;have Hby:=hidP hby;clear hA hby;go_enter Tryz.func8,Tryz.ntmps8;go_wp2_with fail;refine(Qie A cap l hl Hby.out _ HA.out).mono ?_;rintro e w1 ⟨C,rfl,hC,g1,hD⟩;have HD:=hidP hD;clear hD;go_wp2_with fail;refine(Qkd C A cap l _ HD.out).mono ?_;rintro e w2 ⟨L,a,c,rfl,h1,h2,k2,d2⟩;have HB:=hidP (g1.trans (k2.toBelow hC g1.size));have HT:=hidP (Qay h2).at;clear h2 k2 d2 g1 HD;go_wp2;go_ret;exact⟨L,a,c,rfl,h1,HT.out,HB.out⟩
end Go.Proofs.YtajbldnhjpjghaaGreat.Gen
