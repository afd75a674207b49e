/-
  The specification's body of a note. Condition: the note is right.
-/
import Derived.Test.YtpippjjhelgnlaaGreatNOk
set_option linter.unusedVariables false
set_option linter.unusedSimpArgs false
set_option maxRecDepth 100000
set_option maxHeartbeats 8000000
namespace Go.Proofs.YtpippjjhelgnlaaGreat.Gen
open ChangeShapes WideShapes ChangeAt RowKit Joins Deep Base
theorem via0' {w W0 W:World} (B0:Below w.heap.size w W0) (h:Below W0.heap.size W0 W):Below w.heap.size w W:=via0 h B0
structure NtR (kind term vote prev:Int) (l:List En) (snap:ByteArray):Prop where
  k:1<=kind/\kind<=3
  t:0<=term/\term<=300
  v: -1<=vote/\vote<=4
  p:0<=prev/\prev<=300
  len:l.length<=40
  ok:∀x∈l,enF x=true
  en:∀x∈l,EnR x
  s:snap.size<=30000
theorem Qd5 {kind term vote prev:Int} {l:List En} {snap:ByteArray} (h:Qeg kind term vote prev l snap=true):NtR kind term vote prev l snap:=by
 unfold Qeg at h;simp only[Bool.and_eq_true,decide_eq_true_eq]at h;obtain⟨⟨⟨⟨⟨⟨h0,h1⟩,h2⟩,h3⟩,h4⟩,h5⟩,h6⟩:=h;have hk:1<=kind/\kind<=3:=by
  unfold ownB at h0;split at h0
  . omega
  . split at h0
    . omega
    . split at h0
      . omega
      . cases h0
 have hall:∀x∈l,entF x=true:=List.all_eq_true.1 h5;have hok:∀x∈l,enF x=true:=fun x hx=>by have:=hall x hx;unfold entF at this;simp only[Bool.and_eq_true]at this;exact this.2
 have hte:∀x∈l,0<=x.term/\x.term<=300:=fun x hx=>by have:=hall x hx;unfold entF at this;simp only[Bool.and_eq_true]at this;exact in_le this.1
 exact⟨hk,in_le h1,in_le h2,in_le h3,h4,hok,fun x hx=>⟨⟨(hte x hx).1,by have:=(hte x hx).2;omega⟩,Qgv (hok x hx)⟩,h6⟩
theorem l9Body_any (kind term vote prev:Int) (snap:ByteArray) (A:Option Addr) (cap:Nat) (l:List En) (hR:NtR kind term vote prev l snap) (hr:∀x∈l,x.fit) (w:World) (hA:At w A l):
 Calls Tryz.prog 64 #[.agg (Qah kind term vote prev A l.length cap snap)] w fun e w' =>∃a c,e= .returned (.slice a (Qcu kind term vote prev l snap).length c)/\Below w.heap.size w w' /\w'.ownsRow w.heap.size 5 1 (.slice a (Qcu kind term vote prev l snap).length c) (Qcu kind term vote prev l snap).length (flat (Qcu kind term vote prev l snap)):=by
 obtain⟨k0,t0,v0,p0,hl,hok,hen,hs⟩:=hR;have B0:Hid (Below w.heap.size w (w.alloc (.cells (Qah kind term vote prev A l.length cap snap) 44))):=Qad (Below.refl _ _) _;have P0:Blk (w.alloc (.cells (Qah kind term vote prev A l.length cap snap) 44)) w.heap.size 44 (Qah kind term vote prev A l.length cap snap):=Blk.new w 44 (Qah kind term vote prev A l.length cap snap);have HA:=hidP (hA.below B0.out);have HR:=hidP hok;have HE:=hidP hen;have HF:=hidP hr;clear hA hok hen hr;go_enter Tryz.func64,Tryz.ntmps64;go_wp2_with fail;generalize w.alloc (.cells (Qah kind term vote prev A l.length cap snap) 44)=W0 at*;have SS:∀W:World,Below W0.heap.size W0 W->(fun(W:World)=>W.cell? ⟨w.heap.size,0,none⟩=some (.int .i64 kind)/\W.cell? ⟨w.heap.size,1,none⟩=some (.int .i64 term)) W:=fun W g=>⟨(P0.below g P0.lt).cell (i:=0) rfl,(P0.below g P0.lt).cell (i:=1) rfl⟩
 have S0:=SS W0.drew (Below.drew (Below.refl _ _));refine wp_region_noPanic ?_;refine wp_region_held_drew (S:=(fun(W:World)=>W.cell? ⟨w.heap.size,0,none⟩=some (.int .i64 kind)/\W.cell? ⟨w.heap.size,1,none⟩=some (.int .i64 term))) (by kernel_rfl) ?_ (fun hH=> ?_)
 . exact S0
 refine ztk [0,1,3,4] ?_;repeat(refine ztn (h:= ?_);try simp only[zX,zY])
 refine zte ?_;refine zR1 2 (fun K hK=> ?_);simp only[zG];go_simp;refine(Qa5 kind _).mono ?_;rintro e w1 ⟨a1,c1,rfl,g1,o1⟩;have G1:Below W0.heap.size W0 w1:=via0 g1 (Below.drew (Below.refl _ _));have S1:=SS w1 G1;refine hK.out _ _ S1 fun hH=> ?_;clear hK K;try simp only[zX,zY]
 refine zR1 5 (fun K hK=> ?_);simp only[zG];go_simp;refine(Qa5 term _).mono ?_;rintro e w2 ⟨a2,c2,rfl,g2,o2⟩;have G2:Below W0.heap.size W0 w2:=via0 g2 G1;have OX:Hid (w2.ownsRow W0.heap.size 5 1 (.slice a1 (numI kind).length c1) (numI kind).length (flat (numI kind))):=hidP (Qav o1 g2);have AY:Hid (At w2 a2 (numI term)):=hidP (Qa0 o2).at;obtain⟨a3,c3,w3,hr,own3,hg3⟩:=Qcn (c' :=c2) G2.size OX.out AY.out (by have:=Qbn kind;have:=Qbn term;omega);obtain⟨X2,hX2⟩:∃X2,numI kind++numI term=X2:=⟨_,rfl⟩;rw[hX2]at hr own3;have G3:Below W0.heap.size W0 w3:=G2.grown hg3 G2.size (fun j e=>Nat.le_of_not_lt fun q=>Qa7 OX.out q e.symm);have J3:=hidP (Jo.mk G3 own3);have S2:=SS w2 G2;have S3:=SS w3 G3;clear own3 hg3;refine hK.out _ _ S2 fun hH=> ?_;clear hK K;try simp only[zX,zY]
 refine zR1 6 (fun K hK=> ?_);simp only[zG];rw[if_pos (by rfl)];refine Qag _ _ _ (by rfl) _ _ _ (by rfl) (by rfl) hr ?_;refine hK.out _ _ S3 fun hH=> ?_;clear hK K;try simp only[zX,zY]
 refine zt1 7 ?_;refine ztn (h:= ?_);try simp only[zX,zY]
 refine zte ?_;refine zdn ?_;have L2:Hid (X2.length<=10):=by show _<=_;rw[← hX2,List.length_append];have:=Qbn kind;have:=Qbn term;omega
 have E2:=hidP hX2;clear hX2 hr OX AY G1 G2 G3 g1 g2 o1 o2 S1 S2 S3 S0 SS;have d2:w3.cell? ⟨w.heap.size,2,none⟩=some (Value.int .i64 vote):=(P0.below J3.out.bl P0.lt).cell (i:=2) rfl;have qb:w.heap.size<w3.heap.size:=Nat.lt_of_lt_of_le P0.lt J3.out.bl.size;go_wp2_with fail;refine(Qa5 (vote+1) _).mono ?_;rintro e w4 ⟨a4,c4,rfl,g4,o4⟩;obtain⟨a5,c5,w5,hr,K5,_⟩:=J3.out.app (c1:=c4) g4 (Qa0 o4).at (by have:=L2.out;have:=Qbn (vote+1);omega);obtain⟨X3,hX3⟩:∃X3,X2++numI (vote+1)=X3:=⟨_,rfl⟩
 rw[hX3]at hr K5;have L3:Hid (X3.length<=15):=by show _<=_;rw[← hX3,List.length_append];have:=L2.out;have:=Qbn (vote+1);omega
 have E3:=hidP hX3;have J5:=hidP K5;clear hX3 K5 g4 o4 J3 d2 qb L2;have d3:w5.cell? ⟨w.heap.size,3,none⟩=some (Value.int .i64 prev):=(P0.below J5.out.bl P0.lt).cell (i:=3) rfl;have qb:w.heap.size<w5.heap.size:=Nat.lt_of_lt_of_le P0.lt J5.out.bl.size;go_wp2_with (at_builtin;refine Qac rfl _ _ _ rfl _ _ _ rfl rfl hr ?_);refine(Qa5 prev _).mono ?_;clear hr;rintro e w6 ⟨a6,c6,rfl,g6,o6⟩;obtain⟨a7,c7,w7,hr,K7,_⟩:=J5.out.app (c1:=c6) g6 (Qa0 o6).at (by have:=L3.out;have:=Qbn prev;omega);obtain⟨X4,hX4⟩:∃X4,X3++numI prev=X4:=⟨_,rfl⟩
 rw[hX4]at hr K7;have L4:Hid (X4.length<=20):=by show _<=_;rw[← hX4,List.length_append];have:=L3.out;have:=Qbn prev;omega
 have E4:=hidP hX4;have J7:=hidP K7;clear hX4 K7 g6 o6 J5 d3 qb L3;have d4:w7.cell? ⟨w.heap.size,4,none⟩=some (Value.slice A l.length cap):=(P0.below J7.out.bl P0.lt).cell (i:=4) rfl;have qb:w.heap.size<w7.heap.size:=Nat.lt_of_lt_of_le P0.lt J7.out.bl.size;go_wp2_with (at_builtin;refine Qac rfl _ _ _ rfl _ _ _ rfl rfl hr ?_);refine(Qa5 (l.length:Int) _).mono ?_;clear hr;rintro e w8 ⟨a8,c8,rfl,g8,o8⟩;obtain⟨a9,c9,w9,hr,K9,_⟩:=J7.out.app (c1:=c8) g8 (Qa0 o8).at (by have:=L4.out;have:=Qbn (l.length:Int);omega);obtain⟨X5,hX5⟩:∃X5,X4++numI (l.length:Int)=X5:=⟨_,rfl⟩
 rw[hX5]at hr K9;have L5:Hid (X5.length<=25):=by show _<=_;rw[← hX5,List.length_append];have:=L4.out;have:=Qbn (l.length:Int);omega
 have E5:=hidP hX5;have J9:=hidP K9;clear hX5 K9 g8 o8 J7 d4 qb L4;go_wp2_with (at_builtin;refine Qac rfl _ _ _ rfl _ _ _ rfl rfl hr ?_);clear hr
 go_loopw [3,4] (fun v i W=>∃(n:Nat) (a:Option Addr) (c:Nat) (xs:List UInt8),i= .int .i64 (n:Int)/\v= .slice a (List.length xs) c/\n<=l.length/\Hid (Jo W0 W a c xs)/\Hid (xs=X5++(l.take n).flatMap enB)) (fun _ i _=>l.length - (intOf i).toNat)
 case atStart=>exact⟨0,a9,c9,X5,rfl,rfl,by omega,J9,by simp[Hid]⟩
 case round=>
  clear J9;obtain⟨n,a,c,xs,rfl,rfl,hn,J,EX⟩:=hrel;have d4:wr.cell? ⟨w.heap.size,4,none⟩=some (Value.slice A l.length cap):=(P0.below J.out.bl P0.lt).cell (i:=4) rfl;have d5:wr.cell? ⟨w.heap.size,5,none⟩=some (Value.string snap):=(P0.below J.out.bl P0.lt).cell (i:=5) rfl;have qb:w.heap.size<wr.heap.size:=Nat.lt_of_lt_of_le P0.lt J.out.bl.size;by_cases hlt:n<l.length
  . obtain⟨b,o,rfl,hbs,hIn⟩:∃b o,A=some ⟨b,o,none⟩/\b<W0.heap.size/\In W0 b o l:=by
     rcases HA.out with h|h
     . subst h;simp at hlt
     . exact h
    obtain⟨c0,c1,c2,c3,c4,c5,c6,c7,c8⟩:=(hIn.below hbs J.out.bl).getEn n hlt;have hxok:=HR.out l[n] (List.getElem_mem hlt);have hxf:=HF.out l[n] (List.getElem_mem hlt);have hi0:(0:Int)<=(n:Int):=(by omega);have hi1:(n:Int)<(l.length:Int):=(by omega);have hlx:Hid (xs.length<=5000):=by
     show _<=_;rw[EX.out,List.length_append];have h1:=Qf0 enB l n;have h2:=Qdn enB 105 l (fun x hx=>enB_le (HE.out x hx));have:=L5.out;omega
    have EX2:Hid (xs++(numI l[n].term++cmB l[n].who l[n].seq l[n].op l[n].a l[n].b l[n].c l[n].key l[n].text)=X5++(l.take (n+1)).flatMap enB):=by
     show _=_;rw[Qj2 enB hlt,EX.out];simp[enB,List.append_assoc]
    have hcl:=(hidP (cmB_le (HE.out l[n] (List.getElem_mem hlt)).cm))
    clear hIn;generalize l[n]=x at*;obtain⟨term',who,seq,op,aa,bb,cc,key,text⟩:=x;dsimp only at c0 c1 c2 c3 c4 c5 c6 c7 c8 EX2 hcl;have hok:CmdOk.okB who seq op aa bb cc key text=true:=hxok;have hks:key.size<=9223372036854775807:=hxf.1;have hts:text.size<=9223372036854775807:=hxf.2;have pe:=Blk.new wr 112 (Qbr term' who seq op aa bb cc key text);have Hpe:=hidP pe;clear pe hxok hxf;go_wp2_with fail;refine(Qa5 term' _).mono ?_;rintro e v1 ⟨a1,c1',rfl,g1,o1⟩;have pe1:=Hpe.out.below g1 Hpe.out.lt;have gg:=via0 g1 (Qad (Below.refl _ wr) _);obtain⟨a2,c2',v2,hr,K2,kp⟩:=J.out.app (c1:=c1') gg (Qa0 o1).at (by have:=hlx.out;have:=Qbn term';omega);have pe2:=kp _ _ _ (Nat.le_refl _) pe1;obtain⟨Y,hY⟩:∃Y,xs++numI term' =Y:=⟨_,rfl⟩
    rw[hY]at hr K2;have LY:Hid (Y.length<=5010):=(by show _<=_;rw[← hY,List.length_append];have:=hlx.out;have:=Qbn term';omega);have EY:=hidP hY;have J2:=hidP K2;have f1:v2.cell? ⟨wr.heap.size,1,none⟩=some (.int .i64 who):=pe2.cell (i:=1) rfl;have f2:v2.cell? ⟨wr.heap.size,2,none⟩=some (.int .i64 seq):=pe2.cell (i:=2) rfl;have f3:v2.cell? ⟨wr.heap.size,3,none⟩=some (.int .i64 op):=pe2.cell (i:=3) rfl;have f4:v2.cell? ⟨wr.heap.size,4,none⟩=some (.int .i64 aa):=pe2.cell (i:=4) rfl;have f5:v2.cell? ⟨wr.heap.size,5,none⟩=some (.int .i64 bb):=pe2.cell (i:=5) rfl;have f6:v2.cell? ⟨wr.heap.size,6,none⟩=some (.int .i64 cc):=pe2.cell (i:=6) rfl;have f7:v2.cell? ⟨wr.heap.size,7,none⟩=some (.string key):=pe2.cell (i:=7) rfl;have f8:v2.cell? ⟨wr.heap.size,8,none⟩=some (.string text):=pe2.cell (i:=8) rfl;have qe:=pe2.lt;clear hY K2 kp gg g1 o1 pe1 pe2 Hpe J hlx c0 c1 c2 c3 c4 c5 c6 c7 c8 d4 d5 qb;go_wp2_with (at_builtin;refine Qac rfl _ _ _ rfl _ _ _ rfl rfl hr ?_);refine(Qf3 who seq op aa bb cc key text hks hts _).mono ?_;clear hr f1 f2 f3 f4 f5 f6 f7 f8 qe;rintro e v3 ⟨a3,c3',rfl,g3,o3⟩;have hO:cmO who seq op aa bb cc key text=cmB who seq op aa bb cc key text:=(by unfold cmO;rw[hok];rfl);rw[hO]at o3;rw[hO];obtain⟨a4,c4',v4,hr,K4,_⟩:=J2.out.app (c1:=c3') g3 (Qa0 o3).at (by have:=LY.out;have:=hcl.out;omega);have EZ:Hid (Y++cmB who seq op aa bb cc key text=X5++(l.take (n+1)).flatMap enB):=by
     show _=_;rw[← EY.out,← EX2.out];simp[List.append_assoc]
    generalize cmB who seq op aa bb cc key text=M at*;obtain⟨Z,hZ⟩:∃Z,Y++M=Z:=⟨_,rfl⟩
    rw[hZ]at hr K4 EZ;have J4:=hidP K4;clear hZ K4 g3 o3 J2 hO;go_wp2_with (at_builtin;refine Qac rfl _ _ _ rfl _ _ _ rfl rfl hr ?_);exact⟨⟨n+1,a4,c4',Z,by go_num,rfl,by omega,J4,EZ⟩,by simp[intOf];omega⟩
  . obtain rfl:n=l.length:=(by omega);rw[List.take_length]at EX;have hlx:Hid (xs.length<=5000):=by
     show _<=_;rw[EX.out,List.length_append];have h2:=Qdn enB 105 l (fun x hx=>enB_le (HE.out x hx));have:=L5.out;omega
    go_wp2_with fail;refine(Qbu snap (by omega) _).mono ?_;rintro e v1 ⟨a1,c1',rfl,g1,o1⟩;have hlT:Hid ((txtB snap).length<=30005):=(by show _<=_;rw[Qb4];have:=Qct (n:=snap.size) (by omega);omega);have EB:Hid (xs++txtB snap=Qcu kind term vote prev l snap):=by
     show _=_;rw[EX.out,← E5.out,← E4.out,← E3.out,← E2.out];simp[Qcu,Qbj,ensB,List.append_assoc]
    generalize txtB snap=T at*;obtain⟨a2,c2',v2,hr,K2,_⟩:=J.out.app (c1:=c1') g1 (Qa0 o1).at (by have:=hlx.out;have:=hlT.out;omega);generalize xs++T=Z at*;have J2:=hidP K2;clear K2 g1 o1 J d4 d5 qb;go_wp2_with (at_builtin;refine Qac rfl _ _ _ rfl _ _ _ rfl rfl hr ?_);go_ret;rw[← EB.out];exact⟨a2,c2',rfl,via0' (B0.out) J2.out.bl,Qaz J2.out.own (Nat.le_of_lt P0.lt)⟩
end Go.Proofs.YtpippjjhelgnlaaGreat.Gen
namespace Go.Proofs.YtpippjjhelgnlaaGreat.Gen
open ChangeShapes WideShapes ChangeAt RowKit Joins Deep Base
def Qc1 (kind term vote prev:Int) (l:List En) (snap:ByteArray):List UInt8:=if Qeg kind term vote prev l snap=true then Qcc (Qcu kind term vote prev l snap)else []
theorem Qil {kind term vote prev:Int} {l:List En} {snap:ByteArray} (h:NtR kind term vote prev l snap):(Qcu kind term vote prev l snap).length<=40000:=by
 have h1:=Qb5 [kind,term,vote+1,prev];have h2:=ensB_le h.en;have h3:=Qct (n:=snap.size) (by have:=h.s;omega);have:=h.s;have:=h.len;simp only[Qcu,List.length_append,Qb4,List.length_cons,List.length_nil]at h1 ⊢;omega
theorem frameB_le {L:List UInt8} (h:L.length<=40000):(Qcc L).length<=41000:=by
 have h1:=Qct (n:=L.length) (by omega);simp only[Qcc,List.length_append,Qb1];omega
theorem noteO_le (kind term vote prev:Int) (l:List En) (snap:ByteArray):(Qc1 kind term vote prev l snap).length<=41000:=by
 unfold Qc1;split
 . exact frameB_le (Qil (Qd5 ‹_›))
 . simp
theorem Pt.of_at {α:Type} [Cel α] {P:Nat->Prop} {w W:World} {A:Option Addr} {L:List α} (h:At w A L) (g:Below w.heap.size w W) (hP:∀k,k<w.heap.size->P k):Pt P W A L:=by
 refine⟨h.below g,?_⟩;rcases h with e|⟨b,o,e,hb,_⟩
 . exact .inl e
 . exact .inr fun k o' e' =>by rw[e]at e';cases e';exact hP b hb
theorem note1_any (z:Nat) (P:Nat->Prop) (y:Nat) (kind term vote prev:Int) (snap:ByteArray) (A:Option Addr) (cap:Nat) (l:List En) (hR:NtR kind term vote prev l snap) (W:World) (hz:Blk W z 44 (Qah kind term vote prev A l.length cap snap)) (hA:Pt P W A l) (h:Wr P y W []):Qh1 59 #[.pointer (some ⟨z,0,none⟩)] (some (Qcu kind term vote prev l snap)) P y W:=by
 unfold Qh1;have HW:=hidP h;have HA:=hidP hA;have HRR:=hidP hR;show Calls Tryz.prog 59 #[.pointer (some ⟨y,0,none⟩),.pointer (some ⟨z,0,none⟩)] W _;obtain⟨c0,c1,c2,c3,c4,c5⟩:=hz.row6n;clear h hz hA hR;go_enter Tryz.func59,Tryz.ntmps59;go_wp2_with fail;refine(wnote_any P y kind term vote prev snap A cap l ⟨by have:=HRR.out.k;omega,HRR.out.k.2⟩ HRR.out.t HRR.out.v HRR.out.p HRR.out.s HRR.out.len HRR.out.en _ HA.out HW.out).mono ?_;rintro e w' ⟨rfl,t1,h1⟩;go_wp2
 go_end0
 exact⟨t1,rfl,h1⟩
theorem note2_any (z:Nat) (P:Nat->Prop) (y:Nat) (A:Option Addr) (cap:Nat) (L:List UInt8) (hL:L.length<=3000000) (W:World) (hz:Blk W z 22 #[.slice A L.length cap]) (hA:Pt P W A L) (h:Wr P y W []):Qh1 61 #[.pointer (some ⟨z,0,none⟩)] (some (Qcc L)) P y W:=by
 unfold Qh1;have HW:=hidP h;have HA:=hidP hA;show Calls Tryz.prog 61 #[.pointer (some ⟨y,0,none⟩),.pointer (some ⟨z,0,none⟩)] W _;have c0:=hz.row1;clear h hz hA;go_enter Tryz.func61,Tryz.ntmps61;go_wp2_with fail;refine(framed_any P y A cap L hL _ HA.out HW.out).mono ?_;rintro e w' ⟨rfl,t1,h1⟩;go_wp2
 go_end0
 exact⟨t1,rfl,h1⟩
theorem Qdz (kind term vote prev:Int) (snap:ByteArray) (hs:snap.size<=9223372036854775807) (A:Option Addr) (cap:Nat) (l:List En) (hl:l.length<=3000000) (hr:∀x∈l,x.fit) (w:World) (hA:At w A l):
 Calls Tryz.prog 16 #[.agg (Qah kind term vote prev A l.length cap snap)] w fun e w' =>∃a' c',e= .returned (.slice a' (Qc1 kind term vote prev l snap).length c')/\Below w.heap.size w w' /\w'.ownsRow w.heap.size 5 1 (.slice a' (Qc1 kind term vote prev l snap).length c') (Qc1 kind term vote prev l snap).length (flat (Qc1 kind term vote prev l snap)):=by
 have hmf:∀(fn:Fn) (first cap:Array Value) (w:World),(Instr.makeFunc fn first cap).run Tryz.prog w= .ok (.func fn first cap) w:=fun _ _ _ _=>rfl
 have Hp:=hidP (Blk.new w 44 (Qah kind term vote prev A l.length cap snap));have B0:Below w.heap.size w (w.alloc (.cells (Qah kind term vote prev A l.length cap snap) 44)):=Qad (Below.refl _ w) _;have HA:=hidP hA;have HF:=hidP hr;clear hA hr;go_enter Tryz.func16,Tryz.ntmps16;go_wp2_with fail;refine(Qex kind term vote prev snap hs A cap l hl HF.out _ (HA.out.below B0)).mono ?_;rintro e w1 ⟨rfl,g1⟩;have p1:=Hp.out.below g1 Hp.out.lt;have B1:=via0 g1 B0;have q1:=p1.lt;cases hok:Qeg kind term vote prev l snap with
 |false=>
  have hO:Hid (Qc1 kind term vote prev l snap= []):=by show _=_;unfold Qc1;rw[hok];rfl
  clear g1 p1;go_wp2;go_ret;rw[hO.out];exact⟨none,0,rfl,B1,World.ownsRow_nil _ _ _ _⟩
 |true=>
  have hO:Hid (Qc1 kind term vote prev l snap=Qcc (Qcu kind term vote prev l snap)):=by show _=_;unfold Qc1;rw[hok];rfl
  have hR:=Qd5 hok;have hbl:=hidP (Qil hR);have hwr:=hidP (Qgi 59 #[.pointer (some ⟨w.heap.size,0,none⟩)] (some (Qcu kind term vote prev l snap)) w1 (fun p W=>by simp[go_sem])
   (fun W hb P y hP h=>note1_any w.heap.size P y kind term vote prev snap A cap l hR W (p1.below hb p1.lt) (Pt.of_at (HA.out.below B1) hb hP) h))
  clear g1 p1 hR;simp only[Option.getD_some]at hwr;generalize Qcu kind term vote prev l snap=L at*;go_wp2_with fail;refine hwr.out.mono ?_;rintro e w2 ⟨a2,c2,rfl,g2,o2⟩;have B2:=via0 g2 B1;have hat2:=(Qa0 o2).at;have p3:=Blk.new w2 22 #[.slice a2 L.length c2];have B3:Below w.heap.size w (w2.alloc (.cells #[.slice a2 L.length c2] 22)):=Qad B2 _;have hat3:=hat2.below (Qad (Below.refl _ w2) (.cells #[.slice a2 L.length c2] 22));have hwr2:=hidP (Qgi 61 #[.pointer (some ⟨w2.heap.size,0,none⟩)] (some (Qcc L)) (w2.alloc (.cells #[.slice a2 L.length c2] 22)) (fun p W=>by simp[go_sem])
   (fun W hb P y hP h=>note2_any w2.heap.size P y a2 c2 L (by have:=hbl.out;omega) W (p3.below hb p3.lt) (Pt.of_at hat3 hb hP) h))
  simp only[Option.getD_some]at hwr2;clear hwr hat2 hat3 p3 g2 o2;go_wp2_with fail;refine hwr2.out.mono ?_;rintro e w' ⟨a',c',rfl,hb,ho⟩;have hb' :=via0 hb B3;have ho' :=hidP (Qaz (C:=w.heap.size) ho B3.size);clear hb ho hwr2;go_wp2;go_ret;rw[hO.out];exact⟨a',c',rfl,hb',ho'.out⟩
theorem Qdw (kind term vote prev:Int) (snap:ByteArray) (hs:snap.size<=9223372036854775807) (A:Option Addr) (cap:Nat) (l:List En) (hl:l.length<=3000000) (hr:∀x∈l,x.fit) (w:World) (hA:At w A l):
 Calls Tryz.prog 19 #[.agg (Qah kind term vote prev A l.length cap snap)] w fun e w' =>∃a' c',e= .returned (.slice a' (Qc1 kind term vote prev l snap).length c')/\Below w.heap.size w w' /\w'.ownsRow w.heap.size 5 1 (.slice a' (Qc1 kind term vote prev l snap).length c') (Qc1 kind term vote prev l snap).length (flat (Qc1 kind term vote prev l snap)):=by
 have Hp:=hidP (Blk.new w 44 (Qah kind term vote prev A l.length cap snap));have B0:Below w.heap.size w (w.alloc (.cells (Qah kind term vote prev A l.length cap snap) 44)):=Qad (Below.refl _ w) _;have HA:=hidP hA;have HF:=hidP hr;clear hA hr;go_enter Tryz.func19,Tryz.ntmps19;go_wp2_with fail;refine(Qev kind term vote prev snap hs A cap l hl HF.out _ (HA.out.below B0)).mono ?_;rintro e w1 ⟨rfl,g1⟩;have p1:=Hp.out.below g1 Hp.out.lt;have B1:=via0 g1 B0;have q1:=p1.lt;cases hok:Qeg kind term vote prev l snap with
 |false=>
  have hO:Hid (Qc1 kind term vote prev l snap= []):=by show _=_;unfold Qc1;rw[hok];rfl
  clear g1 p1;go_wp2;go_ret;rw[hO.out];exact⟨_,_,rfl,Qad B1 _,⟨by simp[flat],.inr ⟨w1.heap.size,0,#[],rfl,B1.size,Blk.new w1 5 #[],Nat.le_refl _,by simp[maxLen],rfl,rfl⟩⟩⟩
 |true=>
  have hO:Hid (Qc1 kind term vote prev l snap=Qcc (Qcu kind term vote prev l snap)):=by show _=_;unfold Qc1;rw[hok];rfl
  have hR:=hidP (Qd5 hok);have hbl:=hidP (Qil hR.out);obtain⟨d0,d1,d2,d3,d4,d5⟩:=p1.row6n;clear g1 p1;go_wp2_with fail;refine(l9Body_any kind term vote prev snap A cap l hR.out HF.out _ (HA.out.below B1)).mono ?_;rintro e w2 ⟨a2,c2,rfl,g2,o2⟩;have B2:=hidP (via0 g2 B1);have hat2:=hidP (Qa0 o2).at;generalize Qcu kind term vote prev l snap=L at*;clear g2 o2 hR d0 d1 d2 d3 d4 d5 q1;go_wp2_with fail;refine(Qa5 (L.length:Int) _).mono ?_;rintro e w3 ⟨a3,c3,rfl,g3,o3⟩;have J3:Jo w2 w3 a3 c3 (numI (L.length:Int)):=⟨g3,o3⟩
  obtain⟨a4,c4,w4,hr4,K4,_⟩:=J3.app (c1:=c2) (Below.refl _ _) (hat2.out.below g3) (by have:=Qbn (L.length:Int);have:=hbl.out;omega);have EX:Hid (numI (L.length:Int)++L++sumB 4 (sumN L)=Qcc L):=by show _=_;rw[Qcr (by have:=hbl.out;omega)];simp[Qcc,List.append_assoc]
  have LX:Hid ((numI (L.length:Int)++L).length<=41000):=by show _<=_;rw[List.length_append];have:=Qbn (L.length:Int);have:=hbl.out;omega
  generalize numI (L.length:Int)++L=X at*;have J4:=hidP K4;have hat4:=hidP (hat2.out.below J4.out.bl);clear K4 J3 g3 o3;go_wp2_with (at_builtin;refine Qac rfl _ _ _ rfl _ _ _ rfl rfl hr4 ?_);refine(Qg3 a2 c2 L (by have:=hbl.out;omega) _ hat4.out).mono ?_;rintro e w5 ⟨rfl,g5,hy5⟩;obtain⟨a6,c6,w6,hr6,K6,_⟩:=J4.out.app (c1:=4) g5 hy5 (by have:=LX.out;rw[Qb1];omega);rw[Qb1]at hr6;generalize X++sumB 4 (sumN L)=Y at*;have J6:=hidP K6;clear K6 J4 g5 hy5 hr4;go_wp2_with (at_builtin;refine Qac rfl _ _ _ rfl _ _ _ rfl rfl hr6 ?_);go_ret;rw[hO.out,← EX.out];exact⟨a6,c6,rfl,via0 J6.out.bl B2.out,Qaz J6.out.own B2.out.size⟩
end Go.Proofs.YtpippjjhelgnlaaGreat.Gen
namespace Go.Proofs.YtpippjjhelgnlaaGreat.Gen
open ChangeShapes WideShapes ChangeAt RowKit Joins Deep Base
open Items (It)
theorem DL.app8 {w W W1:World} {C cap:Nat} {A:Option Addr} {l:List By} {a a1:Option Addr} {c c1:Nat} {xs ys:List UInt8} (h:DL 5 w W C cap A l a c xs) (hy:At W a1 ys) (hlen:xs.length+ys.length<=1000000):
 ∃a2 c2 W2,(Builtin.append_ #[22,22] 22 #[.slice a xs.length c,.slice a1 ys.length c1]).run Tryz.prog W= .ok (.slice a2 (xs.length+ys.length) c2) W2/\DL 5 w W2 C cap A l a2 c2 (xs++ys):=by
 have hs:=h.size;obtain⟨v',W2,hr,hown,hgrow,hob⟩:=Qeb w.heap.size (.slice a xs.length c) xs ys a1 c1 W hs h.own hy (by omega);obtain⟨a2,c2,rfl,_⟩:=Qao hown;have ko:=Qce hgrow;have g:Below w.heap.size W W2:=ko.toBelow (fun z hz=>(h.own.lt z hz).1) hs;exact⟨a2,c2,W2,hr,Qfr h.on (Nat.le_refl _) g,h.dr.under g h.hC,by rw[List.length_append];exact hown,h.hC⟩
def DrewB (n:Nat) (C:Nat) (A:Option Addr) (cap:Nat) (l:List By) (w:World) (e:Ending) (w' :World):Prop:=∃(a:Option Addr) (c:Nat) (L:List UInt8),e= .returned (.slice a L.length c)/\L.length<=n/\DL 5 w w' C cap A l a c L
theorem Qii (C:Nat) (A:Option Addr) (cap:Nat) (l:List By) (w:World) (hD:Drawn w C A cap l):
 Calls Tryz.prog 74 #[.pointer (some ⟨C,0,none⟩)] w fun e w' =>DrewB 130000 C A cap l w e w' :=by
 have hC:=hD.lt;have I0:DL (α:=UInt8) 5 w (w.alloc (.cells #[] 5)) C cap A l (some ⟨w.heap.size,0,none⟩) 0 []:=⟨Only.of_below (Qad (Below.refl _ _) _),hD.below (Qad (Below.refl _ _) _),Qen (α:=UInt8) (Nat.le_refl _) rfl,hC⟩
 clear hD;go_enter Tryz.func74,Tryz.ntmps74;go_wp2
 go_loopw [3,4] (fun ov iv wx=>∃(i:Nat) (a:Option Addr) (c:Nat) (L:List UInt8),ov= .slice a L.length c/\iv= .int .i64 (i:Int)/\i<=3/\Hid (L.length<=i*41000)/\DL 5 w wx C cap A l a c L) (fun _ iv _=>3 - (intOf iv).toNat)
 case atStart=>exact⟨0,_,_,[],rfl,rfl,by omega,by show _<=_;simp,I0⟩
 case round=>
  clear I0;obtain⟨i,la,lc,L,rfl,rfl,hi,hl,P⟩:=hrel;have HP:=hidP P;clear P;go_wp2_with fail;refine(Qbe C A cap l 4 (by omega) (by omega) _ HP.out.dr).mono ?_;rintro e w1 ⟨x,rfl,hx0,hx1,k1,d1⟩;have P1:=HP.out.only k1 d1;clear HP k1 d1;by_cases hlt:(i:Int)<x
  . have HP1:=hidP P1;clear P1;go_wp2_with fail;refine(Qf1 C A cap l _ HP1.out.dr).mono ?_;rintro e w2 ⟨kind,term,vote,prev,na,nc,NL,snap,rfl,hn1,hn2,hn3,hav,k2,d2⟩;have P2:=hidP (HP1.out.only k2 d2);have HNB:Hid (∀W:World,Below w2.heap.size w2 W->Calls Tryz.prog 19 #[.agg (Qah kind term vote prev na NL.length nc snap)] W fun e w' =>∃a' c',e= .returned (.slice a' (Qc1 kind term vote prev NL snap).length c')/\Below W.heap.size W w' /\w'.ownsRow W.heap.size 5 1 (.slice a' (Qc1 kind term vote prev NL snap).length c') (Qc1 kind term vote prev NL snap).length (flat (Qc1 kind term vote prev NL snap))):=fun W g=>Qdw kind term vote prev snap (by omega) na nc NL (by omega) (fun y hy=>by have:=hn2 y hy;exact⟨by omega,by omega⟩) W (hav.at.below g)
    have hno:=noteO_le kind term vote prev NL snap;generalize Qc1 kind term vote prev NL snap=B at HNB hno;clear HP1 k2 d2 hav hn1 hn2 hn3;go_wp2_with fail;refine(HNB.out _ (Below.refl _ _)).mono ?_;rintro e w3 ⟨ba,bc,rfl,g3,o3⟩;have P3:=P2.out.below g3;have hat:At w3 ba B:=Qcz rfl o3;clear P2 HNB g3 o3;obtain⟨a9,c9,W9,hr,P9⟩:=P3.app8 (c1:=bc) (W1:=w3) hat (by have:=hl.out;omega);obtain⟨m9,hm9⟩:∃m,m=L.length+B.length:=⟨_,rfl⟩
    rw[← hm9]at hr;have Hm:=hidP hm9;clear hm9;go_wp2_with (at_builtin;refine Qac rfl _ _ _ rfl _ _ _ rfl rfl hr ?_);exact⟨⟨i+1,a9,c9,L++B,by rw[List.length_append,Hm.out],by go_num,by omega,by show _<=_;rw[List.length_append];have:=hl.out;omega,P9⟩,by simp[intOf];omega⟩
  . go_wp2;go_ret;exact⟨la,lc,L,rfl,by have:=hl.out;omega,P1⟩
end Go.Proofs.YtpippjjhelgnlaaGreat.Gen
namespace Go.Proofs.YtpippjjhelgnlaaGreat.Gen
open ChangeShapes WideShapes ChangeAt RowKit Joins Deep Base
theorem Qhm (A:Option Addr) (cap:Nat) (l:List By) (hl:l.length<=1048576) (hby:∀x∈l,x.right) (w:World) (hA:At w A l):
 Calls Tryz.prog 24 #[.slice A l.length cap] w fun e w' =>∃(L:List UInt8) (a:Option Addr) (c:Nat) (k:Int),e= .returned (.tuple #[.slice a L.length c,.int .i64 k])/\L.length<=200000/\L.length<=c/\c<=9223372036854775807/\At w' a L/\I64 k/\Below w.heap.size w w' :=by
 have HA:=hidP hA;have Hby:=hidP hby;clear hA hby;go_enter Tryz.func24,Tryz.ntmps24;go_wp2_with fail;refine(new_any A cap l hl Hby.out _ HA.out).mono ?_;rintro e w1 ⟨C,rfl,hC,g1,hD⟩;have hlt:=hD.lt;have HD:=hidP hD;clear hD;go_wp2_with fail;refine(Qf1 C A cap l _ HD.out).mono ?_;rintro e w2 ⟨kind,term,vote,prev,na,nc,NL,snap,rfl,hn1,hn2,hn3,hav,o2,d2⟩;have B2:=g1.trans (o2.toBelow hC g1.size);have s2:=o2.size;have HD2:=hidP d2;have HNB:Hid (∀W:World,Below w2.heap.size w2 W->Calls Tryz.prog 19 #[.agg (Qah kind term vote prev na NL.length nc snap)] W fun e w' =>∃a' c',e= .returned (.slice a' (Qc1 kind term vote prev NL snap).length c')/\Below W.heap.size W w' /\w'.ownsRow W.heap.size 5 1 (.slice a' (Qc1 kind term vote prev NL snap).length c') (Qc1 kind term vote prev NL snap).length (flat (Qc1 kind term vote prev NL snap))):=fun W g=>Qdw kind term vote prev snap (by omega) na nc NL (by omega) (fun y hy=>by have:=hn2 y hy;exact⟨by omega,by omega⟩) W (hav.at.below g)
 have hno:=hidP (noteO_le kind term vote prev NL snap);generalize Qc1 kind term vote prev NL snap=X at HNB hno;clear o2 d2 HD g1 hav hn1 hn2 hn3;go_wp2_with fail;refine(HNB.out _ (Below.refl _ _)).mono ?_;rintro e w3 ⟨a3,c3,rfl,g3,o3⟩;have HD3:=hidP (HD2.out.below g3);have HO3:=hidP o3;have B3:=via0 g3 B2;have s3:=g3.size;clear g3 o3 HD2 B2 HNB;go_wp2_with fail;refine(Qii C A cap l _ HD3.out).mono ?_;rintro e w4 ⟨a4,c4,Y,rfl,hY,D4⟩;have s4:=D4.on.size;obtain⟨a5,c5,w5,hr5,hown5,b5⟩:=appendB (c' :=c4) (show w2.heap.size<=w4.heap.size by omega) (Qfq HO3.out D4.on (by omega)) (Qcz rfl D4.own) (by have:=hno.out;omega);have hl5:Hid ((X++Y).length<=190000):=by show _<=_;rw[List.length_append];have:=hno.out;omega
 obtain⟨hcap5,hcm5⟩:=Qgt hown5;have HS5:=hidP (Qhr (C:=C) hown5 (by omega));have HD5:=hidP (D4.dr.under b5 (by omega));have HB5:=hidP ((B3.trans (D4.on.toBelow hC B3.size)).trans (b5.mono (by omega)));have s5:=b5.size;clear hown5 b5 D4 HO3 HD3 B3;generalize X++Y=Z0 at*;have hZ0:=hl5.out;go_wp2_with (at_builtin;refine Qac rfl _ _ _ rfl _ _ _ rfl rfl hr5 ?_);refine(dent_any C A cap l a5 c5 Z0 (by omega) hcap5 hcm5 _ HD5.out HS5.out).mono ?_;rintro e w6 ⟨Z,a6,c6,rfl,hZ,hc6,hm6,hS6,o6,d6⟩;have HB6:=hidP (HB5.out.trans (o6.toBelow hC HB5.out.size));have HI:=hidP (newIn w6 ([⟨0⟩,⟨0⟩,⟨0⟩,⟨1⟩,⟨(Z.length:Int)⟩,⟨-1⟩]:List Nu) (Qdh 0 0 0 1 (Z.length:Int) (-1)) 3 rfl);have al:=Qad (Below.refl _ w6) (.cells (Qdh 0 0 0 1 (Z.length:Int) (-1)) 3);have HDz:=hidP (d6.below al);have HAz:=hidP (hS6.below al);have HBz:=hidP (via0 al HB6.out);have s6:=o6.size;clear al o6 d6 HD5 HS5 HB5 hr5 HB6 hS6 hl5 hcap5 hcm5;go_wp2_with fail;refine(Qdq C A cap l w6.heap.size 0 6 ([⟨0⟩,⟨0⟩,⟨0⟩,⟨1⟩,⟨(Z.length:Int)⟩,⟨-1⟩]:List Nu) (by simp) (by simp) _ HDz.out (by simp) (by omega) HI.out).mono ?_;rintro e w9 ⟨y,hy,rfl,o9,_⟩;have hB:=hidP (HBz.out.trans (o9.toBelow hC HBz.out.size));have hI:Hid (I64 y.n):=by
  show I64 _;simp only[List.mem_cons,List.not_mem_nil,or_false]at hy;rcases hy with rfl|rfl|rfl|rfl|rfl|rfl<;>refine⟨?_,?_⟩<;>simp<;>omega
 have hat:=hidP (HAz.out.only o9);clear hy o9 HAz HBz HDz HI;go_wp2;exact bodyPost_ret (v:= .tuple #[.slice a6 Z.length c6,.int .i64 y.n]) (by simp[results,Tryz.results24,go_sem]) rfl ⟨Z,a6,c6,y.n,rfl,by omega,by omega,hm6,hat.out.1,hI.out,hB.out⟩
end Go.Proofs.YtpippjjhelgnlaaGreat.Gen
namespace Go.Proofs.YtpippjjhelgnlaaGreat.Gen
open ChangeShapes WideShapes ChangeAt RowKit Joins Deep Base
def part (l:List UInt8) (c:Nat):Nat->Nat
  |0=>0
  |k+1=>part l c k+(l.getD (c+k) 0).toNat*256 ^ k
def Qhl (l:List UInt8) (c:Nat):Option (Nat × Nat):=if c+4<=l.length then some (part l c 4,c+4)else none
theorem part_lt (l:List UInt8) (c:Nat):∀k,part l c k<256 ^ k
 |0=>by simp[part]
 |k+1=>by
  have h:=part_lt l c k;have hd:(l.getD (c+k) 0).toNat<=255:=by have:=(l.getD (c+k) 0).toNat_lt;omega
  have h2:=Nat.mul_le_mul_right (256 ^ k) hd;simp only[part];rw[Nat.pow_succ];omega
theorem rsum_any (r:Nat) (A:Option Addr) (cap:Nat) (l:List UInt8) (c:Nat) (hl:l.length<=1048576) (w:World) (h:Rd w r A cap l (c:Int)):
 Calls Tryz.prog 183 #[.pointer (some ⟨r,0,none⟩)] w fun e w' =>Qfn isNum r A cap l w e w' (Qhl l c):=by
 have HR:=hidP h;clear h;go_enter Tryz.func183,Tryz.ntmps183;go_wp2
 go_loopw [3,4,5] (fun v3 v4 v5 W=>∃(k:Nat),v3= .int .i64 (part l c k:Int)/\v4= .int .i64 ((256 ^ k:Nat):Int)/\v5= .int .i64 (k:Int)/\k<=4/\Hid (k=0∨c+k<=l.length)/\Hid (Only r w W)/\Hid (Rd W r A cap l ((c+k:Nat):Int))) (fun _ _ v5 _=>4 - (intOf v5).toNat)
 case atStart=>exact⟨0,rfl,rfl,rfl,by omega,.inl rfl,Only.refl _ _,HR⟩
 case round=>
  obtain⟨k,rfl,rfl,rfl,hk,hck,hO,hR⟩:=hrel;by_cases h4:k<4
  . have h4' :(k:Int)<4:=(by omega);by_cases hp:c+k<l.length
    . have hpl:=part_lt l c k;have hst:Hid (part l c (k+1)=part l c k+(l[c+k]).toNat*256 ^ k):=(by show _=_;simp[part,List.getD_eq_getElem?_getD,hp]);have hck' :Hid (k+1=0∨c+(k+1)<=l.length):=(by show _∨_;omega);have hd2:(l[c+k]).toNat<256:=(l[c+k]).toNat_lt;go_wp2_with fail;refine(next_any r A cap l (c+k) hp hl _ hR.out).mono ?_;rintro e w1 ⟨rfl,o1,r1⟩;generalize (l[c+k]).toNat=d at*;have hO1:=hidP (Qaq hO.out o1);have hR1:Hid (Rd w1 r A cap l ((c+(k+1):Nat):Int)):=r1;clear o1 r1 hR hO;generalize part l c k=N at*;obtain rfl|rfl|rfl|rfl:k=0∨k=1∨k=2∨k=3:=by omega
      . have hst1:part l c 1=N+d*1:=hst.out;have hck1:Hid (1=0∨c+1<=l.length):=hck';have Hst:=hidP hst1;simp only[Nat.reducePow]at hpl ⊢;clear hst hst1;go_wp2;refine⟨⟨1,?_,?_,rfl,by omega,hck1,hO1,hR1⟩,by simp[intOf]⟩
        . show Value.int .i64 _=Value.int .i64 _;congr 1;have:=Hst.out;omega
        . rfl
      . have hst1:part l c 2=N+d*256:=hst.out;have hck1:Hid (2=0∨c+2<=l.length):=hck';have Hst:=hidP hst1;simp only[Nat.reducePow]at hpl ⊢;clear hst hst1;go_wp2;refine⟨⟨2,?_,?_,rfl,by omega,hck1,hO1,hR1⟩,by simp[intOf]⟩
        . show Value.int .i64 _=Value.int .i64 _;congr 1;have:=Hst.out;omega
        . rfl
      . have hst1:part l c 3=N+d*65536:=hst.out;have hck1:Hid (3=0∨c+3<=l.length):=hck';have Hst:=hidP hst1;simp only[Nat.reducePow]at hpl ⊢;clear hst hst1;go_wp2;refine⟨⟨3,?_,?_,rfl,by omega,hck1,hO1,hR1⟩,by simp[intOf]⟩
        . show Value.int .i64 _=Value.int .i64 _;congr 1;have:=Hst.out;omega
        . rfl
      . have hst1:part l c 4=N+d*16777216:=hst.out;have hck1:Hid (4=0∨c+4<=l.length):=hck';have Hst:=hidP hst1;simp only[Nat.reducePow]at hpl ⊢;clear hst hst1;go_wp2;refine⟨⟨4,?_,?_,rfl,by omega,hck1,hO1,hR1⟩,by simp[intOf]⟩
        . show Value.int .i64 _=Value.int .i64 _;congr 1;have:=Hst.out;omega
        . rfl
    . have hN:Hid (Qhl l c=none):=(by show _=_;unfold Qhl;rw[if_neg (by omega)]);go_wp2_with fail;refine(Qjj r A cap l _ (by omega) hl _ hR.out).mono ?_;rintro e w1 ⟨rfl,o1⟩;refine⟨rfl,?_⟩;rw[hN.out];exact⟨Qaq hO.out o1,_,_,rfl⟩
  . obtain rfl:k=4:=(by omega);have hN:Hid (Qhl l c=some (part l c 4,c+4)):=(by show _=_;unfold Qhl;rw[if_pos (by have:=hck.out;omega)]);generalize part l c 4=N at*;go_wp2;go_ret;rw[hN.out];exact⟨hO.out,hR.out,_,rfl,rfl⟩
def Qd9 (l:List UInt8) (i:Int):Option (List UInt8 × Nat):=match getT l i with
  |none=>none
  |some (s,c)=>match Qhl l c with
    |none=>none
    |some (n,d)=>if n=sumN s.data.toList then some (s.data.toList,d)else none
def isBy (B:Nat) (L:List UInt8) (v:Value) (W:World):Prop:=∃b c,v= .slice (some ⟨b,0,none⟩) L.length c/\B<=b/\b<W.heap.size/\In W b 0 L/\L.length<=c/\c<=9223372036854775807
theorem isBy.only {B r:Nat} {L:List UInt8} {v:Value} {W W' :World} (h:isBy B L v W) (g:Only r W W') (hr:r<B):isBy B L v W' :=by
 obtain⟨b,c,e,h1,h2,h3,h4,h5⟩:=h;exact⟨b,c,e,h1,Nat.lt_of_lt_of_le h2 g.size,fun j u hu=>(g.cell (p:=⟨b,0+j,none⟩) h2 (by show b≠r;omega)).trans (h3 j u hu),h4,h5⟩
theorem isBy.below {B:Nat} {L:List UInt8} {v:Value} {W W' :World} (h:isBy B L v W) (g:Below W.heap.size W W'):isBy B L v W' :=by
 obtain⟨b,c,e,h1,h2,h3,h4,h5⟩:=h;exact⟨b,c,e,h1,Nat.lt_of_lt_of_le h2 g.size,h3.below h2 g,h4,h5⟩
theorem getFr_le {l:List UInt8} {i:Int} {L:List UInt8} {c:Nat} (h:Qd9 l i=some (L,c)):i<(c:Int)/\c<=l.length/\L.length<=l.length:=by
 unfold Qd9 at h;cases hx:getT l i with
 |none=>simp[hx]at h
 |some p=>
 obtain⟨s,c1⟩:=p;have h1:=Qdm hx;simp only[hx]at h;unfold Qhl at h;by_cases h4:c1+4<=l.length
 . rw[if_pos h4]at h;simp only at h;split at h
   . simp only[Option.some.injEq,Prod.mk.injEq]at h;obtain⟨rfl,rfl⟩:=h;have e:s.data.toList.length=s.size:=(by rw[Array.length_toList];rfl);omega
   . cases h
 . rw[if_neg h4]at h;cases h
theorem Qkl (r:Nat) (A:Option Addr) (cap:Nat) (l:List UInt8) (i:Int) (hl:l.length<=1048576) (hcap:l.length<=cap) (hcm:cap<=9223372036854775807) (w:World) (h:Rd w r A cap l i):
 Calls Tryz.prog 144 #[.pointer (some ⟨r,0,none⟩)] w fun e w' =>Qfn (isBy w.heap.size) r A cap l w e w' (Qd9 l i):=by
 obtain⟨hr,hfar⟩:=h.far';have HR:=hidP h;clear h;go_enter Tryz.func144,Tryz.ntmps144;go_wp2_with fail;refine(Qd4 r A cap l i hl hcap hcm _ HR.out).mono ?_;intro e w1 h1;cases hx:getT l i with
 |none=>
  have hN:Qd9 l i=none:=by simp[Qd9,hx]
  rw[hx]at h1;obtain⟨o1,t,v,rfl⟩:=h1;refine⟨rfl,?_⟩;rw[hN];exact⟨o1,t,v,rfl⟩
 |some x=>
 obtain⟨s,c⟩:=x;rw[hx]at h1;obtain⟨o1,r1,v,rfl,rfl⟩:=h1;have hle:=Qdm hx;have hcv:=Go.Lib.run_convert_string_bytes (P:=Tryz.prog) w1 9 22 5 s Tryz.underlying9 Tryz.underlying22 Tryz.underlying5;have hbb:=Qhd w1 5 s;have hat:=bytes_at w1 5 s;have hsz2:=Go.Lib.bytesWorld_size w1 5 s;have hge:=grownCap_ge w1 s.size 0 5;have hgm:=grownCap_le_maxLen w1 s.size 0 5 (by simp[maxLen];omega);generalize Go.Lib.bytesWorld w1 5 s=w2 at*;generalize grownCap w1 s.size 0 5=gc at*;have hlen:s.data.toList.length=s.size:=by rw[Array.length_toList];rfl
 have HB:Hid (isBy w.heap.size s.data.toList (.slice (some ⟨w1.heap.size,0,none⟩) s.size gc) w2):=by
  refine⟨w1.heap.size,gc,by rw[hlen],o1.size,by omega,?_,by omega,by simpa [maxLen]using hgm⟩;rcases hat with e|⟨b,o,e,hb,hi⟩
  . rw[e];exact fun j v hv=>by simp[flat]at hv
  . cases e;exact hi
 have HO2:=hidP (o1.below hbb);have HR2:=hidP (r1.below hbb);have hS:Hid (Qd9 l i=match Qhl l c with|none=>none|some (n,d)=>if n=sumN s.data.toList then some (s.data.toList,d)else none):=by show _=_;simp[Qd9,hx]
 clear o1 r1 hat hbb HR hge hgm hx;go_wp2_with fail;refine(rsum_any r A cap l c hl _ HR2.out).mono ?_;intro e w3 h3;cases hx:Qhl l c with
 |none=>
  have hN:Qd9 l i=none:=by rw[hS.out,hx]
  rw[hx]at h3;obtain⟨o3,t,v,rfl⟩:=h3;refine⟨rfl,?_⟩;rw[hN];exact⟨Qaq HO2.out o3,t,v,rfl⟩
 |some x=>
 obtain⟨n,d⟩:=x;rw[hx]at h3;obtain⟨o3,r3,v,rfl,rfl⟩:=h3;rw[hx]at hS;replace hS:Hid (Qd9 l i=if n=sumN s.data.toList then some (s.data.toList,d)else none):=hS;have HB3:=hidP (HB.out.only o3 hr);have HO3:=hidP (Qaq HO2.out o3);have HR3:=hidP r3;have hat3:Hid (At w3 (some ⟨w1.heap.size,0,none⟩) s.data.toList):=by
  obtain⟨b,c',e,_,hb,hi,_⟩:=HB3.out;simp only[Value.slice.injEq,Option.some.injEq,Addr.mk.injEq,and_true]at e;obtain⟨e1,_⟩:=e;subst e1;exact .inr ⟨_,_,rfl,hb,hi⟩
 have hlen3:s.data.toList.length<=3000000:=by omega
 have hSum:=hidP (Qg6 (some ⟨w1.heap.size,0,none⟩) gc s.data.toList hlen3 _ hat3.out);rw[hlen]at hSum;clear o3 r3 HB HO2 HR2 hcv hx;go_wp2_with fail;refine hSum.out.mono ?_;rintro e w4 ⟨rfl,rfl⟩;clear hSum hat3;generalize sumN s.data.toList=N at*;by_cases hn:n=N
 . subst hn;rw[if_pos rfl]at hS;go_wp2;go_ret;rw[hS.out];exact⟨HO3.out,HR3.out,_,rfl,HB3.out⟩
 . rw[if_neg hn]at hS;have hn' :¬((n:Int)=(N:Int)):=(by omega);go_wp2;refine⟨rfl,?_⟩;rw[hS.out];exact⟨HO3.out,_,_,rfl⟩
end Go.Proofs.YtpippjjhelgnlaaGreat.Gen
namespace Go.Proofs.YtpippjjhelgnlaaGreat.Gen
open ChangeShapes WideShapes ChangeAt RowKit Joins Deep Base
theorem isBy.mono {B B' :Nat} {L:List UInt8} {v:Value} {W:World} (h:isBy B L v W) (hB:B' <=B):isBy B' L v W:=by
 obtain⟨b,c,e,h1,h2⟩:=h;exact⟨b,c,e,Nat.le_trans hB h1,h2⟩
theorem Qh7 (o:Option (List UInt8 × Nat)) (f:FuncId) (cp:Array Value) (z y g r:Nat) (A:Option Addr) (cap:Nat) (l:List UInt8) (i:Int) (W:World)
 (hcf:∀(p:Value) (W:World),(callFunc f (#[p]++cp)).run Tryz.prog W= .ok (.enter f (#[p]++cp)) W)
 (pz:Blk W z 201 #[.func (.func f) #[] cp]) (py:Blk W y 92 #[.pointer (some ⟨r,0,none⟩)]) (pg:Blk W g 22 #[.slice none 0 0]) (hgr:g≠r)
 (h:Calls Tryz.prog f (#[.pointer (some ⟨r,0,none⟩)]++cp) W fun e W' =>Qfn (isBy W.heap.size) r A cap l W e W' o):
 Calls Tryz.prog 182 #[.pointer (some ⟨z,0,none⟩),.pointer (some ⟨y,0,none⟩),.pointer (some ⟨g,0,none⟩)] W fun e W' =>
  (∃x c bb cc W0,o=some (x,c)/\isBy W.heap.size x (.slice (some ⟨bb,0,none⟩) (List.length x) cc) W0/\e= .returned (.tuple #[])/\Only r W W0/\Rd W0 r A cap l (c:Int)/\W' =(W0.setCell ⟨g,0,none⟩ (.slice (some ⟨bb,0,none⟩) (List.length x) cc)))∨(o=none/\Only r W W' /\∃t v,e= .panicked [{v:= .iface t v,recovered:=false}]):=by
 have HH:=hidP h;have c0:=pz.row1;have c1:=py.row1;have HG:=hidP pg;clear h pz py pg;go_enter Tryz.func182,Tryz.ntmps182;go_wp2_with fail;refine HH.out.mono ?_;intro e W1 h1;cases o with
 |none=>
  obtain⟨o1,t,v,rfl⟩:=h1;exact⟨rfl,.inr ⟨rfl,o1,t,v,rfl⟩⟩
 |some x=>
  obtain⟨x,c⟩:=x;obtain⟨o1,r1,v,rfl,hby⟩:=h1;have HBy:=hidP hby;obtain⟨bb,cc,rfl,_⟩:=hby;have p1:=HG.out.only o1 hgr;have d0:=p1.row1;have f0:=p1.thaw 0;have q0:=p1.lt;have HO1:=hidP o1;have HR1:=hidP r1;clear o1 r1 p1 c0 c1;go_wp2
  go_end0
  exact .inl ⟨x,c,bb,cc,W1,rfl,HBy.out,rfl,HO1.out,HR1.out,rfl⟩
theorem Qi3 (o:Option (List UInt8 × Nat)) (f:FuncId) (cp:Array Value) (A:Option Addr) (cap:Nat) (l:List UInt8) (i:Int) (hi:I64 i) (w:World) (hA:At w A l)
 (hcf:∀(p:Value) (W:World),(callFunc f (#[p]++cp)).run Tryz.prog W= .ok (.enter f (#[p]++cp)) W)
 (h:∀W r,Below w.heap.size w W->w.heap.size+2=r->W.heap.size=w.heap.size+5->Rd W r A cap l i->Calls Tryz.prog f (#[.pointer (some ⟨r,0,none⟩)]++cp) W fun e W' =>Qfn (isBy W.heap.size) r A cap l W e W' o):
 Calls Tryz.prog 143 #[.slice A l.length cap,.int .i64 i,.func (.func f) #[] cp] w fun e w' =>Below w.heap.size w w' /\
  ((∃x c bb cc,o=some (x,c)/\isBy w.heap.size x (.slice (some ⟨bb,0,none⟩) (List.length x) cc) w' /\e= .returned (.tuple (Qjt (some ⟨bb,0,none⟩) (List.length x) cc (c:Int) true)))∨(o=none/\e= .returned (.tuple l0SIB))):=by
 have hmf:∀(fn:Fn) (first cap:Array Value) (w:World),(Instr.makeFunc fn first cap).run Tryz.prog w= .ok (.func fn first cap) w:=fun _ _ _ _=>rfl
 have hA' :At (((((w.alloc (.cells #[.func (.func f) #[] cp] 201)).alloc (.cells #[.slice none 0 0] 22)).alloc (.cells #[.slice A l.length cap,.int .i64 i] 163)).alloc (.cells #[.pointer (some ⟨w.heap.size+1+1,0,none⟩)] 92)).alloc (.cells #[.bool false] 4)) A l:=
  hA.below (Qad (Qad (Qad (Qad (Qad (Below.refl _ w) _) _) _) _) _)
 have hAlt:∀c o,A=some ⟨c,o,none⟩->l= []∨c<w.heap.size:=fun c o e=>hA.imp id fun⟨b,o',e',hb,_⟩=>by rw[e]at e';cases e';exact hb
 have hcf1:∀W:World,(callFunc 182 #[.pointer (some ⟨w.heap.size,0,none⟩),.pointer (some ⟨w.heap.size+1+1+1,0,none⟩),.pointer (some ⟨w.heap.size+1,0,none⟩)]).run Tryz.prog W= .ok (.enter 182 #[.pointer (some ⟨w.heap.size,0,none⟩),.pointer (some ⟨w.heap.size+1+1+1,0,none⟩),.pointer (some ⟨w.heap.size+1,0,none⟩)]) W:=fun W=>by simp[go_sem]
 have pz:=((((Blk.new w 201 #[.func (.func f) #[] cp]).alloc (.cells #[.slice none 0 0] 22)).alloc (.cells #[.slice A l.length cap,.int .i64 i] 163)).alloc (.cells #[.pointer (some ⟨w.heap.size+1+1,0,none⟩)] 92)).alloc (.cells #[.bool false] 4);have pg:=(((Blk.new (w.alloc (.cells #[.func (.func f) #[] cp] 201)) 22 #[.slice none 0 0]).alloc (.cells #[.slice A l.length cap,.int .i64 i] 163)).alloc (.cells #[.pointer (some ⟨w.heap.size+1+1,0,none⟩)] 92)).alloc (.cells #[.bool false] 4);have pr:=((Blk.new ((w.alloc (.cells #[.func (.func f) #[] cp] 201)).alloc (.cells #[.slice none 0 0] 22)) 163 #[.slice A l.length cap,.int .i64 i]).alloc (.cells #[.pointer (some ⟨w.heap.size+1+1,0,none⟩)] 92)).alloc (.cells #[.bool false] 4);have py:=(Blk.new (((w.alloc (.cells #[.func (.func f) #[] cp] 201)).alloc (.cells #[.slice none 0 0] 22)).alloc (.cells #[.slice A l.length cap,.int .i64 i] 163)) 92 #[.pointer (some ⟨w.heap.size+1+1,0,none⟩)]).alloc (.cells #[.bool false] 4);have pd:=Blk.new ((((w.alloc (.cells #[.func (.func f) #[] cp] 201)).alloc (.cells #[.slice none 0 0] 22)).alloc (.cells #[.slice A l.length cap,.int .i64 i] 163)).alloc (.cells #[.pointer (some ⟨w.heap.size+1+1,0,none⟩)] 92)) 4 #[.bool false];have hbl:=Qad (Qad (Qad (Qad (Qad (Below.refl _ w) (.cells #[.func (.func f) #[] cp] 201)) (.cells #[.slice none 0 0] 22)) (.cells #[.slice A l.length cap,.int .i64 i] 163)) (.cells #[.pointer (some ⟨w.heap.size+1+1,0,none⟩)] 92)) (.cells #[.bool false] 4);simp only[World.size_alloc]at pg pr py pd;generalize hW5:(((((w.alloc (.cells #[.func (.func f) #[] cp] 201)).alloc (.cells #[.slice none 0 0] 22)).alloc (.cells #[.slice A l.length cap,.int .i64 i] 163)).alloc (.cells #[.pointer (some ⟨w.heap.size+1+1,0,none⟩)] 92)).alloc (.cells #[.bool false] 4))=W5 at*
 have s5:W5.heap.size=w.heap.size+5:=by rw[← hW5];simp
 have hrd:Rd W5 (w.heap.size+1+1) A cap l i:=⟨pr,by
  rcases hA' with h|⟨b,o,e,hb,hi⟩
  . exact .inl h
  . rcases hAlt b o e with h|h
    . exact .inl h
    . exact .inr ⟨b,o,e,hb,by omega,hi⟩,hi⟩
 have hdo:=Qh7 o f cp w.heap.size (w.heap.size+1+1+1) (w.heap.size+1) (w.heap.size+1+1) A cap l i W5 hcf pz py pg (by omega) (h W5 _ hbl rfl s5 hrd);have htr:=Qgj 182 #[.pointer (some ⟨w.heap.size,0,none⟩),.pointer (some ⟨w.heap.size+1+1+1,0,none⟩),.pointer (some ⟨w.heap.size+1,0,none⟩)] ((((w.alloc (.cells #[.func (.func f) #[] cp] 201)).alloc (.cells #[.slice none 0 0] 22)).alloc (.cells #[.slice A l.length cap,.int .i64 i] 163)).alloc (.cells #[.pointer (some ⟨w.heap.size+1+1,0,none⟩)] 92))
  (fun W' =>∃x c bb cc W0,o=some (x,c)/\isBy W5.heap.size x (.slice (some ⟨bb,0,none⟩) (List.length x) cc) W0/\Only (w.heap.size+1+1) W5 W0/\Rd W0 (w.heap.size+1+1) A cap l (c:Int)/\W' =(W0.setCell ⟨w.heap.size+1,0,none⟩ (.slice (some ⟨bb,0,none⟩) (List.length x) cc))) (fun W' =>o=none/\Only (w.heap.size+1+1) W5 W') hcf1 (by
   rw[hW5];refine hdo.mono fun e W' h1=> ?_
   rcases h1 with⟨x,c,bb,cc,W0,h1,hb,h2,h3,h4,rfl⟩|⟨h1,h2,t,v,rfl⟩
   . exact⟨by simpa using (pd.only h3 (by omega)).other (by omega) 0 (.slice (some ⟨bb,0,none⟩) (List.length x) cc),.inl ⟨h2,x,c,bb,cc,W0,h1,hb,h3,h4,rfl⟩⟩
   . exact⟨by simpa using pd.only h2 (by omega),.inr ⟨t,v,rfl,h1,h2⟩⟩)
 have HT:=hidP htr;have Hpy:=hidP py;have Hpg:=hidP pg;have Hbl:=hidP hbl;have Hs5:=hidP s5;clear htr hdo hrd pz pr pg pd h hcf hcf1 py hbl s5 hW5 hA';go_enter Tryz.func143,Tryz.ntmps143;go_wp2_with fail;refine HT.out.mono ?_;rintro e W' ⟨W0,ho,hh⟩;simp only[World.size_alloc]at ho;rcases hh with⟨rfl,x,c,bb,cc,W1,rfl,hb,o1,r1,rfl⟩|⟨rfl,rfl,o1⟩
 . have hfin:Hid (Below w.heap.size w W'):=Hbl.out.trans ((o1.toBelow (by omega) (by have:=Hs5.out;omega)).trans ((Qas (Below.refl _ _) (by omega) (.slice (some ⟨bb,0,none⟩) (List.length x) cc)).trans (ho.toBelow (by omega) (by have:=o1.size;have:=Hs5.out;simp;omega))));have g' :=((Hpg.out.only o1 (by omega)).setAt 0 (.slice (some ⟨bb,0,none⟩) (List.length x) cc)).only ho (by omega);have y' :=((Hpy.out.only o1 (by omega)).other (by omega) 0 (.slice (some ⟨bb,0,none⟩) (List.length x) cc)).only ho (by omega);have r' :=(r1.box.other (show w.heap.size+1+1≠w.heap.size+1 by omega) 0 (.slice (some ⟨bb,0,none⟩) (List.length x) cc)).only ho (by omega);have c0:=g'.row1;have c1:=y'.row1;obtain⟨c2,c3⟩:=r'.row2;have q0:=g'.lt;have q1:=y'.lt;have q2:=r'.lt;have HBy:=hidP (((hb.only ((Only.refl (w.heap.size+1) W1).set 0 (.slice (some ⟨bb,0,none⟩) (List.length x) cc)) (by have:=Hs5.out;omega)).only ho (by have:=Hs5.out;omega)).mono (B' :=w.heap.size) (by have:=Hs5.out;omega));clear ho g' y' r' o1 r1 hmf hb;go_wp2_with fail
   go_quiet (fail)
   go_wp2;exact bodyPost_ret (v:= .tuple (Qjt (some ⟨bb,0,none⟩) (List.length x) cc (c:Int) true)) (by simp[results,Tryz.results143,go_sem]) rfl ⟨below_drewN hfin.out _,.inl ⟨x,c,bb,cc,rfl,HBy.out.below (below_drewN (Below.refl _ _) _),rfl⟩⟩
 . have hfin:Hid (Below w.heap.size w W'):=Hbl.out.trans ((o1.toBelow (by omega) (by have:=Hs5.out;omega)).trans (ho.toBelow (by omega) (by have:=o1.size;have:=Hs5.out;omega)));clear hmf;go_wp2;exact bodyPost_ret (v:= .tuple l0SIB) (by simp[results,Tryz.results143,go_sem]) rfl ⟨hfin.out,rfl⟩
end Go.Proofs.YtpippjjhelgnlaaGreat.Gen
