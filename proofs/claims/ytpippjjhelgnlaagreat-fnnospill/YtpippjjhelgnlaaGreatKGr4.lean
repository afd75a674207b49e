/-
  spec.l6Group where it reads how far a group is: what it tells. Condition: a group that is, with as many numbers as rows.
-/
import Derived.Test.YtpippjjhelgnlaaGreatKDoP
import Derived.Test.YtpippjjhelgnlaaGreatKRw3
import Derived.Test.YtpippjjhelgnlaaGreatKRw5
import Derived.Test.YtpippjjhelgnlaaGreatKGr2
set_option linter.unusedVariables false
set_option linter.unusedSimpArgs false
set_option maxRecDepth 100000
set_option maxHeartbeats 8000000
namespace Go.Proofs.YtpippjjhelgnlaaGreat.Gen
open ChangeShapes WideShapes ChangeAt RowKit Joins Deep Base
open Items (It)
theorem Qjq (ro wi le ke:Int) (rA:Option Addr) (rc:Nat) (rs:List RC) (mA:Option Addr) (mc:Nat) (ms:List MC) (gA:Option Addr) (gc:Nat) (gs:List GC) (time:Int) (dA:Option Addr) (dc:Nat) (ds:List Int) (lA:Option Addr) (lc:Nat) (ls:List An) (who seq cb cc:Int) (n:Nat) (key text:ByteArray) (S:Nat->Prop) (br bg bd bl:Nat) (w:World) (hS:∀b,S b->b<w.heap.size) (hq:KQ w (⟨rA,rc,rs,mA,mc,ms,gA,gc,gs,time,dA,dc,ds,lA,lc,ls⟩:KC) S br bg bd bl) (hn:n<gs.length) (hrl:gs.length<=1000)
 (gen:Int) (a1 a2 a3:Option Addr) (c1 c2 c3:Nat) (m b o:List Int) (hy:gs[n]=⟨gen,a1,c1,m,a2,c2,b,a3,c3,o⟩) (hro:ro<=(o.length:Int)) (hcb:0<=cb) (hol:o.length<=100000):
 Calls Tryz.prog 216 #[.agg (Qal ro wi le ke),.agg (Qaa rA rs.length rc mA ms.length mc gA gs.length gc time dA ds.length dc lA ls.length lc),.agg (Qab who seq 7 (n:Int) cb cc key text)] w fun e w' =>Qcg S w w' e (KC.p (⟨rA,rc,rs,mA,mc,ms,gA,gc,gs,time,dA,dc,ds,lA,lc,ls⟩:KC)) (if ro<=cb then⟨5,0,⟨#[]⟩,⟨#[]⟩⟩else⟨0,o.getD cb.toNat 0,⟨#[]⟩,⟨#[]⟩⟩):=by
 obtain rfl:gA=(some ⟨bg,0,none⟩):=hq.g.a;have HQ:=hidP hq;obtain⟨AA,hAA⟩:∃AA:An,AA=(if ro<=cb then⟨5,0,⟨#[]⟩,⟨#[]⟩⟩else⟨0,o.getD cb.toNat 0,⟨#[]⟩,⟨#[]⟩⟩):=⟨_,rfl⟩
 rw[← hAA];have HAA:=hidP hAA;have hbr:br<w.heap.size/\bg<w.heap.size/\bd<w.heap.size/\bl<w.heap.size:=⟨hq.r.lt,hq.g.lt,hq.d.lt,hq.l.lt⟩
 have HCl:Hid (∀W:World,Below w.heap.size w W->W.cell? ⟨bg,n*4,none⟩=some (.int .i64 gen)/\W.cell? ⟨bg,n*4+1,none⟩=some (.slice a1 m.length c1)/\W.cell? ⟨bg,n*4+2,none⟩=some (.slice a2 b.length c2)/\W.cell? ⟨bg,n*4+3,none⟩=some (.slice a3 o.length c3)):=fun W g=>by
  have h:=(hq.g.i.below hq.g.lt g).getGC n hn;rw[hy]at h;simpa only[Nat.zero_add]using h
 have HA:Hid (∀W:World,Below w.heap.size w W->At W a1 m/\At W a2 b/\At W a3 o):=fun W g=>by
  have h:=hq.gi gs[n] (List.getElem_mem hn);rw[hy]at h;exact⟨h.1.at.below g,h.2.1.at.below g,h.2.2.at.below g⟩
 clear hAA hy hq;obtain⟨I0,S0,B0⟩:=Qa8 ro wi le ke rA rc rs mA mc ms (some ⟨bg,0,none⟩) gc gs time dA dc ds lA lc ls who seq 7 (n:Int) cb cc key text S w hS;have hn0:(0:Int)<=(n:Int):=by omega
 have hn1:(n:Int)<(gs.length:Int):=by omega
 go_enter Tryz.func216,Tryz.ntmps216;go_upto_region 1 with fail;generalize ((((w.alloc (.cells (Qal ro wi le ke) 25)).alloc (.cells (Qaa rA rs.length rc mA ms.length mc (some ⟨bg,0,none⟩) gs.length gc time dA ds.length dc lA ls.length lc) 32)).alloc (.cells (Qab who seq 7 (n:Int) cb cc key text) 110)).alloc (.cells Qae 32)).alloc (.cells Qap 88)=X0 at I0 S0 B0 ⊢;have l0:w.heap.size+1+1+1+1<X0.heap.size:=I0.r2.lt;obtain⟨k0,k1,k2,k3,k4,k5⟩:=I0.k.row6;obtain⟨d0,d1,d2,d3,d4,d5,d6,d7⟩:=I0.c.row8c;obtain⟨r0,r1,r2,r3⟩:=HCl.out _ B0;go_upto_region 2 with fail;clear k0 k1 k2 k3 k4 k5 d0 d1 d2 d3 d4 d5 d6 d7 r0 r1 r2 r3;have I1:=I0.alloc (.cells (Qaj gen a1 m.length c1 a2 b.length c2 a3 o.length c3) 80);have S1:=S0.alloc (.cells (Qaj gen a1 m.length c1 a2 b.length c2 a3 o.length c3) 80);have B1:Below w.heap.size w (X0.alloc (.cells (Qaj gen a1 m.length c1 a2 b.length c2 a3 o.length c3) 80)):=Qad B0 _;have G1:=Blk.new X0 80 (Qaj gen a1 m.length c1 a2 b.length c2 a3 o.length c3);have l1:w.heap.size+1+1+1+1<(X0.alloc (.cells (Qaj gen a1 m.length c1 a2 b.length c2 a3 o.length c3) 80)).heap.size:=I1.r2.lt;clear I0 S0 B0;generalize hPG:X0.heap.size=PG at G1 l0 ⊢;generalize (X0.alloc (.cells (Qaj gen a1 m.length c1 a2 b.length c2 a3 o.length c3) 80))=X2 at I1 S1 B1 G1 l1 ⊢;clear hPG;obtain⟨c0,c1',c2',c3',c4,c5,c6,c7⟩:=I1.c.row8c;have lpg:=G1.lt;obtain⟨s0,s1,s2,s3⟩:=S1.row4;have Q3:=hidP ((HQ.out.below B1).mono (S' :=fun b=>S b∨(w.heap.size<=b/\b≠(w.heap.size+1+1+1)/\b≠(w.heap.size+1+1+1+1))) (fun b _ hb=> .inl hb));have lsb:=S1.lt;by_cases hr:ro<=cb
 . have eA:=HAA.out;rw[if_pos hr]at eA;subst eA;go_upto_region 4 with fail;clear c0 c1' c2' c3' c4 c5 c6 c7 s0 s1 s2 s3;have TT:=hidP (Bx.told I1 (y:=(⟨rA,rc,rs,mA,mc,ms,(some ⟨bg,0,none⟩),gc,gs,time,dA,dc,ds,lA,lc,ls⟩:KC)) (br:=br) (bg:=bg) (bd:=bd) (bl:=bl) (Q3.out) (⟨(5),(0),(⟨#[]⟩),(⟨#[]⟩)⟩:An) (hv:=rfl));obtain⟨z0,z1,z2,z3,z4,z5⟩:=I1.r1.row6;have f0:=I1.r1.thaw 0;have f1:=I1.r1.thaw 1;have f2:=I1.r1.thaw 2;have f3:=I1.r1.thaw 3;have f4:=I1.r1.thaw 4;have f5:=I1.r1.thaw 5;obtain⟨k0,k1,k2,k3,k4,k5⟩:=I1.k.row6;have R2:=I1.r2.only (Qau _ (w.heap.size+1+1+1) (.slice rA rs.length rc) (.slice mA ms.length mc) (.slice (some ⟨bg,0,none⟩) gs.length gc) (.int .i64 time) (.slice dA ds.length dc) (.slice lA ls.length lc)) (fun e=>I1.ne.2.2.2.2.2 e.symm);obtain⟨y0,y1,y2,y3⟩:=R2.row4;have ee0:=R2.thaw 0;have ee1:=R2.thaw 1;have ee2:=R2.thaw 2;have ee3:=R2.thaw 3;have C1:=Qbf I1.r1 (.slice rA rs.length rc) (.slice mA ms.length mc) (.slice (some ⟨bg,0,none⟩) gs.length gc) (.int .i64 time) (.slice dA ds.length dc) (.slice lA ls.length lc);have B1:=(Qbt I1.r1 (.slice rA rs.length rc) (.slice mA ms.length mc) (.slice (some ⟨bg,0,none⟩) gs.length gc) (.int .i64 time) (.slice dA ds.length dc) (.slice lA ls.length lc)).only (Qa2 _ (w.heap.size+1+1+1+1) (.int .i64 (5)) (.int .i64 (0)) (.string ⟨#[]⟩) (.string ⟨#[]⟩)) (fun e=>I1.ne.2.2.2.2.2 e);have C2:=Qbq R2 (.int .i64 (5)) (.int .i64 (0)) (.string ⟨#[]⟩) (.string ⟨#[]⟩);obtain⟨s0,s1,s2,s3,s4,s5⟩:=C1;obtain⟨t0,t1,t2,t3⟩:=C2;obtain⟨q0,q1,q2,q3,q4,q5⟩:=B1.row6;have hne12:(w.heap.size+1+1+1)≠(w.heap.size+1+1+1+1):=I1.ne.2.2.2.2.2;have hne21:(w.heap.size+1+1+1+1)≠(w.heap.size+1+1+1):=fun e=>I1.ne.2.2.2.2.2 e.symm
   go_wp2;exact bodyPost_ret (v:= .tuple #[.agg (Qaa rA rs.length rc mA ms.length mc (some ⟨bg,0,none⟩) gs.length gc time dA ds.length dc lA ls.length lc),.agg (Qat (5) (0) ⟨#[]⟩ ⟨#[]⟩)]) (by simp[results,Tryz.results216,go_sem,s0,s1,s2,s3,s4,s5,t0,t1,t2,t3,q0,q1,q2,q3,q4,q5]) rfl TT.out
 . have eA:=HAA.out;rw[if_neg hr]at eA;go_upto_region 5 with fail;clear s0 s1 s2 s3;obtain⟨q,rfl⟩:∃q:Nat,cb=q:=⟨cb.toNat,by omega⟩
   have hqo:q<o.length:=(by omega);obtain⟨v,hv⟩:∃v,o.getD q 0=v:=⟨_,rfl⟩
   obtain⟨b9,o9,rfl,hb9,hi9⟩:∃b9 o9,a3=some ⟨b9,o9,none⟩/\b9<w.heap.size/\In w b9 o9 o:=by
    rcases(HA.out w (Below.refl _ _)).2.2 with h|h
    . subst h;simp at hqo
    . exact h
   have C9:X2.cell? ⟨b9,o9+q,none⟩=some (.int .i64 v):=by
    have h:=(hi9.below hb9 B1).cell q hqo (f:=0) (v:= .int .i64 v) (by rw[← hv];simp[Cel.cs,hqo]);simpa [Cel.k]using h
   have hqz:(q:Int).toNat=q:=(by omega);rw[hqz,hv]at eA;subst eA;have hq0:(0:Int)<=(q:Int):=(by omega);have hq1:(q:Int)<(o.length:Int):=(by omega);have lb9:b9<X2.heap.size:=Nat.lt_of_lt_of_le hb9 B1.size;clear hv hi9 c0 c1' c2' c3';obtain⟨n0,n1,n2,n3⟩:=G1.row4;have J:=I1.drew;have QQ:=hidP (Q3.out.below (Below.refl _ _).drew);have M0:X2.drew.cell? ⟨PG,3,none⟩=some (.slice (some ⟨b9,o9,none⟩) o.length c3):=n3;have M1:X2.drew.cell? ⟨(w.heap.size+1+1),4,none⟩=some (.int .i64 (q:Int)):=c4;have M2:X2.drew.cell? ⟨b9,o9+q,none⟩=some (.int .i64 v):=C9;refine wp_region_noPanic ?_;refine wp_region_held_drew (S:=(fun(V:World)=>Blk V (w.heap.size+1) 32 (Qaa rA rs.length rc mA ms.length mc (some ⟨bg,0,none⟩) gs.length gc time dA ds.length dc lA ls.length lc)/\V.cell? ⟨PG,3,none⟩=some (.slice (some ⟨b9,o9,none⟩) o.length c3)/\V.cell? ⟨(w.heap.size+1+1),4,none⟩=some (.int .i64 (q:Int))/\V.cell? ⟨b9,o9+q,none⟩=some (.int .i64 v))) (by kernel_rfl) (show(fun(V:World)=>Blk V (w.heap.size+1) 32 (Qaa rA rs.length rc mA ms.length mc (some ⟨bg,0,none⟩) gs.length gc time dA ds.length dc lA ls.length lc)/\V.cell? ⟨PG,3,none⟩=some (.slice (some ⟨b9,o9,none⟩) o.length c3)/\V.cell? ⟨(w.heap.size+1+1),4,none⟩=some (.int .i64 (q:Int))/\V.cell? ⟨b9,o9+q,none⟩=some (.int .i64 v)) _ from⟨J.k,M0,M1,M2⟩) (fun hH=> ?_);generalize X2.drew=XX at J QQ M0 M1 M2 hH ⊢;refine zt1 0 ?_;refine ztn (hS:=hH) (hy:=fun w' hSw=>Qba rfl rfl hSw.1 Tryz.underlying32 (by kernel_rfl)) (h:= ?_);try simp only[zX,zY]
   refine zte ?_;refine ztk [1,2,3,4,5,6,7] ?_;repeat(refine ztn (hS:=hH) (hy:=by intro w' hSw;have hC:=hSw.1.row6;(try dsimp only at hSw);go_simp<;>with_reducible rfl) (h:= ?_);try simp only[zX,zY])
   refine zte ?_;have TT:=hidP (Bx.tell J (y:=(⟨rA,rc,rs,mA,mc,ms,(some ⟨bg,0,none⟩),gc,gs,time,dA,dc,ds,lA,lc,ls⟩:KC)) (br:=br) (bg:=bg) (bd:=bd) (bl:=bl) QQ.out (⟨(0),(v),(⟨#[]⟩),(⟨#[]⟩)⟩:An) (hv:=rfl) rfl);refine end2 8 9 J.r1 J.r2 (fun e=>J.ne.2.2.2.2.2 e.symm) ⟨(J.k.otherRow J.ne.2.1 _),(Qan M0 (by show PG≠_;omega) _),(Qan M1 (by show w.heap.size+1+1≠_;omega) _),(Qan M2 (by show b9≠_;omega) _)⟩ ⟨((J.k.otherRow J.ne.2.1 _).otherRow J.ne.2.2.1 _),(Qan (Qan M0 (by show PG≠_;omega) _) (by show PG≠_;omega) _),(Qan (Qan M1 (by show w.heap.size+1+1≠_;omega) _) (by show w.heap.size+1+1≠_;omega) _),(Qan (Qan M2 (by show b9≠_;omega) _) (by show b9≠_;omega) _)⟩ ?_;go_wp2;exact bodyPost_ret (v:= .tuple #[.agg (Qaa rA rs.length rc mA ms.length mc (some ⟨bg,0,none⟩) gs.length gc time dA ds.length dc lA ls.length lc),.agg (Qat (0) (v) ⟨#[]⟩ ⟨#[]⟩)]) (Qbs Tryz.results216 rfl rfl ((J.r1.row _).otherRow J.ne.2.2.2.2.2 _) ((J.r2.otherRow (fun e=>J.ne.2.2.2.2.2 e.symm) _).row _) Tryz.underlying32 Tryz.underlying88 (by kernel_rfl) (by kernel_rfl)) rfl TT.out
end Go.Proofs.YtpippjjhelgnlaaGreat.Gen
namespace Go.Proofs.YtpippjjhelgnlaaGreat.Gen
open ChangeShapes WideShapes ChangeAt RowKit Joins Deep Base
open Items (It)
theorem rp_of {rs:List RC} {n:Nat} (hn:n<rs.length):(rs.map RC.p).getD n ⟨0,0,[]⟩=rs[n].p:=by simp[hn]
theorem gp_of {gs:List GC} {n:Nat} (hn:n<gs.length):(gs.map GC.p).getD n ⟨0,[],[],[]⟩=gs[n].p:=by simp[hn]
theorem Qhw {x:Int} {h:Int} (hx:In2 x h) (hh:h<=100000):I64 x:=by unfold In2 at hx;unfold I64;omega
theorem Kin.len {R N:Nat} (hN:N<=1000) (hR:1<=R/\R<=4) {x:KC} (h:Kin R N x.p):KLen x:=by
 have hrl:x.rs.length=R:=by have:=h.rl;simpa [KC.p]using this
 have hml:x.ms.length<=N:=by have:=h.ml;simpa [KC.p]using this
 have hgl:x.gs.length=2:=by have:=h.gl;simpa [KC.p]using this
 have ht:=h.t;refine⟨⟨by omega,by omega⟩,by omega,hgl,h.dl,h.ll,fun y hy=> ?_,fun y hy=> ?_,fun y hy=> ?_,Qhw ht (by omega)⟩
 . obtain⟨g1,g2,g3,g4⟩:=Qdj (h.ri y.p (List.mem_map_of_mem hy));exact⟨by have:y.p.its=y.its:=rfl;rw[this]at g3;omega,fun z hz=>⟨(g4 z hz).2.2.2.1,(g4 z hz).2.2.2.2⟩,Qhw g2 (by omega)⟩
 . have:=(h.mi y.p (List.mem_map_of_mem hy)).len;have e:y.p.ms=y.ms:=rfl;rw[e]at this;omega
 . have g:=h.gi y.p (List.mem_map_of_mem hy);have e1:y.p.m=y.m:=rfl;have e2:y.p.b=y.b:=rfl;have e3:y.p.o=y.o:=rfl;have gl:=g.len;have go:=g.ol;rw[e1]at gl;rw[e3]at go;exact⟨by omega,g.same,by omega,Qhw g.gen (by omega),fun z hz=>Qhw (g.m z hz) (by omega),fun z hz=>Qhw (g.b z hz) (by omega),fun z hz=>Qhw (g.o z hz) (by omega)⟩
theorem grpDo_any (R N:Nat) (hN:N<=1000) (hR:1<=R/\R<=4) (ro wi le ke:Int) (hro:ro=R) (hw:1<=wi/\wi<=5) (hle:1<=le/\le<=100) (hke:0<=ke) (rA:Option Addr) (rc:Nat) (rs:List RC) (mA:Option Addr) (mc:Nat) (ms:List MC) (gA:Option Addr) (gc:Nat) (gs:List GC) (time:Int) (dA:Option Addr) (dc:Nat) (ds:List Int) (lA:Option Addr) (lc:Nat) (ls:List An) (who seq op ca cb cc:Int) (key text:ByteArray) (hc:CqR (⟨who,seq,op,ca,cb,cc,key,text⟩:Cq)) (S:Nat->Prop) (br bg bd bl:Nat) (w:World) (hS:∀b,S b->b<w.heap.size) (hq:KQ w (⟨rA,rc,rs,mA,mc,ms,gA,gc,gs,time,dA,dc,ds,lA,lc,ls⟩:KC) S br bg bd bl) (hk:Kin R N (KC.p (⟨rA,rc,rs,mA,mc,ms,gA,gc,gs,time,dA,dc,ds,lA,lc,ls⟩:KC))) (hcap:(∀g∈gs,(g.m.length<=g.c1/\g.c1<=9223372036854775807)/\(g.b.length<=g.c2/\g.c2<=9223372036854775807))) (hop:inB op 4 7=true) (ha:¬2<=ca):
 Calls Tryz.prog 216 #[.agg (Qal ro wi le ke),.agg (Qaa rA rs.length rc mA ms.length mc gA gs.length gc time dA ds.length dc lA ls.length lc),.agg (Qab who seq op ca cb cc key text)] w fun e w' =>Qcg S w w' e (Qe3 ro (KC.p (⟨rA,rc,rs,mA,mc,ms,gA,gc,gs,time,dA,dc,ds,lA,lc,ls⟩:KC)) (⟨who,seq,op,ca,cb,cc,key,text⟩:Cq)).1 (Qe3 ro (KC.p (⟨rA,rc,rs,mA,mc,ms,gA,gc,gs,time,dA,dc,ds,lA,lc,ls⟩:KC)) (⟨who,seq,op,ca,cb,cc,key,text⟩:Cq)).2:=by
 have hlen:=hk.len hN hR;have hgl:gs.length=2:=hlen.gl;have hca:=hc.a;unfold In2 at hca;simp only at hca;obtain⟨n,rfl⟩:∃n:Nat,ca=n:=⟨ca.toNat,by omega⟩
 have hn:n<gs.length:=by omega
 have hgi:=hlen.gi gs[n] (List.getElem_mem hn);have hcp:=hcap gs[n] (List.getElem_mem hn);have hgr:=hk.gi gs[n].p (List.mem_map_of_mem (List.getElem_mem hn));have hQ:grpQ (KC.p (⟨rA,rc,rs,mA,mc,ms,gA,gc,gs,time,dA,dc,ds,lA,lc,ls⟩:KC)) (n:Int).toNat=gs[n].p:=gp_of hn;obtain⟨y,hy⟩:∃y,gs[n]=y:=⟨_,rfl⟩
 rw[hy]at hgi hcp hgr hQ;obtain⟨gen,a1,c1,m,a2,c2,b,a3,c3,o⟩:=y;simp only[GC.p]at hgi hcp hgr hQ;have hwho:=hc.who;have hcb:=hc.b;have hol:=hgr.ol;unfold In2 at hwho hcb;simp only at hwho hcb hol;obtain⟨h4,h7⟩:4<=op/\op<=7:=by simpa [inB]using hop
 have hti:I64 time:=hlen.t;rcases(by omega:op=4∨op=5∨op=6∨op=7)with rfl|rfl|rfl|rfl
 . have e:Qe3 ro (KC.p (⟨rA,rc,rs,mA,mc,ms,gA,gc,gs,time,dA,dc,ds,lA,lc,ls⟩:KC)) (⟨who,seq,4,(n:Int),cb,cc,key,text⟩:Cq)=({KC.p (⟨rA,rc,rs,mA,mc,ms,gA,gc,gs,time,dA,dc,ds,lA,lc,ls⟩:KC)with gs:=(gs.map GC.p).set n ⟨Qf6 gen m who,Qes m who,Qf7 m b who time,o⟩},noAn 0 (Qf6 gen m who)):=by
    unfold Qe3;simp only[if_true,hQ];rfl
   rw[e];exact Qjs ro wi le ke rA rc rs mA mc ms gA gc gs time dA dc ds lA lc ls who seq cb cc n key text S br bg bd bl w hS hq hn (by omega) gen a1 a2 a3 c1 c2 c3 m b o hy _ _ _ _ (fun W h1 h2 h3=>Qiv gen who time hgi.2.2.2.1 hwho a1 a2 a3 c1 c2 c3 m b o (by omega) hgi.2.1 (by omega) hcp.1 hcp.2 W h1 h2 h3)
 . have e:Qe3 ro (KC.p (⟨rA,rc,rs,mA,mc,ms,gA,gc,gs,time,dA,dc,ds,lA,lc,ls⟩:KC)) (⟨who,seq,5,(n:Int),cb,cc,key,text⟩:Cq)=({KC.p (⟨rA,rc,rs,mA,mc,ms,gA,gc,gs,time,dA,dc,ds,lA,lc,ls⟩:KC)with gs:=(gs.map GC.p).set n ⟨Qeh gen m who,Qc5 m who m,Qc5 m who b,o⟩},noAn 0 (Qeh gen m who)):=by
    unfold Qe3;simp only[hQ];rw[if_neg (by decide)]
    first|rw[if_pos rfl]|rw[if_pos trivial]
    rfl
   rw[e];exact Qic ro wi le ke rA rc rs mA mc ms gA gc gs time dA dc ds lA lc ls who seq cb cc n key text S br bg bd bl w hS hq hn (by omega) gen a1 a2 a3 c1 c2 c3 m b o hy _ _ _ _ (fun W h1 h2 h3=>Qh6 gen who hgi.2.2.2.1 hwho a1 a2 a3 c1 c2 c3 m b o (by omega) (by omega) (by omega) hcp.1 hcp.2 W h1 h2 h3)
 . have e:Qe3 ro (KC.p (⟨rA,rc,rs,mA,mc,ms,gA,gc,gs,time,dA,dc,ds,lA,lc,ls⟩:KC)) (⟨who,seq,6,(n:Int),cb,cc,key,text⟩:Cq)=(if Qff m o who cb cc then {KC.p (⟨rA,rc,rs,mA,mc,ms,gA,gc,gs,time,dA,dc,ds,lA,lc,ls⟩:KC)with gs:=(gs.map GC.p).set n ⟨gen,m,b,Qia m o who cb cc⟩}else KC.p (⟨rA,rc,rs,mA,mc,ms,gA,gc,gs,time,dA,dc,ds,lA,lc,ls⟩:KC),if Qff m o who cb cc then noAn 0 cc else noAn 9 0):=by
    unfold Qe3;simp only[hQ];rw[if_neg (by decide),if_neg (by decide)]
    first|rw[if_pos rfl]|rw[if_pos trivial]
    rfl
   rw[e];exact Qjr ro wi le ke rA rc rs mA mc ms gA gc gs time dA dc ds lA lc ls who seq cb cc n key text S br bg bd bl w hS hq hn (by omega) gen a1 a2 a3 c1 c2 c3 m b o hy _ _ _ _ _ (fun W h1 h2 h3=>Qiu gen who cb cc a1 a2 a3 c1 c2 c3 m b o (by omega) (by omega) (by omega) hgi.2.2.2.2.1 W h1 h2 h3)
 . have e:Qe3 ro (KC.p (⟨rA,rc,rs,mA,mc,ms,gA,gc,gs,time,dA,dc,ds,lA,lc,ls⟩:KC)) (⟨who,seq,7,(n:Int),cb,cc,key,text⟩:Cq)=(KC.p (⟨rA,rc,rs,mA,mc,ms,gA,gc,gs,time,dA,dc,ds,lA,lc,ls⟩:KC),if ro<=cb then noAn 5 0 else noAn 0 (o.getD cb.toNat 0)):=by
    unfold Qe3;simp only[hQ];rw[if_neg (by decide),if_neg (by decide),if_neg (by decide)]
   rw[e];exact Qjq ro wi le ke rA rc rs mA mc ms gA gc gs time dA dc ds lA lc ls who seq cb cc n key text S br bg bd bl w hS hq hn (by omega) gen a1 a2 a3 c1 c2 c3 m b o hy (by omega) hcb.1 (by omega)
theorem putDo_any (R N:Nat) (hN:N<=1000) (hR:1<=R/\R<=4) (ro wi le ke:Int) (hro:ro=R) (hw:1<=wi/\wi<=5) (hle:1<=le/\le<=100) (hke:0<=ke) (rA:Option Addr) (rc:Nat) (rs:List RC) (mA:Option Addr) (mc:Nat) (ms:List MC) (gA:Option Addr) (gc:Nat) (gs:List GC) (time:Int) (dA:Option Addr) (dc:Nat) (ds:List Int) (lA:Option Addr) (lc:Nat) (ls:List An) (who seq:Int) (n:Nat) (cb cc:Int) (key text:ByteArray) (hc:CqR (⟨who,seq,1,(n:Int),cb,cc,key,text⟩:Cq)) (S:Nat->Prop) (br bg bd bl:Nat) (w:World) (hS:∀b,S b->b<w.heap.size) (hq:KQ w (⟨rA,rc,rs,mA,mc,ms,gA,gc,gs,time,dA,dc,ds,lA,lc,ls⟩:KC) S br bg bd bl) (hk:Kin R N (KC.p (⟨rA,rc,rs,mA,mc,ms,gA,gc,gs,time,dA,dc,ds,lA,lc,ls⟩:KC))) (hn:n<rs.length):
 Calls Tryz.prog 219 #[.agg (Qal ro wi le ke),.agg (Qaa rA rs.length rc mA ms.length mc gA gs.length gc time dA ds.length dc lA ls.length lc),.agg (Qab who seq 1 (n:Int) cb cc key text)] w fun e w' =>Qcg S w w' e (Qd3 wi le ke (KC.p (⟨rA,rc,rs,mA,mc,ms,gA,gc,gs,time,dA,dc,ds,lA,lc,ls⟩:KC)) (⟨who,seq,1,(n:Int),cb,cc,key,text⟩:Cq)).1 (Qd3 wi le ke (KC.p (⟨rA,rc,rs,mA,mc,ms,gA,gc,gs,time,dA,dc,ds,lA,lc,ls⟩:KC)) (⟨who,seq,1,(n:Int),cb,cc,key,text⟩:Cq)).2:=by
 have hlen:=hk.len hN hR;have hM:mofP ms (n:Int) who=mofQ (KC.p (⟨rA,rc,rs,mA,mc,ms,gA,gc,gs,time,dA,dc,ds,lA,lc,ls⟩:KC)).ms (n:Int) who:=mofQ_p ms n who;have hA:=askC_R (mofP ms (n:Int) who).epoch (mofP ms (n:Int) who).last (mofP ms (n:Int) who).ms cc cb;unfold In2 at hA;have e0:Qd3 wi le ke (KC.p (⟨rA,rc,rs,mA,mc,ms,gA,gc,gs,time,dA,dc,ds,lA,lc,ls⟩:KC)) (⟨who,seq,1,(n:Int),cb,cc,key,text⟩:Cq)=(if askC (mofP ms (n:Int) who).epoch (mofP ms (n:Int) who).last (mofP ms (n:Int) who).ms cc cb=0 then putQ (KC.p (⟨rA,rc,rs,mA,mc,ms,gA,gc,gs,time,dA,dc,ds,lA,lc,ls⟩:KC)) wi ⟨who,seq,1,(n:Int),cb,cc,key,text⟩
  else if askC (mofP ms (n:Int) who).epoch (mofP ms (n:Int) who).last (mofP ms (n:Int) who).ms cc cb=1 then(KC.p (⟨rA,rc,rs,mA,mc,ms,gA,gc,gs,time,dA,dc,ds,lA,lc,ls⟩:KC),noAn 1 (askO (mofP ms (n:Int) who).epoch (mofP ms (n:Int) who).last (mofP ms (n:Int) who).ms cc cb))
  else(KC.p (⟨rA,rc,rs,mA,mc,ms,gA,gc,gs,time,dA,dc,ds,lA,lc,ls⟩:KC),noAn (askC (mofP ms (n:Int) who).epoch (mofP ms (n:Int) who).last (mofP ms (n:Int) who).ms cc cb) 0)):=by
  unfold Qd3;simp only[if_true,hM]
 rw[e0];have hw64:I64 wi:=by unfold I64;omega
 rcases(by omega:askC (mofP ms (n:Int) who).epoch (mofP ms (n:Int) who).last (mofP ms (n:Int) who).ms cc cb=0∨askC (mofP ms (n:Int) who).epoch (mofP ms (n:Int) who).last (mofP ms (n:Int) who).ms cc cb=1∨askC (mofP ms (n:Int) who).epoch (mofP ms (n:Int) who).last (mofP ms (n:Int) who).ms cc cb=2∨askC (mofP ms (n:Int) who).epoch (mofP ms (n:Int) who).last (mofP ms (n:Int) who).ms cc cb=3∨askC (mofP ms (n:Int) who).epoch (mofP ms (n:Int) who).last (mofP ms (n:Int) who).ms cc cb=4)with h|h|h|h|h
 . rw[if_pos h];have e1:putQ (KC.p (⟨rA,rc,rs,mA,mc,ms,gA,gc,gs,time,dA,dc,ds,lA,lc,ls⟩:KC)) wi ⟨who,seq,1,(n:Int),cb,cc,key,text⟩=putP (⟨rA,rc,rs,mA,mc,ms,gA,gc,gs,time,dA,dc,ds,lA,lc,ls⟩:KC) wi n who cb cc key text:=by
    unfold putQ putP;simp only[← hM];have hr:rowQ (KC.p (⟨rA,rc,rs,mA,mc,ms,gA,gc,gs,time,dA,dc,ds,lA,lc,ls⟩:KC)) (n:Int).toNat=rs[n].p:=rp_of hn;have hr2:(rs.getD n default)=rs[n]:=(by simp[hn]);rw[hr,hr2];rfl
   rw[e1];exact l6Put_go ro wi le ke rA rc rs mA mc ms gA gc gs time dA dc ds lA lc ls who seq 1 cb cc n key text S br bg bd bl hlen w hS hq hn hc.key hc.text hw64 h
 . rw[if_neg (by omega),if_pos h];exact Qku ro wi le ke rA rc rs mA mc ms gA gc gs time dA dc ds lA lc ls who seq 1 (n:Int) cb cc key text S br bg bd bl hlen w hS hq h
 . rw[if_neg (by omega),if_neg (by omega),h];exact l6Put_old ro wi le ke rA rc rs mA mc ms gA gc gs time dA dc ds lA lc ls who seq 1 (n:Int) cb cc key text S br bg bd bl hlen w hS hq h
 . rw[if_neg (by omega),if_neg (by omega),h];exact l6Put_gap ro wi le ke rA rc rs mA mc ms gA gc gs time dA dc ds lA lc ls who seq 1 (n:Int) cb cc key text S br bg bd bl hlen w hS hq h
 . rw[if_neg (by omega),if_neg (by omega),h];exact Qjp ro wi le ke rA rc rs mA mc ms gA gc gs time dA dc ds lA lc ls who seq 1 (n:Int) cb cc key text S br bg bd bl hlen w hS hq h
theorem rowDo_any (R N:Nat) (hN:N<=1000) (hR:1<=R/\R<=4) (ro wi le ke:Int) (hro:ro=R) (hw:1<=wi/\wi<=5) (hle:1<=le/\le<=100) (hke:0<=ke) (rA:Option Addr) (rc:Nat) (rs:List RC) (mA:Option Addr) (mc:Nat) (ms:List MC) (gA:Option Addr) (gc:Nat) (gs:List GC) (time:Int) (dA:Option Addr) (dc:Nat) (ds:List Int) (lA:Option Addr) (lc:Nat) (ls:List An) (who seq op ca cb cc:Int) (key text:ByteArray) (hc:CqR (⟨who,seq,op,ca,cb,cc,key,text⟩:Cq)) (S:Nat->Prop) (br bg bd bl:Nat) (w:World) (hS:∀b,S b->b<w.heap.size) (hq:KQ w (⟨rA,rc,rs,mA,mc,ms,gA,gc,gs,time,dA,dc,ds,lA,lc,ls⟩:KC) S br bg bd bl) (hk:Kin R N (KC.p (⟨rA,rc,rs,mA,mc,ms,gA,gc,gs,time,dA,dc,ds,lA,lc,ls⟩:KC))) (hop:inB op 4 7=false) (h8:¬op=8) (ha:¬ro<=ca):
 Calls Tryz.prog 217 #[.agg (Qal ro wi le ke),.agg (Qaa rA rs.length rc mA ms.length mc gA gs.length gc time dA ds.length dc lA ls.length lc),.agg (Qab who seq op ca cb cc key text)] w fun e w' =>Qcg S w w' e (Qd3 wi le ke (KC.p (⟨rA,rc,rs,mA,mc,ms,gA,gc,gs,time,dA,dc,ds,lA,lc,ls⟩:KC)) (⟨who,seq,op,ca,cb,cc,key,text⟩:Cq)).1 (Qd3 wi le ke (KC.p (⟨rA,rc,rs,mA,mc,ms,gA,gc,gs,time,dA,dc,ds,lA,lc,ls⟩:KC)) (⟨who,seq,op,ca,cb,cc,key,text⟩:Cq)).2:=by
 have hlen:=hk.len hN hR;have hrl:rs.length=R:=by have:=hk.rl;simpa [KC.p]using this
 have hca:=hc.a;have hops:=hc.op;unfold In2 at hca;simp only at hca hops;obtain⟨n,rfl⟩:∃n:Nat,ca=n:=⟨ca.toNat,by omega⟩
 have hn:n<rs.length:=by omega
 have hri:=hlen.ri rs[n] (List.getElem_mem hn);have hrb:=hk.ri rs[n].p (List.mem_map_of_mem (List.getElem_mem hn));have hQ:rowQ (KC.p (⟨rA,rc,rs,mA,mc,ms,gA,gc,gs,time,dA,dc,ds,lA,lc,ls⟩:KC)) (n:Int).toNat=rs[n].p:=rp_of hn;obtain⟨I0,S0,B0⟩:=Qa8 ro wi le ke rA rc rs mA mc ms gA gc gs time dA dc ds lA lc ls who seq op (n:Int) cb cc key text S w hS;have hq1:=hq.below B0;have hS1:∀b,S b->b<(((((w.alloc (.cells (Qal ro wi le ke) 25)).alloc (.cells (Qaa rA rs.length rc mA ms.length mc gA gs.length gc time dA ds.length dc lA ls.length lc) 32)).alloc (.cells (Qab who seq op (n:Int) cb cc key text) 110)).alloc (.cells Qae 32)).alloc (.cells Qap 88)).heap.size:=fun b hb=>Nat.lt_of_lt_of_le (hS b hb) B0.size
 obtain⟨y,hy⟩:∃y,rs[n]=y:=⟨_,rfl⟩
 rw[hy]at hri hrb hQ;obtain⟨st,nt,yA,yc,ym⟩:=y;simp only[RC.p]at hri hrb hQ;have hno:¬(4<=op/\op<=7):=fun h=>by
  have:inB op 4 7=true:=by simpa [inB]using h
  rw[hop]at this;cases this
 rcases(by omega:op=1∨op=2∨op=3∨op=9∨op=10)with rfl|rfl|rfl|rfl|rfl
 . exact l6Row_put ro wi le ke rA rc rs mA mc ms gA gc gs time dA dc ds lA lc ls who seq (n:Int) cb cc key text S w hS _ _ (putDo_any R N hN hR ro wi le ke hro hw hle hke rA rc rs mA mc ms gA gc gs time dA dc ds lA lc ls who seq n cb cc key text hc S br bg bd bl _ hS1 hq1 hk hn)
 . have e:Qd3 wi le ke (KC.p (⟨rA,rc,rs,mA,mc,ms,gA,gc,gs,time,dA,dc,ds,lA,lc,ls⟩:KC)) (⟨who,seq,2,(n:Int),cb,cc,key,text⟩:Cq)=(KC.p (⟨rA,rc,rs,mA,mc,ms,gA,gc,gs,time,dA,dc,ds,lA,lc,ls⟩:KC),getA ⟨st,nt,ym⟩ cb):=by
    unfold Qd3;simp only[hQ];rw[if_neg (by decide),if_neg (by decide)]
    first|rw[if_pos rfl]|rw[if_pos trivial]
   rw[e];have hhow:Items.getHow st ym cb=1∨Items.getHow st ym cb=2∨Items.getHow st ym cb=0:=by
    unfold Items.getHow;split
    . exact .inl rfl
    . split
      . exact .inr (.inr rfl)
      . exact .inr (.inl rfl)
   exact l6Row_get ro wi le ke rA rc rs mA mc ms gA gc gs time dA dc ds lA lc ls who seq cb cc n key text S br bg bd bl w hS hq hn (by omega) st nt yA yc ym hy _ _ _ _ _ _ (fun W hA=>Items.specRowGet_any st nt cb yA yc ym (by omega) W hA) hhow
 . have hM:mofP ms (n:Int) who=mofQ (KC.p (⟨rA,rc,rs,mA,mc,ms,gA,gc,gs,time,dA,dc,ds,lA,lc,ls⟩:KC)).ms (n:Int) who:=mofQ_p ms n who;have e:Qd3 wi le ke (KC.p (⟨rA,rc,rs,mA,mc,ms,gA,gc,gs,time,dA,dc,ds,lA,lc,ls⟩:KC)) (⟨who,seq,3,(n:Int),cb,cc,key,text⟩:Cq)=(if cb<=(mofP ms (n:Int) who).epoch then(KC.p (⟨rA,rc,rs,mA,mc,ms,gA,gc,gs,time,dA,dc,ds,lA,lc,ls⟩:KC),noAn 4 (mofP ms (n:Int) who).epoch)else({KC.p (⟨rA,rc,rs,mA,mc,ms,gA,gc,gs,time,dA,dc,ds,lA,lc,ls⟩:KC)with ms:=setS (ms.map MC.p) ⟨(n:Int),who,cb,-1,[]⟩},noAn 0 cb)):=by
    unfold Qd3;simp only;rw[if_neg (by decide)]
    first|rw[if_pos rfl]|rw[if_pos trivial]
    unfold epochQ;simp only[← hM];rfl
   rw[e];by_cases h:cb<=(mofP ms (n:Int) who).epoch
   . rw[if_pos h];exact Qg4 ro wi le ke rA rc rs mA mc ms gA gc gs time dA dc ds lA lc ls who seq (n:Int) cb cc key text S w hS _ _ (l6Epoch_no rA rc rs mA mc ms gA gc gs time dA dc ds lA lc ls who seq 3 (n:Int) cb cc key text S br bg bd bl hlen _ hS1 hq1 h)
   . rw[if_neg h];exact Qg4 ro wi le ke rA rc rs mA mc ms gA gc gs time dA dc ds lA lc ls who seq (n:Int) cb cc key text S w hS _ _ (Qkx rA rc rs mA mc ms gA gc gs time dA dc ds lA lc ls who seq 3 (n:Int) cb cc key text S br bg bd bl hlen _ hS1 hq1 h)
 . have e:Qd3 wi le ke (KC.p (⟨rA,rc,rs,mA,mc,ms,gA,gc,gs,time,dA,dc,ds,lA,lc,ls⟩:KC)) (⟨who,seq,9,(n:Int),cb,cc,key,text⟩:Cq)=({KC.p (⟨rA,rc,rs,mA,mc,ms,gA,gc,gs,time,dA,dc,ds,lA,lc,ls⟩:KC)with rs:=(rs.map RC.p).set n ⟨(Items.trimF nt le ke ym.length st ym).1,nt,(Items.trimF nt le ke ym.length st ym).2⟩},noAn 0 (Items.trimF nt le ke ym.length st ym).1):=by
    unfold Qd3;simp only[hQ];rw[if_neg (by decide),if_neg (by decide),if_neg (by decide)]
    first|rw[if_pos rfl]|rw[if_pos trivial]
    rfl
   rw[e];exact l6Row_trim ro wi le ke rA rc rs mA mc ms gA gc gs time dA dc ds lA lc ls who seq cb cc n key text S br bg bd bl w hS hq hn (by omega) st nt yA yc ym hy _ _ _ (fun W hA=>Items.specRowTrim_yes st nt le ke hle.1 (by omega) hke yA yc ym (by omega) (fun x hx=>by have:=hri.2.1 x hx;omega) hri.2.2 hrb W hA)
 . have e:Qd3 wi le ke (KC.p (⟨rA,rc,rs,mA,mc,ms,gA,gc,gs,time,dA,dc,ds,lA,lc,ls⟩:KC)) (⟨who,seq,10,(n:Int),cb,cc,key,text⟩:Cq)=({KC.p (⟨rA,rc,rs,mA,mc,ms,gA,gc,gs,time,dA,dc,ds,lA,lc,ls⟩:KC)with rs:=(rs.map RC.p).set n ⟨st,nt,Items.packL st nt le ym⟩},noAn 0 st):=by
    unfold Qd3;simp only[hQ];rw[if_neg (by decide),if_neg (by decide),if_neg (by decide),if_neg (by decide)];rfl
   rw[e];refine l6Row_pack ro wi le ke rA rc rs mA mc ms gA gc gs time dA dc ds lA lc ls who seq cb cc n key text S br bg bd bl w hS hq hn (by omega) st nt yA yc ym hy _ _ _ (fun W hA=> ?_);have hp:Items.packB st nt le ym=true:=(by unfold Items.packB;rw[hrb];simp[hle.1]);have h:=Items.specPack_yes st nt le yA yc ym (by omega) (fun x hx=>by have:=hri.2.1 x hx;omega) hri.2.2 hp W hA;have e2:Items.packL st nt le ym=Items.packF (IntKind.i64.wrap (nt - 1)) le ym:=(by unfold Items.packL;rw[if_pos hp]);rw[e2];exact h
theorem newDo_any (R N:Nat) (hN:N<=1000) (hR:1<=R/\R<=4) (ro wi le ke:Int) (hro:ro=R) (hw:1<=wi/\wi<=5) (hle:1<=le/\le<=100) (hke:0<=ke) (rA:Option Addr) (rc:Nat) (rs:List RC) (mA:Option Addr) (mc:Nat) (ms:List MC) (gA:Option Addr) (gc:Nat) (gs:List GC) (time:Int) (dA:Option Addr) (dc:Nat) (ds:List Int) (lA:Option Addr) (lc:Nat) (ls:List An) (who seq op ca cb cc:Int) (key text:ByteArray) (hc:CqR (⟨who,seq,op,ca,cb,cc,key,text⟩:Cq)) (S:Nat->Prop) (br bg bd bl:Nat) (w:World) (hS:∀b,S b->b<w.heap.size) (hq:KQ w (⟨rA,rc,rs,mA,mc,ms,gA,gc,gs,time,dA,dc,ds,lA,lc,ls⟩:KC) S br bg bd bl) (hk:Kin R N (KC.p (⟨rA,rc,rs,mA,mc,ms,gA,gc,gs,time,dA,dc,ds,lA,lc,ls⟩:KC))) (hcap:(∀g∈gs,(g.m.length<=g.c1/\g.c1<=9223372036854775807)/\(g.b.length<=g.c2/\g.c2<=9223372036854775807))):
 Calls Tryz.prog 201 #[.agg (Qal ro wi le ke),.agg (Qaa rA rs.length rc mA ms.length mc gA gs.length gc time dA ds.length dc lA ls.length lc),.agg (Qab who seq op ca cb cc key text)] w fun e w' =>Qcg S w w' e (Qdg ro wi le ke (KC.p (⟨rA,rc,rs,mA,mc,ms,gA,gc,gs,time,dA,dc,ds,lA,lc,ls⟩:KC)) (⟨who,seq,op,ca,cb,cc,key,text⟩:Cq)).1 (Qdg ro wi le ke (KC.p (⟨rA,rc,rs,mA,mc,ms,gA,gc,gs,time,dA,dc,ds,lA,lc,ls⟩:KC)) (⟨who,seq,op,ca,cb,cc,key,text⟩:Cq)).2:=by
 have hlen:=hk.len hN hR;have hca:=hc.a;have ht:=hk.t;unfold In2 at hca ht;simp only at hca;have hq1:=hq.below (Qa8 ro wi le ke rA rc rs mA mc ms gA gc gs time dA dc ds lA lc ls who seq op ca cb cc key text S w hS).2.2;have hS1:∀b,S b->b<(((((w.alloc (.cells (Qal ro wi le ke) 25)).alloc (.cells (Qaa rA rs.length rc mA ms.length mc gA gs.length gc time dA ds.length dc lA ls.length lc) 32)).alloc (.cells (Qab who seq op ca cb cc key text) 110)).alloc (.cells Qae 32)).alloc (.cells Qap 88)).heap.size:=fun b hb=>Nat.lt_of_lt_of_le (hS b hb) (Qa8 ro wi le ke rA rc rs mA mc ms gA gc gs time dA dc ds lA lc ls who seq op ca cb cc key text S w hS).2.2.size
 by_cases h8:op=8
 . subst h8;have e:Qdg ro wi le ke (KC.p (⟨rA,rc,rs,mA,mc,ms,gA,gc,gs,time,dA,dc,ds,lA,lc,ls⟩:KC)) (⟨who,seq,8,ca,cb,cc,key,text⟩:Cq)=({KC.p (⟨rA,rc,rs,mA,mc,ms,gA,gc,gs,time,dA,dc,ds,lA,lc,ls⟩:KC)with time:=min 100000 (time+ca),gs:=(gs.map GC.p).map (tkP (min 100000 (time+ca)))},noAn 0 (min 100000 (time+ca))):=by
    unfold Qdg;rw[if_pos rfl];rfl
   rw[e];exact l6New_tick ro wi le ke rA rc rs mA mc ms gA gc gs time dA dc ds lA lc ls who seq ca cb cc key text S br bg bd bl w hS hq (by have:=hlen.gl;simp only at this;omega) ht (by omega) (fun y hy=>by have h:=hlen.gi y hy;exact⟨by omega,by omega,by omega,h.2.2.2.1,h.2.2.2.2.2.1⟩)
 . cases hin:inB op 4 7
   . by_cases hr:ro<=ca
     . have e:Qdg ro wi le ke (KC.p (⟨rA,rc,rs,mA,mc,ms,gA,gc,gs,time,dA,dc,ds,lA,lc,ls⟩:KC)) (⟨who,seq,op,ca,cb,cc,key,text⟩:Cq)=(KC.p (⟨rA,rc,rs,mA,mc,ms,gA,gc,gs,time,dA,dc,ds,lA,lc,ls⟩:KC),noAn 5 0):=by
        unfold Qdg;rw[if_neg h8,if_neg (by simp only[hin];decide),if_pos hr]
       rw[e];exact Qkv ro wi le ke rA rc rs mA mc ms gA gc gs time dA dc ds lA lc ls who seq op ca cb cc key text S br bg bd bl w hS hq h8 hin hr
     . have e:Qdg ro wi le ke (KC.p (⟨rA,rc,rs,mA,mc,ms,gA,gc,gs,time,dA,dc,ds,lA,lc,ls⟩:KC)) (⟨who,seq,op,ca,cb,cc,key,text⟩:Cq)=Qd3 wi le ke (KC.p (⟨rA,rc,rs,mA,mc,ms,gA,gc,gs,time,dA,dc,ds,lA,lc,ls⟩:KC)) (⟨who,seq,op,ca,cb,cc,key,text⟩:Cq):=by
        unfold Qdg;rw[if_neg h8,if_neg (by simp only[hin];decide),if_neg hr]
       rw[e];exact l6New_row ro wi le ke rA rc rs mA mc ms gA gc gs time dA dc ds lA lc ls who seq op ca cb cc key text S w hS _ _ h8 hin hr (rowDo_any R N hN hR ro wi le ke hro hw hle hke rA rc rs mA mc ms gA gc gs time dA dc ds lA lc ls who seq op ca cb cc key text hc S br bg bd bl _ hS1 hq1 hk hin h8 hr)
   . by_cases hr:2<=ca
     . have e:Qdg ro wi le ke (KC.p (⟨rA,rc,rs,mA,mc,ms,gA,gc,gs,time,dA,dc,ds,lA,lc,ls⟩:KC)) (⟨who,seq,op,ca,cb,cc,key,text⟩:Cq)=(KC.p (⟨rA,rc,rs,mA,mc,ms,gA,gc,gs,time,dA,dc,ds,lA,lc,ls⟩:KC),noAn 9 0):=by
        unfold Qdg;rw[if_neg h8,if_pos hin,if_pos hr]
       rw[e];exact Qkw ro wi le ke rA rc rs mA mc ms gA gc gs time dA dc ds lA lc ls who seq op ca cb cc key text S br bg bd bl w hS hq h8 hin hr
     . have e:Qdg ro wi le ke (KC.p (⟨rA,rc,rs,mA,mc,ms,gA,gc,gs,time,dA,dc,ds,lA,lc,ls⟩:KC)) (⟨who,seq,op,ca,cb,cc,key,text⟩:Cq)=Qe3 ro (KC.p (⟨rA,rc,rs,mA,mc,ms,gA,gc,gs,time,dA,dc,ds,lA,lc,ls⟩:KC)) (⟨who,seq,op,ca,cb,cc,key,text⟩:Cq):=by
        unfold Qdg;rw[if_neg h8,if_pos hin,if_neg hr]
       rw[e];exact l6New_grp ro wi le ke rA rc rs mA mc ms gA gc gs time dA dc ds lA lc ls who seq op ca cb cc key text S w hS _ _ h8 hin hr (grpDo_any R N hN hR ro wi le ke hro hw hle hke rA rc rs mA mc ms gA gc gs time dA dc ds lA lc ls who seq op ca cb cc key text hc S br bg bd bl _ hS1 hq1 hk hcap hin hr)
theorem doQ_any (R N:Nat) (hN:N<=1000) (hR:1<=R/\R<=4) (ro wi le ke:Int) (hro:ro=R) (hw:1<=wi/\wi<=5) (hle:1<=le/\le<=100) (hke:0<=ke) (rA:Option Addr) (rc:Nat) (rs:List RC) (mA:Option Addr) (mc:Nat) (ms:List MC) (gA:Option Addr) (gc:Nat) (gs:List GC) (time:Int) (dA:Option Addr) (dc:Nat) (ds:List Int) (lA:Option Addr) (lc:Nat) (ls:List An) (who seq op ca cb cc:Int) (key text:ByteArray) (hc:who<0∨CqR (⟨who,seq,op,ca,cb,cc,key,text⟩:Cq)) (w:World) (hx:KAt w (⟨rA,rc,rs,mA,mc,ms,gA,gc,gs,time,dA,dc,ds,lA,lc,ls⟩:KC)) (hk:Kin R N (KC.p (⟨rA,rc,rs,mA,mc,ms,gA,gc,gs,time,dA,dc,ds,lA,lc,ls⟩:KC))):
 Calls Tryz.prog 177 #[.agg (Qal ro wi le ke),.agg (Qaa rA rs.length rc mA ms.length mc gA gs.length gc time dA ds.length dc lA ls.length lc),.agg (Qab who seq op ca cb cc key text)] w fun e w' =>Qcg (fun _=>False) w w' e (doQ ro wi le ke (KC.p (⟨rA,rc,rs,mA,mc,ms,gA,gc,gs,time,dA,dc,ds,lA,lc,ls⟩:KC)) (⟨who,seq,op,ca,cb,cc,key,text⟩:Cq)).1 (doQ ro wi le ke (KC.p (⟨rA,rc,rs,mA,mc,ms,gA,gc,gs,time,dA,dc,ds,lA,lc,ls⟩:KC)) (⟨who,seq,op,ca,cb,cc,key,text⟩:Cq)).2:=by
 have hlen:=hk.len hN hR;by_cases hw0:who<0
 . have e:doQ ro wi le ke (KC.p (⟨rA,rc,rs,mA,mc,ms,gA,gc,gs,time,dA,dc,ds,lA,lc,ls⟩:KC)) (⟨who,seq,op,ca,cb,cc,key,text⟩:Cq)=(KC.p (⟨rA,rc,rs,mA,mc,ms,gA,gc,gs,time,dA,dc,ds,lA,lc,ls⟩:KC),noAn 0 0):=(by unfold doQ;rw[if_pos hw0]);rw[e];exact l6Do_none ro wi le ke rA rc rs mA mc ms gA gc gs time dA dc ds lA lc ls who seq op ca cb cc key text hlen w hx hw0
 . have hc:CqR (⟨who,seq,op,ca,cb,cc,key,text⟩:Cq):=hc.resolve_left hw0;have hwho:=hc.who;unfold In2 at hwho;simp only at hwho;obtain⟨q,rfl⟩:∃q:Nat,who=q:=⟨who.toNat,by omega⟩
   have hq4:q<4:=(by omega);by_cases hs:seq<=ds.getD q 0
   . have e:doQ ro wi le ke (KC.p (⟨rA,rc,rs,mA,mc,ms,gA,gc,gs,time,dA,dc,ds,lA,lc,ls⟩:KC)) (⟨(q:Int),seq,op,ca,cb,cc,key,text⟩:Cq)=(KC.p (⟨rA,rc,rs,mA,mc,ms,gA,gc,gs,time,dA,dc,ds,lA,lc,ls⟩:KC),ls.getD q zAn):=(by unfold doQ;rw[if_neg hw0];exact if_pos hs);rw[e];exact l6Do_old ro wi le ke rA rc rs mA mc ms gA gc gs time dA dc ds lA lc ls q hq4 seq op ca cb cc key text hlen w hx hs
   . obtain⟨g1,g2⟩:=newDo_R (ke:=ke) hk hro hw hle hc;have e:doQ ro wi le ke (KC.p (⟨rA,rc,rs,mA,mc,ms,gA,gc,gs,time,dA,dc,ds,lA,lc,ls⟩:KC)) (⟨(q:Int),seq,op,ca,cb,cc,key,text⟩:Cq)=({(Qdg ro wi le ke (KC.p (⟨rA,rc,rs,mA,mc,ms,gA,gc,gs,time,dA,dc,ds,lA,lc,ls⟩:KC)) ⟨(q:Int),seq,op,ca,cb,cc,key,text⟩).1 with ds:=(Qdg ro wi le ke (KC.p (⟨rA,rc,rs,mA,mc,ms,gA,gc,gs,time,dA,dc,ds,lA,lc,ls⟩:KC)) ⟨(q:Int),seq,op,ca,cb,cc,key,text⟩).1.ds.set q seq,ls:=(Qdg ro wi le ke (KC.p (⟨rA,rc,rs,mA,mc,ms,gA,gc,gs,time,dA,dc,ds,lA,lc,ls⟩:KC)) ⟨(q:Int),seq,op,ca,cb,cc,key,text⟩).1.ls.set q (Qdg ro wi le ke (KC.p (⟨rA,rc,rs,mA,mc,ms,gA,gc,gs,time,dA,dc,ds,lA,lc,ls⟩:KC)) ⟨(q:Int),seq,op,ca,cb,cc,key,text⟩).2},(Qdg ro wi le ke (KC.p (⟨rA,rc,rs,mA,mc,ms,gA,gc,gs,time,dA,dc,ds,lA,lc,ls⟩:KC)) ⟨(q:Int),seq,op,ca,cb,cc,key,text⟩).2):=by
      unfold doQ;rw[if_neg hw0];exact if_neg hs
     rw[e];refine l6Do_new ro wi le ke rA rc rs mA mc ms gA gc gs time dA dc ds lA lc ls q hq4 seq op ca cb cc key text hlen w hx hs _ _ _ _ _ g1.dl g1.ll ?_;intro rA9 rc9 rs9 mA9 mc9 ms9 gA9 gc9 gs9 time9 dA9 dc9 ds9 lA9 lc9 ls9 br bg bd bl S W hp hq9 hcap9 hS9;have hk9:Kin R N (KC.p (⟨rA9,rc9,rs9,mA9,mc9,ms9,gA9,gc9,gs9,time9,dA9,dc9,ds9,lA9,lc9,ls9⟩:KC)):=(by rw[hp];exact hk);have h:=newDo_any R N hN hR ro wi le ke hro hw hle hke rA9 rc9 rs9 mA9 mc9 ms9 gA9 gc9 gs9 time9 dA9 dc9 ds9 lA9 lc9 ls9 (q:Int) seq op ca cb cc key text hc S br bg bd bl W hS9 hq9 hk9 hcap9;rw[hp]at h;exact h
end Go.Proofs.YtpippjjhelgnlaaGreat.Gen
namespace Go.Proofs.YtpippjjhelgnlaaGreat.Gen
open ChangeShapes WideShapes ChangeAt RowKit Joins Deep Base
theorem Qgn (ro wi le ke:Int) (w:World):
 Calls Tryz.prog 176 #[.agg (Qal ro wi le ke)] w fun e w' =>ToldK w w' e (newK (setB ro wi le ke) ro):=by
 cases hb:setB ro wi le ke
 . go_enter Tryz.func176,Tryz.ntmps176;go_wp2_with (go_at_call 56;refine(Qd2 ro wi le ke _).mono ?_;rw[hb];rintro e w1 ⟨rfl,g1⟩;obtain⟨k1,m1⟩:=Qcd g1;have B1:Below w.heap.size w w1:=via0 g1 (Qad (Qad (Below.refl _ _) _) _);have p1:=((Blk.new (w.alloc (.cells (Qal ro wi le ke) 25)) 32 Qae)).below g1 (by simp);rw[World.size_alloc]at p1;obtain⟨r0,r1,r2,r3,r4,r5⟩:=p1.row6;have f0:=p1.thaw 0;have f1:=p1.thaw 1;have f2:=p1.thaw 2;have f3:=p1.thaw 3;have f4:=p1.thaw 4;have f5:=p1.thaw 5);refine bodyPost_ret (v:= .agg Qae) (by simp[results,Tryz.results176,go_sem,r0,r1,r2,r3,r4,r5]) rfl (toldK_zero ?_);exact Qas (Qas (Qas (Qas (Qas (Qas B1 (Nat.le_succ _) _) (Nat.le_succ _) _) (Nat.le_succ _) _) (Nat.le_succ _) _) (Nat.le_succ _) _) (Nat.le_succ _) _
 . obtain⟨hr1,hr4⟩:=Qix hb;obtain⟨n,rfl⟩:∃n:Nat,ro=n:=⟨ro.toNat,by omega⟩
   have hmR:=Qgc (P:=Tryz.prog) Tryz.underlying26 infoRC (by omega) n (by omega);have hmD:∀w:World,(Instr.makeSlice 29 (.int .i64 4) (.int .i64 4)).run Tryz.prog w= .ok (.slice (some ⟨w.heap.size,0,none⟩) 4 4) (w.alloc (.cells (madeCells #[.int .i64 0] 4) 3)):=Qgc (P:=Tryz.prog) Tryz.underlying29 Qd7 (by omega) 4 (by omega);have hmL:∀w:World,(Instr.makeSlice 30 (.int .i64 4) (.int .i64 4)).run Tryz.prog w= .ok (.slice (some ⟨w.heap.size,0,none⟩) 4 4) (w.alloc (.cells (madeCells Qap 16) 88)):=Qgc (P:=Tryz.prog) Tryz.underlying30 infoAn (by omega) 4 (by omega);go_enter Tryz.func176,Tryz.ntmps176;go_upto_region 3 with(go_at_call 56;refine(Qd2 (n:Int) wi le ke _).mono ?_;rw[hb];rintro e w1 ⟨rfl,g1⟩)
   have I:∀V,KR w w1 (n:Int) wi le ke n V (fun _=>none):=fun V=>⟨via0 g1 (Qad (Qad (Below.refl _ _) _) _),((Blk.new w _ _).alloc _).below g1 (by simp;omega),by have:=(Blk.new (w.alloc (.cells (Qal (n:Int) wi le ke) 25)) 32 Qae).below g1 (by simp);rwa [World.size_alloc]at this,fun i b e=>(by cases e),fun i j b e=>(by cases e),fun b e=>(by cases e),fun b e=>(by cases e),fun b e=>(by cases e),fun b e=>(by cases e)⟩
   have J:=hidP I;have I:=I Qae;clear g1;go_cut [3]from 9 to 14 (fun s wx=>∃g bR bD bL Q,s= .pointer (some ⟨g,0,none⟩)/\Q<=wx.heap.size/\KN w wx (n:Int) wi le ke n g bR bD bL Q (.slice none 0 0))
   case first=>
    obtain⟨AA,hAA⟩:∃f:(Nat->Bool)->(Nat->Value)->Array Value,f=(fun(m:Nat->Bool) (v:Nat->Value)=> #[.agg (Qal (n:Int) wi le ke),.pointer (some ⟨w.heap.size,0,none⟩),.pointer (some ⟨w.heap.size+1,0,none⟩),sl m v 6,undef,.agg (Qal (n:Int) wi le ke),.bool true,.bool false,undef,.pointer (some ⟨w.heap.size,0,none⟩),.int .i64 (n:Int),sl m v 2,sl m v 3,sl m v 4,sl m v 5,undef,undef,undef,undef,undef,undef,undef,undef,undef,undef,undef,undef,undef]):=⟨_,rfl⟩
    refine wp_region_noPanic ?_;refine wp_region_held_drew (S:=fun(w' :World)=>w'.cell? ⟨w.heap.size,0,none⟩=some (.int .i64 (n:Int))) (by kernel_rfl) ?_ (fun hH=> ?_)
    . exact I.b1.row4.1
    refine ztk [0,1] ?_;repeat(refine ztn (h:= ?_);try simp only[zX,zY])
    refine zte ?_;refine any_at (n1:=1+5) (l1:=lstK (fun _=>false)) (T:=StK w n wi le ke AA (fun _=>false)) (fun a W hT hS=>any_lat [2,3,4,5,6] lstK preK (StK w n wi le ke AA) ?hl ?step ?tail 5 (fun _=>false) a W (by kernel_rfl) hT hS) (by kernel_rfl) ⟨fun _=>undef,fun _=>none,by rw[hAA];rfl,I.drew,(fun e=>by cases e),(fun e=>by cases e),(fun e=>by cases e),(fun e=>by cases e),(fun e=>by cases e)⟩ hH
    case hl=>
     intro i hi m;simp only[List.mem_cons,List.not_mem_nil,or_false]at hi;rcases hi with rfl|rfl|rfl|rfl|rfl<;>rfl
    case step=>
     clear hH J I;intro i hi m a W hp hT hS;obtain⟨v,o,rfl,I,h2,h3,h4,h5,h6⟩:=hT;subst hAA;simp only[List.mem_cons,List.not_mem_nil,or_false]at hi;rcases hi with rfl|rfl|rfl|rfl|rfl
     . have q5:m 5=false:=(by simpa [preK]using hp);have hmk:=hmR W;have I2:=I.new0 W.heap.size rfl;refine⟨_,rfl,fun K hK=> ?_⟩;go_simp;exact hK.out _ _ I2.b1.row4.1 ⟨updv v 2 (.slice (some ⟨W.heap.size,0,none⟩) n n),_,rfl,I2,(fun _=>⟨_,rfl,rfl⟩),h3,h4,fun e=>by simp[updm,q5]at e,h6⟩
     . have q5:m 5=false:=(by simpa [preK]using hp);have hmk:=hmD W;have I2:=I.new1 W.heap.size rfl;refine⟨_,rfl,fun K hK=> ?_⟩;go_simp;exact hK.out _ _ I2.b1.row4.1 ⟨updv v 3 (.slice (some ⟨W.heap.size,0,none⟩) 4 4),_,rfl,I2,h2,(fun _=>⟨_,rfl,rfl⟩),h4,fun e=>by simp[updm,q5]at e,h6⟩
     . have q5:m 5=false:=(by simpa [preK]using hp);have hmk:=hmL W;have I2:=I.new2 W.heap.size rfl;refine⟨_,rfl,fun K hK=> ?_⟩;go_simp;exact hK.out _ _ I2.b1.row4.1 ⟨updv v 4 (.slice (some ⟨W.heap.size,0,none⟩) 4 4),_,rfl,I2,h2,h3,(fun _=>⟨_,rfl,rfl⟩),fun e=>by simp[updm,q5]at e,h6⟩
     . have q:(m 2=true/\m 3=true)/\m 4=true:=(by simpa [preK]using hp);obtain⟨bR,_,v2⟩:=h2 q.1.1;obtain⟨bD,_,v3⟩:=h3 q.1.2;obtain⟨bL,_,v4⟩:=h4 q.2;have e2:sl m v 2= .slice (some ⟨bR,0,none⟩) n n:=(by simp[sl,q.1.1,v2]);have e3:sl m v 3= .slice (some ⟨bD,0,none⟩) 4 4:=(by simp[sl,q.1.2,v3]);have e4:sl m v 4= .slice (some ⟨bL,0,none⟩) 4 4:=(by simp[sl,q.2,v4]);refine⟨_,rfl,fun K hK=> ?_⟩;go_simp;refine hK.out _ _ I.b1.row4.1 ⟨updv v 5 (.agg (Qaa (some ⟨bR,0,none⟩) n n none 0 0 none 0 0 0 (some ⟨bD,0,none⟩) 4 4 (some ⟨bL,0,none⟩) 4 4)),o,?_,I,h2,h3,h4,fun _=>by simp[updv,v2,v3,v4],h6⟩;simp[sl,updm,updv,q.1.1,q.1.2,q.2,v2,v3,v4]
     . have I2:=I.new3 W.heap.size rfl;refine⟨_,rfl,fun K hK=> ?_⟩;go_simp;exact hK.out _ _ I2.b1.row4.1 ⟨updv v 6 (.pointer (some ⟨W.heap.size,0,none⟩)),_,rfl,I2,h2,h3,h4,h5,fun _=>⟨_,rfl,rfl⟩⟩
    case tail=>
     clear hH J I;intro m a W hm hT hS;obtain⟨v,o,rfl,I,h2,h3,h4,h5,h6⟩:=hT;subst hAA;simp only[List.all_cons,List.all_nil,Bool.and_true,Bool.and_eq_true]at hm;obtain⟨m2,m3,m4,m5,m6⟩:=hm;obtain⟨bR,oR,v2⟩:=h2 m2;obtain⟨bD,oD,v3⟩:=h3 m3;obtain⟨bL,oL,v4⟩:=h4 m4;obtain⟨g,oG,v6⟩:=h6 m6;have v5:=h5 m5;rw[v2,v3,v4]at v5;simp only[sl,m2,m3,m4,m5,m6,v2,v3,v4,v5,v6,if_true,lstK];have I2:=I.store oG (Qaa (some ⟨bR,0,none⟩) n n none 0 0 none 0 0 0 (some ⟨bD,0,none⟩) 4 4 (some ⟨bL,0,none⟩) 4 4);refine zR1 7 (fun K hK=> ?_);simp only[zG];rw[if_pos (by rfl)];refine wp_store_row 32 _ _ (by rfl) g (Qaa (some ⟨bR,0,none⟩) n n none 0 0 none 0 0 0 (some ⟨bD,0,none⟩) 4 4 (some ⟨bL,0,none⟩) 4 4) (by rfl) (by rfl) 32 Qae (I.g g oG) (by kernel_rfl) rfl (by simp[Value.oneCell']) ?_;refine hK.out _ _ I2.b1.row4.1 (fun hH=> ?_);refine zdn ?_;go_wp2_with fail
     go_meet
     exact⟨g,bR,bD,bL,_,rfl,Nat.le_refl _,I2.done oR oD oL oG⟩
   case rest=>
    obtain⟨g,bR,bD,bL,Q,rfl,hQ,K0⟩:=hcut;have HK:=hidP K0;have HG:=hidP (GL.nil wc (n:Int) Q hQ);clear K0 hQ I J hmR hmD hmL;go_wp2
    go_loopw [4] (fun i W=>∃(j:Nat) (a:Option Addr) (c:Nat) (gs:List GC) (fp:Nat->Nat->Prop),i= .int .i64 (j:Int)/\j<=2/\Hid (KN w W (n:Int) wi le ke n g bR bD bL Q (.slice a j c))/\Hid (GL W (n:Int) Q (.slice a j c) gs fp)/\Hid (gs.length=j)) (fun i _=>2 - (intOf i).toNat)
    case atStart=>exact⟨0,none,0,[],_,rfl,by omega,HK,HG,rfl⟩
    case round=>
     obtain⟨j,a,c,gs,fp,rfl,hj,hKn,hG,hl⟩:=hrel;by_cases hlt:j<2
     . have hS4:(fun(w' :World)=>w'.cell? ⟨g,2,none⟩=some (.slice a j c)/\w'.cell? ⟨w.heap.size,0,none⟩=some (.int .i64 (n:Int))) wr.drew:=⟨hKn.out.bg.row6.2.2.1,hKn.out.b1.row4.1⟩
       go_wp2_with fail;refine wp_region_noPanic ?_;have hH:(fun(w' :World)=>w'.cell? ⟨g,2,none⟩=some (.slice a j c)/\w'.cell? ⟨w.heap.size,0,none⟩=some (.int .i64 (n:Int))) _:=hS4;refine Qkm 8 (fun(w' :World)=>w'.cell? ⟨g,2,none⟩=some (.slice a j c)/\w'.cell? ⟨w.heap.size,0,none⟩=some (.int .i64 (n:Int))) (by kernel_rfl) ?_;refine' Qek (i:=0) (v:=_) (by kernel_rfl) rfl (by kernel_rfl) (by decide) (by kernel_rfl) (by kernel_rfl) (by kernel_rfl) (fun _ _ _ h=>h) (Or.inl ⟨by rfl,?hy1⟩) (by assumption) ?rest1
       case hy1=>(intro w hSw;(try dsimp only at hSw);go_simp<;>with_reducible rfl)
       try simp only[zX,zY]
       refine' Qek (i:=1) (v:=_) (by kernel_rfl) rfl (by kernel_rfl) (by decide) (by kernel_rfl) (by kernel_rfl) (by kernel_rfl) (fun _ _ _ h=>h) (Or.inl ⟨by rfl,?hy2⟩) (by assumption) ?rest2
       case hy2=>(intro w hSw;(try dsimp only at hSw);go_simp<;>with_reducible rfl)
       try simp only[zX,zY]
       refine' Qek (i:=2) (v:=_) (by kernel_rfl) rfl (by kernel_rfl) (by decide) (by kernel_rfl) (by kernel_rfl) (by kernel_rfl) (fun _ _ _ h=>h) (Or.inl ⟨by rfl,?hy3⟩) (by assumption) ?rest3
       case hy3=>(intro w hSw;(try dsimp only at hSw);go_simp<;>with_reducible rfl)
       try simp only[zX,zY]
       refine' Qek (i:=3) (v:=_) (by kernel_rfl) rfl (by kernel_rfl) (by decide) (by kernel_rfl) (by kernel_rfl) (by kernel_rfl) (fun _ _ _ h=>h) (Or.inl ⟨by rfl,?hy4⟩) (by assumption) ?rest4
       case hy4=>(intro w hSw;(try dsimp only at hSw);go_simp<;>with_reducible rfl)
       try simp only[zX,zY]
       refine Qe8 (i:=4) (by kernel_rfl) rfl (fun K hK=> ?_);simp only[zG]
       go_simp;go_at_call 192;refine(Qkk (n:Int) _).mono ?_;rintro e w2 ⟨xa,xc,F,rfl,g2,hGp,hF⟩;have gB:Below wr.heap.size wr w2:=via0 g2 (Below.drew (Below.refl _ _));have hF' :∀x∈F,wr.heap.size<=x:=hF;have K2:=hKn.out.below gB;have K2a:=K2.below (Qad (Below.refl _ _) (.cells (Qaj 0 none 0 0 none 0 0 xa (newO (n:Int)).length xc) 80));have gBa:Below wr.heap.size wr (w2.alloc (.cells (Qaj 0 none 0 0 none 0 0 xa (newO (n:Int)).length xc) 80)):=Qad gB _;have hxP:=gp_new (c:=xc) hGp;have hxPa:=Qde _ (w2.alloc (.cells (Qaj 0 none 0 0 none 0 0 xa (newO (n:Int)).length xc) 80)) (⟨0,none,0,[],none,0,[],xa,xc,newO (n:Int)⟩:GC) _ (fun _=>False) hxP (Offp.of_below (Qad (Below.refl _ _) _)) (fun _ _ e=>e);have hAt:At (w2.alloc (.cells (Qaj 0 none 0 0 none 0 0 xa (newO (n:Int)).length xc) 80)) (some ⟨w2.heap.size,0,none⟩) [(⟨0,none,0,[],none,0,[],xa,xc,newO (n:Int)⟩:GC)]:= .inr ⟨w2.heap.size,0,rfl,by simp,one_in w2 (⟨0,none,0,[],none,0,[],xa,xc,newO (n:Int)⟩:GC) 80⟩;have hGa:=hG.out.below gBa;have hll:=hl.out;obtain⟨v',w3,hr,hown,hgrow,hat⟩:=Qbh (P:=Tryz.prog) Tryz.underlying28 infoGC rfl (by decide) (by decide) Q (.slice a j c) gs [(⟨0,none,0,[],none,0,[],xa,xc,newO (n:Int)⟩:GC)] (some ⟨w2.heap.size,0,none⟩) 1 (w2.alloc (.cells (Qaj 0 none 0 0 none 0 0 xa (newO (n:Int)).length xc) 80)) hGa.q hGa.own hAt (by rw[hll];simp;omega);simp only[List.length_cons,List.length_nil,Nat.zero_add]at hr hown;have G3:=hG.out.snoc gBa hxPa rfl (fun b hb=>⟨hF' b hb,by have:=hGp.lt b hb;simp;omega⟩) hown hgrow hat;rw[hll]at hown;obtain⟨a',c',rfl,_⟩:=Qao hown;have K3:=K2a.offp (Qce hgrow) (fun x hx=>(hGa.own.lt x hx).1);have hgQ:=K3.g0;have HK4:=hidP (K3.set (.slice a' (j+1) c'));have HG4:=hidP (G3.offp (Offp.of_only ((Only.refl g w3).set 2 (.slice a' (j+1) c'))) (fun x hx e=>by omega));have hS5:(fun(w' :World)=>w'.cell? ⟨g,2,none⟩=some (.slice a j c)/\w'.cell? ⟨w.heap.size,0,none⟩=some (.int .i64 (n:Int))) w2:=⟨K2.bg.row6.2.2.1,K2.b1.row4.1⟩;have hS6:(fun(w' :World)=>w'.cell? ⟨g,2,none⟩=some (.slice a j c)/\w'.cell? ⟨w.heap.size,0,none⟩=some (.int .i64 (n:Int))) (w2.alloc (.cells (Qaj 0 none 0 0 none 0 0 xa (newO (n:Int)).length xc) 80)):=⟨K2a.bg.row6.2.2.1,K2a.b1.row4.1⟩;have hS7:(fun(w' :World)=>w'.cell? ⟨g,2,none⟩=some (.slice a j c)/\w'.cell? ⟨w.heap.size,0,none⟩=some (.int .i64 (n:Int))) w3:=⟨K3.bg.row6.2.2.1,K3.b1.row4.1⟩;have z2:=K3.bg.row6.2.2.1;have y2:=K3.bg.thaw 2;have HL4:Hid ((gs++ [(⟨0,none,0,[],none,0,[],xa,xc,newO (n:Int)⟩:GC)]).length=j+1):=(by show _=_;rw[List.length_append,hll];first|rfl|done);clear K2 K2a K3 G3 hGa hown hgrow hat hAt hxP hxPa gB gBa hF hF' hGp g2 hll hgQ
       refine hK.out _ _ (.inr hS5) ?_;clear hK K
       try simp only[zX,zY]
       refine Qe8 (i:=5) (by kernel_rfl) rfl (fun K hK=> ?_);simp only[zG];go_simp;refine hK.out _ _ (.inr hS6) ?_;clear hK K
       try simp only[zX,zY]
       refine Qe8 (i:=6) (by kernel_rfl) rfl (fun K hK=> ?_);simp only[zG];rw[if_pos (by rfl)];refine Qag _ _ _ (by rfl) _ _ _ (by rfl) (by rfl) hr ?_;refine hK.out _ _ (.inr hS7) ?_;clear hK K
       try simp only[zX,zY]
       refine' till_freed (i:=7) (v:=_) rfl (by kernel_rfl) (by decide) (by kernel_rfl) (by kernel_rfl) (fun _ _ _ h=>h) (Or.inl ⟨by rfl,?hy5⟩) (by assumption) ?rest5
       case hy5=>(intro w hSw;(try dsimp only at hSw);go_simp<;>with_reducible rfl)
       try simp only[zX,zY]
       refine Qe8 (i:=8) (by kernel_rfl) rfl (fun K hK=> ?_);simp only[zG];go_simp;refine hK.out _ _ (.inl rfl) ?_;clear hK K
       try simp only[zX,zY]
       refine till_done (by kernel_rfl) ?_ _;refine NoPanic.normal ?_;go_wp2;exact⟨⟨j+1,a',c',_,_,by go_num,by omega,HK4,HG4,HL4⟩,by simp[intOf];omega⟩
     . obtain rfl:j=2:=(by omega);obtain⟨u0,u1,u2,u3,u4,u5⟩:=hKn.out.bg.row6;have b2:=hKn.out.b2;obtain⟨r0,r1,r2,r3,r4,r5⟩:=b2.row6;have f0:=b2.thaw 0;have f1:=b2.thaw 1;have f2:=b2.thaw 2;have f3:=b2.thaw 3;have f4:=b2.thaw 4;have f5:=b2.thaw 5;have hne:g≠w.heap.size+1:=(by have:=hKn.out.g0;omega);go_wp2;have e6:=(((((b2.setAt 0 (.slice (some ⟨bR,0,none⟩) n n)).setAt 1 (.slice none 0 0)).setAt 2 (.slice a 2 c)).setAt 3 (.int .i64 0)).setAt 4 (.slice (some ⟨bD,0,none⟩) 4 4)).setAt 5 (.slice (some ⟨bL,0,none⟩) 4 4);have e6' :Blk _ (w.heap.size+1) 32 (Qaa (some ⟨bR,0,none⟩) n n none 0 0 a 2 c 0 (some ⟨bD,0,none⟩) 4 4 (some ⟨bL,0,none⟩) 4 4):=e6;obtain⟨x0,x1,x2,x3,x4,x5⟩:=e6'.row6;refine bodyPost_ret (v:= .agg (Qaa (some ⟨bR,0,none⟩) n n none 0 0 a 2 c 0 (some ⟨bD,0,none⟩) 4 4 (some ⟨bL,0,none⟩) 4 4)) (by simp[results,Tryz.results176,go_sem,x0,x1,x2,x3,x4,x5]) rfl ?_;exact toldK_new rfl hKn.out hG.out hl.out (((((((Offp.refl (fun x=>x=w.heap.size+1) _).set (b:=w.heap.size+1) rfl _ _).set (b:=w.heap.size+1) rfl _ _).set (b:=w.heap.size+1) rfl _ _).set (b:=w.heap.size+1) rfl _ _).set (b:=w.heap.size+1) rfl _ _).set (b:=w.heap.size+1) rfl _ _)
end Go.Proofs.YtpippjjhelgnlaaGreat.Gen
namespace Go.Proofs.YtpippjjhelgnlaaGreat.Gen
open ChangeShapes WideShapes ChangeAt RowKit Joins Deep Base
open Items (It)
instance:Cel Cq where
  k:=8
  cs x:= [.int .i64 x.who,.int .i64 x.seq,.int .i64 x.op,.int .i64 x.a,.int .i64 x.b,.int .i64 x.c,.string x.key,.string x.text]
  len _:=rfl
  one x u hu:=by simp at hu;rcases hu with rfl|rfl|rfl|rfl|rfl|rfl|rfl|rfl<;>rfl
theorem In.getCq {w:World} {b o:Nat} {l:List Cq} (h:In w b o l) (i:Nat) (hi:i<l.length):
 w.cell? ⟨b,o+i*8,none⟩=some (.int .i64 l[i].who)/\w.cell? ⟨b,o+i*8+1,none⟩=some (.int .i64 l[i].seq)/\w.cell? ⟨b,o+i*8+2,none⟩=some (.int .i64 l[i].op)/\w.cell? ⟨b,o+i*8+3,none⟩=some (.int .i64 l[i].a)/\w.cell? ⟨b,o+i*8+4,none⟩=some (.int .i64 l[i].b)/\w.cell? ⟨b,o+i*8+5,none⟩=some (.int .i64 l[i].c)/\w.cell? ⟨b,o+i*8+6,none⟩=some (.string l[i].key)/\w.cell? ⟨b,o+i*8+7,none⟩=some (.string l[i].text):=
 ⟨h.cell i hi (f:=0) rfl,h.cell i hi (f:=1) rfl,h.cell i hi (f:=2) rfl,h.cell i hi (f:=3) rfl,h.cell i hi (f:=4) rfl,h.cell i hi (f:=5) rfl,h.cell i hi (f:=6) rfl,h.cell i hi (f:=7) rfl⟩
def okC (c:Cq):Bool:=CmdOk.okB c.who c.seq c.op c.a c.b c.c c.key c.text
theorem okC_R {c:Cq} (h:okC c=true):c.who<0∨CqR c:=by
 unfold okC CmdOk.okB at h;split at h
 . left;omega
 . right
   simp only[CmdOk.restB,CmdOk.inB,CmdOk.textB,Bool.and_eq_true,decide_eq_true_eq]at h;obtain⟨⟨⟨⟨⟨⟨⟨h1,h2⟩,h3⟩,h4⟩,h5⟩,h6⟩,h7⟩,h8⟩:=h;exact⟨h1,⟨by omega,h2.2⟩,h3,h4,h5,h6,h7.2,h8.2⟩
def stepQ (ro wi le ke:Int) (p:PK) (c:Cq):PK:=if okC c then(doQ ro wi le ke p c).1 else p
def allQ (ro wi le ke:Int) (p:PK) (L:List Cq):PK:=L.foldl (stepQ ro wi le ke) p
theorem Qkc (ro wi le ke:Int) (p:PK) (L:List Cq) (n:Nat) (h:n<L.length):allQ ro wi le ke p (L.take (n+1))=stepQ ro wi le ke (allQ ro wi le ke p (L.take n)) L[n]:=by
 unfold allQ;rw[List.take_succ_eq_append_getElem h,List.foldl_append];rfl
theorem newK_R {ro:Int} {R:Nat} (h:ro=R) (hR:1<=R/\R<=4):Kin R 0 (newK true ro):=by
 subst h;have hr:((R:Int)).toNat=R:=by omega
 simp only[newK,if_true];refine⟨by simp,?_,by simp,by simp,by simp,?_,⟨by show(0:Int)<=0;omega,by show(0:Int)<=100000;omega⟩,by simp,?_,by simp,?_⟩
 . intro r hr;have:=(List.mem_replicate.1 hr).2;subst this;rfl
 . intro g hg;have:=(List.mem_replicate.1 hg).2;subst this;refine⟨⟨by show(0:Int)<=0;omega,by show(0:Int)<=100000;omega⟩,by simp,by simp,?_,rfl,by simp,?_⟩
   . intro y hy;have h1:y∈newO (R:Int):=hy;unfold newO at h1;split at h1
     . have h0:=(List.mem_replicate.1 h1).2;subst h0;exact⟨by omega,by omega⟩
     . simp at h1
   . show(newO (R:Int)).length=R;unfold newO;rw[if_pos (by simp[inB];omega)];simp
 . intro y hy;have:=(List.mem_replicate.1 hy).2;subst this;exact⟨by omega,by omega⟩
 . intro y hy;have:=(List.mem_replicate.1 hy).2;subst this;exact zAn_p
structure KV (W:World) (x:KC) (S:Nat->Prop):Prop where
  r:Av W x.rA x.rs S
  ri:∀y∈x.rs,Av W y.A y.its S
  m:Av W x.mA x.ms S
  mi:∀y∈x.ms,Av W y.A y.ms S
  g:Av W x.gA x.gs S
  gi:∀y∈x.gs,Av W y.a1 y.m S/\Av W y.a2 y.b S/\Av W y.a3 y.o S
  d:Av W x.dA x.ds S
  l:Av W x.lA x.ls S
section
variable {W W' :World} {x:KC} {S T S' :Nat->Prop}
theorem KV.at (h:KV W x S):KAt W x:=⟨h.r.at,fun y hy=>(h.ri y hy).at,h.m.at,fun y hy=>(h.mi y hy).at,h.g.at,fun y hy=>⟨(h.gi y hy).1.at,(h.gi y hy).2.1.at,(h.gi y hy).2.2.at⟩,h.d.at,h.l.at⟩
theorem KV.offp (h:KV W x S) (k:Offp T W W') (hT:∀b,S b->¬T b):KV W' x S:=
 ⟨h.r.offp k hT,fun y hy=>(h.ri y hy).offp k hT,h.m.offp k hT,fun y hy=>(h.mi y hy).offp k hT,h.g.offp k hT,fun y hy=>⟨(h.gi y hy).1.offp k hT,(h.gi y hy).2.1.offp k hT,(h.gi y hy).2.2.offp k hT⟩,h.d.offp k hT,h.l.offp k hT⟩
theorem KV.below (h:KV W x S) (k:Below W.heap.size W W'):KV W' x S:=h.offp (T:=fun _=>False) (Offp.of_below k) (fun _ _ e=>e)
theorem KV.mono (h:KV W x S) (s:∀b,b<W.heap.size->S b->S' b):KV W x S' :=
 ⟨h.r.mono s,fun y hy=>(h.ri y hy).mono s,h.m.mono s,fun y hy=>(h.mi y hy).mono s,h.g.mono s,fun y hy=>⟨(h.gi y hy).1.mono s,(h.gi y hy).2.1.mono s,(h.gi y hy).2.2.mono s⟩,h.d.mono s,h.l.mono s⟩
theorem Pl.av {α:Type} [Cel α] {A:Option Addr} {l:List α} {b:Nat} (h:Pl W A l b) (hS:S b):Av W A l S:= .inr ⟨b,0,h.a,h.lt,h.i,hS⟩
theorem KQ.kv {br bg bd bl:Nat} (h:KQ W x S br bg bd bl):KV W x S:=
 ⟨h.r.av h.s.1,fun y hy=>(h.ri y hy).mono (fun _ _ e=>e.1),h.m.mono (fun _ _ e=>e.1),fun y hy=>(h.mi y hy).mono (fun _ _ e=>e.1),h.g.av h.s.2.1,fun y hy=>⟨(h.gi y hy).1.mono (fun _ _ e=>e.1),(h.gi y hy).2.1.mono (fun _ _ e=>e.1),(h.gi y hy).2.2.mono (fun _ _ e=>e.1)⟩,h.d.av h.s.2.2.1,h.l.av h.s.2.2.2⟩
theorem Own.av {α:Type} [Cel α] {P:World->α->(Nat->Prop)->Prop} {A:Option Addr} {l:List α} (h:Own P W A l S):Av W A l S:=
 h.imp id fun⟨b,o,fp,e,hs,hf,hO⟩=>⟨b,o,e,hO.lt,hO.lst,hs⟩
theorem Own.mem {α:Type} [Cel α] {P:World->α->(Nat->Prop)->Prop} {A:Option Addr} {l:List α} (h:Own P W A l S) {y:α} (hy:y∈l):∃F:Nat->Prop,P W y F/\∀z,F z->S z:=by
 rcases h with h|⟨b,o,fp,e,hs,hf,hO⟩
 . subst h;simp at hy
 . obtain⟨i,hi,rfl⟩:=List.mem_iff_getElem.1 hy;exact⟨fp i,hO.sub i hi,hf i⟩
theorem KOwn.kv (h:KOwn W x S):KV W x S:=by
 obtain⟨col,h⟩:=h;refine⟨h.r.av.mono (fun _ _ e=>e.1),fun y hy=> ?_,h.m.av.mono (fun _ _ e=>e.1),fun y hy=> ?_,h.g.av.mono (fun _ _ e=>e.1),fun y hy=> ?_,Av.of_sub h.d (fun _ e=>e.1),Av.of_sub h.l (fun _ e=>e.1)⟩
 . obtain⟨F,hF,hS⟩:=h.r.mem hy;exact Av.of_sub hF (fun z hz=>(hS z hz).1)
 . obtain⟨F,hF,hS⟩:=h.m.mem hy;exact Av.of_sub hF (fun z hz=>(hS z hz).1)
 . obtain⟨F,⟨S1,S2,S3,i1,i2,i3,_,_,_,s1,s2,s3⟩,hS⟩:=h.g.mem hy;exact⟨Av.of_sub s1 (fun z hz=>(hS z (i1 z hz)).1),Av.of_sub s2 (fun z hz=>(hS z (i2 z hz)).1),Av.of_sub s3 (fun z hz=>(hS z (i3 z hz)).1)⟩
end
theorem Qen {α:Type} [Cel α] {B g:Nat} {W:World} {t:TypeId} (h:B<=W.heap.size) (hg:g=W.heap.size):(W.alloc (.cells #[] t)).ownsRow B t (Cel.k α) (.slice (some ⟨g,0,none⟩) ([]:List α).length 0) ([]:List α).length (flat ([]:List α)):=by
 subst hg;exact⟨by simp[flat],.inr ⟨W.heap.size,0,#[],rfl,h,Blk.new W t #[],by simp,by simp[maxLen],by simp,by simp[flat]⟩⟩
structure Al (w W:World) (PT:Nat) (sc:Array Value) (a:Option Addr) (c:Nat) (xs:List An) (y:KC) (lo hi:Nat):Prop where
  sb:Blk W w.heap.size 25 sc
  rb:Blk W (w.heap.size+1) 32 Qae
  kb:Blk W PT 32 y.cells
  kv:KV W y (fun b=>lo<=b/\b<hi)
  hi' :hi<=W.heap.size
  own:W.ownsRow (w.heap.size+1+1) 88 4 (.slice a xs.length c) xs.length (flat xs)
  ob:∀z,(Value.slice a xs.length c).ownBlock=some z->¬(lo<=z/\z<hi)/\z≠PT
  bl:Below w.heap.size w W
  pt:w.heap.size+1<PT/\¬(lo<=PT/\PT<hi)
  lo' :w.heap.size+1<lo
section
variable {w W W' :World} {PT:Nat} {sc:Array Value} {a:Option Addr} {c:Nat} {xs:List An} {y:KC} {lo hi:Nat}
theorem Al.below (h:Al w W PT sc a c xs y lo hi) (g:Below W.heap.size W W'):Al w W' PT sc a c xs y lo hi:=
 ⟨h.sb.below g h.sb.lt,h.rb.below g h.rb.lt,h.kb.below g h.kb.lt,h.kv.below g,Nat.le_trans h.hi' g.size,Qav h.own g,h.ob,via0 g h.bl,h.pt,h.lo'⟩
theorem Al.alloc (h:Al w W PT sc a c xs y lo hi) (ob:Obj):Al w (W.alloc ob) PT sc a c xs y lo hi:=h.below (Qad (Below.refl _ _) _)
theorem Al.drew (h:Al w W PT sc a c xs y lo hi):Al w W.drew PT sc a c xs y lo hi:=h.below (Below.refl _ _).drew
theorem Al.only {q:Nat} (h:Al w W PT sc a c xs y lo hi) (k:Only q W W') (hq:w.heap.size+1<q/\q≠PT/\¬(lo<=q/\q<hi)) (ho:(Value.slice a xs.length c).ownBlock≠some q):Al w W' PT sc a c xs y lo hi:=
 ⟨h.sb.only k (by omega),h.rb.only k (by omega),h.kb.only k (fun e=>hq.2.1 e.symm),h.kv.offp (Offp.of_only k) (fun b hb e=>hq.2.2 (e▸hb)),Nat.le_trans h.hi' k.size,Qbd h.own (Offp.of_only k) (fun z hz e=>ho (by rw[hz,e])),h.ob,h.bl.trans ((Off.of_only k).toBelow (by simp;omega) h.bl.size),h.pt,h.lo'⟩
theorem Al.setK (h:Al w W PT sc a c xs y lo hi) {y' :KC} {lo2 hi2:Nat} (k:Only PT W W') (hb:Blk W' PT 32 y'.cells) (hv:KV W y' (fun b=>lo2<=b/\b<hi2)) (h1:hi2<=W.heap.size) (h2:∀z,(Value.slice a xs.length c).ownBlock=some z->z<lo2) (h3:PT<lo2):Al w W' PT sc a c xs y' lo2 hi2:=by
 have hp:=h.pt;exact⟨h.sb.only k (by omega),h.rb.only k (by omega),hb,hv.offp (Offp.of_only k) (fun b hb e=>by omega),Nat.le_trans h1 k.size,Qbd h.own (Offp.of_only k) (fun z hz e=>(h.ob z hz).2 e),fun z hz=>⟨by have:=h2 z hz;omega,(h.ob z hz).2⟩,h.bl.trans ((Off.of_only k).toBelow (by simp;omega) h.bl.size),⟨hp.1,by omega⟩,by omega⟩
theorem Al.app (h:Al w W PT sc a c xs y lo hi) (x:An) (cs:Array Value) (hcs:cs.toList=Cel.cs x) (hx:xs.length<=1000000):
 ∃a2 c2 W2,(Builtin.append_ #[30,30] 30 #[.slice a xs.length c,.slice (some ⟨W.heap.size,0,none⟩) 1 1]).run Tryz.prog (W.alloc (.cells cs 88))= .ok (.slice a2 (xs.length+1) c2) W2/\Al w W2 PT sc a2 c2 (xs++ [x]) y lo hi:=by
 have h1:=h.alloc (.cells cs 88);have hX:At (W.alloc (.cells cs 88)) (some ⟨W.heap.size,0,none⟩) [x]:=by
  refine .inr ⟨_,0,rfl,by simp,fun j u hu=> ?_⟩;rw[Qdi,← hcs]at hu;rw[Nat.zero_add];exact(Blk.new W 88 cs).cell (by simpa using hu)
 have hsz:=h1.bl.size;have hrl:=h1.rb.lt;obtain⟨v',W2,hr,hown,hgrow,hob⟩:=Qbh (P:=Tryz.prog) (α:=An) Tryz.underlying30 infoAn rfl (by decide) (by decide) (w.heap.size+1+1) (.slice a xs.length c) xs [x] (some ⟨W.heap.size,0,none⟩) 1 _ (by omega) h1.own hX (by simp;omega);simp only[List.length_cons,List.length_nil,Nat.zero_add]at hown hr;obtain⟨a2,c2,rfl,_⟩:=Qao hown;have ko:=Qce hgrow;have hlo:∀z,(Value.slice a xs.length c).ownBlock=some z->w.heap.size+1<z:=fun z hz=>(h.own.lt z hz).1
 have hlen:(xs++ [x]).length=xs.length+1:=by simp
 refine⟨a2,c2,W2,hr,⟨h1.sb.offp ko (fun e=>by have:=hlo _ e;omega),h1.rb.offp ko (fun e=>by have:=hlo _ e;omega),h1.kb.offp ko (fun e=>(h.ob _ e).2 rfl),h1.kv.offp ko (fun b hb e=>(h.ob _ e).1 hb),Nat.le_trans h1.hi' ko.size,by rw[hlen];exact hown,?_,h1.bl.trans (ko.toBelow (fun z hz=>by have:=hlo _ hz;omega) h1.bl.size),h.pt,h.lo'⟩⟩;intro z hz;rw[hlen]at hz;rcases hob with h' |h'
 . rw[h']at hz;exact h.ob z hz
 . rw[h']at hz;simp only[World.size_alloc,Option.some.injEq]at hz;have h2:=h.hi';have h3:=h.kb.lt;exact⟨by omega,by omega⟩
end
end Go.Proofs.YtpippjjhelgnlaaGreat.Gen
