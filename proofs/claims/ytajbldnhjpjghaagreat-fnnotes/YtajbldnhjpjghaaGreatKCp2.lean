/-
  The specification's copy of a keeper, at this seat. No condition but that its lists have at most 1048576 records.
-/
import Derived.Test.YtajbldnhjpjghaaGreatGrpWo
import Derived.Deep.CutBlock
set_option linter.unusedVariables false
set_option linter.unusedSimpArgs false
set_option maxRecDepth 100000
set_option maxHeartbeats 8000000
set_option maxRecDepth 100000
set_option maxHeartbeats 8000000
namespace Go.Proofs.YtajbldnhjpjghaaGreat.Gen
open ChangeShapes WideShapes ChangeAt RowKit Joins Deep Base
open Items (It)
def lstC (m:Nat->Bool):Array Bool:= #[true,true,m 2,true,true,m 5,m 6,true,true,m 9,m 10,m 11,false]
def preC (i:Nat) (m:Nat->Bool):Bool:=if i=2 then !m 2&& !m 5&& !m 10 else if i=5 then m 2&& !m 5&& !m 10 else if i=6 then !m 6&& !m 9&& !m 10 else if i=9 then m 6&&m 5&& !m 9&& !m 10 else if i=10 then m 5&&m 9 else true
def tkC (m:Nat->Bool):Option Nat:=if m 5&&m 9&& !m 10 then some 10 else none
def Qtx (w w' :World) (e:Ending) (x:KC):Prop:=∃y br bg bd bl,e= .returned (.agg y.cells)/\y.p=x.p/\KQ w' y (fun b=>w.heap.size<=b/\b<w'.heap.size) br bg bd bl/\(∀g∈y.gs,(g.m.length<=g.c1/\g.c1<=9223372036854775807)/\(g.b.length<=g.c2/\g.c2<=9223372036854775807))/\Below w.heap.size w w'
theorem Qto {W:World} {a1 a2 a3:Option Addr} {m b o:List Int} {F:List Nat} {lo:Nat} (h:Gp W a1 a2 a3 m b o F) (hF:∀x∈F,lo<=x) (gen:Int) (c1 c2 c3:Nat):grpP W (⟨gen,a1,c1,m,a2,c2,b,a3,c3,o⟩:GC) (fun x=>lo<=x/\x<W.heap.size):=by
 have hlt:=h.lt;obtain⟨F1,F2,F3,rfl,s1,s2,s3,hnd⟩:=h;simp only[List.nodup_append]at hnd;have sub:∀{l:List Int} {a:Option Addr} {G:List Nat},Sl W a l G->Sub W a l (fun x=>x∈G):=fun hs=>by
  rcases hs with⟨e,_⟩|⟨b,o,e,rfl,hb,hi,ht⟩
  . exact .inl e
  . exact .inr ⟨b,o,e,by simp,hb,hi,ht⟩
 exact⟨fun x=>x∈F1,fun x=>x∈F2,fun x=>x∈F3,fun y hy=>⟨hF y (by simp[hy]),hlt y (by simp[hy])⟩,fun y hy=>⟨hF y (by simp[hy]),hlt y (by simp[hy])⟩,fun y hy=>⟨hF y (by simp[hy]),hlt y (by simp[hy])⟩,
  fun y h1 h2=>hnd.2.2 y h1 y (by simp[h2]) rfl,fun y h1 h2=>hnd.2.2 y h1 y (by simp[h2]) rfl,fun y h1 h2=>hnd.2.1.2.2 y h1 y h2 rfl,sub s1,sub s2,sub s3⟩
theorem Qsi {q P:Nat} {W:World} {a1 a2:Option Addr} {c1 c2:Nat} {l1:List Int} {l2:List An} {vs:Array Value} (h:Du q W (.slice a1 l1.length c1) (.slice a2 l2.length c2) l1 l2) (o:Blk W P 102 vs):Qty P W.heap.size (fun V=>Du q V (.slice a1 l1.length c1) (.slice a2 l2.length c2) l1 l2):=by
 intro V V' T p k hT;refine⟨Qbc p.o1 k (fun x hx e=> ?_),Qbc p.o2 k (fun x hx e=> ?_),Nat.le_trans p.q k.size⟩
 . rcases hT x e with rfl|e1
   . exact Qdb h.o1 o (by decide) x hx rfl
   . have:=(h.o1.lt x hx).2;omega
 . rcases hT x e with rfl|e1
   . exact Qdb h.o2 o (by decide) x hx rfl
   . have:=(h.o2.lt x hx).2;omega
theorem Qgv {α:Type} [Cel α] {B:Nat} {W:World} {t:TypeId} {a:Option Addr} {c:Nat} {xs:List α} (h:W.ownsRow B t (Cel.k α) (.slice a xs.length c) xs.length (flat xs)):xs= []∨∃b,a=some ⟨b,0,none⟩:=by
 rcases h.2 with⟨_,h0⟩|⟨g,c',cur,e,_⟩
 . exact .inl (List.length_eq_zero_iff.1 h0)
 . cases e;exact .inr ⟨g,rfl⟩
theorem Qpt {w W:World} {P s0 s1 s2:Nat} {pA qA a zA vA:Option Addr} {pc qc cp zc vc:Nat} {ps rs:List RC} {qs ms:List MC} {xs gs:List GC} {time:Int} {ds:List Int} {ls:List An} {kc:Array Value}
 (K:KP (α:=GC) grpP 143 (fun V=>((fun V=>Du (w.heap.size+2) V (.slice zA ds.length zc) (.slice vA ls.length vc) ds ls) V/\Own rowP V pA ps (fun b=>s0<=b/\b<s1))/\Own makP V qA qs (fun b=>s1<=b/\b<s2)) s2 w W kc P (Qaa pA (List.length ps) pc qA (List.length qs) qc a (List.length xs) cp time zA ds.length zc vA ls.length vc) a cp xs)
 (h0:P<s0/\w.heap.size+2<=s0) (h1:s0<=s1) (h2:s1<=s2) (z0:(∀x,(Value.slice zA ds.length zc).ownBlock=some x->x<s0)/\∀x,(Value.slice vA ls.length vc).ownBlock=some x->x<s0) (z1:ps= []∨∃b,pA=some ⟨b,0,none⟩)
 (m1:ps.map RC.p=rs.map RC.p) (m2:qs.map MC.p=ms.map MC.p) (m3:xs.map GC.p=gs.map GC.p)
 (hc:∀g∈xs,(g.m.length<=g.c1/\g.c1<=9223372036854775807)/\(g.b.length<=g.c2/\g.c2<=9223372036854775807)) (hr0:0<rs.length) (hg0:0<gs.length) (hd0:0<ds.length) (hl0:0<ls.length)
 (rA:Option Addr) (rc:Nat) (mA:Option Addr) (mc:Nat) (gA:Option Addr) (gc:Nat) (dA:Option Addr) (dc:Nat) (lA:Option Addr) (lc:Nat):
 Qtx w (putK W (w.heap.size+1) (.slice pA (List.length ps) pc) (.slice qA (List.length qs) qc) (.slice a (List.length xs) cp) (.int .i64 time) (.slice zA ds.length zc) (.slice vA ls.length vc)) (.returned (.agg (Qaa pA (List.length ps) pc qA (List.length qs) qc a (List.length xs) cp time zA ds.length zc vA ls.length vc))) (⟨rA,rc,rs,mA,mc,ms,gA,gc,gs,time,dA,dc,ds,lA,lc,ls⟩:KC):=by
 obtain⟨⟨hDu,hR⟩,hM⟩:=K.pk;have hG:=K.gu.toOwn;have hGz:=Qgv K.gu.own;have hsW:=K.gu.hB;have np:0<ps.length:=by have:=congrArg List.length m1;simp at this;omega
 have nx:0<xs.length:=by have:=congrArg List.length m3;simp at this;omega
 obtain⟨bd,hd,ld,ed⟩:=Pl.of_own hDu.o1 hd0;obtain⟨bl,hl,ll,el⟩:=Pl.of_own hDu.o2 hl0;have ud:=z0.1 bd ed;have ul:=z0.2 bl el;have hdl:bd≠bl:=by
  rcases hDu.o2.2 with⟨e,h3⟩|⟨g,c',cur,e,_,hg,_⟩
  . omega
  . cases e;have:bl=g:=(by simpa [Value.ownBlock]using el.symm);subst this;exact Qdb hDu.o1 (show Blk W bl 145 cur from hg) (by decide) bd ed
 obtain⟨br,o1,fp,e1,hs1,hf1,hO1⟩:=hR.resolve_left (fun e=>by subst e;simp at np);obtain⟨bg,o3,fg,e3,hs3,hf3,hO3⟩:=hG.resolve_left (fun e=>by subst e;simp at nx);have eo1:o1=0:=by
  rcases z1 with e|⟨b,e⟩
  . subst e;simp at np
  . rw[e]at e1;cases e1;rfl
 have eo3:o3=0:=by
  rcases hGz with e|⟨b,e⟩
  . subst e;simp at nx
  . rw[e]at e3;cases e3;rfl
 subst eo1 eo3;have KQ0:KQ W (⟨pA,pc,ps,qA,qc,qs,a,cp,xs,time,zA,zc,ds,vA,vc,ls⟩:KC) (fun b=>w.heap.size+2<=b) br bg bd bl:=by
  refine⟨⟨e1,hO1.lt,hO1.lst,hO1.th⟩,⟨e3,hO3.lt,hO3.lst,hO3.th⟩,hd,hl,?_,?_,?_,?_,⟨by omega,by omega,ld,ll⟩,⟨by omega,by omega,by omega,by omega,by omega,hdl⟩⟩
  . exact hM.imp id fun⟨b,o,fp,e,hs,_,hO⟩=>⟨b,o,e,hO.lt,hO.lst,by omega,by omega,by omega,by omega,by omega⟩
  . intro y hy;obtain⟨i,hi,rfl⟩:=List.getElem_of_mem hy;exact Av.of_sub (hO1.sub i hi) (fun x hx=>by have:=hf1 i x hx;exact⟨by omega,fun e=>hO1.nb i (e▸hx),by omega,by omega,by omega⟩)
  . intro y hy;rcases hM with e|⟨b,o,fm,e,hs,hf,hO⟩
    . simp only at hy;rw[e]at hy;simp at hy
    . obtain⟨i,hi,rfl⟩:=List.getElem_of_mem hy;exact Av.of_sub (hO.sub i hi) (fun x hx=>by have:=hf i x hx;exact⟨by omega,by omega,by omega,by omega,by omega⟩)
  . intro y hy;obtain⟨i,hi,rfl⟩:=List.getElem_of_mem hy;obtain⟨S1,S2,S3,i1,i2,i3,_,_,_,t1,t2,t3⟩:=hO3.sub i hi;have hin:∀x,fg i x->w.heap.size+2<=x/\x≠br/\x≠bg/\x≠bd/\x≠bl:=fun x hx=>by have:=hf3 i x hx;exact⟨by omega,by omega,fun e=>hO3.nb i (e▸hx),by omega,by omega⟩
    exact⟨Av.of_sub t1 (fun x hx=>hin x (i1 x hx)),Av.of_sub t2 (fun x hx=>hin x (i2 x hx)),Av.of_sub t3 (fun x hx=>hin x (i3 x hx))⟩
 have k:=Offp.of_only (Qaw W (w.heap.size+1) (.slice pA (List.length ps) pc) (.slice qA (List.length qs) qc) (.slice a (List.length xs) cp) (.int .i64 time) (.slice zA ds.length zc) (.slice vA ls.length vc));exact⟨_,br,bg,bd,bl,rfl,by simp only[KC.p,m1,m2,m3],(KQ0.offp k (fun b hb e=>by omega)).mono (fun b hb hs=>⟨by omega,hb⟩),hc,K.kd.bl.trans (k.toBelow (fun x hx=>by omega) K.kd.bl.size)⟩
theorem Qmu (rA:Option Addr) (rc:Nat) (rs:List RC) (mA:Option Addr) (mc:Nat) (ms:List MC) (gA:Option Addr) (gc:Nat) (gs:List GC) (time:Int) (dA:Option Addr) (dc:Nat) (ds:List Int) (lA:Option Addr) (lc:Nat) (ls:List An) (hrl:rs.length<=1048576) (hml:ms.length<=1048576) (hgl:gs.length<=1048576) (hdl:ds.length<=1048576) (hll:ls.length<=1048576)
 (hri:∀y∈rs,y.its.length<=1048576) (hmi:∀y∈ms,y.ms.length<=1048576) (hgi:∀y∈gs,y.m.length<=1048576/\y.b.length<=1048576/\y.o.length<=1048576) (hr0:0<rs.length) (hg0:0<gs.length) (hd0:0<ds.length) (hl0:0<ls.length) (w:World) (hx:KAt w (⟨rA,rc,rs,mA,mc,ms,gA,gc,gs,time,dA,dc,ds,lA,lc,ls⟩:KC)):
 Calls Tryz.prog 104 #[.agg (Qaa rA rs.length rc mA ms.length mc gA gs.length gc time dA ds.length dc lA ls.length lc)] w fun e w' =>Qtx w w' e (⟨rA,rc,rs,mA,mc,ms,gA,gc,gs,time,dA,dc,ds,lA,lc,ls⟩:KC):=by
 have HX:=hidP hx;have HD:Hid (At w dA ds):=hx.da;have HL:Hid (At w lA ls):=hx.la;have Hri:=hidP hri;have Hmi:=hidP hmi;have Hgi:=hidP hgi;clear hx hri hmi hgi;have I:Kd w ((w.alloc (.cells (Qaa rA rs.length rc mA ms.length mc gA gs.length gc time dA ds.length dc lA ls.length lc) 102)).alloc (.cells Qae 102)).drew (Qaa rA rs.length rc mA ms.length mc gA gs.length gc time dA ds.length dc lA ls.length lc):=⟨by repeat(first|exact Below.refl _ _|assumption|refine via0 (by assumption) ?_|refine Below.drew ?_|refine Qad ?_ _),(Blk.new w 102 (Qaa rA rs.length rc mA ms.length mc gA gs.length gc time dA ds.length dc lA ls.length lc)).alloc _,by have:=Blk.new (w.alloc (.cells (Qaa rA rs.length rc mA ms.length mc gA gs.length gc time dA ds.length dc lA ls.length lc) 102)) 102 Qae;rw[World.size_alloc]at this;exact this⟩
 have T:=Du.nil (w.heap.size+2) ((w.alloc (.cells (Qaa rA rs.length rc mA ms.length mc gA gs.length gc time dA ds.length dc lA ls.length lc) 102)).alloc (.cells Qae 102)).drew (by simp);go_enter Tryz.func104,Tryz.ntmps104;go_upto_region 1 with fail;go_cut [3]from 7 to 17 (fun s wx=>∃(P:Nat) (x1 x2:Option Addr) (y1 y2:Nat),s= .pointer (some ⟨P,0,none⟩)/\Kd w wx (Qaa rA rs.length rc mA ms.length mc gA gs.length gc time dA ds.length dc lA ls.length lc)/\Blk wx P 102 (Qaa none 0 0 none 0 0 none 0 0 time x1 ds.length y1 x2 ls.length y2)/\Du (w.heap.size+2) wx (.slice x1 ds.length y1) (.slice x2 ls.length y2) ds ls/\w.heap.size+1<P)
 case first=>
  have MkS:∀W:World,Kd w W (Qaa rA rs.length rc mA ms.length mc gA gs.length gc time dA ds.length dc lA ls.length lc)->(fun(w' :World)=>w'.cell? ⟨w.heap.size,3,none⟩=some (.int .i64 time)/\w'.cell? ⟨w.heap.size,4,none⟩=some (.slice dA ds.length dc)/\w'.cell? ⟨w.heap.size,5,none⟩=some (.slice lA ls.length lc)) W:=fun W I=>by exact⟨I.k.row6.2.2.2.1,I.k.row6.2.2.2.2.1,I.k.row6.2.2.2.2.2⟩
  refine wp_region_noPanic ?_;refine wp_region_held_drew (S:=fun(w' :World)=>w'.cell? ⟨w.heap.size,3,none⟩=some (.int .i64 time)/\w'.cell? ⟨w.heap.size,4,none⟩=some (.slice dA ds.length dc)/\w'.cell? ⟨w.heap.size,5,none⟩=some (.slice lA ls.length lc)) (by kernel_rfl) ?_ (fun hH=> ?_)
  . exact MkS _ I
  refine ztk [0,1,3,4,7,8] ?_;repeat(refine ztn (h:= ?_);try simp only[zX,zY])
  refine zte ?_;generalize ((w.alloc (.cells (Qaa rA rs.length rc mA ms.length mc gA gs.length gc time dA ds.length dc lA ls.length lc) 102)).alloc (.cells Qae 102)).drew=u0 at I T hH ⊢;obtain⟨AA,hAA⟩:∃f:(Nat->Bool)->(Nat->Value)->Array Value,f=(fun(m:Nat->Bool) (v:Nat->Value)=> #[.agg (Qaa rA rs.length rc mA ms.length mc gA gs.length gc time dA ds.length dc lA ls.length lc),.pointer (some ⟨w.heap.size,0,none⟩),.pointer (some ⟨w.heap.size+1,0,none⟩),sl m v 11,undef,undef,undef,.pointer (some ⟨w.heap.size,3,none⟩),.int .i64 time,sl m v 2,.pointer (some ⟨w.heap.size,4,none⟩),.slice dA ds.length dc,sl m v 5,sl m v 6,.pointer (some ⟨w.heap.size,5,none⟩),.slice lA ls.length lc,sl m v 9,sl m v 10,undef,undef,undef,undef,undef,undef,undef,undef,undef,undef,undef,undef,undef,undef,undef,undef,undef,undef,undef,undef,undef,undef,undef,undef,undef,undef,undef,undef,undef,undef,undef,undef,undef,undef,undef,undef,undef,undef,undef,undef,undef,undef,undef,undef,undef,undef,undef,undef,undef,undef,undef,undef,undef,undef,undef]):=⟨_,rfl⟩
  obtain⟨R,hR0⟩:∃T:(Nat->Bool)->Act->World->Prop,T=(fun m a W=>∃(v:Nat->Value) (v1 v2:Value) (l1:List Int) (l2:List An),a={tmps:=AA m v,defers:= []}/\Kd w W (Qaa rA rs.length rc mA ms.length mc gA gs.length gc time dA ds.length dc lA ls.length lc)/\Du (w.heap.size+2) W v1 v2 l1 l2/\(m 2=false->v1= .slice none 0 0/\l1= [])/\(m 2=true->m 5=false->l1= []/\v 2=v1)/\(m 5=true->l1=ds/\∃x y,v1= .slice x ds.length y/\v 5=v1)/\(m 6=false->v2= .slice none 0 0/\l2= [])/\(m 6=true->m 9=false->l2= []/\v 6=v2)/\(m 9=true->l2=ls/\∃x y,v2= .slice x ls.length y/\v 9=v2)/\(m 10=true->v 10= .agg #[.slice none 0 0,.slice none 0 0,.slice none 0 0,.int .i64 time,v 5,v 9])/\(m 11=true->∃b:Nat,v 11= .pointer (some ⟨b,0,none⟩)/\Blk W b 102 Qae/\w.heap.size+1<b)):=⟨_,rfl⟩
  refine Qpo (n1:=1+6) (l1:=lstC (fun _=>false)) (T:=R (fun _=>false)) (fun a W hT hS=>Qgi [2,5,6,9,11] [10] lstC preC tkC R ?hl ?step ?take ?tail 6 (fun _=>false) a W (by kernel_rfl) hT hS) (by kernel_rfl) (by rw[hR0];exact⟨fun _=>undef,_,_,[],[],by rw[hAA];rfl,I,T,(fun _=>⟨rfl,rfl⟩),(fun e=>by cases e),(fun e=>by cases e),(fun _=>⟨rfl,rfl⟩),(fun e=>by cases e),(fun e=>by cases e),(fun e=>by cases e),(fun e=>by cases e)⟩) hH
  case hl=>
   intro i hi m;simp only[List.cons_append,List.nil_append,List.mem_cons,List.not_mem_nil,or_false]at hi;rcases hi with rfl|rfl|rfl|rfl|rfl|rfl<;>rfl
  case step=>
   clear hH I T;intro i hi m a W hp hT hS;rw[hR0]at hT ⊢;obtain⟨v,v1,v2,l1,l2,rfl,I,T,a0,a2,a5,b6,b7,b9,c10,o11⟩:=hT;simp only[List.mem_cons,List.not_mem_nil,or_false]at hi;rcases hi with rfl|rfl|rfl|rfl|rfl
   . have q:(m 2=false/\m 5=false)/\m 10=false:=(by simpa [preC]using hp);obtain⟨rfl,rfl⟩:=a0 q.1.1;have T2:=T.new1 (g:=W.heap.size) rfl;have I2:=I.alloc (.cells #[] 3);refine⟨_,rfl,fun K hK=> ?_⟩;subst hAA;go_simp;exact hK.out _ _ (MkS _ I2) ⟨updv v 2 (.slice (some ⟨W.heap.size,0,none⟩) 0 0),_,v2,[],l2,rfl,I2,T2,(fun e=>by simp[updm]at e),(fun _ _=>⟨rfl,rfl⟩),(fun e=>by simp[updm,q.1.2]at e),b6,b7,b9,(fun e=>by simp[updm,q.2]at e),fun e=>by obtain⟨b,e1,e2,e3⟩:=o11 e;exact⟨b,e1,e2.alloc _,e3⟩⟩
   . have q:(m 2=true/\m 5=false)/\m 10=false:=(by simpa [preC]using hp);obtain⟨rfl,e2⟩:=a2 q.1.1 q.1.2;have s2:sl m v 2=v1:=(by simp only[sl,q.1.1,if_true,e2]);obtain⟨x,y,w1,hr,T2,hk,hb⟩:=T.app1 (cap:=dc) (HD.out.below I.bl) hdl;have I2:=I.kept hk hb;rw[← s2]at hr;refine⟨_,rfl,fun K hK=> ?_⟩;subst hAA;rw[if_pos (by rfl)];refine Qai _ _ _ (by rfl) _ _ _ (by rfl) (by rfl) hr ?_;exact hK.out _ _ (MkS _ I2) ⟨updv v 5 (.slice x ds.length y),_,v2,ds,l2,rfl,I2,T2,(fun e=>absurd (e.symm.trans q.1.1) (by decide)),(fun _ e=>by simp[updm]at e),(fun _=>⟨rfl,x,y,rfl,rfl⟩),b6,b7,b9,(fun e=>by simp[updm,q.2]at e),fun e=>by obtain⟨b,e1,e2,e3⟩:=o11 e;exact⟨b,e1,hk _ _ e2,e3⟩⟩
   . have q:(m 6=false/\m 9=false)/\m 10=false:=(by simpa [preC]using hp);obtain⟨rfl,rfl⟩:=b6 q.1.1;have T2:=T.new2 (g:=W.heap.size) rfl;have I2:=I.alloc (.cells #[] 145);refine⟨_,rfl,fun K hK=> ?_⟩;subst hAA;go_simp;exact hK.out _ _ (MkS _ I2) ⟨updv v 6 (.slice (some ⟨W.heap.size,0,none⟩) 0 0),v1,_,l1,[],rfl,I2,T2,a0,a2,a5,(fun e=>by simp[updm]at e),(fun _ _=>⟨rfl,rfl⟩),(fun e=>by simp[updm,q.1.2]at e),(fun e=>by simp[updm,q.2]at e),fun e=>by obtain⟨b,e1,e2,e3⟩:=o11 e;exact⟨b,e1,e2.alloc _,e3⟩⟩
   . have q:((m 6=true/\m 5=true)/\m 9=false)/\m 10=false:=(by simpa [preC]using hp);obtain⟨rfl,e2⟩:=b7 q.1.1.1 q.1.2;have s2:sl m v 6=v2:=(by simp only[sl,q.1.1.1,if_true,e2]);obtain⟨x,y,w1,hr,T2,hk,hb⟩:=T.app2 (cap:=lc) (HL.out.below I.bl) hll;have I2:=I.kept hk hb;rw[← s2]at hr;refine⟨_,rfl,fun K hK=> ?_⟩;subst hAA;rw[if_pos (by rfl)];refine Qai _ _ _ (by rfl) _ _ _ (by rfl) (by rfl) hr ?_;exact hK.out _ _ (MkS _ I2) ⟨updv v 9 (.slice x ls.length y),v1,_,l1,ls,rfl,I2,T2,a0,a2,a5,(fun e=>absurd (e.symm.trans q.1.1.1) (by decide)),(fun _ e=>by simp[updm]at e),(fun _=>⟨rfl,x,y,rfl,rfl⟩),(fun e=>by simp[updm,q.2]at e),fun e=>by obtain⟨b,e1,e2,e3⟩:=o11 e;exact⟨b,e1,hk _ _ e2,e3⟩⟩
   . have I2:=I.alloc (.cells Qae 102);have T2:=T.alloc (.cells Qae 102);have hq0:=T.q;refine⟨_,rfl,fun K hK=> ?_⟩;subst hAA;go_simp;exact hK.out _ _ (MkS _ I2) ⟨updv v 11 (.pointer (some ⟨W.heap.size,0,none⟩)),v1,v2,l1,l2,rfl,I2,T2,a0,a2,a5,b6,b7,b9,c10,fun _=>⟨_,rfl,Blk.new W _ _,by omega⟩⟩
  case take=>
   clear hH I T;intro i hi m a W hp hT hS;rw[hR0]at hT ⊢;obtain⟨v,v1,v2,l1,l2,rfl,I,T,a0,a2,a5,b6,b7,b9,c10,o11⟩:=hT;simp only[List.mem_cons,List.not_mem_nil,or_false]at hi;subst hi;have q:m 5=true/\m 9=true:=(by simpa [preC]using hp);obtain⟨_,x1,y1,e1,f1⟩:=a5 q.1;obtain⟨_,x2,y2,e2,f2⟩:=b9 q.2;rw[e1]at f1;rw[e2]at f2;have s5:sl m v 5= .slice x1 ds.length y1:=(by simp only[sl,q.1,if_true,f1]);have s9:sl m v 9= .slice x2 ls.length y2:=(by simp only[sl,q.2,if_true,f2]);subst hAA;refine⟨_,.agg (Qaa none 0 0 none 0 0 none 0 0 time x1 ds.length y1 x2 ls.length y2),rfl,by rfl,fun w0 hS0=>by go_simp,⟨updv v 10 (.agg (Qaa none 0 0 none 0 0 none 0 0 time x1 ds.length y1 x2 ls.length y2)),v1,v2,l1,l2,?_,I,T,a0,a2,a5,b6,b7,b9,(fun _=>by simp[updv,f1,f2]),o11⟩⟩;simp[sl,updm,updv,q.1,q.2,f1,f2,Act.put]
  case tail=>
   clear hH I T;intro m a W hm hn hT hS;rw[hR0]at hT;obtain⟨v,v1,v2,l1,l2,rfl,I,T,a0,a2,a5,b6,b7,b9,c10,o11⟩:=hT;simp only[List.all_cons,List.all_nil,Bool.and_true,Bool.and_eq_true]at hm hn;obtain⟨m2,m5,m6,m9,m11⟩:=hm;obtain⟨e1,x1,y1,rfl,f1⟩:=a5 m5;obtain⟨e2,x2,y2,rfl,f2⟩:=b9 m9;rw[e1,e2]at T;obtain⟨P,f11,O,hP⟩:=o11 m11;have f10:=c10 hn;rw[f1,f2]at f10;subst hAA;simp only[sl,m2,m5,m6,m9,hn,m11,f1,f2,f10,f11,if_true,lstC];have k:=(Offp.refl (fun z=>z=P) W).row rfl (Qaa none 0 0 none 0 0 none 0 0 time x1 ds.length y1 x2 ls.length y2);have I9:=I.offp k (fun x hx=>by subst hx;exact hP);have O9:=O.row (Qaa none 0 0 none 0 0 none 0 0 time x1 ds.length y1 x2 ls.length y2);have T9:Du (w.heap.size+2) (W.setRow P (Qaa none 0 0 none 0 0 none 0 0 time x1 ds.length y1 x2 ls.length y2)) _ _ ds ls:=⟨Qbc T.o1 k (fun x hx e=>Qdb T.o1 O (by decide) x hx e),Qbc T.o2 k (fun x hx e=>Qdb T.o2 O (by decide) x hx e),Nat.le_trans T.q k.size⟩
   refine zR1 12 (fun K hK=> ?_);simp only[zG];rw[if_pos (by rfl)];refine wp_store_row 102 _ _ (by rfl) P (Qaa none 0 0 none 0 0 none 0 0 time x1 ds.length y1 x2 ls.length y2) (by rfl) (by rfl) 102 Qae O (by kernel_rfl) rfl (by simp[Value.oneCell']) ?_;refine hK.out _ _ (MkS _ I9) (fun hH=> ?_);clear hK K
   try simp only[zX,zY]
   refine zdn ?_;go_wp2_with fail
   go_meet
   exact⟨_,_,_,_,_,rfl,I9,O9,T9,hP⟩
 case rest=>
  obtain⟨P,zA,vA,zc,vc,rfl,I0,O0,T0,hP0⟩:=hcut;clear I T;have hs0:Hid (P<wc.heap.size/\w.heap.size+2<=wc.heap.size):=⟨O0.lt,T0.q⟩
  have KS0:Hid (KP (α:=RC) rowP 134 (fun V=>Du (w.heap.size+2) V (.slice zA ds.length zc) (.slice vA ls.length vc) ds ls) wc.heap.size w wc (Qaa rA rs.length rc mA ms.length mc gA gs.length gc time dA ds.length dc lA ls.length lc) P (Qaa none (List.length ([]:List RC)) 0 none 0 0 none 0 0 time zA ds.length zc vA ls.length vc) none 0 ([]:List RC)):=⟨I0,O0,hP0,O0.lt,GU.start (Nat.le_refl _) (Nat.le_refl _),T0,Qsi T0 O0⟩
  have HZ0:Hid ((∀x,(Value.slice zA ds.length zc).ownBlock=some x->x<wc.heap.size)/\∀x,(Value.slice vA ls.length vc).ownBlock=some x->x<wc.heap.size):=⟨fun x hx=>(T0.o1.lt x hx).2,fun x hx=>(T0.o2.lt x hx).2⟩
  clear I0 O0 T0;generalize hs_:wc.heap.size=s0 at KS0 hs0 HZ0;clear hs_;have KS:Hid (KP (α:=RC) rowP 134 (fun V=>Du (w.heap.size+2) V (.slice zA ds.length zc) (.slice vA ls.length vc) ds ls) s0 w wc (Qaa rA rs.length rc mA ms.length mc gA gs.length gc time dA ds.length dc lA ls.length lc) P (Qaa none (List.length ([]:List RC)) 0 none 0 0 none 0 0 time zA ds.length zc vA ls.length vc) none 0 ([]:List RC)):=KS0;clear KS0;go_wp2
  go_loopw [4] (fun v W=>∃(n cp:Nat) (a:Option Addr) (xs:List RC),v= .int .i64 (n:Int)/\n<=rs.length/\Hid (xs.length=n)/\Hid (KP (α:=RC) rowP 134 (fun V=>Du (w.heap.size+2) V (.slice zA ds.length zc) (.slice vA ls.length vc) ds ls) s0 w W (Qaa rA rs.length rc mA ms.length mc gA gs.length gc time dA ds.length dc lA ls.length lc) P (Qaa a (List.length xs) cp none 0 0 none 0 0 time zA ds.length zc vA ls.length vc) a cp xs)/\Hid (xs.map RC.p=(rs.take n).map RC.p)) (fun v _=>rs.length - (intOf v).toNat)
  case atStart=>exact⟨0,0,none,[],rfl,by omega,rfl,KS,by show _=_;simp⟩
  case round=>
   clear KS;obtain⟨n,cp,a,xs,rfl,hn,hxn,K,hM⟩:=hrel;have cK:=K.out.kd.k.row6;obtain⟨c0,c1,c2,c3,c4,c5⟩:=cK;have qk:=K.out.kd.k.lt;by_cases hlt:n<rs.length
   . obtain⟨bb,oo,rfl,hbs,hIn⟩:∃b o,rA=some ⟨b,o,none⟩/\b<w.heap.size/\In w b o rs:=by
      rcases(show At w rA rs from HX.out.ra)with h|h
      . subst h;simp at hlt
      . exact h
     have hym:=Hri.out _ (List.getElem_mem hlt);have hAy:=HX.out.re _ (List.getElem_mem hlt);have hTk:Hid ((rs.take (n+1)).map RC.p=(rs.take n).map RC.p++ [rs[n].p]):=(by show _=_;rw[List.take_succ_eq_append_getElem hlt,List.map_append];rfl);have hce:∀W:World,Below w.heap.size w W->_:=fun W g=>(hIn.below hbs g).getRC n hlt
     generalize rs[n]=y at hym hAy hTk hce;obtain⟨y0,y1,yA,yc,ym⟩:=y;simp only at hym hAy hce;have HAy:=hidP hAy;have hxl:Hid (xs.length<=2000000):=(by show _<=_;have:=hxn.out;omega);have KD:=hidP (K.out.drew Qfc);have hi0:(0:Int)<=(n:Int):=(by omega);have hi1:(n:Int)<(rs.length:Int):=(by omega);have mk:∀W:World,Blk W P 102 (Qaa a (List.length xs) cp none 0 0 none 0 0 time zA ds.length zc vA ls.length vc)->Kd w W (Qaa (some ⟨bb,oo,none⟩) rs.length rc mA ms.length mc gA gs.length gc time dA ds.length dc lA ls.length lc)->(fun(W:World)=>W.cell? ⟨P,0,none⟩=some (.slice a (List.length xs) cp)/\W.cell? ⟨w.heap.size,0,none⟩=some (.slice (some ⟨bb,oo,none⟩) rs.length rc)/\W.cell? ⟨bb,oo+n*3,none⟩=some (.int .i64 y0)/\W.cell? ⟨bb,oo+n*3+1,none⟩=some (.int .i64 y1)/\W.cell? ⟨bb,oo+n*3+2,none⟩=some (.slice yA ym.length yc)) W:=fun W hb hk=>⟨hb.cell (i:=0) rfl,hk.k.row6.1,hce W hk.bl⟩
     have hH:=mk wr.drew KD.out.box KD.out.kd;have MkS:=hidP mk;clear mk hAy K hce;go_wp2_with fail;clear c0 c1 c2 c3 c4 c5;refine wp_region_noPanic ?_;refine Qby 11 (fun(W:World)=>W.cell? ⟨P,0,none⟩=some (.slice a (List.length xs) cp)/\W.cell? ⟨w.heap.size,0,none⟩=some (.slice (some ⟨bb,oo,none⟩) rs.length rc)/\W.cell? ⟨bb,oo+n*3,none⟩=some (.int .i64 y0)/\W.cell? ⟨bb,oo+n*3+1,none⟩=some (.int .i64 y1)/\W.cell? ⟨bb,oo+n*3+2,none⟩=some (.slice yA ym.length yc)) (by kernel_rfl) ?_;refine zpk [0,1,2,3,4,5,6] ?_;repeat(refine zpn (h:= ?_);try simp only[zX,zY])
     refine zpe ?_;refine Qa0 (i:=7) (by kernel_rfl) rfl (fun K hK=> ?_);simp only[zG];go_simp;refine(Items.l3Copy_any y0 y1 yA yc ym hym _ (HAy.out.below KD.out.kd.bl)).mono ?_;rintro e v1w ⟨v1,rfl,ho1,g1⟩;obtain⟨b1,e1,rfl,_⟩:=Qao ho1;obtain⟨a2,c2',X,hr1,bx,dx,F⟩:=KD.out.round Qfc (pg:=Tryz.prog) (z:= .agg Qco) Tryz.underlying97 Qrc rfl (by decide) (by decide) g1 (⟨y0,y1,b1,e1,ym⟩:RC) (Qib (α:=It) ho1) (Qa5 y0 y1 b1 ym.length e1) rfl hxl.out 0;have K1:=KD.out.below Qfc g1;have T1:=MkS.out v1w K1.box K1.kd;have T2:=MkS.out (v1w.alloc (.cells (Qa5 y0 y1 b1 ym.length e1) 134)) (K1.box.alloc _) (K1.kd.alloc _);have T3:=MkS.out X bx dx;have fX:=bx.thaw 0;have hr1' :=hidP hr1;have F' :Hid (KP (α:=RC) rowP 134 (fun V=>Du (w.heap.size+2) V (.slice zA ds.length zc) (.slice vA ls.length vc) ds ls) s0 w (X.setCell ⟨P,0,none⟩ (.slice a2 (xs.length+1) c2')) (Qaa (some ⟨bb,oo,none⟩) rs.length rc mA ms.length mc gA gs.length gc time dA ds.length dc lA ls.length lc) P (Qaa a2 (List.length (xs++ [(⟨y0,y1,b1,e1,ym⟩:RC)])) c2' none 0 0 none 0 0 time zA ds.length zc vA ls.length vc) a2 c2' (xs++ [(⟨y0,y1,b1,e1,ym⟩:RC)])):=by
      show KP _ _ _ _ _ _ _ _ _ _ _ _;rw[List.length_append];exact F
     have hM' :Hid ((xs++ [(⟨y0,y1,b1,e1,ym⟩:RC)]).map RC.p=(rs.take (n+1)).map RC.p):=(by show _=_;rw[hTk.out,List.map_append,hM.out];rfl);have hxn' :Hid ((xs++ [(⟨y0,y1,b1,e1,ym⟩:RC)]).length=n+1):=(by show _=_;have:=hxn.out;simp;omega);clear F hr1 K1 bx dx ho1 g1;refine hK.out _ _ (Or.inr T1) ?_;clear hK K
     try simp only[zX,zY]
     refine Qa0 (i:=8) (by kernel_rfl) rfl (fun K hK=> ?_);simp only[zG];go_simp;refine hK.out _ _ (Or.inr T2) ?_;clear hK K
     try simp only[zX,zY]
     refine Qa0 (i:=9) (by kernel_rfl) rfl (fun K hK=> ?_);simp only[zG];rw[if_pos (by rfl)];refine Qai _ _ _ (by rfl) _ _ _ (by rfl) (by rfl) hr1'.out ?_;refine hK.out _ _ (Or.inr T3) ?_;clear hK K
     try simp only[zX,zY]
     refine zp1 10 ?_;refine zpn (h:= ?_);try simp only[zX,zY]
     refine zpe ?_;obtain⟨t0,t1,t2⟩:=T3;refine Qa0 (i:=11) (by kernel_rfl) rfl (fun K hK=> ?_);simp only[zG];go_simp;refine hK.out _ _ (Or.inl rfl) ?_;clear hK K
     try simp only[zX,zY]
     refine Qcl (by kernel_rfl) ?_ _;refine NoPanic.normal ?_;clear T1 T2 t0 t1 t2 fX hr1' hH MkS KD HAy;go_wp2;exact⟨⟨n+1,c2',a2,xs++ [(⟨y0,y1,b1,e1,ym⟩:RC)],by go_num,by omega,hxn',F',hM'⟩,by simp[intOf];omega⟩
   . obtain rfl:n=rs.length:=(by omega);have hM1:Hid (xs.map RC.p=rs.map RC.p):=(by show _=_;rw[hM.out,List.take_of_length_le (Nat.le_refl _)]);have hs1:=hidP K.out.gu.hB;have HZ1:=hidP (Qgv K.out.gu.own);have K1:=hidP (K.out.next (β:=MC) (Q:=makP) (u:=139) Qfc);have HM1:=hM1;have HN1:=hxn;clear K hM hM1 hxn;generalize hs_:wr.heap.size=s1 at K1 hs1;clear hs_;have KS:Hid (KP (α:=MC) makP 139 (fun V=>(fun V=>Du (w.heap.size+2) V (.slice zA ds.length zc) (.slice vA ls.length vc) ds ls) V/\Own rowP V a xs (fun b=>s0<=b/\b<s1)) s1 w wr (Qaa rA rs.length rc mA ms.length mc gA gs.length gc time dA ds.length dc lA ls.length lc) P (Qaa a (List.length xs) cp none (List.length ([]:List MC)) 0 none 0 0 time zA ds.length zc vA ls.length vc) none 0 ([]:List MC)):=K1;generalize a=pA at*;generalize cp=pc at*;generalize xs=ps at*;clear K1;go_wp2;clear c0 c1 c2 c3 c4 c5 qk
     go_loopw [5] (fun v W=>∃(n cp:Nat) (a:Option Addr) (xs:List MC),v= .int .i64 (n:Int)/\n<=ms.length/\Hid (xs.length=n)/\Hid (KP (α:=MC) makP 139 (fun V=>(fun V=>Du (w.heap.size+2) V (.slice zA ds.length zc) (.slice vA ls.length vc) ds ls) V/\Own rowP V pA ps (fun b=>s0<=b/\b<s1)) s1 w W (Qaa rA rs.length rc mA ms.length mc gA gs.length gc time dA ds.length dc lA ls.length lc) P (Qaa pA (List.length ps) pc a (List.length xs) cp none 0 0 time zA ds.length zc vA ls.length vc) a cp xs)/\Hid (xs.map MC.p=(ms.take n).map MC.p)) (fun v _=>ms.length - (intOf v).toNat)
     case atStart=>exact⟨0,0,none,[],rfl,by omega,rfl,KS,by show _=_;simp⟩
     case round=>
      clear KS;obtain⟨n,cp,a,xs,rfl,hn,hxn,K,hM⟩:=hrel;have cK:=K.out.kd.k.row6;obtain⟨c0,c1,c2,c3,c4,c5⟩:=cK;have qk:=K.out.kd.k.lt;by_cases hlt:n<ms.length
      . obtain⟨bb,oo,rfl,hbs,hIn⟩:∃b o,mA=some ⟨b,o,none⟩/\b<w.heap.size/\In w b o ms:=by
         rcases(show At w mA ms from HX.out.ma)with h|h
         . subst h;simp at hlt
         . exact h
        have hym:=Hmi.out _ (List.getElem_mem hlt);have hAy:=HX.out.me _ (List.getElem_mem hlt);have hTk:Hid ((ms.take (n+1)).map MC.p=(ms.take n).map MC.p++ [ms[n].p]):=(by show _=_;rw[List.take_succ_eq_append_getElem hlt,List.map_append];rfl);have hce:∀W:World,Below w.heap.size w W->_:=fun W g=>(hIn.below hbs g).getMC n hlt
        generalize ms[n]=y at hym hAy hTk hce;obtain⟨y0,y1,y2,y3,yA,yc,ym⟩:=y;simp only at hym hAy hce;have HAy:=hidP hAy;have hxl:Hid (xs.length<=2000000):=(by show _<=_;have:=hxn.out;omega);have KD:=hidP (K.out.drew Qfj);have hi0:(0:Int)<=(n:Int):=(by omega);have hi1:(n:Int)<(ms.length:Int):=(by omega);have mk:∀W:World,Blk W P 102 (Qaa pA (List.length ps) pc a (List.length xs) cp none 0 0 time zA ds.length zc vA ls.length vc)->Kd w W (Qaa rA rs.length rc (some ⟨bb,oo,none⟩) ms.length mc gA gs.length gc time dA ds.length dc lA ls.length lc)->(fun(W:World)=>W.cell? ⟨P,1,none⟩=some (.slice a (List.length xs) cp)/\W.cell? ⟨w.heap.size,1,none⟩=some (.slice (some ⟨bb,oo,none⟩) ms.length mc)/\W.cell? ⟨bb,oo+n*5,none⟩=some (.int .i64 y0)/\W.cell? ⟨bb,oo+n*5+1,none⟩=some (.int .i64 y1)/\W.cell? ⟨bb,oo+n*5+2,none⟩=some (.int .i64 y2)/\W.cell? ⟨bb,oo+n*5+3,none⟩=some (.int .i64 y3)/\W.cell? ⟨bb,oo+n*5+4,none⟩=some (.slice yA ym.length yc)) W:=fun W hb hk=>⟨hb.cell (i:=1) rfl,hk.k.row6.2.1,hce W hk.bl⟩
        have hH:=mk wr.drew KD.out.box KD.out.kd;have MkS:=hidP mk;clear mk hAy K hce;go_wp2_with fail;clear c0 c1 c2 c3 c4 c5;refine wp_region_noPanic ?_;refine Qby 11 (fun(W:World)=>W.cell? ⟨P,1,none⟩=some (.slice a (List.length xs) cp)/\W.cell? ⟨w.heap.size,1,none⟩=some (.slice (some ⟨bb,oo,none⟩) ms.length mc)/\W.cell? ⟨bb,oo+n*5,none⟩=some (.int .i64 y0)/\W.cell? ⟨bb,oo+n*5+1,none⟩=some (.int .i64 y1)/\W.cell? ⟨bb,oo+n*5+2,none⟩=some (.int .i64 y2)/\W.cell? ⟨bb,oo+n*5+3,none⟩=some (.int .i64 y3)/\W.cell? ⟨bb,oo+n*5+4,none⟩=some (.slice yA ym.length yc)) (by kernel_rfl) ?_;refine zpk [0,1,2,3,4,5,6] ?_;repeat(refine zpn (h:= ?_);try simp only[zX,zY])
        refine zpe ?_;refine Qa0 (i:=7) (by kernel_rfl) rfl (fun K hK=> ?_);simp only[zG];go_simp;refine(Qbb y0 y1 y2 y3 yA yc ym hym _ (HAy.out.below KD.out.kd.bl)).mono ?_;rintro e v1w ⟨v1,rfl,ho1,g1⟩;obtain⟨b1,e1,rfl,_⟩:=Qao ho1;obtain⟨a2,c2',X,hr1,bx,dx,F⟩:=KD.out.round Qfj (pg:=Tryz.prog) (z:= .agg Qdz) Tryz.underlying98 Qrd rfl (by decide) (by decide) g1 (⟨y0,y1,y2,y3,b1,e1,ym⟩:MC) (Qib (α:=Mk) ho1) (Qal y0 y1 y2 y3 b1 ym.length e1) rfl hxl.out 1;have K1:=KD.out.below Qfj g1;have T1:=MkS.out v1w K1.box K1.kd;have T2:=MkS.out (v1w.alloc (.cells (Qal y0 y1 y2 y3 b1 ym.length e1) 139)) (K1.box.alloc _) (K1.kd.alloc _);have T3:=MkS.out X bx dx;have fX:=bx.thaw 1;have hr1' :=hidP hr1;have F' :Hid (KP (α:=MC) makP 139 (fun V=>(fun V=>Du (w.heap.size+2) V (.slice zA ds.length zc) (.slice vA ls.length vc) ds ls) V/\Own rowP V pA ps (fun b=>s0<=b/\b<s1)) s1 w (X.setCell ⟨P,1,none⟩ (.slice a2 (xs.length+1) c2')) (Qaa rA rs.length rc (some ⟨bb,oo,none⟩) ms.length mc gA gs.length gc time dA ds.length dc lA ls.length lc) P (Qaa pA (List.length ps) pc a2 (List.length (xs++ [(⟨y0,y1,y2,y3,b1,e1,ym⟩:MC)])) c2' none 0 0 time zA ds.length zc vA ls.length vc) a2 c2' (xs++ [(⟨y0,y1,y2,y3,b1,e1,ym⟩:MC)])):=by
         show KP _ _ _ _ _ _ _ _ _ _ _ _;rw[List.length_append];exact F
        have hM' :Hid ((xs++ [(⟨y0,y1,y2,y3,b1,e1,ym⟩:MC)]).map MC.p=(ms.take (n+1)).map MC.p):=(by show _=_;rw[hTk.out,List.map_append,hM.out];rfl);have hxn' :Hid ((xs++ [(⟨y0,y1,y2,y3,b1,e1,ym⟩:MC)]).length=n+1):=(by show _=_;have:=hxn.out;simp;omega);clear F hr1 K1 bx dx ho1 g1;refine hK.out _ _ (Or.inr T1) ?_;clear hK K
        try simp only[zX,zY]
        refine Qa0 (i:=8) (by kernel_rfl) rfl (fun K hK=> ?_);simp only[zG];go_simp;refine hK.out _ _ (Or.inr T2) ?_;clear hK K
        try simp only[zX,zY]
        refine Qa0 (i:=9) (by kernel_rfl) rfl (fun K hK=> ?_);simp only[zG];rw[if_pos (by rfl)];refine Qai _ _ _ (by rfl) _ _ _ (by rfl) (by rfl) hr1'.out ?_;refine hK.out _ _ (Or.inr T3) ?_;clear hK K
        try simp only[zX,zY]
        refine zp1 10 ?_;refine zpn (h:= ?_);try simp only[zX,zY]
        refine zpe ?_;obtain⟨t0,t1,t2⟩:=T3;refine Qa0 (i:=11) (by kernel_rfl) rfl (fun K hK=> ?_);simp only[zG];go_simp;refine hK.out _ _ (Or.inl rfl) ?_;clear hK K
        try simp only[zX,zY]
        refine Qcl (by kernel_rfl) ?_ _;refine NoPanic.normal ?_;clear T1 T2 t0 t1 t2 fX hr1' hH MkS KD HAy;go_wp2;exact⟨⟨n+1,c2',a2,xs++ [(⟨y0,y1,y2,y3,b1,e1,ym⟩:MC)],by go_num,by omega,hxn',F',hM'⟩,by simp[intOf];omega⟩
      . obtain rfl:n=ms.length:=(by omega);have hM1:Hid (xs.map MC.p=ms.map MC.p):=(by show _=_;rw[hM.out,List.take_of_length_le (Nat.le_refl _)]);have hs2:=hidP K.out.gu.hB;have HZ2:=hidP (Qgv K.out.gu.own);have K1:=hidP (K.out.next (β:=GC) (Q:=grpP) (u:=143) Qfj);have HM2:=hM1;have HN2:=hxn;clear K hM hM1 hxn;generalize hs_:wr.heap.size=s2 at K1 hs2;clear hs_;have KS:Hid (KP (α:=GC) grpP 143 (fun V=>((fun V=>Du (w.heap.size+2) V (.slice zA ds.length zc) (.slice vA ls.length vc) ds ls) V/\Own rowP V pA ps (fun b=>s0<=b/\b<s1))/\Own makP V a xs (fun b=>s1<=b/\b<s2)) s2 w wr (Qaa rA rs.length rc mA ms.length mc gA gs.length gc time dA ds.length dc lA ls.length lc) P (Qaa pA (List.length ps) pc a (List.length xs) cp none (List.length ([]:List GC)) 0 time zA ds.length zc vA ls.length vc) none 0 ([]:List GC)):=K1;generalize a=qA at*;generalize cp=qc at*;generalize xs=qs at*;clear K1;go_wp2;clear c0 c1 c2 c3 c4 c5 qk
        go_loopw [6] (fun v W=>∃(n cp:Nat) (a:Option Addr) (xs:List GC),v= .int .i64 (n:Int)/\n<=gs.length/\Hid (xs.length=n)/\Hid (KP (α:=GC) grpP 143 (fun V=>((fun V=>Du (w.heap.size+2) V (.slice zA ds.length zc) (.slice vA ls.length vc) ds ls) V/\Own rowP V pA ps (fun b=>s0<=b/\b<s1))/\Own makP V qA qs (fun b=>s1<=b/\b<s2)) s2 w W (Qaa rA rs.length rc mA ms.length mc gA gs.length gc time dA ds.length dc lA ls.length lc) P (Qaa pA (List.length ps) pc qA (List.length qs) qc a (List.length xs) cp time zA ds.length zc vA ls.length vc) a cp xs)/\Hid (xs.map GC.p=(gs.take n).map GC.p)/\Hid (∀g∈xs,(g.m.length<=g.c1/\g.c1<=9223372036854775807)/\(g.b.length<=g.c2/\g.c2<=9223372036854775807))) (fun v _=>gs.length - (intOf v).toNat)
        case atStart=>exact⟨0,0,none,[],rfl,by omega,rfl,KS,by show _=_;simp,by show ∀g∈_,_;simp⟩
        case round=>
         clear KS;obtain⟨n,cp,a,xs,rfl,hn,hxn,K,hM,hCp⟩:=hrel;have cK:=K.out.kd.k.row6;obtain⟨c0,c1,c2,c3,c4,c5⟩:=cK;have qk:=K.out.kd.k.lt;by_cases hlt:n<gs.length
         . obtain⟨bb,oo,rfl,hbs,hIn⟩:∃b o,gA=some ⟨b,o,none⟩/\b<w.heap.size/\In w b o gs:=by
            rcases(show At w gA gs from HX.out.ga)with h|h
            . subst h;simp at hlt
            . exact h
           have hym:=Hgi.out _ (List.getElem_mem hlt);have hAy:=HX.out.ge _ (List.getElem_mem hlt);have hTk:Hid ((gs.take (n+1)).map GC.p=(gs.take n).map GC.p++ [gs[n].p]):=(by show _=_;rw[List.take_succ_eq_append_getElem hlt,List.map_append];rfl);have hce:∀W:World,Below w.heap.size w W->_:=fun W g=>(hIn.below hbs g).getGC n hlt
           generalize gs[n]=y at hym hAy hTk hce;obtain⟨y0,yA,yc,ym,yB,yd,yb,yC,ye,yo⟩:=y;simp only at hym hAy hce;have HAy:=hidP hAy;have hxl:Hid (xs.length<=2000000):=(by show _<=_;have:=hxn.out;omega);have KD:=hidP (K.out.drew Qdj);have hi0:(0:Int)<=(n:Int):=(by omega);have hi1:(n:Int)<(gs.length:Int):=(by omega);have mk:∀W:World,Blk W P 102 (Qaa pA (List.length ps) pc qA (List.length qs) qc a (List.length xs) cp time zA ds.length zc vA ls.length vc)->Kd w W (Qaa rA rs.length rc mA ms.length mc (some ⟨bb,oo,none⟩) gs.length gc time dA ds.length dc lA ls.length lc)->(fun(W:World)=>W.cell? ⟨P,2,none⟩=some (.slice a (List.length xs) cp)/\W.cell? ⟨w.heap.size,2,none⟩=some (.slice (some ⟨bb,oo,none⟩) gs.length gc)/\W.cell? ⟨bb,oo+n*4,none⟩=some (.int .i64 y0)/\W.cell? ⟨bb,oo+n*4+1,none⟩=some (.slice yA ym.length yc)/\W.cell? ⟨bb,oo+n*4+2,none⟩=some (.slice yB yb.length yd)/\W.cell? ⟨bb,oo+n*4+3,none⟩=some (.slice yC yo.length ye)) W:=fun W hb hk=>⟨hb.cell (i:=2) rfl,hk.k.row6.2.2.1,hce W hk.bl⟩
           have hH:=mk wr.drew KD.out.box KD.out.kd;have MkS:=hidP mk;clear mk hAy K hce;go_wp2_with fail;clear c0 c1 c2 c3 c4 c5;refine wp_region_noPanic ?_;refine Qby 11 (fun(W:World)=>W.cell? ⟨P,2,none⟩=some (.slice a (List.length xs) cp)/\W.cell? ⟨w.heap.size,2,none⟩=some (.slice (some ⟨bb,oo,none⟩) gs.length gc)/\W.cell? ⟨bb,oo+n*4,none⟩=some (.int .i64 y0)/\W.cell? ⟨bb,oo+n*4+1,none⟩=some (.slice yA ym.length yc)/\W.cell? ⟨bb,oo+n*4+2,none⟩=some (.slice yB yb.length yd)/\W.cell? ⟨bb,oo+n*4+3,none⟩=some (.slice yC yo.length ye)) (by kernel_rfl) ?_;refine zpk [0,1,2,3,4,5,6] ?_;repeat(refine zpn (h:= ?_);try simp only[zX,zY])
           refine zpe ?_;refine Qa0 (i:=7) (by kernel_rfl) rfl (fun K hK=> ?_);simp only[zG];go_simp;refine(Qdp y0 yA yB yC yc yd ye ym yb yo hym.1 hym.2.1 hym.2.2 _ (HAy.out.1.below KD.out.kd.bl) (HAy.out.2.1.below KD.out.kd.bl) (HAy.out.2.2.below KD.out.kd.bl)).mono ?_;rintro e v1w ⟨b1,b2,b3,e1,e2,e3,FF,rfl,g1,hGp,hFF,cp1,cp2⟩;have ho1:=hGp;obtain⟨a2,c2',X,hr1,bx,dx,F⟩:=KD.out.round Qdj (pg:=Tryz.prog) (z:= .agg Qcu) Tryz.underlying99 Qre rfl (by decide) (by decide) g1 (⟨y0,b1,e1,ym,b2,e2,yb,b3,e3,yo⟩:GC) (Qto hGp hFF y0 e1 e2 e3) (Qak y0 b1 ym.length e1 b2 yb.length e2 b3 yo.length e3) rfl hxl.out 2;have K1:=KD.out.below Qdj g1;have T1:=MkS.out v1w K1.box K1.kd;have T2:=MkS.out (v1w.alloc (.cells (Qak y0 b1 ym.length e1 b2 yb.length e2 b3 yo.length e3) 143)) (K1.box.alloc _) (K1.kd.alloc _);have T3:=MkS.out X bx dx;have fX:=bx.thaw 2;have hr1' :=hidP hr1;have F' :Hid (KP (α:=GC) grpP 143 (fun V=>((fun V=>Du (w.heap.size+2) V (.slice zA ds.length zc) (.slice vA ls.length vc) ds ls) V/\Own rowP V pA ps (fun b=>s0<=b/\b<s1))/\Own makP V qA qs (fun b=>s1<=b/\b<s2)) s2 w (X.setCell ⟨P,2,none⟩ (.slice a2 (xs.length+1) c2')) (Qaa rA rs.length rc mA ms.length mc (some ⟨bb,oo,none⟩) gs.length gc time dA ds.length dc lA ls.length lc) P (Qaa pA (List.length ps) pc qA (List.length qs) qc a2 (List.length (xs++ [(⟨y0,b1,e1,ym,b2,e2,yb,b3,e3,yo⟩:GC)])) c2' time zA ds.length zc vA ls.length vc) a2 c2' (xs++ [(⟨y0,b1,e1,ym,b2,e2,yb,b3,e3,yo⟩:GC)])):=by
            show KP _ _ _ _ _ _ _ _ _ _ _ _;rw[List.length_append];exact F
           have hM' :Hid ((xs++ [(⟨y0,b1,e1,ym,b2,e2,yb,b3,e3,yo⟩:GC)]).map GC.p=(gs.take (n+1)).map GC.p):=(by show _=_;rw[hTk.out,List.map_append,hM.out];rfl);have hxn' :Hid ((xs++ [(⟨y0,b1,e1,ym,b2,e2,yb,b3,e3,yo⟩:GC)]).length=n+1):=(by show _=_;have:=hxn.out;simp;omega);have hCp' :Hid (∀g∈xs++ [(⟨y0,b1,e1,ym,b2,e2,yb,b3,e3,yo⟩:GC)],(g.m.length<=g.c1/\g.c1<=9223372036854775807)/\(g.b.length<=g.c2/\g.c2<=9223372036854775807)):=by
            show ∀g∈_,_;intro g hg;rcases List.mem_append.1 hg with hg|hg
            . exact hCp.out g hg
            . simp at hg;subst hg;exact⟨cp1,cp2⟩
           clear F hr1 K1 bx dx ho1 g1;refine hK.out _ _ (Or.inr T1) ?_;clear hK K
           try simp only[zX,zY]
           refine Qa0 (i:=8) (by kernel_rfl) rfl (fun K hK=> ?_);simp only[zG];go_simp;refine hK.out _ _ (Or.inr T2) ?_;clear hK K
           try simp only[zX,zY]
           refine Qa0 (i:=9) (by kernel_rfl) rfl (fun K hK=> ?_);simp only[zG];rw[if_pos (by rfl)];refine Qai _ _ _ (by rfl) _ _ _ (by rfl) (by rfl) hr1'.out ?_;refine hK.out _ _ (Or.inr T3) ?_;clear hK K
           try simp only[zX,zY]
           refine zp1 10 ?_;refine zpn (h:= ?_);try simp only[zX,zY]
           refine zpe ?_;obtain⟨t0,t1,t2⟩:=T3;refine Qa0 (i:=11) (by kernel_rfl) rfl (fun K hK=> ?_);simp only[zG];go_simp;refine hK.out _ _ (Or.inl rfl) ?_;clear hK K
           try simp only[zX,zY]
           refine Qcl (by kernel_rfl) ?_ _;refine NoPanic.normal ?_;clear T1 T2 t0 t1 t2 fX hr1' hH MkS KD HAy;go_wp2;exact⟨⟨n+1,c2',a2,xs++ [(⟨y0,b1,e1,ym,b2,e2,yb,b3,e3,yo⟩:GC)],by go_num,by omega,hxn',F',hM',hCp'⟩,by simp[intOf];omega⟩
         . obtain rfl:n=gs.length:=(by omega);have hM1:Hid (xs.map GC.p=gs.map GC.p):=(by show _=_;rw[hM.out,List.take_of_length_le (Nat.le_refl _)]);have hs3:=hidP K.out.gu.hB;have O3:=hidP K.out.gu.toOwn;have KK:=K;obtain⟨r0,r1,r2,r3,r4,r5⟩:=KK.out.kd.r.row6;have f0:=KK.out.kd.r.thaw 0;have f1:=KK.out.kd.r.thaw 1;have f2:=KK.out.kd.r.thaw 2;have f3:=KK.out.kd.r.thaw 3;have f4:=KK.out.kd.r.thaw 4;have f5:=KK.out.kd.r.thaw 5;obtain⟨o0,o1,o2,o3,o4,o5⟩:=KK.out.box.row6;obtain⟨s0',s1',s2',s3',s4',s5'⟩:=Qbh KK.out.kd.r (.slice pA (List.length ps) pc) (.slice qA (List.length qs) qc) (.slice a (List.length xs) cp) (.int .i64 time) (.slice zA ds.length zc) (.slice vA ls.length vc);clear K;go_wp2;refine bodyPost_ret (v:= .agg (Qaa pA (List.length ps) pc qA (List.length qs) qc a (List.length xs) cp time zA ds.length zc vA ls.length vc)) (by simp[results,Tryz.results104,go_sem,s0',s1',s2',s3',s4',s5']) rfl ?_;exact Qpt KK.out hs0.out hs1.out hs2.out HZ0.out HZ1.out HM1.out HM2.out hM1.out hCp.out hr0 hg0 hd0 hl0 rA rc mA mc gA gc dA dc lA lc
theorem Blk.row8c {W:World} {B:Nat} {t:TypeId} {a b c d e f g h:Value} (x:Blk W B t #[a,b,c,d,e,f,g,h]):W.cell? ⟨B,0,none⟩=some a/\W.cell? ⟨B,1,none⟩=some b/\W.cell? ⟨B,2,none⟩=some c/\W.cell? ⟨B,3,none⟩=some d/\W.cell? ⟨B,4,none⟩=some e/\W.cell? ⟨B,5,none⟩=some f/\W.cell? ⟨B,6,none⟩=some g/\W.cell? ⟨B,7,none⟩=some h:=⟨x.cell (by rfl),x.cell (by rfl),x.cell (by rfl),x.cell (by rfl),x.cell (by rfl),x.cell (by rfl),x.cell (by rfl),x.cell (by rfl)⟩
def Qci (S:Nat->Prop) (w w' :World) (e:Ending) (p:PK) (a:An):Prop:=∃y br bg bd bl,e= .returned (.tuple #[.agg y.cells,.agg (Qax a.code a.n a.key a.text)])/\y.p=p/\KQ w' y (fun b=>S b∨w.heap.size<=b/\b<w'.heap.size) br bg bd bl/\Offp S w w'
structure Bx (S:Nat->Prop) (w W:World) (pk pc p1 p2:Nat) (kc cc:Array Value):Prop where
  off:Offp S w W
  k:Blk W pk 102 kc
  c:Blk W pc 55 cc
  r1:Blk W p1 102 Qae
  r2:Blk W p2 145 Qaq
  lo:w.heap.size<=pk/\w.heap.size<=pc/\w.heap.size<=p1/\w.heap.size<=p2
  ne:pk≠pc/\pk≠p1/\pk≠p2/\pc≠p1/\pc≠p2/\p1≠p2
  s:∀b,S b->b<w.heap.size
section
variable {S T:Nat->Prop} {w W W' :World} {pk pc p1 p2:Nat} {kc cc:Array Value}
theorem Bx.below (h:Bx S w W pk pc p1 p2 kc cc) (g:Below W.heap.size W W'):Bx S w W' pk pc p1 p2 kc cc:=
 ⟨h.off.below g,h.k.below g h.k.lt,h.c.below g h.c.lt,h.r1.below g h.r1.lt,h.r2.below g h.r2.lt,h.lo,h.ne,h.s⟩
theorem Bx.alloc (h:Bx S w W pk pc p1 p2 kc cc) (ob:Obj):Bx S w (W.alloc ob) pk pc p1 p2 kc cc:=h.below (Qad (Below.refl _ _) _)
theorem Bx.drew (h:Bx S w W pk pc p1 p2 kc cc):Bx S w W.drew pk pc p1 p2 kc cc:=h.below (Below.refl _ _).drew
theorem Bx.turn (h:Bx S w W pk pc p1 p2 kc cc) (k:Offp T W W') (hT:∀b,T b->S b∨(w.heap.size<=b/\b≠pk/\b≠pc/\b≠p1/\b≠p2)):Bx S w W' pk pc p1 p2 kc cc:=by
 have nk:∀p,w.heap.size<=p->(p=pk∨p=pc∨p=p1∨p=p2)->¬T p:=fun p hp he t=>by
  rcases hT p t with e|e
  . have:=h.s p e;omega
  . omega
 refine⟨?_,h.k.offp k (nk _ h.lo.1 (by simp)),h.c.offp k (nk _ h.lo.2.1 (by simp)),h.r1.offp k (nk _ h.lo.2.2.1 (by simp)),h.r2.offp k (nk _ h.lo.2.2.2 (by simp)),h.lo,h.ne,h.s⟩;exact⟨k.os.trans h.off.os,k.tape.trans h.off.tape,k.output.trans h.off.output,Nat.le_trans h.off.size k.size,fun i hi hn=>(k.block i (Nat.lt_of_lt_of_le hi h.off.size) (fun t=>(hT i t).elim hn (fun e=>by omega))).trans (h.off.block i hi hn)⟩
theorem Bx.setK (h:Bx S w W pk pc p1 p2 kc cc) (i:Nat) (v:Value):Bx S w (W.setCell ⟨pk,i,none⟩ v) pk pc p1 p2 (kc.setIfInBounds i v) cc:=by
 have k:=Offp.of_only ((Only.refl pk W).set i v);refine⟨?_,h.k.setAt i v,h.c.offp k (fun e=>h.ne.1 e.symm),h.r1.offp k (fun e=>h.ne.2.1 e.symm),h.r2.offp k (fun e=>h.ne.2.2.1 e.symm),h.lo,h.ne,h.s⟩;exact⟨k.os.trans h.off.os,k.tape.trans h.off.tape,k.output.trans h.off.output,Nat.le_trans h.off.size k.size,fun j hj hn=>(k.block j (Nat.lt_of_lt_of_le hj h.off.size) (fun t=>by have:=h.lo.1;omega)).trans (h.off.block j hj hn)⟩
end
abbrev putN (Y:World) (p:Nat) (v0 v1 v2 v3:Value):World:=(((Y.setCell ⟨p,0,none⟩ v0).setCell ⟨p,1,none⟩ v1).setCell ⟨p,2,none⟩ v2).setCell ⟨p,3,none⟩ v3
theorem Qa1 (Y:World) (p:Nat) (v0 v1 v2 v3:Value):Only p Y (putN Y p v0 v1 v2 v3):=((((Only.refl p Y).set 0 v0).set 1 v1).set 2 v2).set 3 v3
theorem Qgh {Y:World} {p:Nat} {t:TypeId} {x0 x1 x2 x3:Value} (h:Blk Y p t #[x0,x1,x2,x3]) (v0 v1 v2 v3:Value):Blk (putN Y p v0 v1 v2 v3) p t #[v0,v1,v2,v3]:=(((h.setAt 0 v0).setAt 1 v1).setAt 2 v2).setAt 3 v3
theorem Qbt {W:World} {p:Nat} {t:TypeId} {x0 x1 x2 x3:Value} (h:Blk W p t #[x0,x1,x2,x3]) (v0 v1 v2 v3:Value):
 (W.setCell ⟨p,0,none⟩ v0).cell? ⟨p,0,none⟩=some v0/\((W.setCell ⟨p,0,none⟩ v0).setCell ⟨p,1,none⟩ v1).cell? ⟨p,1,none⟩=some v1/\(((W.setCell ⟨p,0,none⟩ v0).setCell ⟨p,1,none⟩ v1).setCell ⟨p,2,none⟩ v2).cell? ⟨p,2,none⟩=some v2/\(putN W p v0 v1 v2 v3).cell? ⟨p,3,none⟩=some v3:=
 ⟨(h.setAt 0 v0).cell (by rfl),((h.setAt 0 v0).setAt 1 v1).cell (by rfl),(((h.setAt 0 v0).setAt 1 v1).setAt 2 v2).cell (by rfl),(Qgh h v0 v1 v2 v3).cell (by rfl)⟩
theorem Bx.told {S:Nat->Prop} {w W:World} {pk pc p1 p2:Nat} {kc cc:Array Value} (h:Bx S w W pk pc p1 p2 kc cc) {y:KC} {br bg bd bl:Nat} (hq:KQ W y (fun b=>S b∨(w.heap.size<=b/\b≠p1/\b≠p2)) br bg bd bl) (a:An) {v0 v1 v2 v3 v4 v5:Value} (hv:y.cells= #[v0,v1,v2,v3,v4,v5]):
 Qci S w (putN (putK W p1 v0 v1 v2 v3 v4 v5) p2 (.int .i64 a.code) (.int .i64 a.n) (.string a.key) (.string a.text)) (.returned (.tuple #[.agg #[v0,v1,v2,v3,v4,v5],.agg (Qax a.code a.n a.key a.text)])) y.p a:=by
 have k1:=Offp.of_only (Qaw W p1 v0 v1 v2 v3 v4 v5);have k2:=Offp.of_only (Qa1 (putK W p1 v0 v1 v2 v3 v4 v5) p2 (.int .i64 a.code) (.int .i64 a.n) (.string a.key) (.string a.text));have hs:=h.s;have hlo:=h.lo;refine⟨y,br,bg,bd,bl,by rw[hv],rfl,((hq.offp k1 (fun b hb e=> ?_)).offp k2 (fun b hb e=> ?_)).mono (fun b hb hb' =>hb'.imp id (fun e=>⟨e.1,hb⟩)),?_⟩
 . subst e;rcases hb with e|e
   . have:=hs _ e;omega
   . omega
 . subst e;rcases hb with e|e
   . have:=hs _ e;omega
   . omega
 . exact⟨k2.os.trans (k1.os.trans h.off.os),k2.tape.trans (k1.tape.trans h.off.tape),k2.output.trans (k1.output.trans h.off.output),Nat.le_trans h.off.size (Nat.le_trans k1.size k2.size),fun i hi hn=>(k2.block i (Nat.lt_of_lt_of_le hi (Nat.le_trans h.off.size k1.size)) (fun e=>by omega)).trans ((k1.block i (Nat.lt_of_lt_of_le hi h.off.size) (fun e=>by omega)).trans (h.off.block i hi hn))⟩
structure KLen (x:KC):Prop where
  rl:0<x.rs.length/\x.rs.length<=1000
  ml:x.ms.length<=100000
  gl:x.gs.length=2
  dl:x.ds.length=4
  ll:x.ls.length=4
  ri:∀y∈x.rs,y.its.length<=1000/\(∀z∈y.its,z.key.size<=30/\z.text.size<=30)/\I64 y.next
  mi:∀y∈x.ms,y.ms.length<=1000
  gi:∀y∈x.gs,y.m.length<=100000/\y.b.length=y.m.length/\y.o.length<=1000/\I64 y.gen/\(∀z∈y.m,I64 z)/\(∀z∈y.b,I64 z)/\(∀z∈y.o,I64 z)
  t:I64 x.time
theorem Qan {V:World} {b o B:Nat} {v:Value} (h:V.cell? ⟨b,o,none⟩=some v) (hne:b≠B) (cs:Array Value):(V.setRow B cs).cell? ⟨b,o,none⟩=some v:=by
 have hb:(V.setRow B cs).heap[b]? =V.heap[b]? :=setRow_other V B b cs hne;rw[← h];exact World.cell?_of_block (a:=⟨b,o,none⟩) hb
theorem end2 {P:Program} {md:Region.Mode} {ops:Array Oper} {Q:Go.Exit->Act->World->Prop} {S:World->Prop} {fuel:Nat} {listed:Array Bool} {a:Act} {w:World} (i j:Nat) {oi oj:Oper} {ty1 ty2:TypeId} {x1 y1 x2 y2:Operand} {p1 p2:Nat} {t1 t2:TypeId} {o1 o2 c1 c2:Array Value}
 (b1:Blk w p1 t1 o1) (b2:Blk w p2 t2 o2) (hne:p2≠p1) (s1:S (w.setRow p1 c1)) (s2:S ((w.setRow p1 c1).setRow p2 c2))
 (h:Q .normal a ((w.setRow p1 c1).setRow p2 c2))
 (hi:ops[i]? =some oi:=by rfl) (hj:ops[j]? =some oj:=by rfl) (ho1:oi.op= .store ty1 x1 y1:=by rfl) (ho2:oj.op= .store ty2 x2 y2:=by rfl) (hd1:oi.dst=none:=by rfl) (hd2:oj.dst=none:=by rfl)
 (hw1:Region.wanted oi (yielded ops a.tmps)=true:=by rfl) (hw2:Region.wanted oj (yielded ops a.tmps)=true:=by rfl)
 (hx1:a.eval x1= .pointer (some ⟨p1,0,none⟩):=by rfl) (hy1:a.eval y1= .agg c1:=by rfl) (hx2:a.eval x2= .pointer (some ⟨p2,0,none⟩):=by rfl) (hy2:a.eval y2= .agg c2:=by rfl)
 (i1:(P.info? ty1).map (·.size)=some c1.size:=by kernel_rfl) (i2:(P.info? ty2).map (·.size)=some c2.size:=by kernel_rfl) (z1:o1.size=c1.size:=by rfl) (z2:o2.size=c2.size:=by rfl) (n1:c1.all (·.oneCell')=true:=by simp[Value.oneCell']) (n2:c2.all (·.oneCell')=true:=by simp[Value.oneCell'])
 (r1:Region.ready md ops listed= [i]:=by kernel_rfl) (r2:Region.ready md ops (listed.setIfInBounds i true)= [j]:=by kernel_rfl) (r3:Region.ready md ops ((listed.setIfInBounds i true).setIfInBounds j true)= []:=by kernel_rfl):
 wpAnyH P md ops (NoPanic Q) S (fuel+1+1) listed a w:=by
 refine zR1 i (ho:=hi) (hr:=r1) (fun K hK=> ?_);rw[if_pos hw1];refine wp_store_row ty1 x1 y1 ho1 p1 c1 hx1 hy1 t1 o1 b1 i1 z1 n1 ?_;rw[hd1];refine hK.out _ _ s1 (fun _=> ?_);refine zR1 j (ho:=hj) (hr:=r2) (fun K2 hK2=> ?_);rw[if_pos (by exact hw2)];refine wp_store_row ty2 x2 y2 ho2 p2 c2 (by exact hx2) (by exact hy2) t2 o2 (b2.otherRow hne c1) i2 z2 n2 ?_;rw[hd2];refine hK2.out _ _ s2 (fun _=> ?_);exact zdn (by exact h) (hr:=r3)
theorem Qbu {P:Program} {fn:Func} {p q:Tmp} {ty tz:TypeId} (h:fn.results= #[.cell p ty,.cell q tz]) {tmps:Array Value} {w:World} {b c:Nat} (ht:tmps.getD p undef= .pointer (some ⟨b,0,none⟩)) (hq:tmps.getD q undef= .pointer (some ⟨c,0,none⟩)) {t u:TypeId} {vs us:Array Value} (r:Blk w b t vs) (s:Blk w c u us) {fs gs:Array Field} (hu:P.underlying ty=some (.struct fs)) (hv:P.underlying tz=some (.struct gs)) (hi:(P.info? ty).map (·.size)=some vs.size) (hj:(P.info? tz).map (·.size)=some us.size):(results fn tmps).run P w= .ok (.tuple #[.agg vs,.agg us]) w:=by
 have ht2:tmps[p]?.getD undef= .pointer (some ⟨b,0,none⟩):=by rw[← Array.getD_eq_getD_getElem?];exact ht
 have hq2:tmps[q]?.getD undef= .pointer (some ⟨c,0,none⟩):=by rw[← Array.getD_eq_getD_getElem?];exact hq
 have hl:=run_loadVar_row (P:=P) w b t ty vs (0,0) (.struct fs) r hu rfl hi;have hm:=run_loadVar_row (P:=P) w c u tz us (0,0) (.struct gs) s hv rfl hj;simp only[results,h];simp[ht2,hq2,asAddr,hl,hm]
theorem Bx.tell {S:Nat->Prop} {w W:World} {pk pc p1 p2:Nat} {kc cc:Array Value} (h:Bx S w W pk pc p1 p2 kc cc) {y:KC} {br bg bd bl:Nat} (hq:KQ W y (fun b=>S b∨(w.heap.size<=b/\b≠p1/\b≠p2)) br bg bd bl) (a:An) {cs ds:Array Value} (hv:y.cells=cs) (hd:(Qax a.code a.n a.key a.text)=ds):
 Qci S w ((W.setRow p1 cs).setRow p2 ds) (.returned (.tuple #[.agg cs,.agg ds])) y.p a:=by
 have k1:Offp (fun b=>b=p1) W (W.setRow p1 cs):=(Offp.refl (fun b=>b=p1) W).row (b:=p1) rfl cs;have k2:Offp (fun b=>b=p2) (W.setRow p1 cs) ((W.setRow p1 cs).setRow p2 ds):=(Offp.refl (fun b=>b=p2) _).row (b:=p2) rfl ds;have hs:=h.s;have hlo:=h.lo;refine⟨y,br,bg,bd,bl,by rw[hv,hd],rfl,((hq.offp k1 (fun b hb e=> ?_)).offp k2 (fun b hb e=> ?_)).mono (fun b hb hb' =>hb'.imp id (fun e=>⟨e.1,hb⟩)),?_⟩
 . subst e;rcases hb with e|e
   . have:=hs _ e;omega
   . omega
 . subst e;rcases hb with e|e
   . have:=hs _ e;omega
   . omega
 . exact⟨k2.os.trans (k1.os.trans h.off.os),k2.tape.trans (k1.tape.trans h.off.tape),k2.output.trans (k1.output.trans h.off.output),Nat.le_trans h.off.size (Nat.le_trans k1.size k2.size),fun i hi hn=>(k2.block i (Nat.lt_of_lt_of_le hi (Nat.le_trans h.off.size k1.size)) (fun e=>by omega)).trans ((k1.block i (Nat.lt_of_lt_of_le hi h.off.size) (fun e=>by omega)).trans (h.off.block i hi hn))⟩
open Go.Maps (Keyed)
open Go.ChangeMaps (setBlock heap_setBlock_same heap_setBlock_other)
def seen (l:List MC) (n:Nat) (row who:Int):Prop:=∃i,∃h:i<l.length,i<n/\l[i].row=row/\l[i].who=who
def Qsu (l:List MC) (n:Nat) (row who:Int):Bool:=(l.take n).any fun x=>x.row==row&&x.who==who
theorem Qp1 (l:List MC) (n:Nat) (row who:Int):seen l n row who↔Qsu l n row who=true:=by
 simp only[Qsu,List.any_eq_true,Bool.and_eq_true,beq_iff_eq]
 constructor
 . rintro ⟨i,h,hi,h1,h2⟩;exact⟨l[i],List.mem_take_iff_getElem.2 ⟨i,by omega,rfl⟩,h1,h2⟩
 . rintro ⟨x,hx,h1,h2⟩;obtain⟨i,hi,rfl⟩:=List.mem_take_iff_getElem.1 hx;exact⟨i,by omega,by omega,h1,h2⟩
instance (l:List MC) (n:Nat) (row who:Int):Decidable (seen l n row who):=decidable_of_iff _ (Qp1 l n row who).symm
def mofP (l:List MC) (row who:Int):PM:=match l.find? (fun x=>x.row==row&&x.who==who)with
  |some x=>x.p
  |none=>⟨row,who,0, -1,[]⟩
theorem Qr4 {l:List MC} {row who:Int} {j:Nat} (hj:j<l.length) (h1:l[j].row=row) (h2:l[j].who=who) (h3:¬seen l j row who):mofP l row who=l[j].p:=by
 have:l.find? (fun x=>x.row==row&&x.who==who)=some l[j]:=by
  refine List.find?_eq_some_iff_getElem.2 ⟨by simp[h1,h2],j,hj,rfl,fun i hi=> ?_⟩;have:¬(l[i].row=row/\l[i].who=who):=fun h=>h3 ⟨i,by omega,hi,h.1,h.2⟩
  simp;by_cases e1:l[i].row=row
  . exact .inr fun e2=>this ⟨e1,e2⟩
  . exact .inl e1
 unfold mofP;rw[this]
theorem Qoa {l:List MC} {row who:Int} (h:¬seen l l.length row who):mofP l row who=⟨row,who,0, -1,[]⟩:=by
 have:l.find? (fun x=>x.row==row&&x.who==who)=none:=by
  refine List.find?_eq_none.2 fun x hx=> ?_
  obtain⟨i,hi,rfl⟩:=List.getElem_of_mem hx;simp;intro e1 e2;exact h ⟨i,hi,hi,e1,e2⟩
 unfold mofP;rw[this]
theorem Qbx (A:Option Addr) (cap:Nat) (l:List MC) (row who:Int) (hl:l.length<=1048576) (hs:∀x∈l,x.ms.length<=1048576) (w:World) (hA:At w A l) (hE:Each w l):
 Calls Tryz.prog 125 (Qf3 A l.length cap row who) w fun e w' =>∃v,e= .returned (.agg #[.int .i64 (mofP l row who).row,.int .i64 (mofP l row who).who,.int .i64 (mofP l row who).epoch,.int .i64 (mofP l row who).last,v])/\w'.ownsRow w.heap.size 141 2 v (mofP l row who).ms.length (flat (mofP l row who).ms)/\Below w.heap.size w w' :=by
 have HA:=hidP hA;have HE:=hidP hE;have Hs:=hidP hs;clear hA hE hs;go_enter Tryz.func125,Tryz.ntmps125;go_wp2
 go_loopw [7] (fun i w' =>∃(n:Nat),i= .int .i64 (n:Int)/\n<=l.length/\Below w.heap.size w w' /\Hid (Blk w' w.heap.size 139 Qdz)/\Hid (¬seen l n row who)) (fun i _=>l.length - (intOf i).toNat)
 case atStart=>exact⟨0,rfl,by omega,Qad (Below.refl _ _) _,Blk.new _ _ _,by rintro ⟨i,h,hi,_⟩;omega⟩
 case round=>
  obtain⟨n,rfl,hn,B1,P1,hns⟩:=hrel;have p1:=P1.out;obtain⟨u0,u1,u2,u3,u4⟩:=p1.row5;have f0:=p1.thaw 0;have f1:=p1.thaw 1;have f2:=p1.thaw 2;have f3:=p1.thaw 3;have f4:=p1.thaw 4;have q1:=p1.lt;by_cases hlt:n<l.length
  . obtain⟨b,o,rfl,hbs,hIn⟩:∃b o,A=some ⟨b,o,none⟩/\b<w.heap.size/\In w b o l:=by
     rcases HA.out with h|h
     . subst h;simp at hlt
     . exact h
    obtain⟨c0,c1,c2,c3,c4⟩:=(hIn.below hbs B1).getMC n hlt;have hat:=hidP ((HE.out _ (List.getElem_mem hlt)).below B1);have hms:=Hs.out _ (List.getElem_mem hlt);have hi0:(0:Int)<=(n:Int):=(by omega);have hi1:(n:Int)<(l.length:Int):=(by omega);have hstep:¬(l[n].row=row/\l[n].who=who)->¬seen l (n+1) row who:=fun h=>by
     rintro ⟨i,hi,hin,h1,h2⟩;by_cases e:i=n
     . subst e;exact h ⟨h1,h2⟩
     . exact hns.out ⟨i,hi,by omega,h1,h2⟩
    by_cases hm:l[n].row=row/\l[n].who=who
    . have hF:=hidP (Qr4 hlt hm.1 hm.2 hns.out);have hd1:=decide_eq_true hm.1;have hd2:=decide_eq_true hm.2;have hd3:(l[n].row==row)=true:=(by simp[hm.1]);have hd4:(l[n].who==who)=true:=(by simp[hm.2]);clear hstep hm;generalize l[n]=y at c0 c1 c2 c3 c4 hat hms hd1 hd2 hd3 hd4 hF;obtain⟨yr,yw,ye,yl,yA,yc,ys⟩:=y;simp only at c0 c1 c2 c3 c4 hat hms hd1 hd2 hd3 hd4;go_wp2_with fail;refine(Qbb yr yw ye yl yA yc ys hms _ hat.out).mono ?_;rintro e w2 ⟨v,rfl,hown,g2⟩;obtain⟨a,c,rfl,hc⟩:=Qao hown;have B2:Below w.heap.size w w2:=via0 g2 B1;have p2:=p1.below g2 p1.lt;have hfar:=hidP (Qa9 hown (C:=w.heap.size) q1);have Hown:=hidP (Qat hown (C:=w.heap.size) (by omega));clear u0 u1 u2 u3 u4 f0 f1 f2 f3 f4 hown;obtain⟨u0,u1,u2,u3,u4⟩:=p2.row5;have f0:=p2.thaw 0;have f1:=p2.thaw 1;have f2:=p2.thaw 2;have f3:=p2.thaw 3;have f4:=p2.thaw 4;go_wp2;have e1:Blk _ w.heap.size 139 (Qal yr yw ye yl a ys.length c):=((((p2.setAt 0 (.int .i64 yr)).setAt 1 (.int .i64 yw)).setAt 2 (.int .i64 ye)).setAt 3 (.int .i64 yl)).setAt 4 (.slice a ys.length c);obtain⟨x0,x1,x2,x3,x4⟩:=e1.row5;rw[hF.out];exact bodyPost_ret (v:= .agg (Qal yr yw ye yl a ys.length c)) (by simp[results,Tryz.results125,go_sem,x0,x1,x2,x3,x4]) rfl
       ⟨_,rfl,Qam (Qam (Qam (Qam (Qam Hown.out hfar.out) hfar.out) hfar.out) hfar.out) hfar.out,
        Qav (Qav (Qav (Qav (Qav B2 (Nat.le_refl _) _) (Nat.le_refl _) _) (Nat.le_refl _) _) (Nat.le_refl _) _) (Nat.le_refl _) _⟩
    . have Hst:=hidP (hstep hm);clear hstep;by_cases h1:l[n].row=row
      . have hd1:=decide_eq_true h1;have hd2:decide (l[n].who=who)=false:=decide_eq_false (fun h=>hm ⟨h1,h⟩);have hd3:(l[n].row==row)=true:=(by simp[h1]);have hd4:(l[n].who==who)=false:=by simp;exact fun h=>hm ⟨h1,h⟩
        clear hm h1;go_wp2;exact⟨⟨n+1,by go_num,by omega,B1,P1,Hst⟩,by simp[intOf];omega⟩
      . have hd1:=decide_eq_false h1;have hd3:(l[n].row==row)=false:=(by simp[h1]);clear hm h1;go_wp2;exact⟨⟨n+1,by go_num,by omega,B1,P1,Hst⟩,by simp[intOf];omega⟩
  . obtain rfl:n=l.length:=(by omega);have hF:=hidP (Qoa hns.out);go_wp2;have e1:Blk _ w.heap.size 139 (Qal row who 0 (-1) none 0 0):=((((p1.setAt 0 (.int .i64 row)).setAt 1 (.int .i64 who)).setAt 2 (.int .i64 0)).setAt 3 (.int .i64 (-1))).setAt 4 (.slice none 0 0);obtain⟨x0,x1,x2,x3,x4⟩:=e1.row5;rw[hF.out];exact bodyPost_ret (v:= .agg (Qal row who 0 (-1) none 0 0)) (by simp[results,Tryz.results125,go_sem,x0,x1,x2,x3,x4]) rfl
     ⟨_,rfl,World.ownsRow_nil _ _ _ _,Qav (Qav (Qav (Qav (Qav B1 (Nat.le_refl _) _) (Nat.le_refl _) _) (Nat.le_refl _) _) (Nat.le_refl _) _) (Nat.le_refl _) _⟩
def behK (r1 w1 r2 w2:Int):Bool:=decide (r2<r1)||(decide (r1=r2)&&decide (w2<w1))
def Qei (m:PM) (s:List PM × Bool) (x:PM):List PM × Bool:=
  if x.row=m.row/\x.who=m.who then(if s.2 then s else(s.1++ [m],true))
  else if s.2=false/\behK x.row x.who m.row m.who=true then(s.1++ [m]++ [x],true)else(s.1++ [x],s.2)
def Qex (m:PM) (l:List PM):List PM × Bool:=l.foldl (Qei m) ([],false)
def setS (l:List PM) (m:PM):List PM:=if(Qex m l).2 then(Qex m l).1 else(Qex m l).1++ [m]
theorem Qcz (m:PM) (l:List PM) (n:Nat) (h:n<l.length):Qex m (l.take (n+1))=Qei m (Qex m (l.take n)) l[n]:=by
 unfold Qex;rw[List.take_succ_eq_append_getElem h,List.foldl_append];rfl
structure Out (B:Nat) (W:World) (v:Value) (O:List MC):Prop where
  own:W.ownsRow B 139 5 v O.length (flat O)
  each:∀x∈O,W.ownsRow B 141 2 (.slice x.A x.ms.length x.cap) x.ms.length (flat x.ms)
theorem Out.below {B:Nat} {W W' :World} {v:Value} {O:List MC} (h:Out B W v O) (k:Below W.heap.size W W'):Out B W' v O:=
 ⟨Qbc h.own (Offp.of_below (S:=fun _=>False) k) (fun _ _ e=>e),fun x hx=>Qbc (h.each x hx) (Offp.of_below (S:=fun _=>False) k) (fun _ _ e=>e)⟩
theorem Qll {B B' :Nat} {W:World} {v u:Value} {t t' :TypeId} {k k' n n' :Nat} {xs ys:List Value} (h:W.ownsRow B t k v n xs) (h' :W.ownsRow B' t' k' u n' ys) (ht:t≠t'):∀x,v.ownBlock=some x->u.ownBlock≠some x:=by
 intro x hx hx';rcases h.2 with⟨rfl,_⟩|⟨g,c,cur,rfl,_,hg,_⟩
 . cases hx
 rcases h'.2 with⟨rfl,_⟩|⟨g',c',cur',rfl,_,hg',_⟩
 . cases hx'
 simp[Value.ownBlock]at hx hx';subst hx hx';rw[hg]at hg';cases hg';exact ht rfl
theorem Qjf {B:Nat} {W:World} {v:Value} {t:TypeId} {k n:Nat} {xs:List Value} (h:W.ownsRow B t k v n xs):∀x,v.ownBlock=some x->B<=x/\x<W.heap.size:=fun x hx=>h.lt x hx
structure MS (w W:World) (xc:Array Value) (v:Value) (O:List MC):Prop where
  bl:Below w.heap.size w W
  box:Blk W w.heap.size 139 xc
  out:Out (w.heap.size+1) W v O
theorem MS.below {w W W' :World} {xc:Array Value} {v:Value} {O:List MC} (h:MS w W xc v O) (k:Below W.heap.size W W'):MS w W' xc v O:=⟨via0 k h.bl,h.box.below k h.box.lt,h.out.below k⟩
theorem MS.app {w W w1:World} {xs:Array Value} {v:Value} {O:List MC} (h:MS w W xs v O) (k:Below W.heap.size W w1) {row who epoch last:Int} {xa:Option Addr} {xcc:Nat} {ms:List Mk} (hm:w1.ownsRow W.heap.size 141 2 (.slice xa ms.length xcc) ms.length (flat ms)) (hO:O.length<=2000000):
 ∃g c w2,(Builtin.append_ #[98,98] 98 #[v,.slice (some ⟨w1.heap.size,0,none⟩) 1 1]).run Tryz.prog (w1.alloc (.cells (Qal row who epoch last xa ms.length xcc) 139))= .ok (.slice (some ⟨g,0,none⟩) (O.length+1) c) w2/\
  MS w w2 xs (.slice (some ⟨g,0,none⟩) (O.length+1) c) (O++ [⟨row,who,epoch,last,xa,xcc,ms⟩])/\(∀b ys,Blk W b 139 ys->v.ownBlock≠some b->Blk w2 b 139 ys/\g≠b):=by
 have k2:Below W.heap.size W (w1.alloc (.cells (Qal row who epoch last xa ms.length xcc) 139)):=Qad k _;have h2:=h.below k2;have hX:At (w1.alloc (.cells (Qal row who epoch last xa ms.length xcc) 139)) (some ⟨w1.heap.size,0,none⟩) [(⟨row,who,epoch,last,xa,xcc,ms⟩:MC)]:=by
  refine .inr ⟨_,0,rfl,by simp,fun j u hu=> ?_⟩;rw[Qdg]at hu;rw[Nat.zero_add];exact(Blk.new w1 139 _).cell (by simpa [Cel.cs]using hu)
 have hm2:=Qbc hm (Offp.of_below (S:=fun _=>False) (Qad (Below.refl _ w1) (.cells (Qal row who epoch last xa ms.length xcc) 139))) (fun _ _ e=>e);have hwB:w.heap.size+1<=W.heap.size:=h.box.lt;obtain⟨v',w2,hr,hown,hgrow,hat⟩:=Qbj (P:=Tryz.prog) Tryz.underlying98 Qrd rfl (by decide) (by decide) (w.heap.size+1) v O [(⟨row,who,epoch,last,xa,xcc,ms⟩:MC)] (some ⟨w1.heap.size,0,none⟩) 1 _ (by have:=k2.size;simp at this ⊢;omega) h2.out.own hX (by simp;omega);simp only[List.length_cons,List.length_nil,Nat.zero_add]at hown hr;obtain⟨g,c,rfl,hB,hlt⟩:=hown.form (by omega);have ko:=Qb8 hgrow;have hbase:=Qjf h2.out.own;refine⟨g,c,w2,hr,⟨h2.bl.trans (ko.toBelow (fun x hx=>by have:=hbase x hx;omega) h2.bl.size),h2.box.offp ko (fun e=>by have:=hbase _ e;omega),⟨Qhy (by simp) hown,?_⟩⟩,?_⟩
 . intro x hx;rcases List.mem_append.1 hx with hx|hx
   . exact Qbc (h2.out.each x hx) ko (Qll (h2.out.each x hx) h2.out.own (by decide))
   . simp only[List.mem_singleton]at hx;subst hx;exact Qat (Qbc hm2 ko (Qll hm2 h2.out.own (by decide))) hwB
 . intro b ys hb hne;refine⟨((hb.below k hb.lt).alloc _).offp ko hne,fun e=> ?_⟩;subst e;rcases hat with e|e
   . exact hne (e▸rfl)
   . have e2:g=w1.heap.size+1:=(by simpa [Value.ownBlock]using e);have:=hb.lt;have:=k.size;omega
end Go.Proofs.YtajbldnhjpjghaaGreat.Gen
