/-
  spec.l6Put of a keeper of one's own, where the maker may put: what it tells. Condition: KLen.
-/
import Derived.Test.YtajbldnhjpjghaaGreatSpecRowPut
set_option linter.unusedVariables false
set_option linter.unusedSimpArgs false
set_option maxRecDepth 100000
set_option maxHeartbeats 8000000
set_option maxRecDepth 100000
set_option maxHeartbeats 8000000
namespace Go.Proofs.YtajbldnhjpjghaaGreat.Gen
open ChangeShapes WideShapes ChangeAt RowKit Joins Deep Base
open Items (It)
structure Ps (S:Nat->Prop) (w W:World) (pk pc p1 p2:Nat) (kc cc sc mc:Array Value) (PM B:Nat) (b1:Option Addr) (e1:Nat) (mm:List Mk):Prop where
  bx:Bx S w W pk pc p1 p2 kc cc
  mb:Blk W PM 139 mc
  sb:Blk W w.heap.size 96 sc
  bl:Below w.heap.size w W
  om:W.ownsRow B 141 2 (.slice b1 mm.length e1) mm.length (flat mm)
section
variable {S:Nat->Prop} {w W W' :World} {pk pc p1 p2:Nat} {kc cc sc mc:Array Value} {PM B:Nat} {b1:Option Addr} {e1:Nat} {mm:List Mk}
theorem Ps.below (h:Ps S w W pk pc p1 p2 kc cc sc mc PM B b1 e1 mm) (g:Below W.heap.size W W'):Ps S w W' pk pc p1 p2 kc cc sc mc PM B b1 e1 mm:=
 ⟨h.bx.below g,h.mb.below g h.mb.lt,h.sb.below g h.sb.lt,via0 g h.bl,Qas h.om g⟩
theorem Ps.alloc (h:Ps S w W pk pc p1 p2 kc cc sc mc PM B b1 e1 mm) (ob:Obj):Ps S w (W.alloc ob) pk pc p1 p2 kc cc sc mc PM B b1 e1 mm:=h.below (Qad (Below.refl _ _) _)
theorem Ps.drew (h:Ps S w W pk pc p1 p2 kc cc sc mc PM B b1 e1 mm):Ps S w W.drew pk pc p1 p2 kc cc sc mc PM B b1 e1 mm:=h.below (Below.refl _ _).drew
theorem Ps.only {q:Nat} (h:Ps S w W pk pc p1 p2 kc cc sc mc PM B b1 e1 mm) (k:Only q W W') (hq:w.heap.size<q/\q≠pk/\q≠pc/\q≠p1/\q≠p2/\q≠PM) (hm:(Value.slice b1 mm.length e1).ownBlock≠some q):Ps S w W' pk pc p1 p2 kc cc sc mc PM B b1 e1 mm:=
 ⟨h.bx.turn (Offp.of_only k) (fun b e=> .inr (by subst e;exact⟨by omega,hq.2.1,hq.2.2.1,hq.2.2.2.1,hq.2.2.2.2.1⟩)),h.mb.only k (fun e=>hq.2.2.2.2.2 e.symm),h.sb.only k (by omega),h.bl.trans ((Off.of_only k).toBelow (by simp;omega) h.bl.size),Qbc h.om (Offp.of_only k) (fun x hx e=>hm (by rw[hx,e]))⟩
end
theorem Qnv (window epoch last:Int) (l:List Mk) (ep seq off:Int):(putM window epoch last l ep seq off).length<=l.length+1:=by
 unfold putM Qjr putB;split
 . rw[List.length_drop];split<;>simp<;>omega
 . omega
abbrev putR (Y:World) (p:Nat) (v0 v1 v2:Value):World:=((Y.setCell ⟨p,0,none⟩ v0).setCell ⟨p,1,none⟩ v1).setCell ⟨p,2,none⟩ v2
theorem Qff (Y:World) (p:Nat) (v0 v1 v2:Value):Only p Y (putR Y p v0 v1 v2):=(((Only.refl p Y).set 0 v0).set 1 v1).set 2 v2
theorem Ql5 {Y:World} {p:Nat} {t:TypeId} {x0 x1 x2:Value} (h:Blk Y p t #[x0,x1,x2]) (v0 v1 v2:Value):Blk (putR Y p v0 v1 v2) p t #[v0,v1,v2]:=((h.setAt 0 v0).setAt 1 v1).setAt 2 v2
def putP (x:KC) (wi:Int) (n:Nat) (who cb cc:Int) (key text:ByteArray):PK × An:=
  let r:=x.rs.getD n default
  let m:=mofP x.ms (n:Int) who
  if rpOk r.start r.next r.its key text who x.time then
    ({x.p with rs:=x.p.rs.set n ⟨r.start,rpX r.start r.next r.its key text who x.time,rpL r.start r.next r.its key text who x.time⟩,ms:=setS (x.ms.map MC.p) ⟨m.row,m.who,putE m.epoch m.last m.ms cc cb,putS m.epoch m.last m.ms cc cb,putM wi m.epoch m.last m.ms cc cb (rpN r.start r.next r.its key text who x.time)⟩},⟨0,rpN r.start r.next r.its key text who x.time,⟨#[]⟩,⟨#[]⟩⟩)
  else(x.p,⟨8,0,⟨#[]⟩,⟨#[]⟩⟩)
theorem Qqf (ro wi le ke:Int) (rA:Option Addr) (rc:Nat) (rs:List RC) (mA:Option Addr) (mc:Nat) (ms:List MC) (gA:Option Addr) (gc:Nat) (gs:List GC) (time:Int) (dA:Option Addr) (dc:Nat) (ds:List Int) (lA:Option Addr) (lc:Nat) (ls:List An) (who seq op cb cc:Int) (n:Nat) (key text:ByteArray) (S:Nat->Prop) (br bg bd bl:Nat) (hlen:KLen (⟨rA,rc,rs,mA,mc,ms,gA,gc,gs,time,dA,dc,ds,lA,lc,ls⟩:KC)) (w:World) (hS:∀b,S b->b<w.heap.size) (hq:KQ w (⟨rA,rc,rs,mA,mc,ms,gA,gc,gs,time,dA,dc,ds,lA,lc,ls⟩:KC) S br bg bd bl) (hn:n<rs.length) (hks:key.size<=30) (hts:text.size<=30) (hw:I64 wi) (hk:askC (mofP ms (n:Int) who).epoch (mofP ms (n:Int) who).last (mofP ms (n:Int) who).ms cc cb=0):
 Calls Tryz.prog 118 #[.agg (Qaj ro wi le ke),.agg (Qaa rA rs.length rc mA ms.length mc gA gs.length gc time dA ds.length dc lA ls.length lc),.agg (Qab who seq op (n:Int) cb cc key text)] w fun e w' =>Qci S w w' e (putP (⟨rA,rc,rs,mA,mc,ms,gA,gc,gs,time,dA,dc,ds,lA,lc,ls⟩:KC) wi n who cb cc key text).1 (putP (⟨rA,rc,rs,mA,mc,ms,gA,gc,gs,time,dA,dc,ds,lA,lc,ls⟩:KC) wi n who cb cc key text).2:=by
 obtain rfl:rA=(some ⟨br,0,none⟩):=hq.r.a;have HQ:=hidP hq;have HM:Hid (∀W:World,Below w.heap.size w W->Calls Tryz.prog 125 (Qf3 mA ms.length mc (n:Int) who) W fun e w' =>∃v,e= .returned (.agg #[.int .i64 (mofP ms (n:Int) who).row,.int .i64 (mofP ms (n:Int) who).who,.int .i64 (mofP ms (n:Int) who).epoch,.int .i64 (mofP ms (n:Int) who).last,v])/\w'.ownsRow W.heap.size 141 2 v (mofP ms (n:Int) who).ms.length (flat (mofP ms (n:Int) who).ms)/\Below W.heap.size W w'):=
  fun W g=>Qbx mA mc ms (n:Int) who (by have:=hlen.ml;simp only at this;omega) (fun y hy=>by have:=hlen.mi y hy;omega) W ((KQ.at hq).below g).ma ((KQ.at hq).below g).me
 have hmm:(mofP ms (n:Int) who).ms.length<=1048576:=by
  unfold mofP;split
  . rename_i x hx;have:=hlen.mi x (List.mem_of_find?_eq_some hx);simp only[MC.p];omega
  . simp
 have hmm2:(mofP ms (n:Int) who).ms.length<=1000:=by
  unfold mofP;split
  . rename_i x hx;have:=hlen.mi x (List.mem_of_find?_eq_some hx);simp only[MC.p];omega
  . simp
 have hrow:(rs.getD n default)=rs[n]:=by simp[hn]
 have hri:=hlen.ri rs[n] (List.getElem_mem hn);have hat:=hq.ri rs[n] (List.getElem_mem hn);have hlt0:=hq.r.lt;have hcell:=fun(W:World) (g:Below w.heap.size w W)=>(hq.r.i.below hq.r.lt g).getRC n hn
 have hbr:br<w.heap.size/\bg<w.heap.size/\bd<w.heap.size/\bl<w.heap.size:=⟨hq.r.lt,hq.g.lt,hq.d.lt,hq.l.lt⟩
 have hP:Hid (putP (⟨(some ⟨br,0,none⟩),rc,rs,mA,mc,ms,gA,gc,gs,time,dA,dc,ds,lA,lc,ls⟩:KC) wi n who cb cc key text=(if rpOk rs[n].start rs[n].next rs[n].its key text who time then
  ({KC.p (⟨(some ⟨br,0,none⟩),rc,rs,mA,mc,ms,gA,gc,gs,time,dA,dc,ds,lA,lc,ls⟩:KC)with rs:=(rs.map RC.p).set n ⟨rs[n].start,rpX rs[n].start rs[n].next rs[n].its key text who time,rpL rs[n].start rs[n].next rs[n].its key text who time⟩,ms:=setS (ms.map MC.p) ⟨(mofP ms (n:Int) who).row,(mofP ms (n:Int) who).who,putE (mofP ms (n:Int) who).epoch (mofP ms (n:Int) who).last (mofP ms (n:Int) who).ms cc cb,putS (mofP ms (n:Int) who).epoch (mofP ms (n:Int) who).last (mofP ms (n:Int) who).ms cc cb,putM wi (mofP ms (n:Int) who).epoch (mofP ms (n:Int) who).last (mofP ms (n:Int) who).ms cc cb (rpN rs[n].start rs[n].next rs[n].its key text who time)⟩},(⟨0,rpN rs[n].start rs[n].next rs[n].its key text who time,⟨#[]⟩,⟨#[]⟩⟩:An))
  else(KC.p (⟨(some ⟨br,0,none⟩),rc,rs,mA,mc,ms,gA,gc,gs,time,dA,dc,ds,lA,lc,ls⟩:KC),(⟨8,0,⟨#[]⟩,⟨#[]⟩⟩:An)))):=by
  show _=_;simp only[putP,hrow];split<;>rfl
 have HRP:Hid (∀W:World,Below w.heap.size w W->Calls Tryz.prog 127 #[.agg (Qa5 rs[n].start rs[n].next rs[n].A rs[n].its.length rs[n].cap),.string key,.string text,.int .i64 who,.int .i64 time] W fun e w' =>∃a c,e= .returned (.tuple #[.agg (Qa5 rs[n].start (rpX rs[n].start rs[n].next rs[n].its key text who time) a (rpL rs[n].start rs[n].next rs[n].its key text who time).length c),.int .i64 (rpN rs[n].start rs[n].next rs[n].its key text who time),.bool (rpOk rs[n].start rs[n].next rs[n].its key text who time)])/\
  w'.ownsRow W.heap.size 136 5 (.slice a (rpL rs[n].start rs[n].next rs[n].its key text who time).length c) (rpL rs[n].start rs[n].next rs[n].its key text who time).length (flat (rpL rs[n].start rs[n].next rs[n].its key text who time))/\Below W.heap.size W w'):=
  fun W g=>Qhf _ _ who time key text _ _ _ (by have:=hri.1;omega) (fun x hx=>by have:=hri.2.1 x hx;omega) hri.2.2 (by omega) (by omega) W (hat.at.below g)
 have HSt:Hid (∀(W:World) (mr mw e2 l2:Int) (b2:Option Addr) (f2:Nat) (mm2:List Mk),mm2.length<=1048576->At W b2 mm2->At W mA ms->Each W ms->Calls Tryz.prog 128 #[.slice mA ms.length mc,.agg (Qal mr mw e2 l2 b2 mm2.length f2)] W fun e w' =>∃g c O,e= .returned (.slice (some ⟨g,0,none⟩) O.length c)/\O.map MC.p=setS (ms.map MC.p) ⟨mr,mw,e2,l2,mm2⟩/\Out W.heap.size w' (.slice (some ⟨g,0,none⟩) O.length c) O/\Below W.heap.size W w'):=by
  intro W mr mw e2 l2 b2 f2 mm2 hl2 h2 h3 h4;exact Qgp mA mc ms mr mw e2 l2 b2 f2 mm2 (by have:=hlen.ml;simp only at this;omega) (fun y hy=>by have:=hlen.mi y hy;omega) hl2 W h3 h4 h2
 generalize putP (⟨(some ⟨br,0,none⟩),rc,rs,mA,mc,ms,gA,gc,gs,time,dA,dc,ds,lA,lc,ls⟩:KC) wi n who cb cc key text=PP at hP ⊢;generalize rs[n]=y at hP HRP hcell;obtain⟨st,nt,yA,yc,ym⟩:=y;simp only[Nat.zero_add]at hP HRP hcell;generalize rpOk st nt ym key text who time=ok at hP HRP;generalize rpX st nt ym key text who time=nx at hP HRP;generalize rpN st nt ym key text who time=nn at hP HRP;generalize rpL st nt ym key text who time=LL at hP HRP;have HCl:=hidP hcell;clear hri hat hrow hcell;generalize mofP ms (n:Int) who=M at HM hmm hk hP hmm2 ⊢;obtain⟨mr,mw,me,ml,mm⟩:=M;simp only at HM hmm hk hP hmm2 ⊢;clear hq hlen;obtain⟨I0,S0,B0⟩:=Qba ro wi le ke (some ⟨br,0,none⟩) rc rs mA mc ms gA gc gs time dA dc ds lA lc ls who seq op (n:Int) cb cc key text S w hS;go_enter Tryz.func118,Tryz.ntmps118;go_wp2_with fail;generalize ((((w.alloc (.cells (Qaj ro wi le ke) 96)).alloc (.cells (Qaa (some ⟨br,0,none⟩) rs.length rc mA ms.length mc gA gs.length gc time dA ds.length dc lA ls.length lc) 102)).alloc (.cells (Qab who seq op (n:Int) cb cc key text) 55)).alloc (.cells Qae 102)).alloc (.cells Qaq 145)=X0 at I0 S0 B0 ⊢;refine(HM.out _ B0).mono ?_;rintro e w1 ⟨v1,rfl,ho1,g1⟩;obtain⟨b1,e1,rfl,_⟩:=Qao ho1;have I1:=(I0.below g1).alloc (.cells (Qal mr mw me ml b1 mm.length e1) 139);have MB:=Blk.new w1 139 (Qal mr mw me ml b1 mm.length e1);have SB:=(S0.below g1 S0.lt).alloc (.cells (Qal mr mw me ml b1 mm.length e1) 139);have B1:Below w.heap.size w (w1.alloc (.cells (Qal mr mw me ml b1 mm.length e1) 139)):=Qad (via0 g1 B0) _;have lm:w.heap.size+1+1+1+1<w1.heap.size:=Nat.lt_of_lt_of_le I0.r2.lt g1.size;have HO1:=hidP (Qau ho1 (.cells (Qal mr mw me ml b1 mm.length e1) 139));have lx0:w.heap.size+1+1+1+1<X0.heap.size:=I0.r2.lt;clear I0 g1 ho1 S0 B0;obtain⟨c0,c1,c2,c3,c4,c5,c6,c7⟩:=I1.c.row8c
 obtain⟨m0,m1,m2,m3,m4⟩:=MB.row5;have qc:=I1.c.lt;have qm:=MB.lt;go_upto_region 2 with fail;generalize w1.alloc (.cells (Qal mr mw me ml b1 mm.length e1) 139)=X1 at*;generalize w1.heap.size=PM at*;go_wp2_with fail;refine(Qda mr mw me ml cc cb b1 e1 mm hmm _ (Qc2 rfl HO1.out)).mono ?_;rintro e w2 ⟨rfl,g2⟩;have B2:=via0 g2 B1;have I2:=I1.below g2;have MB2:=MB.below g2 MB.lt;have SB2:=SB.below g2 SB.lt;have HO2:=hidP (Qas HO1.out g2);clear c0 c1 c2 c3 c4 c5 c6 c7 m0 m1 m2 m3 m4 qc qm I1 MB SB g2 B1 HO1;rw[hk];have lx1:w.heap.size+1+1+1+1<PM:=lm;have hn0:(0:Int)<=(n:Int):=by omega
 have hn1:(n:Int)<(rs.length:Int):=by omega
 obtain⟨cc0,cc1,cc2,cc3,cc4,cc5,cc6,cc7⟩:=I2.c.row8c;go_upto_region 12 with fail;have P:Ps S w w2.drew (w.heap.size+1) (w.heap.size+1+1) (w.heap.size+1+1+1) (w.heap.size+1+1+1+1) (Qaa (some ⟨br,0,none⟩) rs.length rc mA ms.length mc gA gs.length gc time dA ds.length dc lA ls.length lc) (Qab who seq op (n:Int) cb cc key text) (Qaj ro wi le ke) (Qal mr mw me ml b1 mm.length e1) PM X0.heap.size b1 e1 mm:=Ps.drew ⟨I2,MB2,SB2,B2,HO2.out⟩;have Psv:=hidP P;clear I2 MB2 SB2 B2 HO2 cc0 cc1 cc2 cc3 cc4 cc5 cc6 cc7;have mkS:∀V:World,Ps S w V (w.heap.size+1) (w.heap.size+1+1) (w.heap.size+1+1+1) (w.heap.size+1+1+1+1) (Qaa (some ⟨br,0,none⟩) rs.length rc mA ms.length mc gA gs.length gc time dA ds.length dc lA ls.length lc) (Qab who seq op (n:Int) cb cc key text) (Qaj ro wi le ke) (Qal mr mw me ml b1 mm.length e1) PM X0.heap.size b1 e1 mm->(fun(V:World)=>V.cell? ⟨(w.heap.size+1),0,none⟩=some (.slice (some ⟨br,0,none⟩) rs.length rc)/\V.cell? ⟨(w.heap.size+1),3,none⟩=some (.int .i64 time)/\V.cell? ⟨(w.heap.size+1+1),0,none⟩=some (.int .i64 who)/\V.cell? ⟨(w.heap.size+1+1),3,none⟩=some (.int .i64 (n:Int))/\V.cell? ⟨(w.heap.size+1+1),6,none⟩=some (.string key)/\V.cell? ⟨(w.heap.size+1+1),7,none⟩=some (.string text)/\V.cell? ⟨br,n*3,none⟩=some (.int .i64 st)/\V.cell? ⟨br,n*3+1,none⟩=some (.int .i64 nt)/\V.cell? ⟨br,n*3+2,none⟩=some (.slice yA ym.length yc)) V:=fun V q=>by
  obtain⟨a0,a1,a2,a3,a4,a5⟩:=q.bx.k.row6;obtain⟨d0,d1,d2,d3,d4,d5,d6,d7⟩:=q.bx.c.row8c;obtain⟨r0,r1,r2⟩:=HCl.out V q.bl;exact⟨a0,a3,d0,d3,d6,d7,r0,r1,r2⟩
 go_cut [11,12,13]from 48 to 66 (fun p nv ov wx=>∃(PR:Nat) (a5:Option Addr) (c5:Nat),p= .pointer (some ⟨PR,0,none⟩)/\nv= .int .i64 nn/\ov= .bool ok/\Ps S w wx (w.heap.size+1) (w.heap.size+1+1) (w.heap.size+1+1+1) (w.heap.size+1+1+1+1) (Qaa (some ⟨br,0,none⟩) rs.length rc mA ms.length mc gA gs.length gc time dA ds.length dc lA ls.length lc) (Qab who seq op (n:Int) cb cc key text) (Qaj ro wi le ke) (Qal mr mw me ml b1 mm.length e1) PM X0.heap.size b1 e1 mm/\Blk wx PR 134 (Qa5 st nx a5 LL.length c5)/\wx.ownsRow w2.heap.size 136 5 (.slice a5 LL.length c5) LL.length (flat LL)/\(w.heap.size<PR/\PR≠(w.heap.size+1)/\PR≠(w.heap.size+1+1)/\PR≠(w.heap.size+1+1+1)/\PR≠(w.heap.size+1+1+1+1)/\PR≠PM)/\(Value.slice a5 LL.length c5).ownBlock≠some PR)
 case first=>
  refine wp_region_noPanic ?_;refine wp_region_held_drew (S:=(fun(V:World)=>V.cell? ⟨(w.heap.size+1),0,none⟩=some (.slice (some ⟨br,0,none⟩) rs.length rc)/\V.cell? ⟨(w.heap.size+1),3,none⟩=some (.int .i64 time)/\V.cell? ⟨(w.heap.size+1+1),0,none⟩=some (.int .i64 who)/\V.cell? ⟨(w.heap.size+1+1),3,none⟩=some (.int .i64 (n:Int))/\V.cell? ⟨(w.heap.size+1+1),6,none⟩=some (.string key)/\V.cell? ⟨(w.heap.size+1+1),7,none⟩=some (.string text)/\V.cell? ⟨br,n*3,none⟩=some (.int .i64 st)/\V.cell? ⟨br,n*3+1,none⟩=some (.int .i64 nt)/\V.cell? ⟨br,n*3+2,none⟩=some (.slice yA ym.length yc))) (by kernel_rfl) ?_ (fun hH=> ?_)
  . exact mkS _ P
  refine ztk [0,1,2,3,4,5,6,7,8,9,10,11,12,13] ?_;repeat(refine ztn (hS:=hH) (h:= ?_);try simp only[zX,zY])
  refine zte ?_;refine zR2 14 19 (fun K hK=> ?_) (fun K hK=> ?_)
  focus
   simp only[zG];go_simp;refine(HRP.out _ P.bl).mono ?_;rintro e w3 ⟨a5,c5,rfl,ho5,g3⟩;have P:=P.below g3;have ho5p:=fun x (hx:(Value.slice a5 LL.length c5).ownBlock=some x)=>Qcn ho5 hx;have hom:=fun x (hx:(Value.slice b1 mm.length e1).ownBlock=some x)=>Qcn P.om hx;have P3l:PM<w3.heap.size:=P.mb.lt;have hle9:w2.heap.size<=w2.drew.heap.size:=Nat.le_refl _
   refine hK.out _ _ (mkS _ P) fun hH=> ?_;clear hK K;try simp only[zX,zY]
   refine ztk [15,16,17,18] ?_;repeat(refine ztn (hS:=hH) (h:= ?_);try simp only[zX,zY])
   refine zte ?_;refine zR1 19 (fun K hK=> ?_);simp only[zG];go_simp;have RB:=Blk.new w3 134 Qco;have P:=P.alloc (.cells Qco 134);have ho5:=Qau ho5 (.cells Qco 134);have h5:(Value.slice a5 LL.length c5).ownBlock≠some w3.heap.size:=fun e=>Nat.lt_irrefl _ (ho5p _ e);have hPR:w.heap.size<w3.heap.size/\w3.heap.size≠(w.heap.size+1)/\w3.heap.size≠(w.heap.size+1+1)/\w3.heap.size≠(w.heap.size+1+1+1)/\w3.heap.size≠(w.heap.size+1+1+1+1)/\w3.heap.size≠PM:=(by have:=P3l;omega);have hPM:(Value.slice b1 mm.length e1).ownBlock≠some w3.heap.size:=fun e=>Nat.lt_irrefl _ (hom _ e)
   refine hK.out _ _ (mkS _ P) fun hH=> ?_;clear hK K;try simp only[zX,zY]
   generalize w3.alloc (.cells Qco 134)=w4 at*;generalize w3.heap.size=PR at*;obtain⟨z0,z1,z2⟩:=RB.row3;have f0:=RB.thaw 0;have f1:=RB.thaw 1;have f2:=RB.thaw 2;have P9:=P.only (Qff w4 PR (.int .i64 st) (.int .i64 nx) (.slice a5 LL.length c5)) hPR hPM;have B9:=Ql5 RB (.int .i64 st) (.int .i64 nx) (.slice a5 LL.length c5);have O9:=Qbc ho5 (Offp.of_only (Qff w4 PR (.int .i64 st) (.int .i64 nx) (.slice a5 LL.length c5))) (fun x hx e=>h5 (by rw[← e];exact hx))
  rotate_left
  focus
   simp only[zG];go_simp;have RB:Blk (w2.drew.alloc (.cells Qco 134)) w2.heap.size 134 Qco:=Blk.new w2.drew 134 Qco;have hom0:(Value.slice b1 mm.length e1).ownBlock≠some w2.heap.size:=fun e=>Nat.lt_irrefl _ (Qcn P.om e);have P2l:PM<w2.heap.size:=P.mb.lt;have P:=P.alloc (.cells Qco 134)
   refine hK.out _ _ (mkS _ P) fun hH=> ?_;clear hK K;try simp only[zX,zY]
   refine zR1 14 (fun K hK=> ?_);simp only[zG];go_simp;refine(HRP.out _ P.bl).mono ?_;rintro e w3 ⟨a5,c5,rfl,ho5,g3⟩;have P:=P.below g3;have RB:=RB.below g3 (by simp);have h5:(Value.slice a5 LL.length c5).ownBlock≠some w2.heap.size:=fun e=>(by have h9:=(ho5.lt _ e).1;rw[World.size_alloc]at h9;have h10:w2.heap.size+1<=w2.heap.size:=h9;omega);have hPR:w.heap.size<w2.heap.size/\w2.heap.size≠(w.heap.size+1)/\w2.heap.size≠(w.heap.size+1+1)/\w2.heap.size≠(w.heap.size+1+1+1)/\w2.heap.size≠(w.heap.size+1+1+1+1)/\w2.heap.size≠PM:=(by omega);have hPM:=hom0;have hle9:w2.heap.size<=(w2.drew.alloc (.cells Qco 134)).heap.size:=(by rw[World.size_alloc];exact Nat.le_succ _)
   refine hK.out _ _ (mkS _ P) fun hH=> ?_;clear hK K;try simp only[zX,zY]
   refine ztk [15,16,17,18] ?_;repeat(refine ztn (hS:=hH) (h:= ?_);try simp only[zX,zY])
   refine zte ?_;obtain⟨z0,z1,z2⟩:=RB.row3;have f0:=RB.thaw 0;have f1:=RB.thaw 1;have f2:=RB.thaw 2;have P9:=P.only (Qff w3 w2.heap.size (.int .i64 st) (.int .i64 nx) (.slice a5 LL.length c5)) hPR hPM;have B9:=Ql5 RB (.int .i64 st) (.int .i64 nx) (.slice a5 LL.length c5);have O9:=Qbc ho5 (Offp.of_only (Qff w3 w2.heap.size (.int .i64 st) (.int .i64 nx) (.slice a5 LL.length c5))) (fun x hx e=>h5 (by rw[← e];exact hx))
  all_goals
   refine zR1 20 (fun K hK=> ?_);simp only[zG];go_simp;refine hK.out _ _ (mkS _ P9) fun hH=> ?_;clear hK K;try simp only[zX,zY]
   refine ztk [21,22] ?_;repeat(refine ztn (hS:=hH) (h:= ?_);try simp only[zX,zY])
   refine zte ?_;refine zdn ?_;go_wp2_with fail
   go_meet
   exact⟨_,_,_,rfl,rfl,rfl,P9,B9,Qat O9 hle9,hPR,h5⟩
 case rest=>
  obtain⟨PR,a5,c5,rfl,rfl,rfl,P5,B5,O5,hPR,h5⟩:=hcut;have lP2:PM<w2.heap.size:=Psv.out.mb.lt;clear mkS Psv P;have lw2:=hidP lm;cases ok
  . have ePP:=hP.out;subst ePP;have HQ5:=hidP ((HQ.out.below P5.bl).mono (S' :=fun b=>S b∨(w.heap.size<=b/\b≠(w.heap.size+1+1+1)/\b≠(w.heap.size+1+1+1+1))) (fun b _ hb=> .inl hb));have I5:=P5.bx;clear P5 B5 O5;have TT:=hidP (Bx.told I5 (y:=(⟨(some ⟨br,0,none⟩),rc,rs,mA,mc,ms,gA,gc,gs,time,dA,dc,ds,lA,lc,ls⟩:KC)) (br:=br) (bg:=bg) (bd:=bd) (bl:=bl) (HQ5.out) (⟨(8),(0),(⟨#[]⟩),(⟨#[]⟩)⟩:An) (hv:=rfl));obtain⟨z0,z1,z2,z3,z4,z5⟩:=I5.r1.row6;have f0:=I5.r1.thaw 0;have f1:=I5.r1.thaw 1;have f2:=I5.r1.thaw 2;have f3:=I5.r1.thaw 3;have f4:=I5.r1.thaw 4;have f5:=I5.r1.thaw 5;obtain⟨k0,k1,k2,k3,k4,k5⟩:=I5.k.row6;have R2:=I5.r2.only (Qaw _ (w.heap.size+1+1+1) (.slice (some ⟨br,0,none⟩) rs.length rc) (.slice mA ms.length mc) (.slice gA gs.length gc) (.int .i64 time) (.slice dA ds.length dc) (.slice lA ls.length lc)) (fun e=>I5.ne.2.2.2.2.2 e.symm);obtain⟨y0,y1,y2,y3⟩:=R2.row4;have ee0:=R2.thaw 0;have ee1:=R2.thaw 1;have ee2:=R2.thaw 2;have ee3:=R2.thaw 3;have C1:=Qbh I5.r1 (.slice (some ⟨br,0,none⟩) rs.length rc) (.slice mA ms.length mc) (.slice gA gs.length gc) (.int .i64 time) (.slice dA ds.length dc) (.slice lA ls.length lc);have B1:=(Qbv I5.r1 (.slice (some ⟨br,0,none⟩) rs.length rc) (.slice mA ms.length mc) (.slice gA gs.length gc) (.int .i64 time) (.slice dA ds.length dc) (.slice lA ls.length lc)).only (Qa1 _ (w.heap.size+1+1+1+1) (.int .i64 (8)) (.int .i64 (0)) (.string ⟨#[]⟩) (.string ⟨#[]⟩)) (fun e=>I5.ne.2.2.2.2.2 e);have C2:=Qbt R2 (.int .i64 (8)) (.int .i64 (0)) (.string ⟨#[]⟩) (.string ⟨#[]⟩);obtain⟨s0,s1,s2,s3,s4,s5⟩:=C1;obtain⟨t0,t1,t2,t3⟩:=C2;obtain⟨q0,q1,q2,q3,q4,q5⟩:=B1.row6;have hne12:(w.heap.size+1+1+1)≠(w.heap.size+1+1+1+1):=I5.ne.2.2.2.2.2;have hne21:(w.heap.size+1+1+1+1)≠(w.heap.size+1+1+1):=fun e=>I5.ne.2.2.2.2.2 e.symm
    go_wp2;exact bodyPost_ret (v:= .tuple #[.agg (Qaa (some ⟨br,0,none⟩) rs.length rc mA ms.length mc gA gs.length gc time dA ds.length dc lA ls.length lc),.agg (Qax (8) (0) ⟨#[]⟩ ⟨#[]⟩)]) (by simp[results,Tryz.results118,go_sem,s0,s1,s2,s3,s4,s5,t0,t1,t2,t3,q0,q1,q2,q3,q4,q5]) rfl TT.out
  . obtain⟨z0,z1,z2⟩:=B5.row3;obtain⟨k0,k1,k2,k3,k4,k5⟩:=P5.bx.k.row6;obtain⟨d0,d1,d2,d3,d4,d5,d6,d7⟩:=P5.bx.c.row8c;obtain⟨r0,r1,r2⟩:=HCl.out _ P5.bl;have hth:=(HQ.out.below P5.bl).r.th;have fz:∀j,j<3->wc.frozen? ⟨br,n*3+j,none⟩=false:=fun j hj=>by
     have h9:=(hth (n*3+j) (by show n*3+j<rs.length*3;omega)).2;rwa [Nat.zero_add]at h9
    have f0:wc.frozen? ⟨br,n*3,none⟩=false:=fz 0 (by omega);have f1:=fz 1 (by omega);have f2:=fz 2 (by omega);have hk6:Only br wc (((wc.setCell ⟨br,n*3,none⟩ (.int .i64 st)).setCell ⟨br,n*3+1,none⟩ (.int .i64 nx)).setCell ⟨br,n*3+2,none⟩ (.slice a5 LL.length c5)):=(((Only.refl br wc).set _ _).set _ _).set _ _;have Q6:KQ (((wc.setCell ⟨br,n*3,none⟩ (.int .i64 st)).setCell ⟨br,n*3+1,none⟩ (.int .i64 nx)).setCell ⟨br,n*3+2,none⟩ (.slice a5 LL.length c5)) {(⟨(some ⟨br,0,none⟩),rc,rs,mA,mc,ms,gA,gc,gs,time,dA,dc,ds,lA,lc,ls⟩:KC)with rs:=rs.set n ⟨st,nx,a5,c5,LL⟩} (fun b=>S b∨PM<b) br bg bd bl:=
     ((HQ.out.below P5.bl).mono (S' :=fun b=>S b∨PM<b) (fun b _ hb=> .inl hb)).setR n hn ⟨st,nx,a5,c5,LL⟩ (Av.of_own O5 (fun x hx=>⟨.inr (by omega),by omega,by omega,by omega,by omega⟩))
    have I6:=P5.bx.turn (Offp.of_only hk6) (fun b e=> .inl (by subst e;exact HQ.out.s.1));have M6:=P5.mb.only hk6 (by omega);have S6:=P5.sb.only hk6 (by omega);have O6:=Qbc P5.om (Offp.of_only hk6) (fun x hx e=>by have:=(P5.om.lt _ hx).1;omega);go_upto_region 16 with fail;clear z0 z1 z2 k0 k1 k2 k3 k4 k5 d0 d1 d2 d3 d4 d5 d6 d7 r0 r1 r2 f0 f1 f2 fz hth hk6 P5 B5 O5;generalize ((wc.setCell ⟨br,n*3,none⟩ (.int .i64 st)).setCell ⟨br,n*3+1,none⟩ (.int .i64 nx)).setCell ⟨br,n*3+2,none⟩ (.slice a5 LL.length c5)=X6 at Q6 I6 M6 S6 O6 ⊢;have J6:=I6.drew;have M6:=M6.drew;have S6:=S6.drew;have Q6:=hidP (Q6.below (Below.refl _ _).drew);have O6:=hidP (Qas O6 (Below.refl _ _).drew);have lM6:=M6.lt;have mkS7:∀V:World,Bx S w V (w.heap.size+1) (w.heap.size+1+1) (w.heap.size+1+1+1) (w.heap.size+1+1+1+1) (Qaa (some ⟨br,0,none⟩) rs.length rc mA ms.length mc gA gs.length gc time dA ds.length dc lA ls.length lc) (Qab who seq op (n:Int) cb cc key text)->Blk V PM 139 (Qal mr mw me ml b1 mm.length e1)->Blk V w.heap.size 96 (Qaj ro wi le ke)->(fun(V:World)=>V.cell? ⟨(w.heap.size+1),1,none⟩=some (.slice mA ms.length mc)/\V.cell? ⟨PM,0,none⟩=some (.int .i64 mr)/\V.cell? ⟨PM,1,none⟩=some (.int .i64 mw)/\V.cell? ⟨PM,2,none⟩=some (.int .i64 me)/\V.cell? ⟨PM,3,none⟩=some (.int .i64 ml)/\V.cell? ⟨PM,4,none⟩=some (.slice b1 mm.length e1)/\V.cell? ⟨w.heap.size,1,none⟩=some (.int .i64 wi)/\V.cell? ⟨(w.heap.size+1+1),5,none⟩=some (.int .i64 cc)/\V.cell? ⟨(w.heap.size+1+1),4,none⟩=some (.int .i64 cb)) V:=fun V q1 q2 q3=>by
     obtain⟨a0,a1,a2,a3,a4,a5⟩:=q1.k.row6;obtain⟨d0,d1,d2,d3,d4,d5,d6,d7⟩:=q1.c.row8c;obtain⟨m0,m1,m2,m3,m4⟩:=q2.row5;obtain⟨n0,n1,n2,n3⟩:=q3.row4;exact⟨a1,m0,m1,m2,m3,m4,n1,d5,d4⟩
    have hH6:=mkS7 _ J6 M6 S6;clear I6;refine wp_region_noPanic ?_;have hH:((fun(V:World)=>V.cell? ⟨(w.heap.size+1),1,none⟩=some (.slice mA ms.length mc)/\V.cell? ⟨PM,0,none⟩=some (.int .i64 mr)/\V.cell? ⟨PM,1,none⟩=some (.int .i64 mw)/\V.cell? ⟨PM,2,none⟩=some (.int .i64 me)/\V.cell? ⟨PM,3,none⟩=some (.int .i64 ml)/\V.cell? ⟨PM,4,none⟩=some (.slice b1 mm.length e1)/\V.cell? ⟨w.heap.size,1,none⟩=some (.int .i64 wi)/\V.cell? ⟨(w.heap.size+1+1),5,none⟩=some (.int .i64 cc)/\V.cell? ⟨(w.heap.size+1+1),4,none⟩=some (.int .i64 cb))) _:=hH6;refine Qby 13 ((fun(V:World)=>V.cell? ⟨(w.heap.size+1),1,none⟩=some (.slice mA ms.length mc)/\V.cell? ⟨PM,0,none⟩=some (.int .i64 mr)/\V.cell? ⟨PM,1,none⟩=some (.int .i64 mw)/\V.cell? ⟨PM,2,none⟩=some (.int .i64 me)/\V.cell? ⟨PM,3,none⟩=some (.int .i64 ml)/\V.cell? ⟨PM,4,none⟩=some (.slice b1 mm.length e1)/\V.cell? ⟨w.heap.size,1,none⟩=some (.int .i64 wi)/\V.cell? ⟨(w.heap.size+1+1),5,none⟩=some (.int .i64 cc)/\V.cell? ⟨(w.heap.size+1+1),4,none⟩=some (.int .i64 cb))) (by kernel_rfl) ?_;refine zpk [0,1,2,3,4,5,6,7,8,9] ?_;repeat(refine zpn (h:= ?_);try simp only[zX,zY])
    refine zpe ?_;refine Qa0 (i:=10) (by kernel_rfl) rfl (fun K hK=> ?_);simp only[zG];go_simp;refine(Qko mr mw me ml wi cc cb nn hw b1 e1 mm hmm _ (Qc2 rfl O6.out)).mono ?_;rintro e w7 ⟨v7,rfl,ho7,g7⟩;obtain⟨b7,e7,rfl,_⟩:=Qao ho7;have I7:=J6.below g7;have M7:=M6.below g7 M6.lt;have S7:=S6.below g7 S6.lt;have Q7:=hidP (Q6.out.below g7);have hH7:=mkS7 _ I7 M7 S7;refine hK.out _ _ (.inr hH7) ?_;clear hK K
    try simp only[zX,zY]
    refine Qa0 (i:=11) (by kernel_rfl) rfl (fun K hK=> ?_);simp only[zG];go_simp;refine(HSt.out _ mr mw _ _ b7 e7 _ (by have:=Qnv wi me ml mm cc cb nn;omega) (Qc2 rfl ho7) (KQ.at Q7.out).ma (KQ.at Q7.out).me).mono ?_;rintro e w8 ⟨g,c,O,rfl,hO,hOut,g8⟩;have I8:=I7.below g8;have M8:=M7.below g8 M7.lt;have S8:=S7.below g8 S7.lt;have l7:=M7.lt;obtain⟨o1,o2⟩:=Out.av (S:=fun b=>(S b∨PM<b)/\b≠br/\b≠bg/\b≠bd/\b≠bl) hOut (fun x hx _=>⟨.inr (by omega),by omega,by omega,by omega,by omega⟩);have Q8:=hidP ((Q7.out.below g8).setM (some ⟨g,0,none⟩) c O o1 o2);have HO:=hidP hO;have hH8:=mkS7 _ I8 M8 S8;clear hOut o1 o2 hO;obtain⟨kk0,kk1,kk2,kk3,kk4,kk5⟩:=I8.k.row6;have fk:=I8.k.thaw 1;refine hK.out _ _ (.inr hH8) ?_;clear hK K
    try simp only[zX,zY]
    refine zp1 12 ?_;refine zpn (h:= ?_);try simp only[zX,zY]
    refine zpe ?_;refine Qa0 (i:=13) (by kernel_rfl) rfl (fun K hK=> ?_);simp only[zG];go_simp;refine hK.out _ _ (.inl rfl) ?_;clear hK K
    try simp only[zX,zY]
    refine Qcl (by kernel_rfl) ?_ _;refine NoPanic.normal ?_;clear hH6 mkS7;have I9:=I8.setK 1 (.slice (some ⟨g,0,none⟩) O.length c);have Q9:=Q8.out.box (w.heap.size+1) 1 (.slice (some ⟨g,0,none⟩) O.length c) (by rintro (h|h);have:=hS _ h;omega;omega);have HQ9:=hidP (Q9.mono (S' :=fun b=>S b∨(w.heap.size<=b/\b≠(w.heap.size+1+1+1)/\b≠(w.heap.size+1+1+1+1))) (fun b _ hb=>hb.imp id (fun h=>⟨by omega,by omega,by omega⟩)));clear Q9 Q8 fk kk0 kk1 kk2 kk3 kk4 kk5 I8 J6 M6 S6 Q6 O6;generalize w8.setCell ⟨(w.heap.size+1),1,none⟩ (.slice (some ⟨g,0,none⟩) O.length c)=X9 at I9 HQ9 ⊢;have ePP:=hP.out;subst ePP;have TT:=hidP (Bx.told I9 (y:=({(⟨(some ⟨br,0,none⟩),rc,rs,mA,mc,ms,gA,gc,gs,time,dA,dc,ds,lA,lc,ls⟩:KC)with rs:=rs.set n ⟨st,nx,a5,c5,LL⟩,mA:=some ⟨g,0,none⟩,mc:=c,ms:=O}:KC)) (br:=br) (bg:=bg) (bd:=bd) (bl:=bl) (HQ9.out) (⟨(0),(nn),(⟨#[]⟩),(⟨#[]⟩)⟩:An) (hv:=show _=(Qaa (some ⟨br,0,none⟩) rs.length rc (some ⟨g,0,none⟩) O.length c gA gs.length gc time dA ds.length dc lA ls.length lc)by simp only[KC.cells,List.length_set]));obtain⟨z0,z1,z2,z3,z4,z5⟩:=I9.r1.row6;have f0:=I9.r1.thaw 0;have f1:=I9.r1.thaw 1;have f2:=I9.r1.thaw 2;have f3:=I9.r1.thaw 3;have f4:=I9.r1.thaw 4;have f5:=I9.r1.thaw 5;obtain⟨k0,k1,k2,k3,k4,k5⟩:=I9.k.row6;have R2:=I9.r2.only (Qaw _ (w.heap.size+1+1+1) (.slice (some ⟨br,0,none⟩) rs.length rc) (.slice (some ⟨g,0,none⟩) O.length c) (.slice gA gs.length gc) (.int .i64 time) (.slice dA ds.length dc) (.slice lA ls.length lc)) (fun e=>I9.ne.2.2.2.2.2 e.symm);obtain⟨y0,y1,y2,y3⟩:=R2.row4;have ee0:=R2.thaw 0;have ee1:=R2.thaw 1;have ee2:=R2.thaw 2;have ee3:=R2.thaw 3;have C1:=Qbh I9.r1 (.slice (some ⟨br,0,none⟩) rs.length rc) (.slice (some ⟨g,0,none⟩) O.length c) (.slice gA gs.length gc) (.int .i64 time) (.slice dA ds.length dc) (.slice lA ls.length lc)
    have B1:=(Qbv I9.r1 (.slice (some ⟨br,0,none⟩) rs.length rc) (.slice (some ⟨g,0,none⟩) O.length c) (.slice gA gs.length gc) (.int .i64 time) (.slice dA ds.length dc) (.slice lA ls.length lc)).only (Qa1 _ (w.heap.size+1+1+1+1) (.int .i64 (0)) (.int .i64 (nn)) (.string ⟨#[]⟩) (.string ⟨#[]⟩)) (fun e=>I9.ne.2.2.2.2.2 e);have C2:=Qbt R2 (.int .i64 (0)) (.int .i64 (nn)) (.string ⟨#[]⟩) (.string ⟨#[]⟩);obtain⟨s0,s1,s2,s3,s4,s5⟩:=C1;obtain⟨t0,t1,t2,t3⟩:=C2;obtain⟨q0,q1,q2,q3,q4,q5⟩:=B1.row6;have hne12:(w.heap.size+1+1+1)≠(w.heap.size+1+1+1+1):=I9.ne.2.2.2.2.2;have hne21:(w.heap.size+1+1+1+1)≠(w.heap.size+1+1+1):=fun e=>I9.ne.2.2.2.2.2 e.symm
    go_wp2;exact bodyPost_ret (v:= .tuple #[.agg (Qaa (some ⟨br,0,none⟩) rs.length rc (some ⟨g,0,none⟩) O.length c gA gs.length gc time dA ds.length dc lA ls.length lc),.agg (Qax (0) (nn) ⟨#[]⟩ ⟨#[]⟩)]) (by simp[results,Tryz.results118,go_sem,s0,s1,s2,s3,s4,s5,t0,t1,t2,t3,q0,q1,q2,q3,q4,q5]) rfl (by have h:=TT.out;simp only[KC.p,HO.out,List.map_set]at h;exact h)
def ownF (m:List Int) (row:Int):Int:=if m.length=0∨row<0 then -1 else m.getD (row % (m.length:Int)).toNat 0
theorem Qjg {m:List Int} {row:Int} (h:m.length=0∨row<0):ownF m row= -1:=by rw[ownF,if_pos h]
theorem Qn0 {m:List Int} {row:Int} (h:¬(m.length=0∨row<0)) {n:Nat} (hn:(row % (m.length:Int))=n) (hlt:n<m.length):ownF m row=m[n]:=by
 unfold ownF;rw[if_neg h,hn];simp[hlt]
theorem Qh7 (gen row:Int) (A B C:Option Addr) (ca cb cc:Nat) (m b o:List Int) (hm:m.length<=1048576) (hr:∀x∈m,I64 x) (w:World) (hA:At w A m) (hB:At w B b) (hC:At w C o):
 Calls Tryz.prog 124 #[.agg (Qak gen A m.length ca B b.length cb C o.length cc),.int .i64 row] w fun e w' =>e= .returned (.int .i64 (ownF m row))/\Below w.heap.size w w' :=by
 have HA:=hidP hA;clear hA hB hC;by_cases h0:m.length=0
 . have hF:Hid (ownF m row= -1):=Qjg (.inl h0);have h0' :(m.length:Int)=0:=(by omega);go_enter Tryz.func124,Tryz.ntmps124;go_wp2;go_ret;exact⟨by rw[hF.out];rfl,by repeat(first|exact Below.refl _ _|assumption|refine via0 (by assumption) ?_|refine Below.drew ?_|refine Qad ?_ _)⟩
 have h0' :((m.length:Int)==0)=false:=by simp only[beq_eq_false_iff_ne];omega
 have h0c:decide ((m.length:Int)=0)=false:=decide_eq_false (by omega);by_cases h1:row<0
 . have hF:Hid (ownF m row= -1):=Qjg (.inr h1);go_enter Tryz.func124,Tryz.ntmps124;go_wp2;go_ret;exact⟨by rw[hF.out];rfl,by repeat(first|exact Below.refl _ _|assumption|refine via0 (by assumption) ?_|refine Below.drew ?_|refine Qad ?_ _)⟩
 have h1' :decide (row<0)=false:=decide_eq_false h1;obtain⟨n,hn⟩:∃n:Nat,row % (m.length:Int)=n:=⟨(row % (m.length:Int)).toNat,by rw[Int.toNat_of_nonneg (Int.emod_nonneg _ (by omega))]⟩
 have hlt:n<m.length:=by have:=Int.emod_lt_of_pos row (show(0:Int)<(m.length:Int)by omega);omega
 have hF:Hid (ownF m row=m[n]):=Qn0 (by omega) hn hlt;obtain⟨b',o',rfl,hbs,hin⟩:∃b o,A=some ⟨b,o,none⟩/\b<w.heap.size/\In w b o m:=by
  rcases HA.out with h|h
  . subst h;simp at hlt
  . exact h
 have c0:=hin.getInt n hlt;have hi0:(0:Int)<=(n:Int):=by omega
 have hi1:(n:Int)<(m.length:Int):=by omega
 have ht:row.tmod (m.length:Int)=n:=by rw[Int.tmod_eq_emod_of_nonneg (by omega)];exact hn
 go_enter Tryz.func124,Tryz.ntmps124;go_wp2
 go_region
 all_goals
  go_wp2;go_ret;exact⟨by rw[hF.out];rfl,by repeat(first|exact Below.refl _ _|assumption|refine via0 (by assumption) ?_|refine Below.drew ?_|refine Qad ?_ _)⟩
def mAt (m:List Int) (who:Int):Option Nat:=if who∈m then some (m.idxOf who)else none
def mAtZ (m:List Int) (who:Int):Int:=match mAt m who with|none=> -1|some i=>(i:Int)
theorem Qow {who:Int}:∀(m:List Int) (n:Nat) (h:n<m.length),m[n]=who->(∀x∈m.take n,x≠who)->m.idxOf who=n
 | [],n,h,_,_=>by simp at h
 |x::m,0,_,e,_=>by simp at e;subst e;simp
 |x::m,n+1,h,e,hn=>by
  have hx:x≠who:=hn x (by simp);have:=Qow m n (by simpa using h) (by simpa using e) (fun y hy=>hn y (by simp[hy]));have hx' :(x==who)=false:=by simpa using hx
  rw[List.idxOf_cons,hx',this];rfl
theorem Qr6 {m:List Int} {who:Int} {n:Nat} (h:n<m.length) (e:m[n]=who) (hn:∀x∈m.take n,x≠who):mAt m who=some n:=by
 unfold mAt;rw[if_pos (e▸List.getElem_mem h),Qow m n h e hn]
theorem Qqe {m:List Int} {who:Int} (h:∀x∈m,x≠who):mAt m who=none:=by unfold mAt;rw[if_neg (fun e=>h who e rfl)]
theorem Qof {m:List Int} {who:Int} {i:Nat} (h:mAt m who=some i):i<m.length:=by
 unfold mAt at h;split at h
 . rename_i hm;cases h;exact List.idxOf_lt_length_of_mem hm
 . cases h
theorem Qlr (gen who:Int) (A B C:Option Addr) (ca cb cc:Nat) (m b o:List Int) (hm:m.length<=1048576) (w:World) (hA:At w A m):
 Calls Tryz.prog 123 #[.agg (Qak gen A m.length ca B b.length cb C o.length cc),.int .i64 who] w fun e w' =>e= .returned (.int .i64 (mAtZ m who))/\Below w.heap.size w w' :=by
 have HA:=hidP hA;clear hA;have p:=Blk.new w 143 (Qak gen A m.length ca B b.length cb C o.length cc);have B0:Below w.heap.size w (w.alloc (.cells (Qak gen A m.length ca B b.length cb C o.length cc) 143)):=Qad (Below.refl _ _) _;go_enter Tryz.func123,Tryz.ntmps123;go_wp2
 go_loopw [5] (fun i W=>∃n:Nat,i= .int .i64 (n:Int)/\n<=m.length/\W=w.alloc (.cells (Qak gen A m.length ca B b.length cb C o.length cc) 143)/\Hid (∀x∈m.take n,x≠who)) (fun i _=>m.length - (intOf i).toNat)
 case atStart=>exact⟨0,rfl,by omega,rfl,by show ∀x∈_,_;simp⟩
 case round=>
  obtain⟨n,rfl,hn,rfl,hno⟩:=hrel;obtain⟨u0,u1,u2,u3⟩:=p.row4;by_cases hlt:n<m.length
  . obtain⟨b',o',rfl,hbs,hin⟩:∃b o,A=some ⟨b,o,none⟩/\b<w.heap.size/\In w b o m:=by
     rcases HA.out with h|h
     . subst h;simp at hlt
     . exact h
    have c0:=(hin.below hbs B0).getInt n hlt;have hi0:(0:Int)<=(n:Int):=(by omega);have hi1:(n:Int)<(m.length:Int):=(by omega);by_cases he:m[n]=who
    . have hz:Hid (mAtZ m who=(n:Int)):=(by show _=_;unfold mAtZ;rw[Qr6 hlt he hno.out]);go_wp2;go_ret;exact⟨by rw[hz.out];rfl,B0⟩
    . go_wp2;refine⟨⟨n+1,by go_num,by omega,(by first|rfl|trivial),?_⟩,by simp[intOf];omega⟩;show ∀x∈_,_;intro x hx;rw[List.take_succ_eq_append_getElem hlt,List.mem_append]at hx;rcases hx with hx|hx
      . exact hno.out x hx
      . simp at hx;subst hx;exact he
  . have hz:Hid (mAtZ m who= -1):=by
     show _=_;unfold mAtZ;rw[Qqe (fun x hx=>hno.out x (by rw[List.take_of_length_le (by omega)];exact hx))]
    go_wp2;go_ret;exact⟨by rw[hz.out];rfl,B0⟩
theorem Qcr {W:World} {p:Nat} {x0 x1 x2 x3:Value} (h:Blk W p 143 #[x0,x1,x2,x3]) (g v1 v2 v3:Value):
 (W.setCell ⟨p,0,none⟩ g).cell? ⟨p,0,none⟩=some g/\((W.setCell ⟨p,0,none⟩ g).setCell ⟨p,1,none⟩ v1).cell? ⟨p,1,none⟩=some v1/\(((W.setCell ⟨p,0,none⟩ g).setCell ⟨p,1,none⟩ v1).setCell ⟨p,2,none⟩ v2).cell? ⟨p,2,none⟩=some v2/\
  ((((W.setCell ⟨p,0,none⟩ g).setCell ⟨p,1,none⟩ v1).setCell ⟨p,2,none⟩ v2).setCell ⟨p,3,none⟩ v3).cell? ⟨p,3,none⟩=some v3:=
 ⟨(h.setAt 0 g).cell (by rfl),((h.setAt 0 g).setAt 1 v1).cell (by rfl),(((h.setAt 0 g).setAt 1 v1).setAt 2 v2).cell (by rfl),((((h.setAt 0 g).setAt 1 v1).setAt 2 v2).setAt 3 v3).cell (by rfl)⟩
theorem Qc1 {w W:World} {gen gen' :Int} {vm vb vo:Value} {a1 a2 a3:Option Addr} {c1 c2 c3:Nat} {m b o:List Int} {F:List Nat} (I:Wi w W gen vm vb vo) (hG:Gp W a1 a2 a3 m b o F) (hF:∀x∈F,w.heap.size<=x/\x≠w.heap.size+1):
 Qiv w (putG W (w.heap.size+1) (.int .i64 gen') (.slice a1 m.length c1) (.slice a2 b.length c2) (.slice a3 o.length c3)) (.returned (.agg (Qak gen' a1 m.length c1 a2 b.length c2 a3 o.length c3))) gen' m b o:=
 ⟨a1,a2,a3,c1,c2,c3,F,rfl,I.bl.trans ((Qc3 _ (w.heap.size+1) _ _ _ _).toBelow (by simp) I.bl.size),hG.off (Qc3 _ _ _ _ _ _) (fun x hx=>by simpa using (hF x hx).2),fun x hx=>(hF x hx).1⟩
def Qen (gen:Int) (m:List Int) (who:Int):Int:=match mAt m who with|none=>gen|some _=>upF gen
def Qc6 (m:List Int) (who:Int) (l:List Int):List Int:=match mAt m who with|none=>l|some i=>l.eraseIdx i
theorem Qh8 (gen who:Int) (hg:I64 gen) (hw:0<=who/\who<=3) (A B C:Option Addr) (ca cb cc:Nat) (m b o:List Int) (hm:m.length<=1048576) (hb:b.length<=1048576) (ho:o.length<=1048576) (hca:m.length<=ca/\ca<=9223372036854775807) (hcb:b.length<=cb/\cb<=9223372036854775807) (w:World) (hA:At w A m) (hB:At w B b) (hC:At w C o):
 Calls Tryz.prog 116 #[.agg (Qak gen A m.length ca B b.length cb C o.length cc),.int .i64 who] w fun e w' =>Qiv w w' e (Qen gen m who) (Qc6 m who m) (Qc6 m who b) o:=by
 have HA:=hidP hA;have HB:=hidP hB;have HC:=hidP hC;clear hA hB hC;have I0:Wi w ((w.alloc (.cells (Qak gen A m.length ca B b.length cb C o.length cc) 143)).alloc (.cells Qcu 143)) gen (.slice A m.length ca) (.slice B b.length cb) (.slice C o.length cc):=⟨by repeat(first|exact Below.refl _ _|assumption|refine via0 (by assumption) ?_|refine Below.drew ?_|refine Qad ?_ _),(Blk.new w 143 (Qak gen A m.length ca B b.length cb C o.length cc)).alloc _,by have:=Blk.new (w.alloc (.cells (Qak gen A m.length ca B b.length cb C o.length cc) 143)) 143 Qcu;rw[World.size_alloc]at this;exact this⟩
 have hin:inB who 0 3=true:=by simp[inB];exact hw
 unfold Qen Qc6;have hZ:Hid (mAtZ m who=match mAt m who with|none=> -1|some i=>(i:Int)):=rfl;have hL:Hid (∀i,mAt m who=some i->i<m.length):=fun i h=>Qof h
 have HCt:Hid (∀W:World,Below w.heap.size w W->Calls Tryz.prog 123 #[.agg (Qak gen A m.length ca B b.length cb C o.length cc),.int .i64 who] W fun e w' =>e= .returned (.int .i64 (mAtZ m who))/\Below W.heap.size W w'):=fun W g=>Qlr gen who A B C ca cb cc m b o hm W (HA.out.below g)
 generalize mAtZ m who=z at hZ HCt;generalize mAt m who=mo at hZ hL ⊢;cases mo with
 |none=>
  have ez:z= -1:=hZ.out;subst ez;clear hZ hL;go_enter Tryz.func116,Tryz.ntmps116;go_wp2_with fail;generalize (w.alloc (.cells (Qak gen A m.length ca B b.length cb C o.length cc) 143)).alloc (.cells Qcu 143)=X0 at I0 ⊢;refine(HCt.out _ I0.bl).mono ?_;rintro e w1 ⟨rfl,g1⟩;have I1:=I0.below g1;obtain⟨u0,u1,u2,u3⟩:=I1.s4;clear I0 g1;go_wp2_with fail;refine(Qdp gen A B C ca cb cc m b o hm hb ho _ (HA.out.below I1.bl) (HB.out.below I1.bl) (HC.out.below I1.bl)).mono ?_;rintro e w2 ⟨a1,a2,a3,c1,c2,c3,F,rfl,g2,hG,hF,k1,k2⟩;have I2:=I1.below g2;have zr:=I1.r.lt;obtain⟨r0,r1,r2,r3⟩:=I2.r.row4;have f0:=I2.r.thaw 0;have f1:=I2.r.thaw 1;have f2:=I2.r.thaw 2;have f3:=I2.r.thaw 3;obtain⟨s0,s1,s2,s3⟩:=Qcr I2.r (.int .i64 gen) (.slice a1 m.length c1) (.slice a2 b.length c2) (.slice a3 o.length c3);have T:=hidP (Qc1 (gen' :=gen) (c1:=c1) (c2:=c2) (c3:=c3) I2 hG (fun x hx=>by have:=hF x hx;have:=I1.bl.size;omega));clear hG hF g2 k1 k2 I1 u0 u1 u2 u3;go_wp2;exact bodyPost_ret (v:= .agg (Qak gen a1 m.length c1 a2 b.length c2 a3 o.length c3)) (by simp[results,Tryz.results116,go_sem,s0,s1,s2,s3]) rfl T.out
 |some i=>
  have ez:z=(i:Int):=hZ.out;have hi:=hL.out i rfl;subst ez;clear hZ hL;go_enter Tryz.func116,Tryz.ntmps116;go_wp2_with fail;generalize (w.alloc (.cells (Qak gen A m.length ca B b.length cb C o.length cc) 143)).alloc (.cells Qcu 143)=X0 at I0 ⊢;refine(HCt.out _ I0.bl).mono ?_;rintro e w1 ⟨rfl,g1⟩;have I1:=I0.below g1;obtain⟨u0,u1,u2,u3⟩:=I1.s4;have hi0:¬(i:Int)<0:=by omega
  clear I0 g1;go_wp2_with fail;refine(Qcf _ _ _ _).mono ?_;rintro e w1' ⟨rfl,rfl⟩;rw[hin];go_wp2_with fail;refine(Qeb gen A B C ca cb cc m b o hm hb ho hca hcb i hi _ (HA.out.below I1.bl) (HB.out.below I1.bl) (HC.out.below I1.bl)).mono ?_;rintro e w2 ⟨a1,a2,a3,c1,c2,c3,F,rfl,g2,hG,hF,k1,k2⟩;have I2:=(I1.below g2).alloc (.cells (Qak gen a1 (m.eraseIdx i).length c1 a2 (b.eraseIdx i).length c2 a3 o.length c3) 143);have P2:=Blk.new w2 143 (Qak gen a1 (m.eraseIdx i).length c1 a2 (b.eraseIdx i).length c2 a3 o.length c3);have G2:=hidP (hG.alloc (.cells (Qak gen a1 (m.eraseIdx i).length c1 a2 (b.eraseIdx i).length c2 a3 o.length c3) 143));have lF:=hidP hG.lt;have zr:=Nat.lt_of_lt_of_le I1.r.lt g2.size;have zb:=I1.bl.size;have z1:=I1.r.lt;have HF:=hidP hF;obtain⟨M,hM⟩:∃M,M=m.eraseIdx i:=⟨_,rfl⟩
  obtain⟨N,hN⟩:∃N,N=b.eraseIdx i:=⟨_,rfl⟩
  simp only[← hM,← hN]at I2 P2 G2 lF ⊢;have HM:=hidP hM;have HN:=hidP hN;clear hM hN hG hF g2 k1 k2 I1 u0 u1 u2 u3;obtain⟨u0,u1,u2,u3⟩:=I2.s4;go_wp2_with fail;generalize w2.alloc (.cells (Qak gen a1 M.length c1 a2 N.length c2 a3 o.length c3) 143)=X2 at I2 P2 G2 u0 u1 u2 u3 ⊢;generalize w2.heap.size=P at P2 lF zr ⊢;refine(Qgb gen hg _).mono ?_;rintro e w3 ⟨rfl,h9⟩;subst w3;have P3:Blk (X2.setCell ⟨P,0,none⟩ (.int .i64 (upF gen))) P 143 (Qak (upF gen) a1 M.length c1 a2 N.length c2 a3 o.length c3):=P2.setAt 0 _;have k3:Off [P] X2 (X2.setCell ⟨P,0,none⟩ (.int .i64 (upF gen))):=Qb4 (Off.refl _ _) _ 0 _ (by simp);have I3:=I2.off k3 zr;have G3:=hidP (G2.out.off k3 (fun x hx=>by have:=lF.out x hx;simp;omega));have hne1:P≠w.heap.size+1:=by omega
  have hne2:w.heap.size+1≠P:=by omega
  obtain⟨x0,x1,x2,x3⟩:=P2.row4;obtain⟨t0,t1,t2,t3⟩:=P3.row4;have y0:=P2.thaw 0;obtain⟨r0,r1,r2,r3⟩:=I3.r.row4;have f0:=I3.r.thaw 0;have f1:=I3.r.thaw 1;have f2:=I3.r.thaw 2;have f3:=I3.r.thaw 3;obtain⟨s0,s1,s2,s3⟩:=Qcr I3.r (.int .i64 (upF gen)) (.slice a1 M.length c1) (.slice a2 N.length c2) (.slice a3 o.length c3);have T:=hidP (Qc1 (gen' :=upF gen) (c1:=c1) (c2:=c2) (c3:=c3) I3 G3.out (fun x hx=>by have:=HF.out x hx;omega));clear P2 P3 k3 I2 I3 G2 G3;go_wp2;have e1:=HM.out;have e2:=HN.out;subst e1 e2;exact bodyPost_ret (v:= .agg (Qak (upF gen) a1 (m.eraseIdx i).length c1 a2 (b.eraseIdx i).length c2 a3 o.length c3)) (by simp[results,Tryz.results116,go_sem,s0,s1,s2,s3]) rfl T.out
def Qfi (m o:List Int) (who row off:Int):Bool:=inB row 0 ((o.length:Int) - 1)&&(ownF m row==who)&&decide (o.getD row.toNat 0<=off)
def Qif (m o:List Int) (who row off:Int):List Int:=if Qfi m o who row off then o.set row.toNat off else o
theorem Qlx {w:World} {a1 a2 a3:Option Addr} {m b o:List Int} {F:List Nat} (h:Gp w a1 a2 a3 m b o F) {n:Nat} (hn:n<o.length):
 ∃b3 o3,a3=some ⟨b3,o3,none⟩/\b3∈F/\b3<w.heap.size/\w.frozen? ⟨b3,o3+n,none⟩=false/\(∃v,w.cell? ⟨b3,o3+n,none⟩=some v)/\∀off:Int,Gp (w.setCell ⟨b3,o3+n,none⟩ (.int .i64 off)) a1 a2 a3 m b (o.set n off) F:=by
 obtain⟨F1,F2,F3,rfl,s1,s2,s3,hnd⟩:=h;rcases s3 with⟨h0,_⟩|⟨b3,o3,rfl,rfl,hb3,hi3,ht3⟩
 . subst h0;simp at hn
 . have hth:=Qlg (f:=0) (k:=1) ht3 hn (by omega);rw[Nat.mul_one,Nat.add_zero]at hth;refine⟨b3,o3,rfl,by simp,hb3,hth.2,hth.1,fun off=> ?_⟩;have k:Off [b3] w (w.setCell ⟨b3,o3+n,none⟩ (.int .i64 off)):=Off.of_only ((Only.refl b3 w).set _ _);have d:=List.nodup_append.1 hnd;have hI:=hi3.set1 n hn off 0 (by show 0<1;omega) (.int .i64 off) rfl;have eA:o3+n*Cel.k Int+0=o3+n:=(by show o3+n*1+0=_;omega);rw[eA]at hI;refine⟨F1,F2,[b3],rfl,s1.off k ?_,s2.off k ?_,.inr ⟨b3,o3,rfl,rfl,by simpa using hb3,hI,?_⟩,hnd⟩
   . intro x hx hm;simp at hm;subst hm;simp only[List.nodup_append]at hnd;exact hnd.2.2 x hx x (by simp) rfl
   . intro x hx hm;simp at hm;subst hm;simp only[List.nodup_append]at hnd;exact hnd.2.1.2.2 x hx x (by simp) rfl
   . rw[List.length_set];exact Qiy ht3 _ _ _
theorem Qi1 (gen who row off:Int) (A B C:Option Addr) (ca cb cc:Nat) (m b o:List Int) (hm:m.length<=1048576) (hb:b.length<=1048576) (ho:o.length<=1048576) (hmi:∀x∈m,I64 x) (w:World) (hA:At w A m) (hB:At w B b) (hC:At w C o):
 Calls Tryz.prog 117 #[.agg (Qak gen A m.length ca B b.length cb C o.length cc),.int .i64 who,.int .i64 gen,.int .i64 row,.int .i64 off] w fun e w' =>∃v,e= .returned (.tuple #[v,.bool (Qfi m o who row off)])/\Qiv w w' (.returned v) gen m b (Qif m o who row off):=by
 have HA:=hidP hA;have HB:=hidP hB;have HC:=hidP hC;have Hmi:=hidP hmi;clear hA hB hC hmi;have I0:Wi w ((w.alloc (.cells (Qak gen A m.length ca B b.length cb C o.length cc) 143)).alloc (.cells Qcu 143)) gen (.slice A m.length ca) (.slice B b.length cb) (.slice C o.length cc):=⟨by repeat(first|exact Below.refl _ _|assumption|refine via0 (by assumption) ?_|refine Below.drew ?_|refine Qad ?_ _),(Blk.new w 143 (Qak gen A m.length ca B b.length cb C o.length cc)).alloc _,by have:=Blk.new (w.alloc (.cells (Qak gen A m.length ca B b.length cb C o.length cc) 143)) 143 Qcu;rw[World.size_alloc]at this;exact this⟩
 have hO:Hid (Qif m o who row off=if Qfi m o who row off then o.set row.toNat off else o):=rfl;have hK:Hid (Qfi m o who row off=(inB row 0 ((o.length:Int) - 1)&&(ownF m row==who)&&decide (o.getD row.toNat 0<=off))):=rfl;have HOw:Hid (∀W:World,Below w.heap.size w W->Calls Tryz.prog 124 #[.agg (Qak gen A m.length ca B b.length cb C o.length cc),.int .i64 row] W fun e w' =>e= .returned (.int .i64 (ownF m row))/\Below W.heap.size W w'):=fun W g=>Qh7 gen row A B C ca cb cc m b o hm Hmi.out W (HA.out.below g) (HB.out.below g) (HC.out.below g)
 generalize Qif m o who row off=O at hO ⊢;generalize Qfi m o who row off=ok at hO hK ⊢;generalize ownF m row=ow at hK HOw;have hIn:Hid (inB row 0 ((o.length:Int) - 1)=true->0<=row/\row<(o.length:Int)):=fun h=>by simp only[inB,Bool.and_eq_true,decide_eq_true_eq]at h;omega
 go_enter Tryz.func117,Tryz.ntmps117;go_wp2_with fail;generalize (w.alloc (.cells (Qak gen A m.length ca B b.length cb C o.length cc) 143)).alloc (.cells Qcu 143)=X0 at I0 ⊢;refine(Qdp gen A B C ca cb cc m b o hm hb ho _ (HA.out.below I0.bl) (HB.out.below I0.bl) (HC.out.below I0.bl)).mono ?_;rintro e w2 ⟨a1,a2,a3,c1,c2,c3,F,rfl,g2,hG,hF,k1,k2⟩;have zr:=Nat.lt_of_lt_of_le I0.r.lt g2.size;have zb:=I0.bl.size;have z1:=I0.r.lt;have I2:=(I0.below g2).alloc (.cells (Qak gen a1 m.length c1 a2 b.length c2 a3 o.length c3) 143);have P2:=Blk.new w2 143 (Qak gen a1 m.length c1 a2 b.length c2 a3 o.length c3);have G2:=hidP (hG.alloc (.cells (Qak gen a1 m.length c1 a2 b.length c2 a3 o.length c3) 143));have lF:=hidP hG.lt;have HF:=hidP hF;obtain⟨u0,u1,u2,u3⟩:=I2.s4;clear hG hF g2 k1 k2 I0;go_wp2_with fail;generalize w2.alloc (.cells (Qak gen a1 m.length c1 a2 b.length c2 a3 o.length c3) 143)=X2 at I2 P2 G2 u0 u1 u2 u3 ⊢;generalize w2.heap.size=P at P2 lF zr ⊢;refine(Qcf _ _ _ _).mono ?_;rintro e w3 ⟨rfl,rfl⟩;generalize inB row 0 ((o.length:Int) - 1)=bI at hK hIn ⊢;have hne1:P≠w.heap.size+1:=by omega
 have hne2:w.heap.size+1≠P:=by omega
 cases bI
 . have eok:ok=false:=(by rw[hK.out];rfl);subst eok;have eO:O=o:=(by rw[hO.out];rfl);subst eO;obtain⟨x0,x1,x2,x3⟩:=P2.row4;obtain⟨r0,r1,r2,r3⟩:=I2.r.row4;have f0:=I2.r.thaw 0;have f1:=I2.r.thaw 1;have f2:=I2.r.thaw 2;have f3:=I2.r.thaw 3;obtain⟨s0,s1,s2,s3⟩:=Qcr I2.r (.int .i64 gen) (.slice a1 m.length c1) (.slice a2 b.length c2) (.slice a3 O.length c3);have T:=hidP (Qc1 (gen' :=gen) (c1:=c1) (c2:=c2) (c3:=c3) I2 G2.out (fun x hx=>by have:=HF.out x hx;omega));clear P2 I2 G2;go_wp2;exact bodyPost_ret (v:= .tuple #[.agg (Qak gen a1 m.length c1 a2 b.length c2 a3 O.length c3),.bool false]) (by simp[results,Tryz.results117,go_sem,s0,s1,s2,s3]) rfl ⟨_,rfl,T.out⟩
 . obtain⟨i0,i1⟩:=hIn.out rfl;clear hIn;go_wp2_with fail;refine(HOw.out _ I2.bl).mono ?_;rintro e w4 ⟨rfl,g4⟩;have lP:=P2.lt;replace P2:=P2.below g4 P2.lt;replace I2:=I2.below g4;replace G2:=hidP (G2.out.below g4);clear g4 u0 u1 u2 u3;obtain⟨u0,u1,u2,u3⟩:=I2.s4;by_cases hw:ow=who
   . have eq1:(ow !=who)=false:=(by simp[hw]);obtain⟨n,rfl⟩:∃n:Nat,row=(n:Int):=⟨row.toNat,by omega⟩
     have hlt:n<o.length:=(by omega);have hgd:Hid (o.getD (n:Int).toNat 0=o[n]):=(by show _=_;simp[hlt]);obtain⟨b',o',rfl,hbs,hin⟩:∃b o',C=some ⟨b,o',none⟩/\b<w.heap.size/\In w b o' o:=by
      rcases HC.out with h|h
      . subst h;simp at hlt
      . exact h
     have cO:=(hin.below hbs I2.bl).getInt n hlt;by_cases hoff:off<o[n]
     . have eok:ok=false:=by
        rw[hK.out,hgd.out];have:decide (o[n]<=off)=false:=decide_eq_false (by omega);rw[this,Bool.and_false]
       subst eok;have eO:O=o:=(by rw[hO.out];rfl);subst eO;obtain⟨x0,x1,x2,x3⟩:=P2.row4;obtain⟨r0,r1,r2,r3⟩:=I2.r.row4;have f0:=I2.r.thaw 0;have f1:=I2.r.thaw 1;have f2:=I2.r.thaw 2;have f3:=I2.r.thaw 3;obtain⟨s0,s1,s2,s3⟩:=Qcr I2.r (.int .i64 gen) (.slice a1 m.length c1) (.slice a2 b.length c2) (.slice a3 O.length c3);have T:=hidP (Qc1 (gen' :=gen) (c1:=c1) (c2:=c2) (c3:=c3) I2 G2.out (fun x hx=>by have:=HF.out x hx;omega));clear P2 I2 G2;go_wp2;exact bodyPost_ret (v:= .tuple #[.agg (Qak gen a1 m.length c1 a2 b.length c2 a3 O.length c3),.bool false]) (by simp[results,Tryz.results117,go_sem,s0,s1,s2,s3]) rfl ⟨_,rfl,T.out⟩
     . have eok:ok=true:=by
        rw[hK.out,hgd.out];have:decide (o[n]<=off)=true:=decide_eq_true (by omega);rw[this];simp[hw]
       subst eok;have eO:Hid (O=o.set n off):=(by show O=_;rw[hO.out];simp);go_upto_region 4 with fail;clear cO u0 u1 u2 u3;obtain⟨b3,o3,e3,hb3,lb3,fz3,⟨v3,hv3⟩,hT3⟩:=Qlx G2.out hlt;subst e3;have l3:=HF.out b3 hb3;have l3' :=lF.out b3 hb3;have hnp:P≠b3:=(by omega);have hnr:w.heap.size+1≠b3:=(by omega);have hng:w.heap.size≠b3:=(by omega);have hnp' :b3≠P:=(by omega);have hnr' :b3≠w.heap.size+1:=(by omega);have hng' :b3≠w.heap.size:=(by omega);have hPg:P≠w.heap.size:=(by omega);have k4:Off [b3] w4 (w4.setCell ⟨b3,o3+n,none⟩ (.int .i64 off)):=Off.of_only ((Only.refl b3 w4).set _ _);have I3:=I2.off k4 (by omega);have P3:=P2.off k4 (by simpa using hnp);obtain⟨x0,x1,x2,x3⟩:=P2.row4;obtain⟨y0,y1,y2,y3⟩:=P3.row4;obtain⟨r0,r1,r2,r3⟩:=I3.r.row4;have f0:=I3.r.thaw 0;have f1:=I3.r.thaw 1;have f2:=I3.r.thaw 2;have f3:=I3.r.thaw 3;have hi0:(0:Int)<=(n:Int):=(by omega);have hi1:(n:Int)<(o.length:Int):=(by omega);obtain⟨s0,s1,s2,s3⟩:=Qcr I3.r (.int .i64 gen) (.slice a1 m.length c1) (.slice a2 b.length c2) (.slice (some ⟨b3,o3,none⟩) o.length c3);have hle:(o.set n off).length=o.length:=List.length_set;have T' :=Qc1 (gen' :=gen) (c1:=c1) (c2:=c2) (c3:=c3) I3 (hT3 off) (fun x hx=>by have:=HF.out x hx;omega);rw[hle]at T';have T:=hidP T';clear P2 P3 I2 I3 G2 k4 hT3 T' hle;go_wp2;exact bodyPost_ret (v:= .tuple #[.agg (Qak gen a1 m.length c1 a2 b.length c2 (some ⟨b3,o3,none⟩) o.length c3),.bool true]) (by simp[results,Tryz.results117,go_sem,s0,s1,s2,s3]) rfl ⟨_,rfl,by rw[eO.out];exact T.out⟩
   . have eq1:(ow !=who)=true:=(by simp[hw]);have eok:ok=false:=by
      rw[hK.out];have:(ow==who)=false:=(by simpa using hw);rw[this];rfl
     subst eok;have eO:O=o:=(by rw[hO.out];rfl);subst eO;obtain⟨x0,x1,x2,x3⟩:=P2.row4;obtain⟨r0,r1,r2,r3⟩:=I2.r.row4;have f0:=I2.r.thaw 0;have f1:=I2.r.thaw 1;have f2:=I2.r.thaw 2;have f3:=I2.r.thaw 3;obtain⟨s0,s1,s2,s3⟩:=Qcr I2.r (.int .i64 gen) (.slice a1 m.length c1) (.slice a2 b.length c2) (.slice a3 O.length c3);have T:=hidP (Qc1 (gen' :=gen) (c1:=c1) (c2:=c2) (c3:=c3) I2 G2.out (fun x hx=>by have:=HF.out x hx;omega));clear P2 I2 G2;go_wp2;exact bodyPost_ret (v:= .tuple #[.agg (Qak gen a1 m.length c1 a2 b.length c2 a3 O.length c3),.bool false]) (by simp[results,Tryz.results117,go_sem,s0,s1,s2,s3]) rfl ⟨_,rfl,T.out⟩
def Qhl (m:List Int) (who:Int):Nat:=(m.takeWhile fun x=>decide (x<who)).length
def Qdv (n:Nat) (x:Int) (l:List Int):List Int:=l.take n++x::l.drop n
def Qf4 (gen:Int) (m:List Int) (who:Int):Int:=match mAt m who with|none=>upF gen|some _=>gen
def Qew (m:List Int) (who:Int):List Int:=match mAt m who with|none=>Qdv (Qhl m who) who m|some _=>m
def Qf5 (m b:List Int) (who time:Int):List Int:=match mAt m who with|none=>Qdv (Qhl m who) time b|some i=>b.set i time
theorem Qlt:∀(m:List Int) (who:Int) (n:Nat),n<=m.length->(∀x∈m.take n,x<who)->(∀h:n<m.length,¬m[n]<who)->Qhl m who=n
 | [],who,n,h,_,_=>by simp at h;subst h;rfl
 |x::m,who,0,_,_,h=>by
  have:=h (by simp);simp at this;unfold Qhl;rw[List.takeWhile_cons,if_neg (by simp;omega)];rfl
 |x::m,who,n+1,hn,h1,h2=>by
  have hx:x<who:=h1 x (by simp);have:=Qlt m who n (by simpa using hn) (fun y hy=>h1 y (by simp[hy])) (fun h=>by have:=h2 (by simpa using h);simpa using this);unfold Qhl at this ⊢;rw[List.takeWhile_cons,if_pos (by simpa using hx),List.length_cons,this]
def cutI (A:Option Addr) (c i:Nat):Option Addr:=if c=i then A else A.map (·.add (i*1))
theorem Qiq (A:Option Addr) (n c j:Nat) (h2:j<=c) (hc:c<=9223372036854775807) (w:World):
 (Instr.slice 63 (.slice A n c) none (some (.int .i64 (j:Int))) none).run Tryz.prog w= .ok (.slice A j c) w:=by
 have e:A.map (fun x=>x.add 0)=A:=by cases A<;>rfl
 simp[Instr.slice,run_underlying Tryz.underlying63,Instr.sliceBounds,Instr.sliceBound,asIntOf,h2,e]
theorem Qfn (A:Option Addr) (n c i:Nat) (h1:i<=n) (h2:n<=c) (hc:c<=9223372036854775807) (w:World):
 (Instr.slice 63 (.slice A n c) (some (.int .i64 (i:Int))) none none).run Tryz.prog w= .ok (.slice (cutI A c i) (n - i) (c - i)) w:=by
 have hz:(sizeOf 3).run Tryz.prog w= .ok 1 w:=Tryz.sizeOf3 w;by_cases h:c=i
 . simp[Instr.slice,run_underlying Tryz.underlying63,Instr.sliceBounds,Instr.sliceBound,asIntOf,hz,cutI,h,h1,h2]
 . simp[Instr.slice,run_underlying Tryz.underlying63,Instr.sliceBounds,Instr.sliceBound,asIntOf,hz,cutI,h,h1,h2]
theorem Qit {w:World} {A:Option Addr} {l:List Int} (h:At w A l) {c:Nat} (i:Nat) (hc:l.length<=c):At w (cutI A c i) (l.drop i):=by
 by_cases e:c=i
 . exact .inl (List.drop_eq_nil_of_le (by omega))
 . rcases h with rfl|⟨b,o,rfl,hb,hi⟩
   . exact .inl (by simp)
   . have e1:cutI (some ⟨b,o,none⟩) c i=some ⟨b,o+i*1,none⟩:=(by unfold cutI;rw[if_neg e,Option.map_some,Addr.add_mid]);rw[e1];exact .inr ⟨b,o+i*1,rfl,hb,hi.drop i⟩
theorem Qr2 (W:World) (x:Int):At (W.alloc (.cells #[.int .i64 x] 3)) (some ⟨W.heap.size,0,none⟩) [x]:=by
 refine .inr ⟨_,_,rfl,by simp,?_⟩;intro j v hv;have e:(flat [x])=(#[Value.int .i64 x]:Array Value).toList:=rfl;rw[e]at hv;exact(Blk.new W 3 #[.int .i64 x]).cell (i:=0+j) (by simpa using hv)
theorem Qgc (W:World) (A D:Option Addr) (c d k1 k2:Nat) (l1 l2:List Int) (x:Int) (e1:k1=l1.length) (e2:k2=l2.length) (h1:l1.length<=1048576) (h2:l2.length<=1048576) (hA:At W A l1) (hD:At W D l2):
 ∃x1 y1 w1 x2 y2 w2 x3 y3 w3,(Builtin.append_ #[63,63] 63 (l1SS (some ⟨W.heap.size,0,none⟩) 0 0 A k1 c)).run Tryz.prog (W.alloc (.cells #[] 3))= .ok (.slice x1 k1 y1) w1/\
  (Builtin.append_ #[63,63] 63 (l1SS x1 k1 y1 (some ⟨w1.heap.size,0,none⟩) 1 1)).run Tryz.prog (w1.alloc (.cells #[.int .i64 x] 3))= .ok (.slice x2 (k1+1) y2) w2/\
  (Builtin.append_ #[63,63] 63 (l1SS x2 (k1+1) y2 D k2 d)).run Tryz.prog w2= .ok (.slice x3 (k1+1+k2) y3) w3/\
  Below W.heap.size W w1/\Below W.heap.size W w2/\Below W.heap.size W w3/\w3.ownsRow W.heap.size 3 1 (.slice x3 (k1+1+k2) y3) (k1+1+k2) (flat (l1++x::l2)):=by
 subst e1 e2;have b0:Below W.heap.size W (W.alloc (.cells #[] 3)):=Qad (Below.refl _ _) _;have o0:(W.alloc (.cells #[] 3)).ownsRow W.heap.size 3 1 (.slice (some ⟨W.heap.size,0,none⟩) 0 0) ([]:List Int).length (flat ([]:List Int)):=World.ownsRow_made W #[] 0 (Nat.le_refl _) (by simp[maxLen]) rfl;obtain⟨v,w1,hr,ho,hg,hat⟩:=Qbj (P:=Tryz.prog) Tryz.underlying63 Qec rfl (by decide) (by decide) W.heap.size _ ([]:List Int) l1 A c _ b0.size o0 (hA.below b0) (by simp;omega);simp only[List.length_nil,Nat.zero_add,List.nil_append]at ho;obtain⟨x1,y1,rfl,_⟩:=Qao ho;have b1:Below W.heap.size W w1:=b0.grown hg b0.size (fun k e=>(o0.lt k e).1);have b1' :Below W.heap.size W (w1.alloc (.cells #[.int .i64 x] 3)):=b1.alloc b1.size _;have hx:At (w1.alloc (.cells #[.int .i64 x] 3)) (some ⟨w1.heap.size,0,none⟩) [x]:=Qr2 w1 x;obtain⟨v,w2,hr2,ho2,hg2,_⟩:=Qbj (P:=Tryz.prog) Tryz.underlying63 Qec rfl (by decide) (by decide) W.heap.size _ l1 [x] (some ⟨w1.heap.size,0,none⟩) 1 (w1.alloc (.cells #[.int .i64 x] 3)) b1'.size (Qau ho _) hx (by simp;omega);simp only[List.length_cons,List.length_nil,Nat.zero_add]at hr2 ho2;obtain⟨x2,y2,rfl,_⟩:=Qao ho2;have b2:Below W.heap.size W w2:=b1'.grown hg2 b1'.size (fun k e=>(ho.lt k e).1);have ho2' :w2.ownsRow W.heap.size 3 1 (.slice x2 (l1.length+1) y2) (l1++ [x]).length (flat (l1++ [x])):=by rw[List.length_append];exact ho2
 obtain⟨v,w3,hr3,ho3,hg3,_⟩:=Qbj (P:=Tryz.prog) Tryz.underlying63 Qec rfl (by decide) (by decide) W.heap.size _ (l1++ [x]) l2 D d w2 b2.size ho2' (hD.below b2) (by simp;omega);have b3:Below W.heap.size W w3:=b2.grown hg3 b2.size (fun k e=>(ho2'.lt k e).1);have e3:(l1++ [x]).length+l2.length=l1.length+1+l2.length:=by simp
 rw[e3,List.append_assoc]at ho3;obtain⟨x3,y3,rfl,_⟩:=Qao ho3;exact⟨x1,y1,w1,x2,y2,w2,x3,y3,w3,hr,hr2,hr3,b1,b2,b3,ho3⟩
theorem Qoy {w:World} {a1 a2 a3:Option Addr} {m b o:List Int} {F:List Nat} (h:Gp w a1 a2 a3 m b o F) {n:Nat} (hn:n<b.length):
 ∃b3 o3,a2=some ⟨b3,o3,none⟩/\b3∈F/\b3<w.heap.size/\w.frozen? ⟨b3,o3+n,none⟩=false/\(∃v,w.cell? ⟨b3,o3+n,none⟩=some v)/\∀off:Int,Gp (w.setCell ⟨b3,o3+n,none⟩ (.int .i64 off)) a1 a2 a3 m (b.set n off) o F:=by
 obtain⟨F1,F2,F3,rfl,s1,s2,s3,hnd⟩:=h;have hnd' :(F1++(F3++F2)).Nodup:=by
  refine(List.Perm.nodup_iff ?_).1 hnd;exact List.Perm.append_left _ (List.perm_append_comm)
 obtain⟨b3,o3,e1,e2,e3,e4,e5,e6⟩:=Qlx (w:=w) (a1:=a1) (a2:=a3) (a3:=a2) (m:=m) (b:=o) (o:=b) (F:=F1++(F3++F2)) ⟨F1,F3,F2,rfl,s1,s3,s2,hnd'⟩ hn;refine⟨b3,o3,e1,by simp at e2 ⊢;rcases e2 with h|h|h<;>simp[h],e3,e4,e5,fun off=> ?_⟩;obtain⟨G1,G3,G2,eG,t1,t3,t2,_⟩:=e6 off;rcases s2 with⟨h0,_⟩|⟨b4,o4,e7,rfl,hb4,hi4,ht4⟩
 . subst h0;simp at hn
 . have e8:b4=b3/\o4=o3:=(by rw[e1]at e7;cases e7;exact⟨rfl,rfl⟩);obtain⟨rfl,rfl⟩:=e8;have k:Off [b4] w (w.setCell ⟨b4,o4+n,none⟩ (.int .i64 off)):=Off.of_only ((Only.refl b4 w).set _ _);simp only[List.nodup_append]at hnd;refine⟨F1,[b4],F3,rfl,s1.off k ?_,?_,s3.off k ?_,by simp only[List.nodup_append];exact hnd⟩
   . intro x hx hm;simp at hm;subst hm;exact hnd.2.2 x hx x (by simp) rfl
   . rcases t2 with⟨h0,_⟩|⟨b5,o5,e9,_,hb5,hi5,ht5⟩
     . have:=congrArg List.length h0;rw[List.length_set]at this;simp at this;subst this;simp at hn
     . rw[e1]at e9;cases e9;exact .inr ⟨_,_,e1,rfl,hb5,hi5,ht5⟩
   . intro x hx hm;simp at hm;subst hm;exact hnd.2.1.2.2 x (by simp) x hx rfl
end Go.Proofs.YtajbldnhjpjghaaGreat.Gen
