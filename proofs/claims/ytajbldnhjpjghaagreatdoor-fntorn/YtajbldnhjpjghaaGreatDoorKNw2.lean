/-
  spec.l6New where time goes on: what it tells. Condition: the sizes of groups, time in its limits.
-/
import Derived.Test.YtajbldnhjpjghaaGreatDoorGrpSt
set_option linter.unusedVariables false
set_option linter.unusedSimpArgs false
set_option maxRecDepth 100000
set_option maxHeartbeats 8000000
set_option maxRecDepth 100000
set_option maxHeartbeats 8000000
namespace Go.Proofs.YtajbldnhjpjghaaGreatDoor.Gen
open ChangeShapes WideShapes ChangeAt RowKit Joins Deep Base
open Items (It)
def tkP (T:Int) (p:PG):PG:=⟨Qe6 p.gen T p.m p.b,Qfm T p.m p.b,Qgo T p.m p.b,p.o⟩
theorem tick_at {l l' :List PG} {T:Int} {n:Nat} (h:l' =(l.take n).map (tkP T)++l.drop n) (hn:n<l.length):l'[n]? =some l[n]:=by
 have hl:((l.take n).map (tkP T)).length=n:=by simp;omega
 rw[h,List.getElem?_append_right (by omega),hl,Nat.sub_self,List.getElem?_drop,Nat.add_zero,List.getElem?_eq_getElem hn]
theorem tick_next {l l' :List PG} {T:Int} {n:Nat} (h:l' =(l.take n).map (tkP T)++l.drop n) (hn:n<l.length):l'.set n (tkP T l[n])=(l.take (n+1)).map (tkP T)++l.drop (n+1):=by
 have hl:((l.take n).map (tkP T)).length=n:=by simp;omega
 rw[h,List.set_append_right _ _ (by omega),hl,Nat.sub_self,List.drop_eq_getElem_cons hn,List.set_cons_zero,List.take_succ_eq_append_getElem hn,List.map_append,List.append_assoc];rfl
theorem min6_any (a b:Int) (w:World):Calls Tryz.prog 108 #[.int .i64 a,.int .i64 b] w fun e w' =>e= .returned (.int .i64 (min a b))/\w' =w:=by
 by_cases h:a<b
 . rw[show min a b=a by omega];go_enter Tryz.func108,Tryz.ntmps108;go_wp2;go_ret;exact⟨rfl,rfl⟩
 . rw[show min a b=b by omega];go_enter Tryz.func108,Tryz.ntmps108;go_wp2;go_ret;exact⟨rfl,rfl⟩
theorem l6New_tick (ro wi le ke:Int) (rA:Option Addr) (rc:Nat) (rs:List RC) (mA:Option Addr) (mc:Nat) (ms:List MC) (gA:Option Addr) (gc:Nat) (gs:List GC) (time:Int) (dA:Option Addr) (dc:Nat) (ds:List Int) (lA:Option Addr) (lc:Nat) (ls:List An) (who seq ca cb cc:Int) (key text:ByteArray) (S:Nat->Prop) (br bg bd bl:Nat) (w:World) (hS:∀b,S b->b<w.heap.size) (hq:KQ w (⟨rA,rc,rs,mA,mc,ms,gA,gc,gs,time,dA,dc,ds,lA,lc,ls⟩:KC) S br bg bd bl) (hgl:gs.length<=1000) (ht:0<=time/\time<=100000) (hca:0<=ca/\ca<=2147483647)
 (hgi:∀y∈gs,y.m.length<=1048576/\y.b.length<=1048576/\y.o.length<=1048576/\I64 y.gen/\(∀z∈y.b,I64 z)):
 Calls Tryz.prog 102 #[.agg (Qaj ro wi le ke),.agg (Qaa rA rs.length rc mA ms.length mc gA gs.length gc time dA ds.length dc lA ls.length lc),.agg (Qab who seq 8 ca cb cc key text)] w fun e w' =>Qcc S w w' e {KC.p (⟨rA,rc,rs,mA,mc,ms,gA,gc,gs,time,dA,dc,ds,lA,lc,ls⟩:KC)with time:=min 100000 (time+ca),gs:=(gs.map GC.p).map (tkP (min 100000 (time+ca)))} ⟨0,min 100000 (time+ca),⟨#[]⟩,⟨#[]⟩⟩:=by
 obtain rfl:gA=(some ⟨bg,0,none⟩):=hq.g.a;have HQ:=hidP hq;obtain⟨T,hT⟩:∃T,min 100000 (time+ca)=T:=⟨_,rfl⟩
 have hT64:I64 T:=by unfold I64;omega
 have HM:Hid (∀W:World,Calls Tryz.prog 108 #[.int .i64 100000,.int .i64 (time+ca)] W fun e w' =>e= .returned (.int .i64 T)/\w' =W):=fun W=>hT▸min6_any _ _ W
 rw[hT];have hbr:br<w.heap.size/\bg<w.heap.size/\bd<w.heap.size/\bl<w.heap.size:=⟨hq.r.lt,hq.g.lt,hq.d.lt,hq.l.lt⟩
 have hgi' :∀p∈gs.map GC.p,p.m.length<=1048576/\p.b.length<=1048576/\p.o.length<=1048576/\I64 p.gen/\(∀z∈p.b,I64 z):=by
  intro p hp;obtain⟨y,hy,rfl⟩:=List.mem_map.1 hp;exact hgi y hy
 have Hgi:=hidP hgi';obtain⟨PGS,hPGS⟩:∃P,gs.map GC.p=P:=⟨_,rfl⟩
 rw[hPGS];have hPl:PGS.length=gs.length:=by rw[← hPGS];simp
 rw[hPGS]at Hgi;clear hq hT hgi hgi';obtain⟨I0,S0,B0⟩:=Qa7 ro wi le ke rA rc rs mA mc ms (some ⟨bg,0,none⟩) gc gs time dA dc ds lA lc ls who seq 8 ca cb cc key text S w hS;go_enter Tryz.func102,Tryz.ntmps102;go_upto_region 1 with fail;generalize ((((w.alloc (.cells (Qaj ro wi le ke) 108)).alloc (.cells (Qaa rA rs.length rc mA ms.length mc (some ⟨bg,0,none⟩) gs.length gc time dA ds.length dc lA ls.length lc) 114)).alloc (.cells (Qab who seq 8 ca cb cc key text) 91)).alloc (.cells Qae 114)).alloc (.cells Qap 169)=X0 at I0 S0 B0 ⊢;obtain⟨k0,k1,k2,k3,k4,k5⟩:=I0.k.row6;obtain⟨c0,c1,c2,c3,c4,c5,c6,c7⟩:=I0.c.row8c;have fk:=I0.k.thaw 3;go_upto_region 2 with fail;go_wp2_with fail;refine(HM.out _).mono ?_;rintro e w' ⟨rfl,rfl⟩;have l0:w.heap.size+1+1+1+1<w'.heap.size:=I0.r2.lt;have I1:=I0.setK 3 (.int .i64 T);have I1:Bx S w (w'.setCell ⟨(w.heap.size+1),3,none⟩ (.int .i64 T)) (w.heap.size+1) (w.heap.size+1+1) (w.heap.size+1+1+1) (w.heap.size+1+1+1+1) (Qaa rA rs.length rc mA ms.length mc (some ⟨bg,0,none⟩) gs.length gc T dA ds.length dc lA ls.length lc) (Qab who seq 8 ca cb cc key text):=I1;have Q1:=((HQ.out.below B0).mono (S' :=(fun b=>S b∨(w.heap.size<=b/\b≠(w.heap.size+1)/\b≠(w.heap.size+1+1)/\b≠(w.heap.size+1+1+1)/\b≠(w.heap.size+1+1+1+1)))) (fun b _ hb=> .inl hb)).setT T;have Q1:=hidP (Q1.box (w.heap.size+1) 3 (.int .i64 T) (by rintro (h|h);have:=hS _ h;omega;omega));have hz1:w'.heap.size=(w'.setCell ⟨(w.heap.size+1),3,none⟩ (.int .i64 T)).heap.size:=by simp
 go_upto_region 3 with fail;clear k0 k1 k2 k3 k4 k5 c0 c1 c2 c3 c4 c5 c6 c7 fk;generalize w'.setCell ⟨(w.heap.size+1),3,none⟩ (.int .i64 T)=X1 at I1 Q1 hz1 ⊢;have l1:w.heap.size+1+1+1+1<X1.heap.size:=by omega
 clear I0 S0 B0 hz1 l0;have Hp0:Hid (gs.map GC.p=(PGS.take 0).map (tkP T)++PGS.drop 0):=by show _=_;simpa using hPGS
 clear hPGS;go_wp2
 go_loopw [8] (fun i wx=>∃(n:Nat) (gs' :List GC),i= .int .i64 (n:Int)/\n<=gs.length/\Hid (gs'.length=gs.length)/\Hid (gs'.map GC.p=(PGS.take n).map (tkP T)++PGS.drop n)/\Bx S w wx (w.heap.size+1) (w.heap.size+1+1) (w.heap.size+1+1+1) (w.heap.size+1+1+1+1) (Qaa rA rs.length rc mA ms.length mc (some ⟨bg,0,none⟩) gs.length gc T dA ds.length dc lA ls.length lc) (Qab who seq 8 ca cb cc key text)/\Hid (KQ wx (⟨rA,rc,rs,mA,mc,ms,(some ⟨bg,0,none⟩),gc,gs',T,dA,dc,ds,lA,lc,ls⟩:KC) (fun b=>S b∨(w.heap.size<=b/\b≠(w.heap.size+1)/\b≠(w.heap.size+1+1)/\b≠(w.heap.size+1+1+1)/\b≠(w.heap.size+1+1+1+1))) br bg bd bl)) (fun i _=>gs.length - (intOf i).toNat)
 case atStart=>exact⟨0,gs,rfl,by omega,rfl,Hp0,I1,Q1⟩
 case round=>
  obtain⟨n,gs',rfl,hn,hl,hp,IW,QW⟩:=hrel;obtain⟨k0,k1,k2,k3,k4,k5⟩:=IW.k.row6;by_cases hlt:n<gs.length
  . have hnP:n<PGS.length:=(by omega);have hng:n<gs'.length:=(by rw[hl.out];exact hlt);obtain⟨⟨gen,a1,c1,m,a2,c2,b,a3,c3,o⟩,hy⟩:∃y,gs'[n]=y:=⟨_,rfl⟩
    have hyp:PGS[n]=⟨gen,m,b,o⟩:=by
     have h:=tick_at hp.out hnP;rw[List.getElem?_map,List.getElem?_eq_getElem hng,hy]at h;simpa [GC.p]using h.symm
    have HG:=hidP (Hgi.out PGS[n] (List.getElem_mem hnP));rw[hyp]at HG;have HCl:Hid (wr.cell? ⟨bg,n*4,none⟩=some (.int .i64 gen)/\wr.cell? ⟨bg,n*4+1,none⟩=some (.slice a1 m.length c1)/\wr.cell? ⟨bg,n*4+2,none⟩=some (.slice a2 b.length c2)/\wr.cell? ⟨bg,n*4+3,none⟩=some (.slice a3 o.length c3)):=by
     have h:=QW.out.g.i.getGC n hng;rw[hy]at h;simp only[Nat.zero_add]at h;exact h
    have HA:Hid (At wr a1 m/\At wr a2 b/\At wr a3 o):=by
     have h:=QW.out.gi gs'[n] (List.getElem_mem hng);rw[hy]at h;exact⟨h.1.at,h.2.1.at,h.2.2.at⟩
    clear hy;have hn0:(0:Int)<=(n:Int):=(by omega);have hn1:(n:Int)<(gs.length:Int):=(by omega);have Hyp:=hidP hyp;clear hyp;go_upto_region 6 with fail;clear k0 k1 k2 k3 k4 k5;have mkS:∀V:World,Bx S w V (w.heap.size+1) (w.heap.size+1+1) (w.heap.size+1+1+1) (w.heap.size+1+1+1+1) (Qaa rA rs.length rc mA ms.length mc (some ⟨bg,0,none⟩) gs.length gc T dA ds.length dc lA ls.length lc) (Qab who seq 8 ca cb cc key text)->Below wr.heap.size wr V->(fun(V:World)=>V.cell? ⟨(w.heap.size+1),2,none⟩=some (.slice (some ⟨bg,0,none⟩) gs.length gc)/\V.cell? ⟨(w.heap.size+1),3,none⟩=some (.int .i64 T)/\V.cell? ⟨bg,n*4,none⟩=some (.int .i64 gen)/\V.cell? ⟨bg,n*4+1,none⟩=some (.slice a1 m.length c1)/\V.cell? ⟨bg,n*4+2,none⟩=some (.slice a2 b.length c2)/\V.cell? ⟨bg,n*4+3,none⟩=some (.slice a3 o.length c3)) V:=fun V q1 q2=>by
     obtain⟨a0,a1,a2,a3,a4,a5⟩:=q1.k.row6;have hb:bg<wr.heap.size:=QW.out.g.lt;obtain⟨r0,r1,r2,r3⟩:=HCl.out;exact⟨a2,a3,(q2.cell (p:=⟨bg,n*4,none⟩) hb).trans r0,(q2.cell (p:=⟨bg,n*4+1,none⟩) hb).trans r1,(q2.cell (p:=⟨bg,n*4+2,none⟩) hb).trans r2,(q2.cell (p:=⟨bg,n*4+3,none⟩) hb).trans r3⟩
    have J0:=IW.drew;have D0:Below wr.heap.size wr wr.drew:=(Below.refl _ _).drew;have hH0:=mkS _ J0 D0;have lw:w.heap.size+1+1+1+1<wr.heap.size:=IW.r2.lt;refine wp_region_noPanic ?_;have hH:((fun(V:World)=>V.cell? ⟨(w.heap.size+1),2,none⟩=some (.slice (some ⟨bg,0,none⟩) gs.length gc)/\V.cell? ⟨(w.heap.size+1),3,none⟩=some (.int .i64 T)/\V.cell? ⟨bg,n*4,none⟩=some (.int .i64 gen)/\V.cell? ⟨bg,n*4+1,none⟩=some (.slice a1 m.length c1)/\V.cell? ⟨bg,n*4+2,none⟩=some (.slice a2 b.length c2)/\V.cell? ⟨bg,n*4+3,none⟩=some (.slice a3 o.length c3))) _:=hH0;refine Qbv 12 ((fun(V:World)=>V.cell? ⟨(w.heap.size+1),2,none⟩=some (.slice (some ⟨bg,0,none⟩) gs.length gc)/\V.cell? ⟨(w.heap.size+1),3,none⟩=some (.int .i64 T)/\V.cell? ⟨bg,n*4,none⟩=some (.int .i64 gen)/\V.cell? ⟨bg,n*4+1,none⟩=some (.slice a1 m.length c1)/\V.cell? ⟨bg,n*4+2,none⟩=some (.slice a2 b.length c2)/\V.cell? ⟨bg,n*4+3,none⟩=some (.slice a3 o.length c3))) (by kernel_rfl) ?_;refine zpk [0,1,2,3,4,5,6,7,8,9] ?_;repeat(refine zpn (h:= ?_);try simp only[zX,zY])
    refine zpe ?_;refine Qaz (i:=10) (by kernel_rfl) rfl (fun K hK=> ?_);simp only[zG]
    go_simp;refine(spTick_any gen T HG.out.2.2.2.1 hT64 a1 a2 a3 c1 c2 c3 m b o HG.out.1 HG.out.2.1 HG.out.2.2.1 HG.out.2.2.2.2 _ (HA.out.1.below D0) (HA.out.2.1.below D0) (HA.out.2.2.below D0)).mono ?_;rintro e w3 ⟨e1,e2,e3,f1,f2,f3,Ff,rfl,g3,hG,hFf⟩;have I3:=J0.below g3;have D3:Below wr.heap.size wr w3:=via0 g3 D0;have hH3:=mkS _ I3 D3;obtain⟨r0,r1,r2,r3⟩:=hH3.2.2;have hth:=(QW.out.below D3).g.th;have fz:∀j,j<4->w3.frozen? ⟨bg,n*4+j,none⟩=false:=(fun j hj=>by have h9:=(hth (n*4+j) (by show n*4+j<gs'.length*4;rw[hl.out];omega)).2;rwa [Nat.zero_add]at h9);have z0:w3.frozen? ⟨bg,n*4,none⟩=false:=fz 0 (by omega);have z1:=fz 1 (by omega);have z2:=fz 2 (by omega);have z3:=fz 3 (by omega);have hk6:Only bg w3 ((((w3.setCell ⟨bg,n*4,none⟩ (.int .i64 (Qe6 gen T m b))).setCell ⟨bg,n*4+1,none⟩ (.slice e1 (Qfm T m b).length f1)).setCell ⟨bg,n*4+2,none⟩ (.slice e2 (Qgo T m b).length f2)).setCell ⟨bg,n*4+3,none⟩ (.slice e3 o.length f3)):=((((Only.refl bg w3).set _ _).set _ _).set _ _).set _ _;have hbw:bg<wr.heap.size:=QW.out.g.lt;have Q6:Hid (KQ ((((w3.setCell ⟨bg,n*4,none⟩ (.int .i64 (Qe6 gen T m b))).setCell ⟨bg,n*4+1,none⟩ (.slice e1 (Qfm T m b).length f1)).setCell ⟨bg,n*4+2,none⟩ (.slice e2 (Qgo T m b).length f2)).setCell ⟨bg,n*4+3,none⟩ (.slice e3 o.length f3)) (⟨rA,rc,rs,mA,mc,ms,(some ⟨bg,0,none⟩),gc,(gs'.set n ⟨Qe6 gen T m b,e1,f1,Qfm T m b,e2,f2,Qgo T m b,e3,f3,o⟩),T,dA,dc,ds,lA,lc,ls⟩:KC) (fun b=>S b∨(w.heap.size<=b/\b≠(w.heap.size+1)/\b≠(w.heap.size+1+1)/\b≠(w.heap.size+1+1+1)/\b≠(w.heap.size+1+1+1+1))) br bg bd bl):=(((QW.out.below D3).setG n hng ⟨Qe6 gen T m b,e1,f1,Qfm T m b,e2,f2,Qgo T m b,e3,f3,o⟩ (gp_av hG (fun x hx=>(by have h9:=hFf x hx;have h8:=hbr;have h7:wr.heap.size<=x:=h9;exact⟨.inr (by omega),by omega,by omega,by omega,by omega⟩)))));have I6:=I3.turn (Offp.of_only hk6) (fun b e=> .inl (by subst e;rcases QW.out.s.2.1 with h|h;exact h;exact absurd h.1 (by omega)));clear hth fz hk6 g3 hG hFf I3 D3
    refine hK.out _ _ (.inr hH3) ?_;clear hK K
    try simp only[zX,zY]
    refine zp1 11 ?_;refine zpn (h:= ?_);try simp only[zX,zY]
    refine zpe ?_;refine Qaz (i:=12) (by kernel_rfl) rfl (fun K hK=> ?_);simp only[zG];go_simp;refine hK.out _ _ (.inl rfl) ?_;clear hK K
    try simp only[zX,zY]
    refine Qcd (by kernel_rfl) ?_ _;refine NoPanic.normal ?_;clear hH0 mkS r0 r1 r2 r3 z0 z1 z2 z3;go_wp2;exact⟨⟨n+1,gs'.set n ⟨Qe6 gen T m b,e1,f1,Qfm T m b,e2,f2,Qgo T m b,e3,f3,o⟩,by go_num,by omega,by show _=_;simpa using hl.out,by show _=_;rw[List.map_set,show GC.p ⟨Qe6 gen T m b,e1,f1,Qfm T m b,e2,f2,Qgo T m b,e3,f3,o⟩=tkP T PGS[n]by rw[Hyp.out];rfl];exact tick_next hp.out hnP,I6,Q6⟩,by simp[intOf];omega⟩
  . obtain rfl:n=gs.length:=(by omega);have hP:Hid (gs'.map GC.p=PGS.map (tkP T)):=by
     have h:=hp.out;rw[List.take_of_length_le (by omega),List.drop_of_length_le (by omega),List.append_nil]at h;exact h
    have Q9:=hidP (QW.out.mono (S' :=fun b=>S b∨(w.heap.size<=b/\b≠(w.heap.size+1+1+1)/\b≠(w.heap.size+1+1+1+1))) (fun b _ hb=>hb.imp id (fun h=>⟨h.1,h.2.2.2.1,h.2.2.2.2⟩)));have I9:=IW;clear IW QW hp;go_upto_region 7 with fail;clear k0 k1 k2 k3 k4 k5;have J:=I9.drew;have QQ:=hidP (Q9.out.below (Below.refl _ _).drew);refine wp_region_noPanic ?_;refine wp_region_held_drew (S:=(fun(V:World)=>Blk V (w.heap.size+1) 114 (Qaa rA rs.length rc mA ms.length mc (some ⟨bg,0,none⟩) gs.length gc T dA ds.length dc lA ls.length lc))) (by kernel_rfl) (show(fun(V:World)=>Blk V (w.heap.size+1) 114 (Qaa rA rs.length rc mA ms.length mc (some ⟨bg,0,none⟩) gs.length gc T dA ds.length dc lA ls.length lc)) _ from J.k) (fun hH=> ?_);generalize wr.drew=XX at J QQ hH ⊢;refine zt1 0 ?_;refine ztn (hS:=hH) (hy:=fun w' hSw=>Qbd rfl rfl hSw Tryz.underlying114 (by kernel_rfl)) (h:= ?_);try simp only[zX,zY]
    refine zte ?_;refine ztk [1,2,3] ?_;repeat(refine ztn (hS:=hH) (hy:=by intro w' hSw;have hC:=hSw.row6;(try dsimp only at hSw);go_simp<;>with_reducible rfl) (h:= ?_);try simp only[zX,zY])
    refine zte ?_;have TT:=hidP (Bx.tell J (y:=(⟨rA,rc,rs,mA,mc,ms,(some ⟨bg,0,none⟩),gc,gs',T,dA,dc,ds,lA,lc,ls⟩:KC)) (br:=br) (bg:=bg) (bd:=bd) (bl:=bl) QQ.out (⟨(0),(T),(⟨#[]⟩),(⟨#[]⟩)⟩:An) (hv:=show _=(Qaa rA rs.length rc mA ms.length mc (some ⟨bg,0,none⟩) gs.length gc T dA ds.length dc lA ls.length lc)by simp only[KC.cells,hl.out]) rfl);refine end2 4 5 J.r1 J.r2 (fun e=>J.ne.2.2.2.2.2 e.symm) (J.k.otherRow J.ne.2.1 _) ((J.k.otherRow J.ne.2.1 _).otherRow J.ne.2.2.1 _) ?_;go_wp2;exact bodyPost_ret (v:= .tuple #[.agg (Qaa rA rs.length rc mA ms.length mc (some ⟨bg,0,none⟩) gs.length gc T dA ds.length dc lA ls.length lc),.agg (Qaw (0) (T) ⟨#[]⟩ ⟨#[]⟩)]) (Qbr Tryz.results102 rfl rfl ((J.r1.row _).otherRow J.ne.2.2.2.2.2 _) ((J.r2.otherRow (fun e=>J.ne.2.2.2.2.2 e.symm) _).row _) Tryz.underlying114 Tryz.underlying169 (by kernel_rfl) (by kernel_rfl)) rfl (by have h:=TT.out;simp only[KC.p,hP.out]at h;exact h)
end Go.Proofs.YtajbldnhjpjghaaGreatDoor.Gen
namespace Go.Proofs.YtajbldnhjpjghaaGreatDoor.Items
open ChangeShapes WideShapes ChangeAt RowKit Shelf Base
theorem Qar {B:Nat} {W W' :World} {v:Value} {t:TypeId} {k n:Nat} {xs:List Value} (h:W.ownsRow B t k v n xs) (hb:Below W.heap.size W W'):W'.ownsRow B t k v n xs:=by
 refine⟨h.1,?_⟩;rcases h.2 with⟨rfl,rfl⟩|⟨g,c,cur,rfl,hB,hg,hc,hm,hsz,ht⟩
 . exact .inl ⟨rfl,rfl⟩
 . exact .inr ⟨g,c,cur,rfl,hB,Blk.below (show Blk W g t cur from hg) hb (Blk.lt (show Blk W g t cur from hg)),hc,hm,hsz,ht⟩
theorem Qav {B:Nat} {W:World} {v:Value} {t:TypeId} {k n:Nat} {xs:List Value} (h:W.ownsRow B t k v n xs) (o:Obj):(W.alloc o).ownsRow B t k v n xs:=Qar h (Qad (Below.refl _ _) _)
theorem Qax {B C:Nat} {W:World} {v:Value} {t:TypeId} {k n:Nat} {xs:List Value} (h:W.ownsRow B t k v n xs) (hC:C<=B):W.ownsRow C t k v n xs:=by
 refine⟨h.1,?_⟩;rcases h.2 with⟨rfl,rfl⟩|⟨g,c,cur,rfl,hB,hg,hc,hm,hsz,ht⟩
 . exact .inl ⟨rfl,rfl⟩
 . exact .inr ⟨g,c,cur,rfl,by omega,hg,hc,hm,hsz,ht⟩
theorem Qcf {B:Nat} {W:World} {v:Value} {t:TypeId} {k n:Nat} {xs:List Value} (h:W.ownsRow B t k v n xs) {g:Nat} (hg:v.ownBlock=some g):g<W.heap.size:=by
 rcases h.2 with⟨rfl,rfl⟩|⟨g',c,cur,rfl,hB,hb,_⟩
 . cases hg
 . have:g' =g:=(by simpa [Value.ownBlock]using hg);subst this;exact Blk.lt (show Blk W g' t cur from hb)
theorem Qc7 {B:Nat} {W:World} {a:Option Addr} {c:Nat} {t:TypeId} {l:List It} (h:W.ownsRow B t 5 (.slice a l.length c) l.length (flat l)):At W a l:=by
 obtain⟨A,c',e,_,hA⟩:=Qa0 h;cases e;exact hA.imp id fun⟨b,o,e,_,hb,hi,_⟩=>⟨b,o,e,hb,hi⟩
end Go.Proofs.YtajbldnhjpjghaaGreatDoor.Items
