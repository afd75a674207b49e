/-
  FnTorn: at every code of drawn bytes that are cut anywhere those records are there that were whole, in order. Condition: the library's variable errors.errorType holds what the program's text lays (the card ties it).
-/
import Derived.Test.YtajbldnhjpjghaaGreatDoorNtsP
set_option linter.unusedVariables false
set_option linter.unusedSimpArgs false
set_option maxRecDepth 100000
set_option maxHeartbeats 8000000
set_option maxRecDepth 100000
set_option maxHeartbeats 8000000
namespace Go.Proofs.YtajbldnhjpjghaaGreatDoor.TornX
open ChangeShapes WideShapes ChangeAt RowKit Joins Deep Base Gen
theorem bigB_any (A:Option Addr) (n cap:Nat) (hn:n<=9223372036854775807) (w:World):
 Calls Tryz.prog 4 #[.slice A n cap] w fun e w' =>e= .returned (.bool (decide ((1048576:Int)<(n:Int))))/\w' =w:=by
 go_enter Tryz.func4,Tryz.ntmps4;go_wp2;go_ret;exact⟨rfl,rfl⟩
theorem at_any (A:Option Addr) (cap:Nat) (l:List By) (hl:l.length<=1048576) (hby:∀x∈l,x.right) (i:Nat) (hi9:i<=20) (z:Int) (hz:z=(i:Int)) (w:World) (hA:At w A l):
 Calls Tryz.prog 9 #[.slice A l.length cap,.int .i64 z] w fun e w' =>∃y:Int,e= .returned (.int .i64 y)/\0<=y/\y<=255/\w' =w:=by
 subst hz;by_cases h:i<l.length
 . obtain⟨b,o,rfl,hb,hin⟩:∃b o,A=some ⟨b,o,none⟩/\b<w.heap.size/\In w b o l:=hA.resolve_left (fun e=>by rw[e]at h;simp at h);have cx:=hin.getBy i h;obtain⟨h0,h1⟩:=hby l[i] (List.getElem_mem h);have hi:(i:Int)<(l.length:Int):=(by omega);have hi0:(0:Int)<=(i:Int):=(by omega);generalize l[i].n=y at*;go_enter Tryz.func9,Tryz.ntmps9;go_wp2;go_ret;exact⟨y,rfl,h0,h1,rfl⟩
 . have hi:¬(i:Int)<(l.length:Int):=(by omega);have hm:(0:Int)<=((i:Int) *7+(l.length:Int)) % 256/\((i:Int) *7+(l.length:Int)) % 256<=255:=(by omega);have hn:((i:Int) *7+(l.length:Int)).tmod 256=((i:Int) *7+(l.length:Int)) % 256:=(by rw[Int.tmod_eq_emod_of_nonneg (by omega)]);clear hA hby;go_enter Tryz.func9,Tryz.ntmps9;go_wp2;go_ret;exact⟨_,rfl,by omega,by omega,rfl⟩
theorem cm_fit {x:En} (h:EnR x):x.fit:=⟨by have:=h.cm.k0;omega,by have:=h.cm.t0;omega⟩
theorem el_row {α:Type} [Cel α] {w:World} {b o:Nat} {l:List α} (h:In w b o l) (n:Nat) (hn:n<l.length):w.rangeAt b (o+n*Cel.k α) (Cel.cs l[n]):=fun j v hv=>h.cell n hn (f:=j) hv
theorem Qf3 {P:Program} {a:Act} {op:Oper} {w:World} {ty:TypeId} {x:Operand} (ho:op.op= .load ty x) {b o:Nat} (hx:a.eval x= .pointer (some ⟨b,o,none⟩)) {cs:List Value} (hc:w.rangeAt b o cs) {fs:Array Field} (hu:P.underlying ty=some (.struct fs)) (hi:(P.info? ty).map (·.size)=some cs.length):(execOp a.eval op).run P w= .ok (.value (.agg cs.toArray)) w:=by
 unfold execOp;simp only[ho,hx,Instr.loadAt,Instr.sureAddr,Sem.run_bind,Sem.run_pure,Result.andThen_ok,run_loadVar_mid w b o ty cs (.struct fs) hc hu rfl hi]
theorem torn_facts {L:List UInt8} (hL:L.length<=200000) {m:Nat} (hm:m<=L.length) {P Q:List Nt} {u k:Nat} (hP:Qcl L=(P,u)) (hQ:Qcl (L.take m)=(Q,k)):
 k<=m/\Q.length<=P.length/\(∀i (h:i<Q.length) (h' :i<P.length),P[i]=Q[i])/\(¬m<u->Q.length=P.length):=by
 obtain⟨h1,⟨r,h2⟩,h3⟩:=notes_torn hL hm;rw[hP,hQ]at h2;rw[hP,hQ]at h3;rw[hQ]at h1;simp only at h1 h2 h3;subst h2;exact⟨h1,by simp,fun i h h' =>List.getElem_append_left h,fun h=>by rw[← h3 (by omega)]⟩
theorem cut_at (y:Int) (u:Nat) (h0:0<=y) (h1:y<=255) (hu:u<=150000):∃m:Nat,m<=u/\(y* ((u:Int)+1)).tdiv 256=(m:Int)/\0<=y* ((u:Int)+1)/\y* ((u:Int)+1)<=40000000:=by
 have a:0<=y* ((u:Int)+1):=Int.mul_nonneg h0 (by omega);have b:y* ((u:Int)+1)<=255* ((u:Int)+1):=Int.mul_le_mul_of_nonneg_right h1 (by omega);refine⟨((y* ((u:Int)+1)) / 256).toNat,?_,?_,a,by omega⟩
 . omega
 . rw[Int.tdiv_eq_ediv_of_nonneg a];omega
theorem sizeN6:(Tryz.prog.info? 31).map (·.size)=some 6:=by kernel_rfl
theorem Qi2 (x:NC) (hx:x.p.ok=true) (W:World) (hA:At W x.A x.l):
 Calls Tryz.prog 8 #[.agg (Qai x.kind x.term x.vote x.prev x.A x.l.length x.cap x.snap)] W fun e w' =>∃a' c',e= .returned (.slice a' (ntB x.p).length c')/\Below W.heap.size W w' /\At w' a' (ntB x.p):=by
 have HR:=Qd2 (show Qee x.kind x.term x.vote x.prev x.l x.snap=true from hx);refine(Qft x.kind x.term x.vote x.prev x.snap (by have:=HR.s;omega) x.A x.cap x.l (by have:=HR.len;omega) (fun y hy=>cm_fit (HR.en y hy)) W hA).mono ?_;rintro e w' ⟨a',c',e1,g,o⟩;exact⟨a',c',e1,g,(Qa0 o).at⟩
theorem law_any (A:Option Addr) (cap:Nat) (l:List By) (hl:l.length<=9223372036854775807) (hby:∀x∈l,x.right) (w:World) (hA:At w A l) (hgl:w.cell? ⟨0,0,none⟩=some (.iface 127 (.agg #[.pointer (some ⟨1,40,none⟩)]))):
 Calls Tryz.prog 3 #[.slice A l.length cap] w fun e w' =>e= .returned (.bool true)/\Below w.heap.size w w' :=by
 have HA:=hidP hA;have Hby:=hidP hby;have h0:0<w.heap.size:=by
  rcases Nat.eq_zero_or_pos w.heap.size with h0|h
  . simp[World.cell?,h0]at hgl
  . exact h
 have HG:Hid (∀W:World,Below w.heap.size w W->W.cell? ⟨0,0,none⟩=some (.iface 127 (.agg #[.pointer (some ⟨1,40,none⟩)]))):=hidP (fun W g=>(World.cell?_of_block (a:=⟨0,0,none⟩) (g.block 0 h0)).trans hgl);clear hA hby hgl h0;by_cases hbig:(1048576:Int)<(l.length:Int)
 . have hd:decide ((1048576:Int)<(l.length:Int))=true:=decide_eq_true hbig;go_enter Tryz.func3,Tryz.ntmps3;go_wp2_with (go_at_call 4;refine(bigB_any A l.length cap hl _).mono ?_;rw[hd];rintro e w1 ⟨rfl,rfl⟩);go_ret;exact⟨rfl,Below.refl _ _⟩
 have hd:decide ((1048576:Int)<(l.length:Int))=false:=decide_eq_false hbig;have hl1:l.length<=1048576:=by omega
 go_enter Tryz.func3,Tryz.ntmps3;go_wp2_with fail;refine(bigB_any A l.length cap hl _).mono ?_;rw[hd];rintro e w0 ⟨rfl,rfl⟩;clear hd hbig;go_wp2_with fail;refine(Qiy A cap l hl1 Hby.out _ HA.out).mono ?_;rintro e w1 ⟨L,aL,cL,rfl,hL,hcL,hmL,hAL,g1⟩;have HB:=hidP g1;have HL:=hidP hAL;replace HA:=hidP (HA.out.below g1);clear g1 hAL;obtain⟨P,u,hP⟩:∃P u,Qcl L=(P,u):=⟨_,_,rfl⟩
 have hlen:=notes_len L;have hok:=notes_ok (L:=L) (by omega);have hbytes:=Qlb L;rw[hP]at hlen hok hbytes;simp only at hlen hok hbytes;have HOK:=hidP hok;have HBY:=hidP hbytes.1;have hPn:P.length<=150000:=by omega
 have hu:u<=150000:=by omega
 have huL:u<=L.length:=hbytes.2;have HPU:=hidP hP;have HIM:Hid (∀W:World,Below w1.heap.size w1 W->Calls Tryz.prog 6 #[.slice aL L.length cL] W fun e w' =>∃(xs:List NC) (a:Option Addr) (cp:Nat),e= .returned (.tuple #[.slice a P.length cp,.int .i64 (u:Int)])/\Below W.heap.size W w' /\At w' a xs/\EachN w' xs/\xs.map NC.p=P):=hidP (fun W g=>(Qff aL cL L (by omega) hcL hmL W (HL.out.below g) (HG.out W (via0 g HB.out))).mono (fun e w' h=>by
  obtain⟨xs,a,cp,e1,e2,e3,e4⟩:=h;rw[hP]at e1 e4;have hx:xs.length=P.length:=(List.length_map NC.p).symm.trans (congrArg List.length e4);rw[hx]at e1;exact⟨xs,a,cp,e1,e2,e3.at,Qh9 e3,e4⟩))
 have HSM:Hid (∀W:World,Below w1.heap.size w1 W->Calls Tryz.prog 7 #[.slice aL L.length cL] W fun e w' =>∃(a:Option Addr) (cp:Nat),e= .returned (.tuple #[.slice a P.length cp,.int .i64 (u:Int)])/\Below W.heap.size W w'):=hidP (fun W g=>(Qij aL cL L (by omega) hcL hmL W (HL.out.below g)).mono (fun e w' h=>by
  obtain⟨xs,a,cp,e1,e2,e3,e4⟩:=h;rw[hP]at e1 e4;have hx:xs.length=P.length:=(List.length_map NC.p).symm.trans (congrArg List.length e4);rw[hx]at e1;exact⟨a,cp,e1,e2⟩))
 clear hP hlen hok hbytes;go_wp2_with fail;refine(HIM.out _ (Below.refl _ _)).mono ?_;rintro e w2 ⟨xs,ax,cx,rfl,g2,hx1,hx2,hxp⟩;have HX:=hidP hx1;have HXE:=hidP hx2;have HXP:=hidP hxp;replace HA:=hidP (HA.out.below g2);replace HB:=hidP (via0 g2 HB.out);have HLB:=hidP g2;clear HIM g2 hx1 hx2 hxp;go_wp2_with fail;refine(HSM.out _ HLB.out).mono ?_;rintro e w3 ⟨ay,cy,rfl,g3⟩;replace HX:=hidP (HX.out.below g3);replace HXE:=hidP (HXE.out.below g3);replace HA:=hidP (HA.out.below g3);replace HB:=hidP (via0 g3 HB.out);replace HLB:=hidP (via0 g3 HLB.out);clear HSM g3;have hxl:xs.length=P.length:=by rw[← HXP.out];simp
 have HXO:Hid (∀(i:Nat) (h:i<xs.length) (h' :i<P.length),xs[i].p=P[i]/\xs[i].p.ok=true):=hidP (fun i h h' =>by
  have e:xs[i].p=P[i]:=by
   have:=HXP.out;simp only[← this,List.getElem_map]
  exact⟨e,by rw[e];exact HOK.out _ (List.getElem_mem h')⟩)
 clear HXP HOK;have huu:((u:Int)!=(u:Int))=false:=by simp
 have hpp:((P.length:Int)!=(P.length:Int))=false:=by simp
 go_upto_region 10 with fail;have own0:=Qgy (g:=w3.heap.size) (B:=w3.heap.size) (W:=w3) (Nat.le_refl _) rfl;have al:=Qad (Below.refl _ w3) (.cells #[] 5);have OW:Hid ((w3.alloc (.cells #[] 5)).ownsRow w3.heap.size 5 1 (.slice (some ⟨w3.heap.size,0,none⟩) ([]:List UInt8).length 0) ([]:List UInt8).length (flat ([]:List UInt8))):=own0;have AL:=hidP al;clear own0 al huu hpp
 go_loopw [8,9] (fun v i W=>∃(n:Nat) (a:Option Addr) (c:Nat) (M:List UInt8),i= .int .i64 (n:Int)/\n<=P.length/\v= .slice a M.length c/\Hid (M=upB P n)/\Hid (W.ownsRow w3.heap.size 5 1 (.slice a M.length c) M.length (flat M))/\Hid (Below w3.heap.size w3 W)) (fun _ i _=>P.length - (intOf i).toNat)
 case atStart=>exact⟨0,_,_,[],rfl,by omega,rfl,rfl,OW,AL⟩
 case round=>
  clear OW AL;obtain⟨n,a,c,M,rfl,hn,rfl,hM,hO,hW⟩:=hrel;by_cases hlt:n<P.length
  . have hnx:n<xs.length:=(by omega);obtain⟨bx,ox,rfl,hbx,hIn⟩:∃b o,ax=some ⟨b,o,none⟩/\b<w3.heap.size/\In w3 b o xs:=by
     rcases HX.out with h|h
     . rw[h]at hnx;simp at hnx
     . exact h
    obtain⟨c0,c1,c2,c3,c4,c5⟩:=(hIn.below hbx hW.out).getNC n hnx;obtain⟨hp1,hp2⟩:=HXO.out n hnx hlt;have HNB:=hidP (Qi2 xs[n] hp2 wr ((HXE.out _ (List.getElem_mem hnx)).below hW.out));rw[hp1]at HNB;have hup:=hidP (up_next P n hlt);have hule:=hidP (by have:=up_le P (n+1);rw[HBY.out,List.length_take]at this;have:=hup.out▸this;rw[List.length_append]at this;exact this:(upB P n).length+(ntB P[n]).length<=min u L.length);generalize ntB P[n]=B at HNB hup hule;generalize xs[n]=x at*;have hi0:(0:Int)<=(n:Int):=(by omega);have hi1:(n:Int)<(P.length:Int):=(by omega);clear hIn hp1 hp2;go_wp2_with fail;refine HNB.out.mono ?_;rintro e w4 ⟨ab,cb,rfl,g4,hab⟩;have h4:=via0 g4 hW.out;have O4:=Qar hO.out g4;obtain⟨a5,c5',W5,hr,own5,gr5⟩:=Qcr (c' :=cb) (show w3.heap.size<=w4.heap.size from h4.size) O4 hab (by have:=hule.out;have:=hM.out;rw[this];omega);have u5:=Qen O4 (show w3.heap.size<=w4.heap.size from h4.size) gr5;have B5:=hidP (h4.trans u5);have O5:=hidP own5;have M5:=hidP (show M++B=upB P (n+1)by rw[hup.out,hM.out]);clear own5 gr5 u5 h4 O4 g4 hab HNB hO hW hM hup hule c0 c1 c2 c3 c4 c5;go_wp2_with (at_builtin;refine Qac rfl _ _ _ rfl _ _ _ rfl rfl hr ?_);exact⟨⟨n+1,a5,c5',M++B,by go_num,by omega,by rw[List.length_append],M5,O5,B5⟩,by simp[intOf];omega⟩
  . have hge:¬(n:Int)<(P.length:Int):=(by omega);have hME:M=L.take u:=(by rw[hM.out,up_all P n (by omega),HBY.out]);have hAM:=(Qa0 hO.out).at;have HLW:=hidP (via0 hW.out HLB.out);have HBW:=hidP (via0 hW.out HB.out);have HXW:=hidP (HX.out.below hW.out);have HEW:=hidP (HXE.out.below hW.out);replace HA:=hidP (HA.out.below hW.out);have hcv1:(convert 22 9 (.slice a M.length c)).run Tryz.prog wr.drew= .ok (.string ⟨M.toArray⟩) wr.drew:=Qdp a c M _ (hAM.below (Below.refl _ _).drew);have hcv2:(convert 22 9 (.slice aL M.length cL)).run Tryz.prog wr.drew= .ok (.string ⟨M.toArray⟩) wr.drew:=Qdp aL cL M _ ((hME▸Qkv (HL.out.below HLW.out) u).below (Below.refl _ _).drew);have hcut:∀W:World,(Instr.slice 22 (.slice aL L.length cL) none (some (.int .i64 (u:Int))) none).run Tryz.prog W= .ok (.slice aL M.length cL) W:=fun W=>by
     have e:M.length=u:=(by rw[hME,List.length_take];omega);rw[e];exact cut_to aL L.length cL u (by omega) hmL W
    clear hME hO hM hW HX HXE HLB HB hAM hn;go_upto_region 13 with fail;refine wp_region_noPanic ?_;refine wp_region_held_drew (S:=(fun(V:World)=>(convert 22 9 (.slice a M.length c)).run Tryz.prog V= .ok (.string ⟨M.toArray⟩) V/\(convert 22 9 (.slice aL M.length cL)).run Tryz.prog V= .ok (.string ⟨M.toArray⟩) V)) (by kernel_rfl) ⟨hcv1,hcv2⟩ (fun hH=> ?_);clear hcv1 hcv2;refine ztk [0,2,3] ?_;repeat(refine ztn (hS:=hH) (h:= ?_);try simp only[zX,zY])
    refine zte ?_;refine ztk [4] ?_;repeat(refine ztn (hS:=hH) (h:= ?_);try simp only[zX,zY])
    refine zte ?_;refine ztk [1,5] ?_;repeat(refine ztn (hS:=hH) (h:= ?_);try simp only[zX,zY])
    refine zte ?_;refine ztk [6] ?_;repeat(refine ztn (hS:=hH) (h:= ?_);try simp only[zX,zY])
    refine zte ?_;refine zdn ?_;clear hcut;replace HLW:=hidP (HLW.out.drew);replace HBW:=hidP (HBW.out.drew);replace HXW:=hidP (HXW.out.below (Below.refl _ _).drew);replace HEW:=hidP (HEW.out.below (Below.refl _ _).drew);replace HA:=hidP (HA.out.below (Below.refl _ _).drew);generalize wr.drew=w5 at*;go_wp2_with fail;refine(at_any A cap l hl1 Hby.out 2 (by omega) 2 rfl _ HA.out).mono ?_;rintro e w6 ⟨y,rfl,hy0,hy1,rfl⟩;obtain⟨m,hmu,hq,hm0,hm1⟩:=cut_at y u hy0 hy1 hu;obtain⟨T,hT⟩:∃T,T=L.take m:=⟨_,rfl⟩
    have hTm:T.length=m:=(by rw[hT,List.length_take];omega);have HATT:Hid (At w6 aL T):=hidP (hT▸Qkv (HL.out.below HLW.out) m);have hcut:∀W:World,(Instr.slice 22 (.slice aL L.length cL) none (some (.int .i64 (m:Int))) none).run Tryz.prog W= .ok (.slice aL T.length cL) W:=fun W=>by
     rw[hTm];exact cut_to aL L.length cL m (by omega) hmL W
    obtain⟨Q,k,hQ⟩:∃Q k,Qcl T=(Q,k):=⟨_,_,rfl⟩
    obtain⟨hk,hql,hqp,hqe⟩:=torn_facts (L:=L) (by omega) (m:=m) (by omega) HPU.out (hT▸hQ);have hqok:=notes_ok (L:=T) (by omega);rw[hQ]at hqok;simp only at hqok;have HQO:=hidP hqok;have HQP:=hidP hqp;have HQE:=hidP hqe;have HIM:Hid (∀W:World,Below w6.heap.size w6 W->Calls Tryz.prog 6 #[.slice aL T.length cL] W fun e w' =>∃(zs:List NC) (a:Option Addr) (cp:Nat),e= .returned (.tuple #[.slice a Q.length cp,.int .i64 (k:Int)])/\Below W.heap.size W w' /\At w' a zs/\EachN w' zs/\zs.map NC.p=Q):=hidP (fun W g=>(Qff aL cL T (by omega) (by omega) hmL W (HATT.out.below g) (HG.out W (via0 g HBW.out))).mono (fun e w' h=>by
     obtain⟨zs,a,cp,e1,e2,e3,e4⟩:=h;rw[hQ]at e1 e4;have hx:zs.length=Q.length:=(List.length_map NC.p).symm.trans (congrArg List.length e4);rw[hx]at e1;exact⟨zs,a,cp,e1,e2,e3.at,Qh9 e3,e4⟩))
    clear hQ hqp hqe hqok hT hTm;have hm2:(m:Int)<=150000:=(by omega);go_upto_region 16 with fail;clear hq hm0 hm1;go_wp2_with fail;refine(HIM.out _ (Below.refl _ _)).mono ?_;rintro e w7 ⟨zs,az,cz,rfl,g7,hz1,hz2,hzp⟩;have HZ:=hidP hz1;have HZE:=hidP hz2;have HZP:=hidP hzp;replace HXW:=hidP (HXW.out.below g7);replace HEW:=hidP (HEW.out.below g7);replace HBW:=hidP (via0 g7 HBW.out);clear HIM g7 hz1 hz2 hzp HLW HA hcut;have hzl:zs.length=Q.length:=(by rw[← HZP.out];simp);have HZO:Hid (∀(i:Nat) (h:i<zs.length) (h' :i<xs.length),zs[i].p.ok=true/\xs[i].p.ok=true/\xs[i].p=zs[i].p):=hidP (fun i h h' =>by
     have e:zs[i].p=Q[i]'(by omega):=by
      have:=HZP.out;simp only[← this,List.getElem_map]
     obtain⟨e1,e2⟩:=HXO.out i h' (by omega);have e3:=HQP.out i (by omega) (by omega);exact⟨by rw[e];exact HQO.out _ (List.getElem_mem _),e2,by rw[e,e1,e3]⟩)
    clear HZP HQO HQP HXO HPU HBY HL;have hkm:¬(m:Int)<(k:Int):=(by omega);have hqm:¬(P.length:Int)<(Q.length:Int):=(by omega);go_wp2
    go_loopw [13] (fun i W=>∃(n:Nat),i= .int .i64 (n:Int)/\n<=Q.length/\Hid (Below w7.heap.size w7 W)) (fun i _=>Q.length - (intOf i).toNat)
    case atStart=>exact⟨0,rfl,by omega,hidP (Below.refl _ _)⟩
    case round=>
     obtain⟨n,rfl,hn,hW⟩:=hrel;by_cases hlt:n<Q.length
     . have hnz:n<zs.length:=(by omega);have hnx:n<xs.length:=(by omega);obtain⟨bx,ox,rfl,hbx,hIx⟩:∃b o,ax=some ⟨b,o,none⟩/\b<w7.heap.size/\In w7 b o xs:=by
        rcases HXW.out with h|h
        . rw[h]at hnx;simp at hnx
        . exact h
       obtain⟨bz,oz,rfl,hbz,hIz⟩:∃b o,az=some ⟨b,o,none⟩/\b<w7.heap.size/\In w7 b o zs:=by
        rcases HZ.out with h|h
        . rw[h]at hnz;simp at hnz
        . exact h
       obtain⟨ho1,ho2,ho3⟩:=HZO.out n hnz hnx;have SS:Hid (∀W:World,Below wr.heap.size wr W->(fun(V:World)=>V.rangeAt bz (oz+n*6) (Cel.cs zs[n])/\V.rangeAt bx (ox+n*6) (Cel.cs xs[n])) W):=hidP (fun W g=>⟨el_row (hIz.below hbz (via0 g hW.out)) n hnz,el_row (hIx.below hbx (via0 g hW.out)) n hnx⟩);have HNq:Hid (∀W:World,Below wr.heap.size wr W->Calls Tryz.prog 8 #[.agg (Cel.cs zs[n]).toArray] W fun e w' =>∃a' c',e= .returned (.slice a' (ntB zs[n].p).length c')/\Below W.heap.size W w' /\At w' a' (ntB zs[n].p)):=hidP (fun W g=>Qi2 zs[n] ho1 W ((HZE.out _ (List.getElem_mem hnz)).below (via0 g hW.out)));have HNr:Hid (∀W:World,Below wr.heap.size wr W->Calls Tryz.prog 8 #[.agg (Cel.cs xs[n]).toArray] W fun e w' =>∃a' c',e= .returned (.slice a' (ntB zs[n].p).length c')/\Below W.heap.size W w' /\At w' a' (ntB zs[n].p)):=hidP (fun W g=>ho3▸Qi2 xs[n] ho2 W ((HEW.out _ (List.getElem_mem hnx)).below (via0 g hW.out)));generalize ntB zs[n].p=Bs at HNq HNr;have hi0:(0:Int)<=(n:Int):=(by omega);have hi1:(n:Int)<(Q.length:Int):=(by omega);have hi2:(n:Int)<(P.length:Int):=(by omega);clear hIx hIz ho1 ho2 ho3 HZO;go_upto_region 22 with fail;refine wp_region_noPanic ?_;refine wp_region_held_drew (S:=(fun(V:World)=>V.rangeAt bz (oz+n*6) (Cel.cs zs[n])/\V.rangeAt bx (ox+n*6) (Cel.cs xs[n]))) (by kernel_rfl) (SS.out _ (Below.refl _ _).drew) (fun hH=> ?_);refine ztk [0,1,2,6,7,8] ?_;repeat(refine ztn (hS:=hH) (h:= ?_);try simp only[zX,zY])
       refine zte ?_;refine zt1 3 ?_;refine ztn (hS:=hH) (hy:=fun w' hSw=>Qf3 rfl rfl hSw.1 Tryz.underlying31 sizeN6) (h:= ?_);try simp only[zX,zY]
       refine zte ?_;refine zt1 9 ?_;refine ztn (hS:=hH) (hy:=fun w' hSw=>Qf3 rfl rfl hSw.2 Tryz.underlying31 sizeN6) (h:= ?_);try simp only[zX,zY]
       refine zte ?_;refine zR1 4 (fun K hK=> ?_);simp only[zG];go_simp;refine(HNq.out _ (Below.refl _ _).drew).mono ?_;rintro e v1 ⟨a1,k1,rfl,g1,AT1⟩;have G1:=via0 g1 (Below.drew (Below.refl _ _));refine hK.out _ _ (SS.out _ G1) (fun hH=> ?_);clear hK K g1
       try simp only[zX,zY]
       refine zR2 5 10 (fun K hK=> ?_) (fun K hK=> ?_)
       focus
        simp only[zG];have hcv:=Qdp a1 k1 Bs v1 AT1;go_simp;refine hK.out _ _ hH (fun hH=> ?_);clear hK K hcv
        try simp only[zX,zY]
        refine zR1 10 (fun K hK=> ?_);simp only[zG];go_simp;refine(HNr.out _ G1).mono ?_;rintro e v2 ⟨a2,k2,rfl,g2,AT2⟩;have G2:=via0 g2 G1;refine hK.out _ _ (SS.out _ G2) (fun hH=> ?_);clear hK K g2
        try simp only[zX,zY]
        refine zR1 11 (fun K hK=> ?_);simp only[zG];have hcv:=Qdp a2 k2 Bs v2 AT2
       rotate_left
       focus
        simp only[zG];go_simp;refine(HNr.out _ G1).mono ?_;rintro e v2 ⟨a2,k2,rfl,g2,AT2⟩;have G2:=via0 g2 G1;replace AT1:=AT1.below g2;refine hK.out _ _ (SS.out _ G2) (fun hH=> ?_);clear hK K g2
        try simp only[zX,zY]
        refine zR2 5 11 (fun K hK=> ?_) (fun K hK=> ?_)
        focus
         simp only[zG];have hcv:=Qdp a1 k1 Bs v2 AT1;go_simp;refine hK.out _ _ hH (fun hH=> ?_);clear hK K hcv
         try simp only[zX,zY]
         refine zR1 11 (fun K hK=> ?_);simp only[zG];have hcv:=Qdp a2 k2 Bs v2 AT2
        rotate_left
        focus
         simp only[zG];have hcv:=Qdp a2 k2 Bs v2 AT2;go_simp;refine hK.out _ _ hH (fun hH=> ?_);clear hK K hcv
         try simp only[zX,zY]
         refine zR1 5 (fun K hK=> ?_);simp only[zG];have hcv:=Qdp a1 k1 Bs v2 AT1
       all_goals
        go_simp;refine hK.out _ _ hH (fun hH=> ?_);clear hK K hcv
        try simp only[zX,zY]
        refine ztk [12] ?_;repeat(refine ztn (hS:=hH) (h:= ?_);try simp only[zX,zY])
        refine zte ?_;refine zdn ?_;go_wp2;exact⟨⟨n+1,by go_num,by omega,hidP (via0 G2 hW.out)⟩,by simp[intOf];omega⟩
     . have hge:¬(n:Int)<(Q.length:Int):=(by omega);by_cases hmu2:(m:Int)<(u:Int)
       . go_wp2;go_ret;exact⟨rfl,via0 hW.out HBW.out⟩
       . have hqq:((Q.length:Int)==(P.length:Int))=true:=by
          have:=HQE.out (by omega);simp[this]
         go_wp2;go_ret;exact⟨rfl,via0 hW.out HBW.out⟩
end Go.Proofs.YtajbldnhjpjghaaGreatDoor.TornX
