/-
  FnNoSpill: at every code the bytes behind a drawn record turn nothing of what is read. No condition.
-/
import Derived.Test.YtpippjjhelgnlaaGreatNSO
set_option linter.unusedVariables false
set_option linter.unusedSimpArgs false
set_option maxRecDepth 100000
set_option maxHeartbeats 8000000
namespace Go.Proofs.YtpippjjhelgnlaaGreat.NoSpillX
open ChangeShapes WideShapes ChangeAt RowKit Joins Deep Base Gen
theorem own:ownKnob Tryz.prog.godebug=none:=by kernel_rfl
theorem laidOut:laidOutB Tryz.prog=true:=by kernel_rfl
theorem bigB_any (A:Option Addr) (n cap:Nat) (hn:n<=9223372036854775807) (w:World):
 Calls Tryz.prog 6 #[.slice A n cap] w fun e w' =>e= .returned (.bool (decide ((1048576:Int)<(n:Int))))/\w' =w:=by
 go_enter Tryz.func6,Tryz.ntmps6;go_wp2;go_ret;exact⟨rfl,rfl⟩
theorem at_any (A:Option Addr) (cap:Nat) (l:List By) (hl:l.length<=1048576) (hby:∀x∈l,x.right) (i:Nat) (hi9:i<=20) (z:Int) (hz:z=(i:Int)) (w:World) (hA:At w A l):
 Calls Tryz.prog 27 #[.slice A l.length cap,.int .i64 z] w fun e w' =>∃y:Int,e= .returned (.int .i64 y)/\0<=y/\y<=255/\w' =w:=by
 subst hz;by_cases h:i<l.length
 . obtain⟨b,o,rfl,hb,hin⟩:∃b o,A=some ⟨b,o,none⟩/\b<w.heap.size/\In w b o l:=hA.resolve_left (fun e=>by rw[e]at h;simp at h);have cx:=hin.getBy i h;obtain⟨h0,h1⟩:=hby l[i] (List.getElem_mem h);have hi:(i:Int)<(l.length:Int):=(by omega);have hi0:(0:Int)<=(i:Int):=(by omega);generalize l[i].n=y at*;go_enter Tryz.func27,Tryz.ntmps27;go_wp2;go_ret;exact⟨y,rfl,h0,h1,rfl⟩
 . have hi:¬(i:Int)<(l.length:Int):=(by omega);have hm:(0:Int)<=((i:Int) *7+(l.length:Int)) % 256/\((i:Int) *7+(l.length:Int)) % 256<=255:=(by omega);have hn:((i:Int) *7+(l.length:Int)).tmod 256=((i:Int) *7+(l.length:Int)) % 256:=(by rw[Int.tmod_eq_emod_of_nonneg (by omega)]);clear hA hby;go_enter Tryz.func27,Tryz.ntmps27;go_wp2;go_ret;exact⟨_,rfl,by omega,by omega,rfl⟩
theorem spill {L:List UInt8} {i:Int} {x:Nt} {c:Nat} (hL:L.length<=200000) (h:ofN L i=some (x,c)) (r:List UInt8):c<=L.length/\x.ok=true/\ofN (L.take c++r) i=some (x,c):=by
 obtain⟨j,rfl⟩:∃j:Nat,i=(j:Int):=by
  by_cases hi:i<0
  . exfalso;unfold ofN Qd9 getT at h;rw[getN_neg hi]at h;simp at h
  . exact⟨i.toNat,by omega⟩
 obtain⟨h1,h2,h3,h4⟩:=Bk.ofN_inv h;generalize hB:Qcu x.kind x.term x.vote x.prev x.l x.snap=B at h4;have hf:(Qcc B).length=c - j:=by rw[h4,List.length_take,List.length_drop];omega
 have hb:B.length<=2147483647:=by
  have:B.length<=(Qcc B).length:=by unfold Qcc;simp only[List.length_append];omega
  omega
 have hj:(L.take j).length=j:=by rw[List.length_take];omega
 have e:L.take c++r=L.take j++(Qcc B++r):=by
  rw[h4,← List.append_assoc,← List.take_add,Nat.add_sub_cancel' h1]
 subst hB;have h5:=Bk.ofN_at (l:=L.take c++r) (p:=L.take j) (r:=r) h3 hb e;rw[hj]at h5;rw[List.length_append,hj,hf,Nat.add_sub_cancel' h1]at h5;exact⟨h2,h3,h5⟩
theorem cm_fit {x:En} (h:EnR x):x.fit:=⟨by have:=h.cm.k0;omega,by have:=h.cm.t0;omega⟩
theorem law_any (A:Option Addr) (cap:Nat) (l:List By) (hl:l.length<=9223372036854775807) (hby:∀x∈l,x.right) (w:World) (hA:At w A l):
 Calls Tryz.prog 5 #[.slice A l.length cap] w fun e w' =>e= .returned (.bool true)/\Below w.heap.size w w' :=by
 have HA:=hidP hA;have Hby:=hidP hby;clear hA hby;by_cases hbig:(1048576:Int)<(l.length:Int)
 . have hd:decide ((1048576:Int)<(l.length:Int))=true:=decide_eq_true hbig;go_enter Tryz.func5,Tryz.ntmps5;go_wp2_with (go_at_call 6;refine(bigB_any A l.length cap hl _).mono ?_;rw[hd];rintro e w1 ⟨rfl,rfl⟩);go_ret;exact⟨rfl,Below.refl _ _⟩
 have hd:decide ((1048576:Int)<(l.length:Int))=false:=decide_eq_false hbig;have hl1:l.length<=1048576:=by omega
 go_enter Tryz.func5,Tryz.ntmps5;go_wp2_with fail;refine(bigB_any A l.length cap hl _).mono ?_;rw[hd];rintro e w0 ⟨rfl,rfl⟩;clear hd;go_wp2_with fail;refine(Qhm A cap l hl1 Hby.out _ HA.out).mono ?_;rintro e w1 ⟨R,aR,cR,i,rfl,hR1,hR2,hR3,hatR,hi64,g1⟩;have HG:=hidP (fun W h=>Qey aR cR R (by omega) hR2 hR3 i hi64 W h);have HGs:=hidP (fun W h=>Qhg aR cR R (by omega) hR2 hR3 i hi64 W h);have HR:=hidP hatR;have HB:=hidP g1;replace HA:=hidP (HA.out.below g1);clear hatR g1;cases hof:ofN R i with
 |none=>
  rw[hof]at HG HGs;go_wp2_with fail;refine(HG.out _ HR.out).mono ?_;rintro e w2 ⟨g2,h2⟩;rcases h2 with⟨_,_,_,_,h2,_⟩|⟨_,rfl⟩
  . cases h2
  replace HR:=hidP (HR.out.below (g2));replace HB:=hidP (via0 g2 HB.out);have HR2:=hidP (HR.out.below (Qad (Below.refl _ w2) (.cells Qai 44)));have BX:=hidP (Blk.new w2 44 Qai);have HB2:=hidP (Qad HB.out (.cells Qai 44));clear g2 HR HB;go_wp2_with fail;refine(HGs.out _ HR2.out).mono ?_;rintro e w3 ⟨g3,h3⟩;rcases h3 with⟨_,_,_,_,h3,_⟩|⟨_,rfl⟩
  . cases h3
  have HB3:=hidP (Qad (via0 g3 HB2.out) (.cells Qai 44));have b3:=(BX.out.below g3 BX.out.lt).alloc (.cells Qai 44);have c0:=b3.cell (i:=0) (v:= .int .i64 0) rfl;have q0:=b3.lt;clear g3 HR2 HB2 BX b3 HG HGs;go_wp2;go_ret;exact⟨rfl,HB3.out⟩
 |some p=>
  obtain⟨x,c⟩:=p;rw[hof]at HG HGs;have HSP:=hidP (fun r=>spill hR1 hof r);go_wp2_with fail;refine(HG.out _ HR.out).mono ?_;rintro e w2 ⟨g2,h2⟩;rcases h2 with⟨x2,c2,ar,cr,h2,o2,rfl⟩|⟨h2,_⟩
  rotate_left
  . cases h2
  obtain⟨rfl,rfl⟩:x=x2/\c=c2:=by simpa using h2
  have HAr:=hidP ((Qa0 o2).at);have BX:=hidP (Blk.new w2 44 (Qah x.kind x.term x.vote x.prev ar (List.length x.l) cr x.snap));have al:=Qad (Below.refl _ w2) (.cells (Qah x.kind x.term x.vote x.prev ar (List.length x.l) cr x.snap) 44);replace HAr:=hidP (HAr.out.below al);replace HR:=hidP ((HR.out.below g2).below al);replace HA:=hidP ((HA.out.below g2).below al);replace HB:=hidP (via0 al (via0 g2 HB.out));clear g2 h2 o2 al HG;go_wp2_with fail;refine(HGs.out _ HR.out).mono ?_;rintro e w3 ⟨g3,h3⟩;rcases h3 with⟨x3,c3,ea,ec,h3,o3,rfl⟩|⟨h3,_⟩
  rotate_left
  . cases h3
  obtain⟨rfl,rfl⟩:x=x3/\c=c3:=by simpa using h3
  generalize w2.heap.size=X at*;have al:=Qad (Below.refl _ w3) (.cells (Qah x.kind x.term x.vote x.prev ea (List.length x.l) ec x.snap) 44);replace BX:=hidP ((BX.out.below g3 BX.out.lt).alloc (.cells (Qah x.kind x.term x.vote x.prev ea (List.length x.l) ec x.snap) 44));replace HAr:=hidP ((HAr.out.below g3).below al);replace HR:=hidP ((HR.out.below g3).below al);replace HA:=hidP ((HA.out.below g3).below al);replace HB:=hidP (via0 al (via0 g3 HB.out));clear g3 h3 o3 al HGs;obtain⟨hcl,hok,_⟩:=HSP.out [];have NR' :=Qd5 (show Qeg x.kind x.term x.vote x.prev x.l x.snap=true from hok);have HNR:=hidP NR';clear NR';have hcut:∀W:World,(Instr.slice 22 (.slice aR R.length cR) none (some (.int .i64 (c:Int))) none).run Tryz.prog W= .ok (.slice aR (R.take c).length cR) W:=fun W=>by
   have e:(R.take c).length=c:=(by rw[List.length_take];omega);rw[e];exact cut_to aR R.length cR c (by omega) hR3 W
  have HT:=hidP (take_at HR.out c);have HSP2:=hidP (fun y1 y2=>(HSP.out [y1,y2]).2.2);have hlt1:(R.take c).length<=200000:=by rw[List.length_take];omega
  clear HSP hof;go_upto_region 10 with fail;generalize R.take c=P at*;generalize w3.heap.size=E at*;generalize w3.alloc (.cells (Qah x.kind x.term x.vote x.prev ea (List.length x.l) ec x.snap) 44)=Wz at*;have HP:=hidP (HT.out);have own0:=Qgu (g:=Wz.heap.size) (B:=Wz.heap.size) (W:=Wz) (Nat.le_refl _) rfl;have al:=Qad (Below.refl _ Wz) (.cells #[] 5);obtain⟨x4,c4,W4,hr4,own4,g4⟩:=Qcn (xs:= []) (c' :=cR) (show Wz.heap.size<=(Wz.alloc (.cells #[] 5)).heap.size by simp) own0 (HP.out.below al) (by simp;omega);rw[List.nil_append]at hr4 own4;have u4:=Qdr own0 (show Wz.heap.size<=(Wz.alloc (.cells #[] 5)).heap.size by simp) g4;have al4:=al.trans u4;have HA4:=hidP (HA.out.below al4);have O4:=hidP own4;have s4:=al4.size;have AL4:=hidP al4;clear own0 al u4 g4 al4 own4 HP HT HR HA;go_wp2_with (at_builtin;refine Qac rfl _ _ _ rfl _ _ _ rfl rfl hr4 ?_);refine(at_any A cap l hl1 Hby.out 1 (by omega) 1 rfl _ HA4.out).mono ?_;rintro e W5 ⟨y1,rfl,hy10,hy11,rfl⟩;go_wp2_with fail;refine(at_any A cap l hl1 Hby.out 2 (by omega) 2 rfl _ HA4.out).mono ?_;rintro e W6 ⟨y2,rfl,hy20,hy21,rfl⟩;have hat:At (W6.alloc (.cells #[.int .u8 y1,.int .u8 y2] 5)) (some ⟨W6.heap.size,0,none⟩) [u8 y1,u8 y2]:= .inr ⟨_,_,rfl,by simp,newIn W6 [u8 y1,u8 y2] #[.int .u8 y1,.int .u8 y2] 5 (by
   show [Value.int .u8 y1,Value.int .u8 y2]= [Value.int .u8 ((u8 y1).toNat:Int),Value.int .u8 ((u8 y2).toNat:Int)]
   rw[Qh2 hy10 hy11,Qh2 hy20 hy21])⟩
  obtain⟨x6,c6,W7,hr6,own6,g6⟩:=Qcn (c' :=2) (show Wz.heap.size<=(W6.alloc (.cells #[.int .u8 y1,.int .u8 y2] 5)).heap.size by simp;omega) (Qaw O4.out (.cells #[.int .u8 y1,.int .u8 y2] 5)) hat (by simp;omega);have u6:=Qdr (Qaw O4.out (.cells #[.int .u8 y1,.int .u8 y2] 5)) (show Wz.heap.size<=(W6.alloc (.cells #[.int .u8 y1,.int .u8 y2] 5)).heap.size by simp;omega) g6;have ch:=(Qad AL4.out (.cells #[.int .u8 y1,.int .u8 y2] 5)).trans u6;have hof:=HSP2.out (u8 y1) (u8 y2);obtain⟨hc61,hc62⟩:=Qgt own6;have hl6:(P++ [u8 y1,u8 y2]).length<=200002:=by simp;omega
  generalize P++ [u8 y1,u8 y2]=B6 at*;have HI:=hidP (Qey x6 c6 B6 (by omega) hc61 hc62 i hi64 W7 (Qa0 own6).at);rw[hof]at HI;replace BX:=hidP (BX.out.below ch BX.out.lt);replace HAr:=hidP (HAr.out.below ch);replace HB:=hidP (via0 ch HB.out);clear own6 g6 u6 hat hof O4 HA4 AL4 HSP2 ch;go_wp2_with (at_builtin;refine Qac rfl _ _ _ rfl _ _ _ rfl rfl hr6 ?_);refine HI.out.mono ?_;rintro e w8 ⟨g8,h8⟩;rcases h8 with⟨x8,c8,aq,cq,h8,o8,rfl⟩|⟨h8,_⟩
  rotate_left
  . cases h8
  obtain⟨rfl,rfl⟩:x=x8/\c=c8:=by simpa using h8
  have al:=Qad (Below.refl _ w8) (.cells (Qah x.kind x.term x.vote x.prev aq (List.length x.l) cq x.snap) 44);have BQ:=hidP (Blk.new w8 44 (Qah x.kind x.term x.vote x.prev aq (List.length x.l) cq x.snap));have HAq:=hidP ((Qa0 o8).at.below al);replace BX:=hidP ((BX.out.below g8 BX.out.lt).alloc (.cells (Qah x.kind x.term x.vote x.prev aq (List.length x.l) cq x.snap) 44));replace HAr:=hidP ((HAr.out.below g8).below al);replace HB:=hidP (via0 al (via0 g8 HB.out));clear g8 h8 o8 al HI hr4 hr6;have HNr:=hidP (fun W (g:Below (w8.alloc (.cells (Qah x.kind x.term x.vote x.prev aq (List.length x.l) cq x.snap) 44)).heap.size (w8.alloc (.cells (Qah x.kind x.term x.vote x.prev aq (List.length x.l) cq x.snap) 44)) W)=>Qdz x.kind x.term x.vote x.prev x.snap (by have:=HNR.out.s;omega) ar cr x.l (by have:=HNR.out.len;omega) (fun y hy=>cm_fit (HNR.out.en y hy)) W (HAr.out.below g));have HNq:=hidP (fun W (g:Below (w8.alloc (.cells (Qah x.kind x.term x.vote x.prev aq (List.length x.l) cq x.snap) 44)).heap.size (w8.alloc (.cells (Qah x.kind x.term x.vote x.prev aq (List.length x.l) cq x.snap) 44)) W)=>Qdz x.kind x.term x.vote x.prev x.snap (by have:=HNR.out.s;omega) aq cq x.l (by have:=HNR.out.len;omega) (fun y hy=>cm_fit (HNR.out.en y hy)) W (HAq.out.below g));generalize Qc1 x.kind x.term x.vote x.prev x.l x.snap=Bs at HNr HNq;go_upto_region 12 with fail;generalize w8.heap.size=Q at*;generalize w8.alloc (.cells (Qah x.kind x.term x.vote x.prev aq (List.length x.l) cq x.snap) 44)=Wf at*;clear HAr HAq HNR;refine wp_region_noPanic ?_
  refine wp_region_held_drew (S:=(fun(V:World)=>Blk V X 44 (Qah x.kind x.term x.vote x.prev ar (List.length x.l) cr x.snap)/\Blk V Q 44 (Qah x.kind x.term x.vote x.prev aq (List.length x.l) cq x.snap))) (by kernel_rfl) ⟨BX.out.below (Below.refl _ _).drew BX.out.lt,BQ.out.below (Below.refl _ _).drew BQ.out.lt⟩ (fun hH=> ?_);refine ztk [0,1,2,3,4,5,6] ?_;repeat(refine ztn (hS:=hH) (h:= ?_);try simp only[zX,zY])
  refine zte ?_;refine zt1 7 ?_;refine ztn (hS:=hH) (hy:=fun w' hSw=>Qba rfl rfl hSw.2 Tryz.underlying44 (by kernel_rfl)) (h:= ?_);try simp only[zX,zY]
  refine zte ?_;refine zt1 10 ?_;refine ztn (hS:=hH) (hy:=fun w' hSw=>Qba rfl rfl hSw.1 Tryz.underlying44 (by kernel_rfl)) (h:= ?_);try simp only[zX,zY]
  refine zte ?_;refine zR1 8 (fun K hK=> ?_);simp only[zG];go_simp;refine(HNq.out _ (Below.refl _ _).drew).mono ?_;rintro e v1 ⟨a1,k1,rfl,g1,o1⟩;have G1:=via0 g1 (Below.drew (Below.refl _ _));have hcv:=Qea a1 k1 Bs v1 (Qa0 o1).at;refine hK.out _ _ ⟨BX.out.below G1 BX.out.lt,BQ.out.below G1 BQ.out.lt⟩ (fun hH=> ?_);clear hK K g1
  try simp only[zX,zY]
  have AT1:=(Qa0 o1).at;clear hcv o1;refine zR2 9 11 (fun K hK=> ?_) (fun K hK=> ?_)
  . simp only[zG];have hcv:=Qea a1 k1 Bs v1 AT1;go_simp;refine hK.out _ _ hH (fun hH=> ?_);clear hK K hcv
    try simp only[zX,zY]
    refine zR1 11 (fun K hK=> ?_);simp only[zG];go_simp;refine(HNr.out _ G1).mono ?_;rintro e v2 ⟨a2,k2,rfl,g2,o2⟩;have G2:=via0 g2 G1;have AT2:=(Qa0 o2).at;replace AT1:=AT1.below g2;refine hK.out _ _ ⟨BX.out.below G2 BX.out.lt,BQ.out.below G2 BQ.out.lt⟩ (fun hH=> ?_);clear hK K g2 o2
    try simp only[zX,zY]
    refine zR1 12 (fun K hK=> ?_);simp only[zG];have hcv:=Qea a2 k2 Bs v2 AT2;go_simp;refine hK.out _ _ hH (fun hH=> ?_);clear hK K hcv
    try simp only[zX,zY]
    refine ztk [13,14,15] ?_;repeat(refine ztn (hS:=hH) (h:= ?_);try simp only[zX,zY])
    refine zte ?_;refine zdn ?_;go_wp2;go_ret;exact⟨rfl,via0 G2 HB.out⟩
  . simp only[zG];go_simp;refine(HNr.out _ G1).mono ?_;rintro e v2 ⟨a2,k2,rfl,g2,o2⟩;have G2:=via0 g2 G1;have AT2:=(Qa0 o2).at;replace AT1:=AT1.below g2;refine hK.out _ _ ⟨BX.out.below G2 BX.out.lt,BQ.out.below G2 BQ.out.lt⟩ (fun hH=> ?_);clear hK K g2 o2
    try simp only[zX,zY]
    refine zR2 9 12 (fun K hK=> ?_) (fun K hK=> ?_)
    . simp only[zG];have hcv:=Qea a1 k1 Bs v2 AT1;go_simp;refine hK.out _ _ hH (fun hH=> ?_);clear hK K hcv
      try simp only[zX,zY]
      refine zR1 12 (fun K hK=> ?_);simp only[zG];have hcv:=Qea a2 k2 Bs v2 AT2;go_simp;refine hK.out _ _ hH (fun hH=> ?_);clear hK K hcv
      try simp only[zX,zY]
      refine ztk [13,14,15] ?_;repeat(refine ztn (hS:=hH) (h:= ?_);try simp only[zX,zY])
      refine zte ?_;refine zdn ?_;go_wp2;go_ret;exact⟨rfl,via0 G2 HB.out⟩
    . simp only[zG];have hcv:=Qea a2 k2 Bs v2 AT2;go_simp;refine hK.out _ _ hH (fun hH=> ?_);clear hK K hcv
      try simp only[zX,zY]
      refine zR1 9 (fun K hK=> ?_);simp only[zG];have hcv:=Qea a1 k1 Bs v2 AT1;go_simp;refine hK.out _ _ hH (fun hH=> ?_);clear hK K hcv
      try simp only[zX,zY]
      refine ztk [13,14,15] ?_;repeat(refine ztn (hS:=hH) (h:= ?_);try simp only[zX,zY])
      refine zte ?_;refine zdn ?_;go_wp2;go_ret;exact⟨rfl,via0 G2 HB.out⟩
theorem cellsU8:Tryz.prog.cellsOf 5=1:=by kernel_rfl
theorem openBy {H:Type} {enc:TypeId × Value->H} {w:World} {base n:Nat} {spare:Nat->Bool} {held:Bool} {a:Addr} {cs:List Value} {y:DataW H × List MemPlace}
 (h1:w.cells? base a 1=some cs) (h2:DataW.trod enc Tryz.prog w base spare held n 5 cs=some y):
 ∃x:By,x.right/\a.spot=none/\a.block<w.heap.size/\∀j v,(Cel.cs x)[j]? =some v->w.cell? ⟨a.block,a.off+j,none⟩=some v:=by
 obtain⟨_,hlen,hc⟩:=World.cells?_some h1
 match cs,hlen with
 | [c0],_=>
  obtain⟨x,e0,_,w0⟩:=DataW.trod_int Tryz.underlying5 h2;simp at e0;subst e0;have q0:=hc 0 (by omega);have hsp:a.spot=none:=by
   cases hs:a.spot with
   |none=>rfl
   |some s=>exfalso;simp[Addr.add,World.cell?,hs]at q0;split at q0<;>simp at q0
  have hlt:a.block<w.heap.size:=by
   rw[show a.add 0=a from rfl]at q0;unfold World.cell? at q0;cases hh:w.heap[a.block]? with
   |none=>simp[hh]at q0
   |some ob=>exact(Array.getElem?_eq_some_iff.1 hh).1
  refine⟨⟨x⟩,by simpa [By.right,Lit.wf,IntKind.min,IntKind.max,IntKind.signed,IntKind.bits]using w0,hsp,hlt,?_⟩;intro j v hv;have hj:j<1:=(List.getElem?_eq_some_iff.1 hv).1;have q:=hc j hj;have e:a.add j=⟨a.block,a.off+j,none⟩:=by
   obtain⟨b,o,s⟩:=a;simp only at hsp;subst hsp;exact Addr.add_mid b o j
  rw[e]at q;rw[q];exact hv
theorem openBytes {H:Type} {enc:TypeId × Value->H} {W:World} {base b0:Nat} {r:Reach} {spare:Nat->Bool} {held:Bool} {v:Value} {d:DataW H} {p:List MemPlace}
 (hv:Value.okWide Tryz.prog W r b0 22 v) (h:DataW.Trod enc Tryz.prog W base spare held 22 v d p):
 ∃(A:Option Addr) (cap:Nat) (l:List By),v= .slice A l.length cap/\l.length<=9223372036854775807/\(∀x∈l,x.right)/\At W A l:=by
 obtain⟨a0,len0,cap0,rfl⟩:=okWide_slice Tryz.underlying22 hv;obtain⟨n,g⟩:=h;rcases open_slice Tryz.underlying22 g with⟨e2,_⟩|⟨a,len,cap,m,n',D,Pl,e2,_,hl,hm,hmm,_,hx⟩
 . simp[Value.cells]at e2;obtain⟨rfl,rfl,rfl⟩:=e2;exact⟨none,0,[],rfl,by simp,by simp,.inl rfl⟩
 . simp[Value.cells]at e2;obtain⟨rfl,rfl,rfl⟩:=e2;have hle:len0<=m:=(by rw[hmm];split<;>omega);rw[cellsU8]at hx;obtain⟨X,hX⟩:=choose_lt (α:=By) (p:=fun i x=>x.right/\(a.add (i*1)).spot=none/\(a.add (i*1)).block<W.heap.size/\∀j v,(Cel.cs x)[j]? =some v->W.cell? ⟨(a.add (i*1)).block,(a.add (i*1)).off+j,none⟩=some v)
    (n:=len0) (fun i hi=>by obtain⟨cs',h1,h2⟩:=hx i (by omega);exact openBy h1 h2)
   obtain⟨l,rfl,hR,hat⟩:=at_of (α:=By) (by decide) (R:=By.right) hX;exact⟨some a,cap0,l,rfl,by simp[maxLen]at hm ⊢;omega,hR,hat⟩
theorem contract (H:Type) (enc:TypeId × Value->H) (W:World) (base:Nat) (args:Array Value) (ds gs:List (DataW H)) (before:List MemPlace)
 (hval:∀(j:Nat) t v,Tryz.f5.params[j]? =some t->args[j]? =some v->Value.okWide Tryz.prog W .any base t v)
 (hW:DataW.Whole enc Tryz.prog Tryz.f5.params.toList Rows.fnNoSpillSpec.vars false W args.toList ds gs before):
 Calls Tryz.prog 5 args W fun e W' =>∃v,e= .returned v/\Rows.fnNoSpillSpec.post enc Tryz.prog Tryz.f5 false true false false W args v W' :=by
 have hW' :=hW;obtain⟨p,q,hA0,hV,rfl,hfz,hnd⟩:=hW;have hA:DataW.TrodAll enc Tryz.prog W 0 (fun _=>true) true Tryz.f5.params.toList args.toList ds p:=hA0;rw[Tryz.params5]at hA hval;obtain⟨v0,vs0,d0,ds0,p0,q0,e0,rfl,rfl,h0,r0⟩:=trodAll_cons hA;obtain⟨rfl,rfl,rfl⟩:=trodAll_nil r0;have e0' :args= #[v0]:=by cases args;simp_all
 subst e0';obtain⟨rfl,rfl⟩:=trodVars_none hV;obtain⟨A,cap,l,rfl,hl,hby,hat⟩:=openBytes (hval 0 22 v0 rfl rfl) h0;refine(law_any A cap l hl hby W hat).mono fun e W' ⟨he,hb⟩=> ?_
 subst he;exact⟨_,rfl,post_true laidOut (by kernel_rfl) (by kernel_rfl) Tryz.underlying4 rfl rfl hW' hb⟩
theorem lifted (os:Os) (started:os.Started) (H:Type) (enc:TypeId × Value->H):
 ReturnsInHanded {} Tryz.checked os 5 .any (Rows.fnNoSpillSpec.pre6 enc Tryz.prog Tryz.f5 Rows.fnNoSpillRow.domain false) (Rows.fnNoSpillSpec.post enc Tryz.prog Tryz.f5 false true false false):=by
 refine returnsInHanded_of_change (C:=Tryz.checked) own started (by kernel_rfl) Tryz.func5
  (ChangeSpec.witness6 (enc:=enc) (C:=Tryz.checked) false ⟨#[],#[.slice none 0 0],[]⟩ 8 (by kernel_rfl) (by kernel_rfl) (by kernel_rfl) (by kernel_rfl)) ?_
 intro W base args ds gs before hval0 hW _ _;exact contract H enc W base args ds gs before hval0 hW
theorem proved:Rows.FnNoSpillSaid:=
 OpenClaim.holds_of_wide 5 Tryz.f5 rfl rfl rfl rfl rfl rfl rfl ⟨rfl,rfl,rfl,rfl,rfl⟩ rfl rfl rfl rfl rfl (by kernel_rfl) Tryz.func5 (by kernel_rfl)
  (of_decide_eq_true (by kernel_rfl)) (by unfold Func.isWrapper;first|(rw[if_pos (by decide+kernel)];kernel_rfl)|(rw[if_neg (by decide+kernel)];exact⟨rfl,rfl⟩))
  (fun os started H enc _=>lifted os started H enc)
end Go.Proofs.YtpippjjhelgnlaaGreat.NoSpillX
namespace Go.Proofs.YtpippjjhelgnlaaGreat
theorem noSpill_holds:Rows.FnNoSpillSaid:=NoSpillX.proved
end Go.Proofs.YtpippjjhelgnlaaGreat
