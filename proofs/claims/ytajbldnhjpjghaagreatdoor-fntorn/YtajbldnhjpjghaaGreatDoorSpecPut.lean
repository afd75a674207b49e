/-
  MakerPut of the specification at this seat.
-/
import Derived.Test.YtajbldnhjpjghaaGreatDoorSpecRowPut
set_option linter.unusedVariables false
set_option linter.unusedSimpArgs false
set_option maxRecDepth 100000
set_option maxHeartbeats 8000000
set_option maxRecDepth 100000
set_option maxHeartbeats 8000000
namespace Go.Proofs.YtajbldnhjpjghaaGreatDoor.Gen
open ChangeShapes WideShapes ChangeAt RowKit Joins Deep Base
theorem Qk0 (row who epoch last window ep seq off:Int) (hw:I64 window) (A:Option Addr) (cap:Nat) (l:List Mk) (hl:l.length<=1048576) (w:World) (hA:At w A l):
 Calls Tryz.prog 129 #[.agg (Qak row who epoch last A l.length cap),.int .i64 window,.int .i64 ep,.int .i64 seq,.int .i64 off] w fun e w' =>∃v,e= .returned (.agg #[.int .i64 row,.int .i64 who,.int .i64 (putE epoch last l ep seq),.int .i64 (putS epoch last l ep seq),v])/\w'.ownsRow w.heap.size 165 2 v (putM window epoch last l ep seq off).length (flat (putM window epoch last l ep seq off))/\Below w.heap.size w w' :=by
 have HA:Hid (At w A l):=hA;have Hw:=hidP hw;clear hA hw;go_enter Tryz.func129,Tryz.ntmps129;go_wp2_with fail;refine(Qa8 row who epoch last A cap l hl _ (HA.out.below (Qad (Qad (Below.refl _ w) _) _))).mono ?_;rintro e w1 ⟨v,rfl,hown,g1⟩;have B1:Below w.heap.size w w1:=via0 g1 (Qad (Qad (Below.refl _ w) _) _);have p0:=((Blk.new w 163 (Qak row who epoch last A l.length cap)).alloc (.cells Qds 163)).below g1 (by simp;omega);have p1:=(Blk.new (w.alloc (.cells (Qak row who epoch last A l.length cap) 163)) 163 Qds).below g1 (by simp);rw[World.size_alloc]at p1;obtain⟨a,c,rfl,hc⟩:=Qan hown;simp only[World.size_alloc]at hown;have Hown:=hidP hown;clear hown hc;obtain⟨u0,u1,u2,u3,u4⟩:=p0.row5;have q0:=p0.lt;have q1:=p1.lt;go_wp2_with fail;refine(Qc5 row who epoch last ep seq A cap l hl _ (HA.out.below (Qad B1 _))).mono ?_;rintro e w2 ⟨rfl,g2⟩;have B2:Below w.heap.size w w2:=via0 g2 (Qad B1 _);have r0:=(p0.alloc (.cells (Qak row who epoch last a l.length c) 163)).below g2 (p0.alloc _).lt;have r1:=(p1.alloc (.cells (Qak row who epoch last a l.length c) 163)).below g2 (p1.alloc _).lt;have r2:=(Blk.new w1 163 (Qak row who epoch last a l.length c)).below g2 (by simp);have far2:some w1.heap.size≠(Value.slice a l.length c).ownBlock:=fun h=>by have:=Qcf Hown.out h.symm;omega
 have Hown2:=hidP (Qar (Qav Hown.out (.cells (Qak row who epoch last a l.length c) 163)) g2);have far1:some (w.heap.size+1)≠(Value.slice a l.length c).ownBlock:=Qa6 Hown2.out (by omega);have HB2:=hidP B2;clear u0 u1 u2 u3 u4 p0 p1 Hown g1 g2 B1 B2;generalize hBB:w1.heap.size=B at*;clear hBB;have q2:=r2.lt;have q3:=r0.lt;have q4:=r1.lt;obtain⟨c0,c1,c2,c3,c4⟩:=r2.row5;obtain⟨u0,u1,u2,u3,u4⟩:=r0.row5;obtain⟨n0,n1,n2,n3,n4⟩:=r1.row5;have k0:=r1.thaw 0;have k1:=r1.thaw 1;have k2:=r1.thaw 2;have k3:=r1.thaw 3;have k4:=r1.thaw 4;have j2:=r2.thaw 2;have j3:=r2.thaw 3;have j4:=r2.thaw 4;have hne:B≠w.heap.size+1:=by omega
 have hne' :w.heap.size+1≠B:=by omega
 by_cases hd:askC epoch last l ep seq=0
 . have hep:=askC_epoch hd;have HE:Hid (putE epoch last l ep seq=ep):=(by show _=_;simp[putE,putD,hd]);have HS:Hid (putS epoch last l ep seq=seq):=(by show _=_;simp[putS,putD,hd]);have HM:Hid (putM window epoch last l ep seq off=Qj2 window (putB epoch l ep++ [⟨seq,off⟩])):=(by show _=_;simp[putM,putD,hd]);rw[hd];clear hd;by_cases he:ep>epoch
   . have HB:Hid (putB epoch l ep= []):=(by show _=_;simp[putB,he]);have hx:¬ep=epoch:=(by omega);clear hep;have hX:At ((((w2.setCell ⟨B,4,none⟩ (.slice none 0 0)).setCell ⟨B,2,none⟩ (.int .i64 ep)).setCell ⟨B,3,none⟩ (.int .i64 seq)).alloc (.cells #[.int .i64 seq,.int .i64 off] 165)) (some ⟨w2.heap.size,0,none⟩) ([⟨seq,off⟩]:List Mk):=by
      have bx:=Blk.new (((w2.setCell ⟨B,4,none⟩ (.slice none 0 0)).setCell ⟨B,2,none⟩ (.int .i64 ep)).setCell ⟨B,3,none⟩ (.int .i64 seq)) 165 #[.int .i64 seq,.int .i64 off];have e:(((w2.setCell ⟨B,4,none⟩ (.slice none 0 0)).setCell ⟨B,2,none⟩ (.int .i64 ep)).setCell ⟨B,3,none⟩ (.int .i64 seq)).heap.size=w2.heap.size:=(by simp);rw[e]at bx;exact .inr ⟨w2.heap.size,0,rfl,by simp,fun j u hu=>bx.cell (i:=0+j) (by simpa [flat,Cel.cs]using hu)⟩
     have hWB:Below w.heap.size w ((((w2.setCell ⟨B,4,none⟩ (.slice none 0 0)).setCell ⟨B,2,none⟩ (.int .i64 ep)).setCell ⟨B,3,none⟩ (.int .i64 seq)).alloc (.cells #[.int .i64 seq,.int .i64 off] 165)):=Qad (Qas (Qas (Qas HB2.out (by omega) _) (by omega) _) (by omega) _) _;obtain⟨v',w3,hr,hown3,hgrow,hat⟩:=Qkr (w.heap.size+1+1) (.slice none 0 0) [] [⟨seq,off⟩] (some ⟨w2.heap.size,0,none⟩) 1 ((((w2.setCell ⟨B,4,none⟩ (.slice none 0 0)).setCell ⟨B,2,none⟩ (.int .i64 ep)).setCell ⟨B,3,none⟩ (.int .i64 seq)).alloc (.cells #[.int .i64 seq,.int .i64 off] 165)) (by simp;omega) (World.ownsRow_nil _ _ _ _) hX (by first|(simp;done)|(simp;omega));simp only[List.length_cons,List.length_nil,Nat.zero_add]at hown3 hr;have far3:some B≠(Value.slice none 0 0).ownBlock:=(by simp[Value.ownBlock]);have Y1:=((((r1.other (B' :=B) (by omega) 4 (.slice none 0 0)).other (B' :=B) (by omega) 2 (.int .i64 ep)).other (B' :=B) (by omega) 3 (.int .i64 seq)).alloc (.cells #[.int .i64 seq,.int .i64 off] 165)).kept hgrow (by simp[Value.ownBlock]);have Y2:=((((r2.setAt 4 (.slice none 0 0)).setAt 2 (.int .i64 ep)).setAt 3 (.int .i64 seq)).alloc (.cells #[.int .i64 seq,.int .i64 off] 165)).kept hgrow far3;have hsz:((((w2.setCell ⟨B,4,none⟩ (.slice none 0 0)).setCell ⟨B,2,none⟩ (.int .i64 ep)).setCell ⟨B,3,none⟩ (.int .i64 seq)).alloc (.cells #[.int .i64 seq,.int .i64 off] 165)).heap.size=w2.heap.size+1:=(by simp);have B3:=hidP (hWB.grown hgrow hWB.size (fun k e=>by cases e));obtain⟨g,c',hgB,hg3,hnc,hmc,rfl⟩:∃g c',w.heap.size+1+1<=g/\g<w3.heap.size/\1<=c' /\c' <=maxLen/\v' = .slice (some ⟨g,0,none⟩) (1) c' :=by
      rcases hown3.2 with⟨_,h⟩|⟨g,c1,cur,e1,hB,hb,h1,h2,_⟩
      . omega
      . exact⟨g,c1,hB,Blk.lt (show Blk w3 g _ cur from hb),h1,h2,e1⟩
     have hgB' :g≠B:=fun h=>by
      rcases hat with e|e
      . exact far3 (by rw[← e,← h];rfl)
      . rw[hsz]at e;have:g=w2.heap.size+1:=Option.some.inj e;omega
     have hw3:w2.heap.size<=w3.heap.size:=(by have:=hgrow.size;rw[hsz]at this;omega);unfold maxLen at hmc;have eL:Qj2 window (putB epoch l ep++ [⟨seq,off⟩])=([]++ [⟨seq,off⟩]:List Mk).drop ((1) - window.toNat):=(by rw[HB.out];simp[Qj2]);have EL:=hidP eL;have Z2:Blk _ B 163 (Qak row who ep seq (some ⟨g,0,none⟩) (1) c'):=(Y2.setAt 4 (.slice (some ⟨g,0,none⟩) (1) c')).drew;have Z1:=(Y1.other (B' :=B) (by omega) 4 (.slice (some ⟨g,0,none⟩) (1) c')).drew;have ownB:some B≠(Value.slice (some ⟨g,0,none⟩) (1) c').ownBlock:=fun h=>hgB' (by have:B=g:=Option.some.inj h;exact this.symm)
     have Z0:Hid ((w3.setCell ⟨B,4,none⟩ (.slice (some ⟨g,0,none⟩) (1) c')).drew.ownsRow (w.heap.size+1+1) 165 2 (.slice (some ⟨g,0,none⟩) (1) c') (1) (flat ([]++ [(⟨seq,off⟩:Mk)]))):=Qal hown3 ownB;have B4:Hid (Below w.heap.size w (w3.setCell ⟨B,4,none⟩ (.slice (some ⟨g,0,none⟩) (1) c')).drew):=(Qas B3.out (by omega) _).drew;have SD:=hidP Z2.row5.2.2.2.2;obtain⟨i0,i1,i2,i3,i4⟩:=Y2.row5;have x4:=Y2.thaw 4;have hm0:0<=mx window 0:=(by unfold mx;split<;>omega);have hm1:mx window 0<=9223372036854775807:=(by have:=Hw.out.2;unfold mx;split<;>omega);have hmax:∀W,Calls Tryz.prog 132 #[.int .i64 window,.int .i64 0] W fun e w' =>e= .returned (.int .i64 (mx window 0))/\w' =W:=fun W=>max_any window 0 W
     have Hmax:=hidP hmax;have hMt:window.toNat=(mx window 0).toNat:=(by unfold mx;split<;>omega);generalize hM:mx window 0=M at*;clear hX hWB hown3 hgrow hat hsz eL hmax hM;by_cases hlt:M<1
     . obtain⟨J,hJ⟩:∃J:Int,IntKind.i64.wrap (1 - M)=J:=⟨_,rfl⟩
       have hJ1:J=1 - M:=(by rw[← hJ,IntKind.wrap_i64];omega);have hJ0:0<=J:=(by omega);have hJn:J<=1:=(by omega);have HJ2:Hid ((1) - window.toNat=J.toNat):=(by show _=_;rw[hJ1];omega);have HJ3:=hidP hJ;clear hJ1 hJ hMt;go_wp2_with (at_builtin;refine Qac rfl _ _ _ rfl _ _ _ rfl rfl hr ?_);refine wp_region_noPanic ?_;refine wp_region_held_drew (S:=fun w' =>w'.cell? ⟨B,4,none⟩=some (.slice (some ⟨g,0,none⟩) (1) c')) (by kernel_rfl) ?_ (fun hH=> ?_)
       . exact SD.out
       refine ztk [0,1,2,3] ?_;repeat(refine ztn (h:= ?_);try simp only[zX,zY])
       refine zte ?_;refine zR1 4 (fun K hK=> ?_);simp only[zG];go_simp
       (go_at_call 132;refine(Hmax.out _).mono ?_;rintro e w4 ⟨rfl,rfl⟩)
       refine hK.out _ _ SD.out fun hH=> ?_;clear hK K;try simp only[zX,zY]
       refine zt1 5 ?_;refine ztn (h:= ?_);try simp only[zX,zY]
       refine zte ?_;refine zdn ?_;clear SD i0 i1 i2 i3 i4 x4 Y1 Y2 B3;generalize (w3.setCell ⟨B,4,none⟩ (.slice (some ⟨g,0,none⟩) (1) c')).drew=W5 at*;obtain⟨i0,i1,i2,i3,i4⟩:=Z2.row5;have x4:=Z2.thaw 4;have FD:=Qif (α:=Mk) (j:=J.toNat) (L:= []++ [⟨seq,off⟩]) (by simp) Z0.out (by omega);have hat6:=FD.at;change At W5 (if c' =J.toNat then some ⟨g,0,none⟩else some ⟨g,J.toNat*2,none⟩) _ at hat6;generalize hDD:([]++ [⟨seq,off⟩]:List Mk).drop J.toNat=D at*;have hDl:D.length=1 - J.toNat:=(by rw[← hDD];simp);have hWB:Below w.heap.size w (W5.alloc (.cells #[] 165)).drew:=(Qad B4.out _).drew;have hb5:w.heap.size+1<W5.heap.size:=Z1.lt;obtain⟨v6,w6,hr6,hown6,hgrow6,hat7⟩:=Qkr (w.heap.size+1+1) (.slice (some ⟨W5.heap.size,0,none⟩) 0 0) [] D (if c' =J.toNat then some ⟨g,0,none⟩else some ⟨g,J.toNat*2,none⟩) (c' - J.toNat) (W5.alloc (.cells #[] 165)).drew (by show _<=(W5.alloc (.cells #[] 165)).heap.size;simp;omega)
        ⟨rfl,.inr ⟨W5.heap.size,0,#[],rfl,by omega,Qfg W5 _,Nat.le_refl _,by simp[maxLen],rfl,rfl⟩⟩ (hat6.below (Below.drew (Qad (Below.refl _ _) _))) (by simp;omega)
       simp only[List.length_nil,Nat.zero_add,List.nil_append]at hown6;have qB:=Z2.lt;have V1:=((Z1.alloc (.cells #[] 165)).drew).kept hgrow6 (by intro h;have:w.heap.size+1=W5.heap.size:=Option.some.inj h;omega);have V2:=((Z2.alloc (.cells #[] 165)).drew).kept hgrow6 (by intro h;have:B=W5.heap.size:=Option.some.inj h;omega);have B6:=hidP (hWB.grown hgrow6 hWB.size (fun k e=>by have:W5.heap.size=k:=Option.some.inj e;omega));obtain⟨a6,c6,rfl,_⟩:=Qan hown6;have hsz6:(W5.alloc (.cells #[] 165)).drew.heap.size=W5.heap.size+1:=World.size_alloc _ _;have far6:∀k,k<W5.heap.size->some k≠(Value.slice a6 D.length c6).ownBlock:=fun k hk=>by
        rcases hat7 with e|e
        . rw[e];intro h;have:k=W5.heap.size:=Option.some.inj h;omega
        . rw[e];intro h;have:=Option.some.inj h;omega
       have FB:=hidP (far6 B qB);have F1:=hidP (far6 (w.heap.size+1) hb5);rw[hDl]at hr6;have HD9:=hidP hDD;have HOWN6:=hidP hown6;have HDL:=hidP hDl;have hSA0:=(Z2.alloc (.cells #[] 165)).drew.row5.2.2.2.2;have hS60:=V2.row5.2.2.2.2;clear hgrow6 hat7 hown6 far6 hWB hat6 FD hDD hsz6 hr;obtain⟨m0,m1,m2,m3,m4⟩:=V1.row5;have y0:=V1.thaw 0;have y1:=V1.thaw 1;have y2:=V1.thaw 2;have y3:=V1.thaw 3;have y4:=V1.thaw 4;have z4:=V2.thaw 4;rw[hDl]at FB F1 HOWN6;clear hDl;have hJ:=HJ3.out;obtain⟨PA,hPA⟩:∃p:Option Addr,(if c' =J.toNat then some (⟨g,0,none⟩:Addr)else some ⟨g,J.toNat*2,none⟩)=p:=⟨_,rfl⟩
       have hcut:∀W:World,(Instr.slice 161 (.slice (some ⟨g,0,none⟩) (1) c') (some (.int .i64 J)) none none).run Tryz.prog W= .ok (.slice PA (1 - J.toNat) (c' - J.toNat)) W:=fun W=>by
        clear hr6;rw[← hPA];by_cases hcj:c' =J.toNat
        . rw[if_pos hcj];go_simp
        . rw[if_neg hcj];go_simp
       rw[hPA]at hr6;have hH:(fun w' =>w'.cell? ⟨B,4,none⟩=some (.slice (some ⟨g,0,none⟩) (1) c')) W5.drew:=i4;have hSA:(fun w' =>w'.cell? ⟨B,4,none⟩=some (.slice (some ⟨g,0,none⟩) (1) c')) (W5.alloc (.cells #[] 165)).drew:=hSA0;have hS6:(fun w' =>w'.cell? ⟨B,4,none⟩=some (.slice (some ⟨g,0,none⟩) (1) c')) w6:=hS60;clear hSA0 hS60;go_wp2_with fail;refine wp_region_noPanic ?_;refine Qbv 12 (fun w' =>w'.cell? ⟨B,4,none⟩=some (.slice (some ⟨g,0,none⟩) (1) c')) (by kernel_rfl) ?_;refine zpk [1,2,3,4,5,6] ?_;repeat(refine zpn (h:= ?_);try simp only[zX,zY])
       refine zpe ?_;refine Qhz (i:=0) (j:=7) (by kernel_rfl) rfl rfl (fun K hK=> ?_) (fun K hK=> ?_)
       focus
        simp only[zG];go_simp;refine hK.out _ _ (.inr hSA) ?_;clear hK K
        try simp only[zX,zY]
        refine Qaz (i:=7) (by kernel_rfl) rfl (fun K hK=> ?_);simp only[zG];go_simp
        go_at_call 132
        refine(Hmax.out _).mono ?_;rintro e w4 ⟨rfl,rfl⟩;refine hK.out _ _ (.inr hSA) ?_;clear hK K
        try simp only[zX,zY]
        refine zpk [8,9] ?_;repeat(refine zpn (h:= ?_);try simp only[zX,zY])
        refine zpe ?_
       rotate_left
       focus
        simp only[zG];go_simp
        go_at_call 132
        refine(Hmax.out _).mono ?_;rintro e w4 ⟨rfl,rfl⟩;refine hK.out _ _ (.inr hH) ?_;clear hK K
        try simp only[zX,zY]
        refine zpk [8,9] ?_;repeat(refine zpn (h:= ?_);try simp only[zX,zY])
        refine zpe ?_;refine Qaz (i:=0) (by kernel_rfl) rfl (fun K hK=> ?_);simp only[zG];go_simp;refine hK.out _ _ (.inr hSA) ?_;clear hK K
        try simp only[zX,zY]
       all_goals
        refine Qaz (i:=10) (by kernel_rfl) rfl (fun K hK=> ?_);simp only[zG];rw[if_pos (by rfl)];refine Qag _ _ _ (by rfl) _ _ _ (by rfl) (by rfl) hr6 ?_;refine hK.out _ _ (.inr hS6) ?_;clear hK K
        try simp only[zX,zY]
        refine zp1 11 ?_;refine zpn (h:= ?_);try simp only[zX,zY]
        refine zpe ?_;refine Qaz (i:=12) (by kernel_rfl) rfl (fun K hK=> ?_);simp only[zG];go_simp;refine hK.out _ _ (.inl rfl) ?_;clear hK K
        try simp only[zX,zY]
        refine Qcd (by kernel_rfl) ?_ _;refine NoPanic.normal ?_;clear hH hSA hS6 hJ;obtain⟨o0,o1,o2,o3,o4⟩:=V2.row5;go_wp2;have z:Blk _ (w.heap.size+1) 163 (Qak row who ep seq a6 (1 - J.toNat) c6):=(((((V1.other (B' :=B) (by omega) 4 (.slice a6 (1 - J.toNat) c6)).setAt 0 (.int .i64 row)).setAt 1 (.int .i64 who)).setAt 2 (.int .i64 ep)).setAt 3 (.int .i64 seq)).setAt 4 (.slice a6 (1 - J.toNat) c6);obtain⟨e0,e1,e2,e3,e4⟩:=z.row5;exact bodyPost_ret (v:= .agg (Qak row who ep seq a6 (1 - J.toNat) c6)) (by simp[results,Tryz.results129,go_sem,e0,e1,e2,e3,e4]) rfl
         ⟨_,by rw[HE.out,HS.out],by
          rw[HM.out,EL.out,HJ2.out,HD9.out];exact Qgx (α:=Mk) (l:=D) HDL.out.symm (Qax (Qal (Qal (Qal (Qal (Qal (Qal HOWN6.out FB.out) F1.out) F1.out) F1.out) F1.out) F1.out) (show w.heap.size<=w.heap.size+1+1 by omega)),
         Qas (Qas (Qas (Qas (Qas (Qas B6.out (by omega) _) (by omega) _) (by omega) _) (by omega) _) (by omega) _) (by omega) _⟩
     . have hj:(1) - window.toNat=0:=(by omega);go_wp2_with (at_builtin;refine Qac rfl _ _ _ rfl _ _ _ rfl rfl hr ?_);refine wp_region_noPanic ?_;refine wp_region_held_drew (S:=fun w' =>w'.cell? ⟨B,4,none⟩=some (.slice (some ⟨g,0,none⟩) (1) c')) (by kernel_rfl) ?_ (fun hH=> ?_)
       . exact SD.out
       refine ztk [0,1,2,3] ?_;repeat(refine ztn (h:= ?_);try simp only[zX,zY])
       refine zte ?_;refine zR1 4 (fun K hK=> ?_);simp only[zG];go_simp
       (go_at_call 132;refine(Hmax.out _).mono ?_;rintro e w4 ⟨rfl,rfl⟩)
       refine hK.out _ _ SD.out fun hH=> ?_;clear hK K;try simp only[zX,zY]
       refine zt1 5 ?_;refine ztn (h:= ?_);try simp only[zX,zY]
       refine zte ?_;refine zdn ?_;clear SD i0 i1 i2 i3 i4 x4 Y1 Y2 B3;generalize (w3.setCell ⟨B,4,none⟩ (.slice (some ⟨g,0,none⟩) (1) c')).drew=W5 at*;obtain⟨i0,i1,i2,i3,i4⟩:=Z2.row5;obtain⟨m0,m1,m2,m3,m4⟩:=Z1.row5;have y0:=Z1.thaw 0;have y1:=Z1.thaw 1;have y2:=Z1.thaw 2;have y3:=Z1.thaw 3;have y4:=Z1.thaw 4;go_wp2;have z:Blk _ (w.heap.size+1) 163 (Qak row who ep seq (some ⟨g,0,none⟩) (1) c'):=((((Z1.setAt 0 (.int .i64 row)).setAt 1 (.int .i64 who)).setAt 2 (.int .i64 ep)).setAt 3 (.int .i64 seq)).setAt 4 (.slice (some ⟨g,0,none⟩) (1) c');obtain⟨e0,e1,e2,e3,e4⟩:=z.row5;have far9:some (w.heap.size+1)≠(Value.slice (some ⟨g,0,none⟩) (1) c').ownBlock:=Qa6 Z0.out (by omega);exact bodyPost_ret (v:= .agg (Qak row who ep seq (some ⟨g,0,none⟩) (1) c')) (by simp[results,Tryz.results129,go_sem,e0,e1,e2,e3,e4]) rfl
        ⟨_,by rw[HE.out,HS.out],by
         rw[HM.out,EL.out,hj];exact Qgx (α:=Mk) (l:= []++ [⟨seq,off⟩]) (by simp) (Qax (Qal (Qal (Qal (Qal (Qal Z0.out far9) far9) far9) far9) far9) (show w.heap.size<=w.heap.size+1+1 by omega)),
        Qas (Qas (Qas (Qas (Qas B4.out (by omega) _) (by omega) _) (by omega) _) (by omega) _) (by omega) _⟩
   . have hx:ep=epoch:=(by omega);have HB:Hid (putB epoch l ep=l):=(by show _=_;simp[putB,he]);clear he hep;subst hx;have hX:At ((((w2).setCell ⟨B,2,none⟩ (.int .i64 ep)).setCell ⟨B,3,none⟩ (.int .i64 seq)).alloc (.cells #[.int .i64 seq,.int .i64 off] 165)) (some ⟨w2.heap.size,0,none⟩) ([⟨seq,off⟩]:List Mk):=by
      have bx:=Blk.new (((w2).setCell ⟨B,2,none⟩ (.int .i64 ep)).setCell ⟨B,3,none⟩ (.int .i64 seq)) 165 #[.int .i64 seq,.int .i64 off];have e:(((w2).setCell ⟨B,2,none⟩ (.int .i64 ep)).setCell ⟨B,3,none⟩ (.int .i64 seq)).heap.size=w2.heap.size:=(by simp);rw[e]at bx;exact .inr ⟨w2.heap.size,0,rfl,by simp,fun j u hu=>bx.cell (i:=0+j) (by simpa [flat,Cel.cs]using hu)⟩
     have hWB:Below w.heap.size w ((((w2).setCell ⟨B,2,none⟩ (.int .i64 ep)).setCell ⟨B,3,none⟩ (.int .i64 seq)).alloc (.cells #[.int .i64 seq,.int .i64 off] 165)):=Qad (Qas (Qas (HB2.out) (by omega) _) (by omega) _) _;obtain⟨v',w3,hr,hown3,hgrow,hat⟩:=Qkr (w.heap.size+1+1) (.slice a l.length c) l [⟨seq,off⟩] (some ⟨w2.heap.size,0,none⟩) 1 ((((w2).setCell ⟨B,2,none⟩ (.int .i64 ep)).setCell ⟨B,3,none⟩ (.int .i64 seq)).alloc (.cells #[.int .i64 seq,.int .i64 off] 165)) (by simp;omega) (Qav (Qal (Qal Hown2.out far2) far2) _) hX (by first|(simp;done)|(simp;omega));simp only[List.length_cons,List.length_nil,Nat.zero_add]at hown3 hr;have far3:some B≠(Value.slice a l.length c).ownBlock:=far2;have Y1:=((((r1).other (B' :=B) (by omega) 2 (.int .i64 ep)).other (B' :=B) (by omega) 3 (.int .i64 seq)).alloc (.cells #[.int .i64 seq,.int .i64 off] 165)).kept hgrow (far1);have Y2:=(((r2.setAt 2 (.int .i64 ep)).setAt 3 (.int .i64 seq)).alloc (.cells #[.int .i64 seq,.int .i64 off] 165)).kept hgrow far3;have hsz:((((w2).setCell ⟨B,2,none⟩ (.int .i64 ep)).setCell ⟨B,3,none⟩ (.int .i64 seq)).alloc (.cells #[.int .i64 seq,.int .i64 off] 165)).heap.size=w2.heap.size+1:=(by simp);have B3:=hidP (hWB.grown hgrow hWB.size (fun k e=>by exact Nat.le_of_not_lt fun h=>Qa6 Hown2.out (show k<w.heap.size+1+1 by omega) e.symm));obtain⟨g,c',hgB,hg3,hnc,hmc,rfl⟩:∃g c',w.heap.size+1+1<=g/\g<w3.heap.size/\l.length+1<=c' /\c' <=maxLen/\v' = .slice (some ⟨g,0,none⟩) (l.length+1) c' :=by
      rcases hown3.2 with⟨_,h⟩|⟨g,c1,cur,e1,hB,hb,h1,h2,_⟩
      . omega
      . exact⟨g,c1,hB,Blk.lt (show Blk w3 g _ cur from hb),h1,h2,e1⟩
     have hgB' :g≠B:=fun h=>by
      rcases hat with e|e
      . exact far3 (by rw[← e,← h];rfl)
      . rw[hsz]at e;have:g=w2.heap.size+1:=Option.some.inj e;omega
     have hw3:w2.heap.size<=w3.heap.size:=(by have:=hgrow.size;rw[hsz]at this;omega);unfold maxLen at hmc;have eL:Qj2 window (putB ep l ep++ [⟨seq,off⟩])=(l++ [⟨seq,off⟩]:List Mk).drop ((l.length+1) - window.toNat):=(by rw[HB.out];simp[Qj2]);have EL:=hidP eL;have Z2:Blk _ B 163 (Qak row who ep seq (some ⟨g,0,none⟩) (l.length+1) c'):=(Y2.setAt 4 (.slice (some ⟨g,0,none⟩) (l.length+1) c')).drew;have Z1:=(Y1.other (B' :=B) (by omega) 4 (.slice (some ⟨g,0,none⟩) (l.length+1) c')).drew;have ownB:some B≠(Value.slice (some ⟨g,0,none⟩) (l.length+1) c').ownBlock:=fun h=>hgB' (by have:B=g:=Option.some.inj h;exact this.symm)
     have Z0:Hid ((w3.setCell ⟨B,4,none⟩ (.slice (some ⟨g,0,none⟩) (l.length+1) c')).drew.ownsRow (w.heap.size+1+1) 165 2 (.slice (some ⟨g,0,none⟩) (l.length+1) c') (l.length+1) (flat (l++ [(⟨seq,off⟩:Mk)]))):=Qal hown3 ownB;have B4:Hid (Below w.heap.size w (w3.setCell ⟨B,4,none⟩ (.slice (some ⟨g,0,none⟩) (l.length+1) c')).drew):=(Qas B3.out (by omega) _).drew;have SD:=hidP Z2.row5.2.2.2.2;obtain⟨i0,i1,i2,i3,i4⟩:=Y2.row5;have x4:=Y2.thaw 4;have hm0:0<=mx window 0:=(by unfold mx;split<;>omega);have hm1:mx window 0<=9223372036854775807:=(by have:=Hw.out.2;unfold mx;split<;>omega);have hmax:∀W,Calls Tryz.prog 132 #[.int .i64 window,.int .i64 0] W fun e w' =>e= .returned (.int .i64 (mx window 0))/\w' =W:=fun W=>max_any window 0 W
     have Hmax:=hidP hmax;have hMt:window.toNat=(mx window 0).toNat:=(by unfold mx;split<;>omega);generalize hM:mx window 0=M at*;clear hX hWB hown3 hgrow hat hsz eL hmax hM;by_cases hlt:M<(l.length:Int)+1
     . obtain⟨J,hJ⟩:∃J:Int,IntKind.i64.wrap ((l.length:Int)+1 - M)=J:=⟨_,rfl⟩
       have hJ1:J=(l.length:Int)+1 - M:=(by rw[← hJ,IntKind.wrap_i64];omega);have hJ0:0<=J:=(by omega);have hJn:J<=(l.length:Int)+1:=(by omega);have HJ2:Hid ((l.length+1) - window.toNat=J.toNat):=(by show _=_;rw[hJ1];omega);have HJ3:=hidP hJ;clear hJ1 hJ hMt;go_wp2_with (at_builtin;refine Qac rfl _ _ _ rfl _ _ _ rfl rfl hr ?_);refine wp_region_noPanic ?_;refine wp_region_held_drew (S:=fun w' =>w'.cell? ⟨B,4,none⟩=some (.slice (some ⟨g,0,none⟩) (l.length+1) c')) (by kernel_rfl) ?_ (fun hH=> ?_)
       . exact SD.out
       refine ztk [0,1,2,3] ?_;repeat(refine ztn (h:= ?_);try simp only[zX,zY])
       refine zte ?_;refine zR1 4 (fun K hK=> ?_);simp only[zG];go_simp
       (go_at_call 132;refine(Hmax.out _).mono ?_;rintro e w4 ⟨rfl,rfl⟩)
       refine hK.out _ _ SD.out fun hH=> ?_;clear hK K;try simp only[zX,zY]
       refine zt1 5 ?_;refine ztn (h:= ?_);try simp only[zX,zY]
       refine zte ?_;refine zdn ?_;clear SD i0 i1 i2 i3 i4 x4 Y1 Y2 B3;generalize (w3.setCell ⟨B,4,none⟩ (.slice (some ⟨g,0,none⟩) (l.length+1) c')).drew=W5 at*;obtain⟨i0,i1,i2,i3,i4⟩:=Z2.row5;have x4:=Z2.thaw 4;have FD:=Qif (α:=Mk) (j:=J.toNat) (L:=l++ [⟨seq,off⟩]) (by simp) Z0.out (by omega);have hat6:=FD.at;change At W5 (if c' =J.toNat then some ⟨g,0,none⟩else some ⟨g,J.toNat*2,none⟩) _ at hat6;generalize hDD:(l++ [⟨seq,off⟩]:List Mk).drop J.toNat=D at*;have hDl:D.length=l.length+1 - J.toNat:=(by rw[← hDD];simp);have hWB:Below w.heap.size w (W5.alloc (.cells #[] 165)).drew:=(Qad B4.out _).drew;have hb5:w.heap.size+1<W5.heap.size:=Z1.lt;obtain⟨v6,w6,hr6,hown6,hgrow6,hat7⟩:=Qkr (w.heap.size+1+1) (.slice (some ⟨W5.heap.size,0,none⟩) 0 0) [] D (if c' =J.toNat then some ⟨g,0,none⟩else some ⟨g,J.toNat*2,none⟩) (c' - J.toNat) (W5.alloc (.cells #[] 165)).drew (by show _<=(W5.alloc (.cells #[] 165)).heap.size;simp;omega)
        ⟨rfl,.inr ⟨W5.heap.size,0,#[],rfl,by omega,Qfg W5 _,Nat.le_refl _,by simp[maxLen],rfl,rfl⟩⟩ (hat6.below (Below.drew (Qad (Below.refl _ _) _))) (by simp;omega)
       simp only[List.length_nil,Nat.zero_add,List.nil_append]at hown6;have qB:=Z2.lt;have V1:=((Z1.alloc (.cells #[] 165)).drew).kept hgrow6 (by intro h;have:w.heap.size+1=W5.heap.size:=Option.some.inj h;omega);have V2:=((Z2.alloc (.cells #[] 165)).drew).kept hgrow6 (by intro h;have:B=W5.heap.size:=Option.some.inj h;omega);have B6:=hidP (hWB.grown hgrow6 hWB.size (fun k e=>by have:W5.heap.size=k:=Option.some.inj e;omega));obtain⟨a6,c6,rfl,_⟩:=Qan hown6;have hsz6:(W5.alloc (.cells #[] 165)).drew.heap.size=W5.heap.size+1:=World.size_alloc _ _;have far6:∀k,k<W5.heap.size->some k≠(Value.slice a6 D.length c6).ownBlock:=fun k hk=>by
        rcases hat7 with e|e
        . rw[e];intro h;have:k=W5.heap.size:=Option.some.inj h;omega
        . rw[e];intro h;have:=Option.some.inj h;omega
       have FB:=hidP (far6 B qB);have F1:=hidP (far6 (w.heap.size+1) hb5);rw[hDl]at hr6;have HD9:=hidP hDD;have HOWN6:=hidP hown6;have HDL:=hidP hDl;have hSA0:=(Z2.alloc (.cells #[] 165)).drew.row5.2.2.2.2;have hS60:=V2.row5.2.2.2.2;clear hgrow6 hat7 hown6 far6 hWB hat6 FD hDD hsz6 hr;obtain⟨m0,m1,m2,m3,m4⟩:=V1.row5;have y0:=V1.thaw 0;have y1:=V1.thaw 1;have y2:=V1.thaw 2;have y3:=V1.thaw 3;have y4:=V1.thaw 4;have z4:=V2.thaw 4;rw[hDl]at FB F1 HOWN6;clear hDl;have hJ:=HJ3.out;obtain⟨PA,hPA⟩:∃p:Option Addr,(if c' =J.toNat then some (⟨g,0,none⟩:Addr)else some ⟨g,J.toNat*2,none⟩)=p:=⟨_,rfl⟩
       have hcut:∀W:World,(Instr.slice 161 (.slice (some ⟨g,0,none⟩) (l.length+1) c') (some (.int .i64 J)) none none).run Tryz.prog W= .ok (.slice PA (l.length+1 - J.toNat) (c' - J.toNat)) W:=fun W=>by
        clear hr6;rw[← hPA];by_cases hcj:c' =J.toNat
        . rw[if_pos hcj];go_simp
        . rw[if_neg hcj];go_simp
       rw[hPA]at hr6;have hH:(fun w' =>w'.cell? ⟨B,4,none⟩=some (.slice (some ⟨g,0,none⟩) (l.length+1) c')) W5.drew:=i4;have hSA:(fun w' =>w'.cell? ⟨B,4,none⟩=some (.slice (some ⟨g,0,none⟩) (l.length+1) c')) (W5.alloc (.cells #[] 165)).drew:=hSA0;have hS6:(fun w' =>w'.cell? ⟨B,4,none⟩=some (.slice (some ⟨g,0,none⟩) (l.length+1) c')) w6:=hS60;clear hSA0 hS60;go_wp2_with fail;refine wp_region_noPanic ?_;refine Qbv 12 (fun w' =>w'.cell? ⟨B,4,none⟩=some (.slice (some ⟨g,0,none⟩) (l.length+1) c')) (by kernel_rfl) ?_;refine zpk [1,2,3,4,5,6] ?_;repeat(refine zpn (h:= ?_);try simp only[zX,zY])
       refine zpe ?_;refine Qhz (i:=0) (j:=7) (by kernel_rfl) rfl rfl (fun K hK=> ?_) (fun K hK=> ?_)
       focus
        simp only[zG];go_simp;refine hK.out _ _ (.inr hSA) ?_;clear hK K
        try simp only[zX,zY]
        refine Qaz (i:=7) (by kernel_rfl) rfl (fun K hK=> ?_);simp only[zG];go_simp
        go_at_call 132
        refine(Hmax.out _).mono ?_;rintro e w4 ⟨rfl,rfl⟩;refine hK.out _ _ (.inr hSA) ?_;clear hK K
        try simp only[zX,zY]
        refine zpk [8,9] ?_;repeat(refine zpn (h:= ?_);try simp only[zX,zY])
        refine zpe ?_
       rotate_left
       focus
        simp only[zG];go_simp
        go_at_call 132
        refine(Hmax.out _).mono ?_;rintro e w4 ⟨rfl,rfl⟩;refine hK.out _ _ (.inr hH) ?_;clear hK K
        try simp only[zX,zY]
        refine zpk [8,9] ?_;repeat(refine zpn (h:= ?_);try simp only[zX,zY])
        refine zpe ?_;refine Qaz (i:=0) (by kernel_rfl) rfl (fun K hK=> ?_);simp only[zG];go_simp;refine hK.out _ _ (.inr hSA) ?_;clear hK K
        try simp only[zX,zY]
       all_goals
        refine Qaz (i:=10) (by kernel_rfl) rfl (fun K hK=> ?_);simp only[zG];rw[if_pos (by rfl)];refine Qag _ _ _ (by rfl) _ _ _ (by rfl) (by rfl) hr6 ?_;refine hK.out _ _ (.inr hS6) ?_;clear hK K
        try simp only[zX,zY]
        refine zp1 11 ?_;refine zpn (h:= ?_);try simp only[zX,zY]
        refine zpe ?_;refine Qaz (i:=12) (by kernel_rfl) rfl (fun K hK=> ?_);simp only[zG];go_simp;refine hK.out _ _ (.inl rfl) ?_;clear hK K
        try simp only[zX,zY]
        refine Qcd (by kernel_rfl) ?_ _;refine NoPanic.normal ?_;clear hH hSA hS6 hJ;obtain⟨o0,o1,o2,o3,o4⟩:=V2.row5;go_wp2;have z:Blk _ (w.heap.size+1) 163 (Qak row who ep seq a6 (l.length+1 - J.toNat) c6):=(((((V1.other (B' :=B) (by omega) 4 (.slice a6 (l.length+1 - J.toNat) c6)).setAt 0 (.int .i64 row)).setAt 1 (.int .i64 who)).setAt 2 (.int .i64 ep)).setAt 3 (.int .i64 seq)).setAt 4 (.slice a6 (l.length+1 - J.toNat) c6);obtain⟨e0,e1,e2,e3,e4⟩:=z.row5;exact bodyPost_ret (v:= .agg (Qak row who ep seq a6 (l.length+1 - J.toNat) c6)) (by simp[results,Tryz.results129,go_sem,e0,e1,e2,e3,e4]) rfl
         ⟨_,by rw[HE.out,HS.out],by
          rw[HM.out,EL.out,HJ2.out,HD9.out];exact Qgx (α:=Mk) (l:=D) HDL.out.symm (Qax (Qal (Qal (Qal (Qal (Qal (Qal HOWN6.out FB.out) F1.out) F1.out) F1.out) F1.out) F1.out) (show w.heap.size<=w.heap.size+1+1 by omega)),
         Qas (Qas (Qas (Qas (Qas (Qas B6.out (by omega) _) (by omega) _) (by omega) _) (by omega) _) (by omega) _) (by omega) _⟩
     . have hj:(l.length+1) - window.toNat=0:=(by omega);go_wp2_with (at_builtin;refine Qac rfl _ _ _ rfl _ _ _ rfl rfl hr ?_);refine wp_region_noPanic ?_;refine wp_region_held_drew (S:=fun w' =>w'.cell? ⟨B,4,none⟩=some (.slice (some ⟨g,0,none⟩) (l.length+1) c')) (by kernel_rfl) ?_ (fun hH=> ?_)
       . exact SD.out
       refine ztk [0,1,2,3] ?_;repeat(refine ztn (h:= ?_);try simp only[zX,zY])
       refine zte ?_;refine zR1 4 (fun K hK=> ?_);simp only[zG];go_simp
       (go_at_call 132;refine(Hmax.out _).mono ?_;rintro e w4 ⟨rfl,rfl⟩)
       refine hK.out _ _ SD.out fun hH=> ?_;clear hK K;try simp only[zX,zY]
       refine zt1 5 ?_;refine ztn (h:= ?_);try simp only[zX,zY]
       refine zte ?_;refine zdn ?_;clear SD i0 i1 i2 i3 i4 x4 Y1 Y2 B3;generalize (w3.setCell ⟨B,4,none⟩ (.slice (some ⟨g,0,none⟩) (l.length+1) c')).drew=W5 at*;obtain⟨i0,i1,i2,i3,i4⟩:=Z2.row5;obtain⟨m0,m1,m2,m3,m4⟩:=Z1.row5;have y0:=Z1.thaw 0;have y1:=Z1.thaw 1;have y2:=Z1.thaw 2;have y3:=Z1.thaw 3;have y4:=Z1.thaw 4;go_wp2;have z:Blk _ (w.heap.size+1) 163 (Qak row who ep seq (some ⟨g,0,none⟩) (l.length+1) c'):=((((Z1.setAt 0 (.int .i64 row)).setAt 1 (.int .i64 who)).setAt 2 (.int .i64 ep)).setAt 3 (.int .i64 seq)).setAt 4 (.slice (some ⟨g,0,none⟩) (l.length+1) c');obtain⟨e0,e1,e2,e3,e4⟩:=z.row5;have far9:some (w.heap.size+1)≠(Value.slice (some ⟨g,0,none⟩) (l.length+1) c').ownBlock:=Qa6 Z0.out (by omega);exact bodyPost_ret (v:= .agg (Qak row who ep seq (some ⟨g,0,none⟩) (l.length+1) c')) (by simp[results,Tryz.results129,go_sem,e0,e1,e2,e3,e4]) rfl
        ⟨_,by rw[HE.out,HS.out],by
         rw[HM.out,EL.out,hj];exact Qgx (α:=Mk) (l:=l++ [⟨seq,off⟩]) (by simp) (Qax (Qal (Qal (Qal (Qal (Qal Z0.out far9) far9) far9) far9) far9) (show w.heap.size<=w.heap.size+1+1 by omega)),
        Qas (Qas (Qas (Qas (Qas B4.out (by omega) _) (by omega) _) (by omega) _) (by omega) _) (by omega) _⟩
 . have HE:Hid (putE epoch last l ep seq=epoch):=(by show _=_;simp[putE,putD,hd]);have HS:Hid (putS epoch last l ep seq=last):=(by show _=_;simp[putS,putD,hd]);have HM:Hid (putM window epoch last l ep seq off=l):=(by show _=_;simp[putM,putD,hd]);generalize hC:askC epoch last l ep seq=C at*;generalize hO:askO epoch last l ep seq=O at*;clear hC hO;go_wp2;have z:Blk _ (w.heap.size+1) 163 (Qak row who epoch last a l.length c):=((((r1.setAt 0 (.int .i64 row)).setAt 1 (.int .i64 who)).setAt 2 (.int .i64 epoch)).setAt 3 (.int .i64 last)).setAt 4 (.slice a l.length c);obtain⟨e0,e1,e2,e3,e4⟩:=z.row5;exact bodyPost_ret (v:= .agg (Qak row who epoch last a l.length c)) (by simp[results,Tryz.results129,go_sem,e0,e1,e2,e3,e4]) rfl
    ⟨_,by rw[HE.out,HS.out],by rw[HM.out];exact id (Qax (Qal (Qal (Qal (Qal (Qal Hown2.out far1) far1) far1) far1) far1) (by omega)),Qas (Qas (Qas (Qas (Qas HB2.out (by omega) _) (by omega) _) (by omega) _) (by omega) _) (by omega) _⟩
end Go.Proofs.YtajbldnhjpjghaaGreatDoor.Gen
