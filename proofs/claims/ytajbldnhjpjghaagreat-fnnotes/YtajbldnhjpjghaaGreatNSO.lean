/-
  The specification's NoteOf: it tells what the program tells. Condition: at most 1048576 bytes.
-/
import Derived.Test.YtajbldnhjpjghaaGreatNSR
set_option linter.unusedVariables false
set_option linter.unusedSimpArgs false
set_option maxRecDepth 100000
set_option maxHeartbeats 8000000
set_option maxRecDepth 100000
set_option maxHeartbeats 8000000
namespace Go.Proofs.YtajbldnhjpjghaaGreat.Gen
open ChangeShapes WideShapes ChangeAt RowKit Joins Deep Base
theorem Qt1 (l:List UInt8) (k:Nat) (h:k+4<=l.length):(l.drop k).take 4= [l[k],l[k+1],l[k+2],l[k+3]]:=by
 rw[List.drop_eq_getElem_cons (by omega),List.drop_eq_getElem_cons (by omega),List.drop_eq_getElem_cons (by omega),List.drop_eq_getElem_cons (by omega)];rfl
theorem Qt4 (l:List UInt8) (k:Nat) (h:k+4<=l.length):part l k 4=l[k].toNat+l[k+1].toNat*256+l[k+2].toNat*65536+l[k+3].toNat*16777216:=by
 have h0:k<l.length:=by omega
 have h1:k+1<l.length:=by omega
 have h2:k+2<l.length:=by omega
 have h3:k+3<l.length:=by omega
 simp[part,List.getD_eq_getElem?_getD,h0,h1,h2,h3]
theorem Qnm (l:List UInt8) (k N:Nat) (h:k+4<=l.length) (hN:N<4294967296):part l k 4=N↔sumB 4 N=(l.drop k).take 4:=by
 rw[Qt1 l k h,Qt4 l k h];have b0:=l[k].toNat_lt;have b1:=l[k+1].toNat_lt;have b2:=l[k+2].toNat_lt;have b3:=l[k+3].toNat_lt;have e (m:Nat) (x:UInt8):UInt8.ofNat (m % 256)=x↔m % 256=x.toNat:=by
  constructor
  . intro h;rw[← h,UInt8.toNat_ofNat'];omega
  . intro h;apply UInt8.toNat_inj.1;rw[UInt8.toNat_ofNat'];omega
 show _↔ [UInt8.ofNat (N % 256),UInt8.ofNat (N / 256 % 256),UInt8.ofNat (N / 256 / 256 % 256),UInt8.ofNat (N / 256 / 256 / 256 % 256)]=_;simp only[List.cons.injEq,and_true,e];omega
theorem Qil {l:List UInt8} {i:Int} {n c:Nat} (h:getN l i=some (n,c)):Qd1 l i=if c+n+4<=l.length/\sumB 4 (sumN ((l.drop c).take n))=(l.drop (c+n)).take 4 then some ((l.drop c).take n,c+n+4)else none:=by
 unfold Qd1 getT;rw[h];by_cases hc:c+n<=l.length
 . simp only[hc,if_true];unfold Qho;by_cases h4:c+n+4<=l.length
   . rw[if_pos h4];simp only;have e:=Qnm l (c+n) (sumN ((l.drop c).take n)) h4 (Qgn _);by_cases hs:part l (c+n) 4=sumN ((l.drop c).take n)
     . rw[if_pos hs,if_pos ⟨h4,e.1 hs⟩]
     . rw[if_neg hs,if_neg (fun q=>hs (e.2 q.2))]
   . rw[if_neg h4,if_neg (fun q=>h4 q.1)]
 . simp only[hc,if_false];rw[if_neg (fun q=>hc (by omega))]
theorem Qrh {l:List UInt8} {b o cap c n:Nat} (hc:c+n<=l.length) (hcap:l.length<=cap) (hcm:cap<=9223372036854775807):
 ∃a' :Addr,(∀W:World,(Instr.slice 22 (.slice (some ⟨b,o,none⟩) l.length cap) (some (.int .i64 (c:Int))) (some (.int .i64 ((c:Int)+(n:Int)))) none).run Tryz.prog W= .ok (.slice (some a') n (cap - c)) W)/\
  (∃o',a' =⟨b,o',none⟩)/\∀W:World,b<W.heap.size->In W b o l->At W (some a') ((l.drop c).take n):=by
 have hlen:((l.drop c).take n).length=n:=by simp;omega
 obtain⟨i0,hi,hz0,hz1,hz2⟩:=info_parts Qj1;have hsz:∀W:World,(sizeOf 5).run Tryz.prog W= .ok 1 W:=fun W=>by simp[sizeOf,typeInfo,hi,hz1]
 have ht:((c:Int)+(n:Int)).toNat - c=n:=by omega
 by_cases he:cap=c
 . subst he;obtain rfl:n=0:=(by omega);refine⟨⟨b,o,none⟩,fun W=> ?_,⟨o,rfl⟩,fun W _ hA=> .inl (by simp)⟩;simp[Instr.slice,run_underlying Tryz.underlying22,Instr.sliceBounds,Instr.sliceBound,asIntOf,hsz]
 . refine⟨⟨b,o+c,none⟩,fun W=> ?_,⟨o+c,rfl⟩,fun W hb hA=> .inr ⟨b,o+c,rfl,hb,?_⟩⟩
   . simp[Instr.slice,run_underlying Tryz.underlying22,Instr.sliceBounds,Instr.sliceBound,asIntOf,hsz,he];rw[if_pos ⟨by omega,by omega⟩,if_pos (by omega),ht,Addr.add_mid]
   . intro j v hv;rw[Qd5]at hv;have hj:j<n:=(by have:=(List.getElem?_eq_some_iff.1 hv).1;rw[List.length_map,hlen]at this;exact this);have:=hA.getB (c+j) (by omega);rw[← Nat.add_assoc]at this;rw[this];rw[List.getElem?_map]at hv;have hj2:j<((l.drop c).take n).length:=(by omega);rw[List.getElem?_eq_getElem hj2]at hv;simp only[Option.map_some]at hv;rw[← hv];simp
theorem Qhg (A:Option Addr) (cap:Nat) (l:List UInt8) (hl:l.length<=1048576) (hcap:l.length<=cap) (hcm:cap<=9223372036854775807) (i:Int) (hi:I64 i) (w:World) (hA:At w A l):
 Calls Tryz.prog 16 (l1SI A l.length cap i) w fun e w' =>Below w.heap.size w w' /\
  ((∃x c aa cc,ofN l i=some (x,c)/\w'.ownsRow w.heap.size 57 (Cel.k En) (.slice aa (List.length x.l) cc) (List.length x.l) (flat x.l)/\e= .returned (.tuple #[.agg (Qag x.kind x.term x.vote x.prev aa (List.length x.l) cc x.snap),.int .i64 (c:Int),.bool true]))∨(ofN l i=none/\e= .returned (.tuple #[.agg Qah,.int .i64 0,.bool false]))):=by
 have B0:Below w.heap.size w (w.alloc (.cells Qah 26)):=Qad (Below.refl _ w) _;have HP:=hidP (Blk.new w 26 Qah);have HA:=hidP (hA.below B0);have HB:=hidP B0;clear hA B0;go_enter Tryz.func16,Tryz.ntmps16;go_wp2_with fail;generalize hW1:w.alloc (.cells Qah 26)=W1 at*;clear hW1;refine(Qdx A cap l hl i hi _ HA.out).mono ?_;rintro e w1 ⟨rfl,rfl⟩
 rename World=>W1
 cases hg:getN l i with
 |none=>
  have HN:Hid (ofN l i=none):=by show _=_;unfold ofN Qd1 getT;rw[hg]
  simp only[numT];have rr0:W1.cell? ⟨w.heap.size,0,none⟩=some (.int .i64 0):=HP.out.cell (i:=0) rfl;have zz0:=HP.out.thaw 0;have rr1:W1.cell? ⟨w.heap.size,1,none⟩=some (.int .i64 0):=HP.out.cell (i:=1) rfl;have zz1:=HP.out.thaw 1;have rr2:W1.cell? ⟨w.heap.size,2,none⟩=some (.int .i64 0):=HP.out.cell (i:=2) rfl;have zz2:=HP.out.thaw 2;have rr3:W1.cell? ⟨w.heap.size,3,none⟩=some (.int .i64 0):=HP.out.cell (i:=3) rfl;have zz3:=HP.out.thaw 3;have rr4:W1.cell? ⟨w.heap.size,4,none⟩=some (.slice none 0 0):=HP.out.cell (i:=4) rfl;have zz4:=HP.out.thaw 4;have rr5:W1.cell? ⟨w.heap.size,5,none⟩=some (.string ⟨#[]⟩):=HP.out.cell (i:=5) rfl;have zz5:=HP.out.thaw 5;have qs:=HP.out.lt;go_wp2;refine bodyPost_ret (v:= .tuple #[.agg Qah,.int .i64 0,.bool false]) (by simp[results,Tryz.results16,go_sem,rr0,rr1,rr2,rr3,rr4,rr5]) rfl ⟨?_,.inr ⟨HN.out,rfl⟩⟩;exact HB.out.trans ((((((((Only.refl (w.heap.size) _).set 0 (.int .i64 0)).set 1 (.int .i64 0)).set 2 (.int .i64 0)).set 3 (.int .i64 0)).set 4 (.slice none 0 0)).set 5 (.string ⟨#[]⟩)).toBelow (Nat.le_refl _) HB.out.size)
 |some y=>
 obtain⟨n,c⟩:=y;obtain⟨g1,g2,g3,g4,g5⟩:=Qbp hg;have hfr:=Qil hg;simp only[numT];obtain⟨b,o,rfl,hbs,hin⟩:∃b o,A=some ⟨b,o,none⟩/\b<W1.heap.size/\In W1 b o l:=by
  rcases HA.out with h|h
  . subst h;simp at g4;omega
  . exact h
 by_cases hc4:c+n+4<=l.length
 . obtain⟨a1,hs1,⟨o1,ho1⟩,hat⟩:=Qrh (b:=b) (o:=o) (show c+n<=l.length by omega) hcap hcm;obtain⟨a2,hs2,_,hat2⟩:=Qrh (b:=b) (o:=o) (show c+n+4<=l.length by omega) hcap hcm;have hlenB:Hid (((l.drop c).take n).length=n):=(by show _=_;simp;omega);have hlen4:Hid (((l.drop (c+n)).take 4).length=4):=(by show _=_;simp;omega);have hat1:Hid (∀W,Below W1.heap.size W1 W->At W (some a1) ((l.drop c).take n)):=hidP (fun W g=>hat W (Nat.lt_of_lt_of_le hbs g.size) (hin.below hbs g));have hcv:Hid (∀W,Below W1.heap.size W1 W->(convert 22 9 (.slice (some a2) 4 (cap - (c+n)))).run Tryz.prog W= .ok (.string ⟨((l.drop (c+n)).take 4).toArray⟩) W):=hidP (fun W g=>by
    have h:=Qfu (cap:=cap - (c+n)) (hat2 W (Nat.lt_of_lt_of_le hbs g.size) (hin.below hbs g));rwa [hlen4.out]at h)
   have hn1:¬((l.length:Int) - (c:Int) - 4<(n:Int)):=(by omega);have hfr' :=hidP hfr;have hcm1:Hid (n<=cap - c/\cap - c<=9223372036854775807):=hidP ⟨by omega,by omega⟩;subst ho1;generalize hbody:(l.drop c).take n=body at*;generalize (l.drop (c+n)).take 4=T4 at*;have HS4:Hid (sumB 4 (sumN body)=sumB 4 (sumN body)):=hidP rfl;obtain⟨S4,hS4⟩:∃S4,sumB 4 (sumN body)=S4:=⟨_,rfl⟩
   replace HS4:Hid (sumB 4 (sumN body)=S4):=hidP hS4;rw[hS4]at hfr';clear hS4 hbody hat hat2 hin hfr HA;have hlb:=hlenB.out;subst hlb;have hbl:body.length<=3000000:=(by omega);have hsum1:IntKind.i64.wrap ((c:Int)+(body.length:Int))=(c:Int)+(body.length:Int):=(by simp[IntKind.wrap_i64];omega);have hsum2:IntKind.i64.wrap ((c:Int)+(body.length:Int)+4)=(c:Int)+(body.length:Int)+4:=(by simp[IntKind.wrap_i64];omega);have hs2' :∀W:World,(Instr.slice 22 (.slice (some ⟨b,o,none⟩) l.length cap) (some (.int .i64 ((c:Int)+(body.length:Int)))) (some (.int .i64 ((c:Int)+(body.length:Int)+4))) none).run Tryz.prog W= .ok (.slice (some a2) 4 (cap - (c+body.length))) W:=fun W=>by have h:=hs2 W;simpa using h
   have S0:=hcv.out W1.drew (Below.drew (Below.refl _ _));clear hs2;by_cases heq:S4=T4
   . subst heq;rw[if_pos ⟨hc4,rfl⟩]at hfr';go_wp2_with fail;refine wp_region_noPanic ?_;refine wp_region_held_drew (S:=(fun(W:World)=>(convert 22 9 (.slice (some a2) 4 (cap - (c+body.length)))).run Tryz.prog W= .ok (.string ⟨S4.toArray⟩) W)) (by kernel_rfl) ?_ (fun hH=> ?_)
     . exact S0
     refine ztk [0,3,4,5,6,7,8,9,10,11,12] ?_;repeat(refine ztn (h:= ?_);try simp only[zX,zY])
     refine zte ?_;refine zR1 1 (fun K hK=> ?_);simp only[zG];go_simp;refine(Qg4 (some ⟨b,o1,none⟩) (cap - c) body hbl _ (hat1.out _ (Below.drew (Below.refl _ _)))).mono ?_;rintro e w2 ⟨rfl,g2,hy2⟩;have G2:Below W1.heap.size W1 w2:=via0 g2 (Below.drew (Below.refl _ _));have S2:=hcv.out w2 G2;have hc2:(convert 22 9 (.slice (some ⟨W1.heap.size,0,none⟩) 4 4)).run Tryz.prog w2= .ok (.string ⟨S4.toArray⟩) w2:=by(have h:=Qfu (cap:=4) hy2;rw[Qbd,HS4.out]at h;exact h)
     refine hK.out _ _ S2 fun hH=> ?_;clear hK K;try simp only[zX,zY]
     refine zR1 2 (fun K hK=> ?_);simp only[zG];go_simp;refine hK.out _ _ S2 fun hH=> ?_;clear hK K;try simp only[zX,zY]
     refine zt1 13 ?_;refine ztn (h:= ?_);try simp only[zX,zY]
     refine zte ?_;refine zdn ?_;clear S0 S2 hc2 hy2 hH g2 hcv hs1 hs2' hsum1 hsum2;have hcu:Hid (CuO (w2.alloc (.cells (Qjw (some ⟨b,o1,none⟩) body.length (cap - c) 0 true) 70)) w2.heap.size (some ⟨b,o1,none⟩) (cap - c) body (some 0)):=by
      refine⟨0,true,Blk.new w2 70 (Qjw (some ⟨b,o1,none⟩) body.length (cap - c) 0 true),?_,⟨by omega,by omega⟩,rfl⟩;rcases hat1.out _ (via0 (Qad (Below.refl _ w2) (.cells (Qjw (some ⟨b,o1,none⟩) body.length (cap - c) 0 true) 70)) G2)with h|⟨b',o',e',hb',hi'⟩
      . exact .inl h
      . cases e';exact .inr ⟨b,o1,rfl,hb',by have:=G2.size;omega,hi'⟩
     have B2:=hidP (Qad (via0 G2 HB.out) (.cells (Qjw (some ⟨b,o1,none⟩) body.length (cap - c) 0 true) 70));have HP2:=hidP ((HP.out.below G2 HP.out.lt).alloc (.cells (Qjw (some ⟨b,o1,none⟩) body.length (cap - c) 0 true) 70));have hlt2:=hidP (Nat.lt_of_lt_of_le HP.out.lt G2.size);clear G2 HP HB hat1;go_wp2_with fail;refine(Qmn w2.heap.size (some ⟨b,o1,none⟩) (cap - c) body (by omega) hcm1.out.1 hcm1.out.2 0 _ hcu.out).mono ?_;rintro e w3 ⟨x,aa,cc,tt,rfl,o3,own3,hcu3,hnt⟩;have HP3:=hidP (HP2.out.only o3 (by have:=hlt2.out;omega));have HB3:=hidP (B2.out.trans (o3.toBelow (Nat.le_of_lt hlt2.out) B2.out.size));have HO3:=hidP (Qat (C:=w.heap.size+1) own3 (by have:=hlt2.out;simp;omega));obtain⟨ci,ok,hc⟩:=hcu3;have hst:=hc.st;have HC3:=hidP hc.box;clear hc o3 own3 hcu B2 HP2 hcm1;cases tt with
     |none=>
      have HN:Hid (ofN l i=none):=(by show _=_;unfold ofN;rw[hfr'.out];simp[hnt]);obtain rfl:ok=false:=by cases ok with
       |false=>rfl
       |true=>cases hst
      clear hst hnt hfr';have p:=HP3.out.alloc (.cells (Qag x.kind x.term x.vote x.prev aa (List.length x.l) cc x.snap) 26);have cb:=HC3.out.alloc (.cells (Qag x.kind x.term x.vote x.prev aa (List.length x.l) cc x.snap) 26);have HB:Hid (Below w.heap.size w (w3.alloc (.cells (Qag x.kind x.term x.vote x.prev aa (List.length x.l) cc x.snap) 26))):=hidP (Qad HB3.out _);have k2:(w3.alloc (.cells (Qag x.kind x.term x.vote x.prev aa (List.length x.l) cc x.snap) 26)).cell? ⟨w2.heap.size,2,none⟩=some (.bool false):=cb.cell (i:=2) rfl;have kq:=cb.lt;have rr0:(w3.alloc (.cells (Qag x.kind x.term x.vote x.prev aa (List.length x.l) cc x.snap) 26)).cell? ⟨w.heap.size,0,none⟩=some (.int .i64 0):=p.cell (i:=0) rfl;have zz0:=p.thaw 0;have rr1:(w3.alloc (.cells (Qag x.kind x.term x.vote x.prev aa (List.length x.l) cc x.snap) 26)).cell? ⟨w.heap.size,1,none⟩=some (.int .i64 0):=p.cell (i:=1) rfl;have zz1:=p.thaw 1;have rr2:(w3.alloc (.cells (Qag x.kind x.term x.vote x.prev aa (List.length x.l) cc x.snap) 26)).cell? ⟨w.heap.size,2,none⟩=some (.int .i64 0):=p.cell (i:=2) rfl;have zz2:=p.thaw 2;have rr3:(w3.alloc (.cells (Qag x.kind x.term x.vote x.prev aa (List.length x.l) cc x.snap) 26)).cell? ⟨w.heap.size,3,none⟩=some (.int .i64 0):=p.cell (i:=3) rfl;have zz3:=p.thaw 3;have rr4:(w3.alloc (.cells (Qag x.kind x.term x.vote x.prev aa (List.length x.l) cc x.snap) 26)).cell? ⟨w.heap.size,4,none⟩=some (.slice none 0 0):=p.cell (i:=4) rfl;have zz4:=p.thaw 4;have rr5:(w3.alloc (.cells (Qag x.kind x.term x.vote x.prev aa (List.length x.l) cc x.snap) 26)).cell? ⟨w.heap.size,5,none⟩=some (.string ⟨#[]⟩):=p.cell (i:=5) rfl;have zz5:=p.thaw 5;have qs:=p.lt;clear HP3 HC3 HB3 HO3 p cb hlt2;go_wp2
      refine bodyPost_ret (v:= .tuple #[.agg Qah,.int .i64 0,.bool false]) (by simp[results,Tryz.results16,go_sem,rr0,rr1,rr2,rr3,rr4,rr5]) rfl ⟨?_,.inr ⟨HN.out,rfl⟩⟩;exact HB.out.trans ((((((((Only.refl (w.heap.size) _).set 0 (.int .i64 0)).set 1 (.int .i64 0)).set 2 (.int .i64 0)).set 3 (.int .i64 0)).set 4 (.slice none 0 0)).set 5 (.string ⟨#[]⟩)).toBelow (Nat.le_refl _) HB.out.size)
     |some y=>
      obtain⟨sn,d⟩:=y;obtain⟨rfl,rfl⟩:ok=true/\ci=(d:Int):=by
       cases ok with
       |false=>cases hst
       |true=>
        have e:some (d:Int)=some ci:=hst;simp only[Option.some.injEq]at e;exact⟨rfl,e.symm⟩
      have hnt' :Qct body 0=some (x,d):=hnt;obtain⟨f1,f2,f3,f4⟩:=Qj2 (by omega) hnt';have hO:Hid (ofN l i=if d=body.length/\x.ok=true then some (x,c+body.length+4)else none):=(by show _=_;unfold ofN;rw[hfr'.out];simp[hnt']);have p:=HP3.out.alloc (.cells (Qag x.kind x.term x.vote x.prev aa (List.length x.l) cc x.snap) 26);have cb:=HC3.out.alloc (.cells (Qag x.kind x.term x.vote x.prev aa (List.length x.l) cc x.snap) 26);have HB:Hid (Below w.heap.size w (w3.alloc (.cells (Qag x.kind x.term x.vote x.prev aa (List.length x.l) cc x.snap) 26))):=hidP (Qad HB3.out _);have k1:(w3.alloc (.cells (Qag x.kind x.term x.vote x.prev aa (List.length x.l) cc x.snap) 26)).cell? ⟨w2.heap.size,1,none⟩=some (.int .i64 (d:Int)):=cb.cell (i:=1) rfl;have k2:(w3.alloc (.cells (Qag x.kind x.term x.vote x.prev aa (List.length x.l) cc x.snap) 26)).cell? ⟨w2.heap.size,2,none⟩=some (.bool true):=cb.cell (i:=2) rfl;have kq:=cb.lt;have hat3:=hidP (Qay (α:=En) HO3.out).at;have Hf2:=hidP f2;clear hst hnt hnt' hfr' HC3 HB3 cb f2;by_cases hd:d=body.length
      . subst hd;have hO1:Hid (ofN l i=if x.ok=true then some (x,c+body.length+4)else none):=(by show _=_;rw[hO.out];simp);have hI:=hidP (fun W (h:At W aa x.l)=>Qdw x.kind x.term x.vote x.prev x.snap (by omega) aa cc x.l (by omega) Hf2.out W h);have x0:=Blk.new w3 26 (Qag x.kind x.term x.vote x.prev aa (List.length x.l) cc x.snap);have Hp:=hidP p;have Hx0:=hidP x0;have HOa:=hidP (Qau HO3.out (.cells (Qag x.kind x.term x.vote x.prev aa (List.length x.l) cc x.snap) 26));clear hO p x0 HP3 HO3;go_wp2_with fail;refine(hI.out _ (hat3.out.below (Qad (Below.refl _ _) _))).mono ?_;rintro e w4 ⟨rfl,g4'⟩;have p:=Hp.out.below g4' Hp.out.lt;have x4:=Hx0.out.below g4' Hx0.out.lt;have HB4:=hidP (via0 g4' HB.out);have HO4:=hidP (Qas HOa.out g4');have hbx:Qdc x.kind x.term x.vote x.prev x.l x.snap=x.ok:=rfl;rw[hbx];have rr0:w4.cell? ⟨w.heap.size,0,none⟩=some (.int .i64 0):=p.cell (i:=0) rfl;have zz0:=p.thaw 0;have rr1:w4.cell? ⟨w.heap.size,1,none⟩=some (.int .i64 0):=p.cell (i:=1) rfl;have zz1:=p.thaw 1;have rr2:w4.cell? ⟨w.heap.size,2,none⟩=some (.int .i64 0):=p.cell (i:=2) rfl;have zz2:=p.thaw 2;have rr3:w4.cell? ⟨w.heap.size,3,none⟩=some (.int .i64 0):=p.cell (i:=3) rfl;have zz3:=p.thaw 3;have rr4:w4.cell? ⟨w.heap.size,4,none⟩=some (.slice none 0 0):=p.cell (i:=4) rfl;have zz4:=p.thaw 4;have rr5:w4.cell? ⟨w.heap.size,5,none⟩=some (.string ⟨#[]⟩):=p.cell (i:=5) rfl;have zz5:=p.thaw 5;have qs:=p.lt;clear g4' Hp Hx0 HOa HB hI k1 k2 kq hat3;cases hok:x.ok with
        |true=>
         have HN:Hid (ofN l i=some (x,c+body.length+4)):=(by show _=_;rw[hO1.out,hok];rfl);have k0:w4.cell? ⟨w3.heap.size,0,none⟩=some (.int .i64 x.kind):=x4.cell (i:=0) rfl;have k1:w4.cell? ⟨w3.heap.size,1,none⟩=some (.int .i64 x.term):=x4.cell (i:=1) rfl;have k2:w4.cell? ⟨w3.heap.size,2,none⟩=some (.int .i64 x.vote):=x4.cell (i:=2) rfl;have k3:w4.cell? ⟨w3.heap.size,3,none⟩=some (.int .i64 x.prev):=x4.cell (i:=3) rfl;have k4:w4.cell? ⟨w3.heap.size,4,none⟩=some (.slice aa (List.length x.l) cc):=x4.cell (i:=4) rfl;have k5:w4.cell? ⟨w3.heap.size,5,none⟩=some (.string x.snap):=x4.cell (i:=5) rfl;have qx:=x4.lt;have oo:=(((((((Only.refl (w.heap.size) w4).set 0 (.int .i64 x.kind)).set 1 (.int .i64 x.term)).set 2 (.int .i64 x.vote)).set 3 (.int .i64 x.prev)).set 4 (.slice aa (List.length x.l) cc)).set 5 (.string x.snap))
         have HBz:=hidP (HB4.out.trans (oo.toBelow (Nat.le_refl _) HB4.out.size));have HOz:=hidP (Qbr HO4.out oo (by omega));clear oo p x4 HB4 HO4 hO1;go_wp2_with fail
         try go_region
         try go_wp2
         have hE:((c+body.length+4:Nat):Int)=(c:Int)+(body.length:Int)+4:=(by omega);refine bodyPost_ret (v:= .tuple #[.agg (Qag x.kind x.term x.vote x.prev aa (List.length x.l) cc x.snap),.int .i64 ((c:Int)+(body.length:Int)+4),.bool true]) (by simp[results,Tryz.results16,go_sem,rr0,rr1,rr2,rr3,rr4,rr5]) rfl ⟨?_,.inl ⟨x,c+body.length+4,aa,cc,HN.out,?_,by rw[hE]⟩⟩
         . first|exact HBz.out|exact Below.drew HBz.out
         . first|exact Qat HOz.out (by omega)|exact Qat (Qas HOz.out (Below.drew (Below.refl _ _))) (by omega)
        |false=>
         have HN:Hid (ofN l i=none):=(by show _=_;rw[hO1.out,hok];rfl);clear x4 hO1 HO4;go_wp2;refine bodyPost_ret (v:= .tuple #[.agg Qah,.int .i64 0,.bool false]) (by simp[results,Tryz.results16,go_sem,rr0,rr1,rr2,rr3,rr4,rr5]) rfl ⟨?_,.inr ⟨HN.out,rfl⟩⟩;exact HB4.out.trans ((((((((Only.refl (w.heap.size) _).set 0 (.int .i64 0)).set 1 (.int .i64 0)).set 2 (.int .i64 0)).set 3 (.int .i64 0)).set 4 (.slice none 0 0)).set 5 (.string ⟨#[]⟩)).toBelow (Nat.le_refl _) HB4.out.size)
      . have HN:Hid (ofN l i=none):=(by show _=_;rw[hO.out,if_neg (fun h=>hd h.1)]);have hd' :¬((d:Int)=(body.length:Int)):=(by omega);have rr0:(w3.alloc (.cells (Qag x.kind x.term x.vote x.prev aa (List.length x.l) cc x.snap) 26)).cell? ⟨w.heap.size,0,none⟩=some (.int .i64 0):=p.cell (i:=0) rfl;have zz0:=p.thaw 0;have rr1:(w3.alloc (.cells (Qag x.kind x.term x.vote x.prev aa (List.length x.l) cc x.snap) 26)).cell? ⟨w.heap.size,1,none⟩=some (.int .i64 0):=p.cell (i:=1) rfl;have zz1:=p.thaw 1;have rr2:(w3.alloc (.cells (Qag x.kind x.term x.vote x.prev aa (List.length x.l) cc x.snap) 26)).cell? ⟨w.heap.size,2,none⟩=some (.int .i64 0):=p.cell (i:=2) rfl;have zz2:=p.thaw 2;have rr3:(w3.alloc (.cells (Qag x.kind x.term x.vote x.prev aa (List.length x.l) cc x.snap) 26)).cell? ⟨w.heap.size,3,none⟩=some (.int .i64 0):=p.cell (i:=3) rfl;have zz3:=p.thaw 3;have rr4:(w3.alloc (.cells (Qag x.kind x.term x.vote x.prev aa (List.length x.l) cc x.snap) 26)).cell? ⟨w.heap.size,4,none⟩=some (.slice none 0 0):=p.cell (i:=4) rfl;have zz4:=p.thaw 4;have rr5:(w3.alloc (.cells (Qag x.kind x.term x.vote x.prev aa (List.length x.l) cc x.snap) 26)).cell? ⟨w.heap.size,5,none⟩=some (.string ⟨#[]⟩):=p.cell (i:=5) rfl;have zz5:=p.thaw 5;have qs:=p.lt;clear hO p HP3 HO3 hat3 Hf2 hlt2;go_wp2;refine bodyPost_ret (v:= .tuple #[.agg Qah,.int .i64 0,.bool false]) (by simp[results,Tryz.results16,go_sem,rr0,rr1,rr2,rr3,rr4,rr5]) rfl ⟨?_,.inr ⟨HN.out,rfl⟩⟩;exact HB.out.trans ((((((((Only.refl (w.heap.size) _).set 0 (.int .i64 0)).set 1 (.int .i64 0)).set 2 (.int .i64 0)).set 3 (.int .i64 0)).set 4 (.slice none 0 0)).set 5 (.string ⟨#[]⟩)).toBelow (Nat.le_refl _) HB.out.size)
   . have HN:Hid (ofN l i=none):=(by show _=_;unfold ofN;rw[hfr'.out,if_neg (fun h=>heq h.2)]);have hneq:(S4==T4)=false:=(by simpa using heq);go_wp2_with fail;refine wp_region_noPanic ?_;refine wp_region_held_drew (S:=(fun(W:World)=>(convert 22 9 (.slice (some a2) 4 (cap - (c+body.length)))).run Tryz.prog W= .ok (.string ⟨T4.toArray⟩) W)) (by kernel_rfl) ?_ (fun hH=> ?_)
     . exact S0
     refine ztk [0,3,4,5,6,7,8,9,10,11,12] ?_;repeat(refine ztn (h:= ?_);try simp only[zX,zY])
     refine zte ?_;refine zR1 1 (fun K hK=> ?_);simp only[zG];go_simp;refine(Qg4 (some ⟨b,o1,none⟩) (cap - c) body hbl _ (hat1.out _ (Below.drew (Below.refl _ _)))).mono ?_;rintro e w2 ⟨rfl,g2,hy2⟩;have G2:Below W1.heap.size W1 w2:=via0 g2 (Below.drew (Below.refl _ _));have S2:=hcv.out w2 G2;have hc2:(convert 22 9 (.slice (some ⟨W1.heap.size,0,none⟩) 4 4)).run Tryz.prog w2= .ok (.string ⟨S4.toArray⟩) w2:=by(have h:=Qfu (cap:=4) hy2;rw[Qbd,HS4.out]at h;exact h)
     refine hK.out _ _ S2 fun hH=> ?_;clear hK K;try simp only[zX,zY]
     refine zR1 2 (fun K hK=> ?_);simp only[zG];go_simp;refine hK.out _ _ S2 fun hH=> ?_;clear hK K;try simp only[zX,zY]
     refine zt1 13 ?_;refine ztn (h:= ?_);try simp only[zX,zY]
     refine zte ?_;refine zdn ?_;have HB2:=hidP (via0 G2 HB.out);have p:=HP.out.below G2 HP.out.lt;clear S0 S2 hc2 hy2 hH g2 hcv hs1 hs2' hsum1 hsum2 HP HB G2 hat1 hfr';have rr0:w2.cell? ⟨w.heap.size,0,none⟩=some (.int .i64 0):=p.cell (i:=0) rfl;have zz0:=p.thaw 0;have rr1:w2.cell? ⟨w.heap.size,1,none⟩=some (.int .i64 0):=p.cell (i:=1) rfl;have zz1:=p.thaw 1;have rr2:w2.cell? ⟨w.heap.size,2,none⟩=some (.int .i64 0):=p.cell (i:=2) rfl;have zz2:=p.thaw 2;have rr3:w2.cell? ⟨w.heap.size,3,none⟩=some (.int .i64 0):=p.cell (i:=3) rfl;have zz3:=p.thaw 3;have rr4:w2.cell? ⟨w.heap.size,4,none⟩=some (.slice none 0 0):=p.cell (i:=4) rfl;have zz4:=p.thaw 4;have rr5:w2.cell? ⟨w.heap.size,5,none⟩=some (.string ⟨#[]⟩):=p.cell (i:=5) rfl;have zz5:=p.thaw 5;have qs:=p.lt;clear p;go_wp2;refine bodyPost_ret (v:= .tuple #[.agg Qah,.int .i64 0,.bool false]) (by simp[results,Tryz.results16,go_sem,rr0,rr1,rr2,rr3,rr4,rr5]) rfl ⟨?_,.inr ⟨HN.out,rfl⟩⟩;exact HB2.out.trans ((((((((Only.refl (w.heap.size) _).set 0 (.int .i64 0)).set 1 (.int .i64 0)).set 2 (.int .i64 0)).set 3 (.int .i64 0)).set 4 (.slice none 0 0)).set 5 (.string ⟨#[]⟩)).toBelow (Nat.le_refl _) HB2.out.size)
 . have HN:Hid (ofN l i=none):=(by show _=_;unfold ofN;rw[hfr,if_neg (fun h=>hc4 h.1)]);have hn1:((l.length:Int) - (c:Int) - 4<(n:Int)):=(by omega);clear hfr hin HA;have rr0:W1.cell? ⟨w.heap.size,0,none⟩=some (.int .i64 0):=HP.out.cell (i:=0) rfl;have zz0:=HP.out.thaw 0;have rr1:W1.cell? ⟨w.heap.size,1,none⟩=some (.int .i64 0):=HP.out.cell (i:=1) rfl;have zz1:=HP.out.thaw 1;have rr2:W1.cell? ⟨w.heap.size,2,none⟩=some (.int .i64 0):=HP.out.cell (i:=2) rfl;have zz2:=HP.out.thaw 2;have rr3:W1.cell? ⟨w.heap.size,3,none⟩=some (.int .i64 0):=HP.out.cell (i:=3) rfl;have zz3:=HP.out.thaw 3;have rr4:W1.cell? ⟨w.heap.size,4,none⟩=some (.slice none 0 0):=HP.out.cell (i:=4) rfl;have zz4:=HP.out.thaw 4;have rr5:W1.cell? ⟨w.heap.size,5,none⟩=some (.string ⟨#[]⟩):=HP.out.cell (i:=5) rfl;have zz5:=HP.out.thaw 5;have qs:=HP.out.lt;go_wp2;refine bodyPost_ret (v:= .tuple #[.agg Qah,.int .i64 0,.bool false]) (by simp[results,Tryz.results16,go_sem,rr0,rr1,rr2,rr3,rr4,rr5]) rfl ⟨?_,.inr ⟨HN.out,rfl⟩⟩;exact HB.out.trans ((((((((Only.refl (w.heap.size) _).set 0 (.int .i64 0)).set 1 (.int .i64 0)).set 2 (.int .i64 0)).set 3 (.int .i64 0)).set 4 (.slice none 0 0)).set 5 (.string ⟨#[]⟩)).toBelow (Nat.le_refl _) HB.out.size)
end Go.Proofs.YtajbldnhjpjghaaGreat.Gen
namespace Go.Proofs.YtajbldnhjpjghaaGreat.Gen.Bk
open ChangeShapes WideShapes ChangeAt RowKit Joins Deep Base Gen
theorem Qsg {l p r:List UInt8} {who seq op a b c:Int} {k t:ByteArray} (R:CmR who seq op a b c k t) (h:l=p++(cmB who seq op a b c k t++r)):getC l (p.length:Int)=some ((⟨who,seq,op,a,b,c,k,t⟩:Cm),(p++cmB who seq op a b c k t).length):=by
 obtain⟨w0,s0,o0,a0,b0,c0,k0,t0⟩:=R;have hl' :l=p++(numI (who+1)++(numI seq++(numI op++(numI a++(numI b++(numI c++(txtB k++(txtB t++r)))))))):=by rw[h];simp[cmB,Qbo]
 have e1:q1 l (some (p.length:Int))=some ((who+1).toNat,(p++numI (who+1)).length):=by
  show nS l (some (p.length:Int))=_;exact Qkw (r:=numI seq++(numI op++(numI a++(numI b++(numI c++(txtB k++(txtB t++(r)))))))) (by rw[hl'];try simp only[List.append_assoc]) (by omega) (by omega)
 have e2:q2 l (some (p.length:Int))=some (seq.toNat,(p++numI (who+1)++numI seq).length):=by
  show nS l (nO (q1 l (some (p.length:Int))))=_;rw[e1,Qe3];exact Qkw (r:=numI op++(numI a++(numI b++(numI c++(txtB k++(txtB t++(r))))))) (by rw[hl'];try simp only[List.append_assoc]) (by omega) (by omega)
 have e3:q3 l (some (p.length:Int))=some (op.toNat,(p++numI (who+1)++numI seq++numI op).length):=by
  show nS l (nO (q2 l (some (p.length:Int))))=_;rw[e2,Qe3];exact Qkw (r:=numI a++(numI b++(numI c++(txtB k++(txtB t++(r)))))) (by rw[hl'];try simp only[List.append_assoc]) (by omega) (by omega)
 have e4:q4 l (some (p.length:Int))=some (a.toNat,(p++numI (who+1)++numI seq++numI op++numI a).length):=by
  show nS l (nO (q3 l (some (p.length:Int))))=_;rw[e3,Qe3];exact Qkw (r:=numI b++(numI c++(txtB k++(txtB t++(r))))) (by rw[hl'];try simp only[List.append_assoc]) (by omega) (by omega)
 have e5:q5 l (some (p.length:Int))=some (b.toNat,(p++numI (who+1)++numI seq++numI op++numI a++numI b).length):=by
  show nS l (nO (q4 l (some (p.length:Int))))=_;rw[e4,Qe3];exact Qkw (r:=numI c++(txtB k++(txtB t++(r)))) (by rw[hl'];try simp only[List.append_assoc]) (by omega) (by omega)
 have e6:q6 l (some (p.length:Int))=some (c.toNat,(p++numI (who+1)++numI seq++numI op++numI a++numI b++numI c).length):=by
  show nS l (nO (q5 l (some (p.length:Int))))=_;rw[e5,Qe3];exact Qkw (r:=txtB k++(txtB t++(r))) (by rw[hl'];try simp only[List.append_assoc]) (by omega) (by omega)
 have e7:q7 l (some (p.length:Int))=some (k,(p++numI (who+1)++numI seq++numI op++numI a++numI b++numI c++txtB k).length):=by
  show tS l (nO (q6 l (some (p.length:Int))))=_;rw[e6,Qe3];exact Qrq (r:=txtB t++(r)) (by rw[hl'];try simp only[List.append_assoc]) (by omega)
 have e8:q8 l (some (p.length:Int))=some (t,(p++numI (who+1)++numI seq++numI op++numI a++numI b++numI c++txtB k++txtB t).length):=by
  show tS l (nO (q7 l (some (p.length:Int))))=_;rw[e7,Qe3];exact Qrq (r:=r) (by rw[hl'];try simp only[List.append_assoc]) (by omega)
 have hc:cmOf l (some (p.length:Int))=⟨who,seq,op,a,b,c,k,t⟩:=by
  unfold cmOf;rw[e1,e2,e3,e4,e5,e6,e7,e8];simp only[Qr3,Qrp];congr 1<;>omega
 unfold getC;rw[e8,hc];simp only[Option.map_some];congr 2;simp[cmB,Qbo,List.append_assoc]
theorem Qm6 {l:List UInt8} {i:Int} {x:Cm} {c:Nat} (h:getC l i=some (x,c)):∃j:Nat,i=(j:Int)/\j<=c/\c<=l.length/\cmB x.who x.seq x.op x.a x.b x.c x.k x.t=(l.drop j).take (c - j):=by
 unfold getC at h;cases e8:q8 l (some i)with
 |none=>rw[e8]at h;cases h
 |some p=>
  obtain⟨t,c'⟩:=p;rw[e8]at h;simp only[Option.map_some,Option.some.injEq,Prod.mk.injEq]at h;obtain⟨rfl,rfl⟩:=h;obtain⟨j7,o7,l8,m8,b8⟩:=Qnk (show tS l (nO (q7 l (some i)))=_ from e8);obtain⟨k,e7⟩:=Qg1 o7;obtain⟨j6,o6,l7,m7,b7⟩:=Qnk (show tS l (nO (q6 l (some i)))=_ from e7);obtain⟨n6,e6⟩:=Qg1 o6;obtain⟨j5,o5,_,l6,m6,b6⟩:=Qg0 (show nS l (nO (q5 l (some i)))=_ from e6);obtain⟨n5,e5⟩:=Qg1 o5;obtain⟨j4,o4,_,l5,m5,b5⟩:=Qg0 (show nS l (nO (q4 l (some i)))=_ from e5);obtain⟨n4,e4⟩:=Qg1 o4;obtain⟨j3,o3,_,l4,m4,b4⟩:=Qg0 (show nS l (nO (q3 l (some i)))=_ from e4);obtain⟨n3,e3⟩:=Qg1 o3;obtain⟨j2,o2,_,l3,m3,b3⟩:=Qg0 (show nS l (nO (q2 l (some i)))=_ from e3);obtain⟨n2,e2⟩:=Qg1 o2;obtain⟨j1,o1,_,l2,m2,b2⟩:=Qg0 (show nS l (nO (q1 l (some i)))=_ from e2);obtain⟨n1,e1⟩:=Qg1 o1;obtain⟨j0,o0,_,l1,m1,b1⟩:=Qg0 (show nS l (some i)=_ from e1);have hi:i=(j0:Int):=by simpa using o0
  refine⟨j0,hi,by omega,m8,?_⟩;have hx:cmOf l (some i)=⟨(n1:Int) - 1,n2,n3,n4,n5,n6,k,t⟩:=by
   unfold cmOf;rw[e1,e2,e3,e4,e5,e6,e7,e8];rfl
  rw[hx];simp only[cmB,Qbo,List.flatMap_cons,List.flatMap_nil,List.append_nil];rw[show(n1:Int) - 1+1=n1 by omega,b1,b2,b3,b4,b5,b6,b7,b8];rw[Qbl l (by omega:j4<=j5) (by omega:j5<=j6),Qbl l (by omega:j3<=j4) (by omega:j4<=j6),Qbl l (by omega:j2<=j3) (by omega:j3<=j6),Qbl l (by omega:j1<=j2) (by omega:j2<=j6),Qbl l (by omega:j0<=j1) (by omega:j1<=j6),Qbl l (by omega:j0<=j6) l7,Qbl l (by omega:j0<=j7) l8]
theorem Qo5 {l p r:List UInt8} {x:En} (hx:entF x=true) (h:l=p++(enB x++r)):Qbq l (p.length:Int)=some (x,(p++enB x).length):=by
 simp only[entF,Bool.and_eq_true]at hx;obtain⟨ht,hc⟩:=hx;have ht' :0<=x.term/\x.term<=300:=by simp[inB]at ht;omega
 have R:=Qgw (show CmdOk.okB x.who x.seq x.op x.a x.b x.c x.key x.text=true from hc);have h1:=getN_at (n:=x.term) (l:=l) (p:=p) (r:=cmB x.who x.seq x.op x.a x.b x.c x.key x.text++r) (by rw[h];simp[enB]) (by omega) (by omega);have h2:=Qsg (p:=p++numI x.term) (r:=r) (l:=l) R (by rw[h];simp[enB]);unfold Qbq;rw[h1];simp only[];rw[h2];simp only[];have e:((x.term.toNat:Nat):Int)=x.term:=by omega
 rw[e];simp[enB]
theorem Qqr {l p r:List UInt8} {x:Nt} (hx:x.ok=true) (h:l=p++(Qb5 x.kind x.term x.vote x.prev x.l x.snap++r)):Qct l (p.length:Int)=some (x,(p++Qb5 x.kind x.term x.vote x.prev x.l x.snap).length):=by
 obtain⟨kind,term,vote,prev,L,snap⟩:=x;simp only[Nt.ok,Qdc,Bool.and_eq_true,decide_eq_true_eq]at hx;obtain⟨⟨⟨⟨⟨⟨ho,ht⟩,hv⟩,hp⟩,hL⟩,hE⟩,hs⟩:=hx;have hk:0<=kind/\kind<=3:=by
  unfold ownB at ho;by_cases h1:kind=1
  . omega
  . by_cases h2:kind=2
    . omega
    . by_cases h3:kind=3
      . omega
      . simp[h1,h2,h3]at ho
 have ht' :0<=term/\term<=300:=by simp[inB]at ht;omega
 have hv' : -1<=vote/\vote<=4:=by simp[inB]at hv;omega
 have hp' :0<=prev/\prev<=300:=by simp[inB]at hp;omega
 have hl' :l=p++(numI kind++(numI term++(numI (vote+1)++(numI prev++(numI (L.length:Int)++(L.flatMap enB++(txtB snap++r))))))):=by rw[h];simp[Qb5,ensB,Qbo]
 have e1:=getN_at (n:=kind) (p:=p) (r:=numI term++(numI (vote+1)++(numI prev++(numI (L.length:Int)++(L.flatMap enB++(txtB snap++r)))))) (l:=l) (by rw[hl']) (by omega) (by omega);have e2:=getN_at (n:=term) (p:=p++numI kind) (r:=numI (vote+1)++(numI prev++(numI (L.length:Int)++(L.flatMap enB++(txtB snap++r))))) (l:=l) (by rw[hl'];try simp only[List.append_assoc]) (by omega) (by omega);have e3:=getN_at (n:=vote+1) (p:=p++numI kind++numI term) (r:=numI prev++(numI (L.length:Int)++(L.flatMap enB++(txtB snap++r)))) (l:=l) (by rw[hl'];try simp only[List.append_assoc]) (by omega) (by omega);have e4:=getN_at (n:=prev) (p:=p++numI kind++numI term++numI (vote+1)) (r:=numI (L.length:Int)++(L.flatMap enB++(txtB snap++r))) (l:=l) (by rw[hl'];try simp only[List.append_assoc]) (by omega) (by omega);have e5:=Qr7 (get:=Qbq l) (f:=enB) L (p++numI kind++numI term++numI (vote+1)++numI prev) (txtB snap++r) (by omega) (fun y hy p r h=>Qo5 (List.all_eq_true.1 hE y hy) h) (by rw[hl'];try simp only[List.append_assoc]);have e6:=Qsf (s:=snap) (p:=p++numI kind++numI term++numI (vote+1)++numI prev++(numI (L.length:Int)++L.flatMap enB)) (r:=r) (l:=l) (by rw[hl'];try simp only[List.append_assoc]) (by omega);unfold Qct;rw[e1];simp only[];rw[e2];simp only[];rw[e3];simp only[];rw[e4];simp only[];rw[e5];simp only[];rw[e6];simp only[];have k1:((kind.toNat:Nat):Int)=kind:=by omega
 have k2:((term.toNat:Nat):Int)=term:=by omega
 have k3:(((vote+1).toNat:Nat):Int) - 1=vote:=by omega
 have k4:((prev.toNat:Nat):Int)=prev:=by omega
 rw[k1,k2,k3,k4];simp[Qb5,ensB,Qbo]
theorem Qqt {l p r L:List UInt8} (hL:L.length<=2147483647) (h:l=p++(Qbk L++r)):Qd1 l (p.length:Int)=some (L,(p++Qbk L).length):=by
 have h1:=getN_at (n:=(L.length:Int)) (p:=p) (r:=L++(sumB 4 (sumN L)++r)) (l:=l) (by rw[h,Qb7 hL];simp[Qbk]) (by omega) (by omega);rw[Int.toNat_natCast]at h1;rw[Qb7 hL]at h1;have hl:l=(p++numB L.length)++(L++(sumB 4 (sumN L)++r)):=by rw[h];simp[Qbk]
 have d1:(l.drop (p++numB L.length).length).take L.length=L:=by rw[hl,List.drop_left,List.take_left]
 have d2:(l.drop ((p++numB L.length).length+L.length)).take 4=sumB 4 (sumN L):=by
  have e:(p++numB L.length).length+L.length=(p++numB L.length++L).length:=by simp;omega
  have hl2:l=(p++numB L.length++L)++(sumB 4 (sumN L)++r):=by rw[hl];simp
  rw[e,hl2,List.drop_left];exact List.take_left' (Qbd _ _)
 have hlen:(p++numB L.length).length+L.length+4<=l.length:=by rw[hl];simp[Qbd];omega
 rw[Qil h1,d1,d2,if_pos ⟨hlen,rfl⟩];congr 2;simp[Qbk,Qbd];omega
theorem ofN_at {l p r:List UInt8} {x:Nt} (hx:x.ok=true) (hB:(Qb5 x.kind x.term x.vote x.prev x.l x.snap).length<=2147483647) (h:l=p++(Qbk (Qb5 x.kind x.term x.vote x.prev x.l x.snap)++r)):ofN l (p.length:Int)=some (x,(p++Qbk (Qb5 x.kind x.term x.vote x.prev x.l x.snap)).length):=by
 have h2:=Qqr (p:= []) (r:= []) (l:=Qb5 x.kind x.term x.vote x.prev x.l x.snap) hx (by simp);unfold ofN;rw[Qqt hB h];simp only[];have h3:Qct (Qb5 x.kind x.term x.vote x.prev x.l x.snap) 0=some (x,(Qb5 x.kind x.term x.vote x.prev x.l x.snap).length):=by simpa using h2
 rw[h3];simp[hx]
theorem Qmw {l:List UInt8} {i:Nat} {x:En} {c:Nat} (h:Qbq l (i:Int)=some (x,c)):i<=c/\c<=l.length/\enB x=(l.drop i).take (c - i):=by
 unfold Qbq at h;cases h1:getN l (i:Int)with
 |none=>simp[h1]at h
 |some p1=>
 obtain⟨n1,c1⟩:=p1;cases h2:getC l (c1:Int)with
 |none=>simp[h1,h2]at h
 |some p2=>
 obtain⟨y,c2⟩:=p2;simp only[h1,h2,Option.some.injEq,Prod.mk.injEq]at h;obtain⟨rfl,rfl⟩:=h;have k1:=Qed h1;obtain⟨j,e,k2,k3,k4⟩:=Qm6 h2;obtain rfl:c1=j:=by omega
 refine⟨by omega,k3,?_⟩;show numI (n1:Int)++cmB y.who y.seq y.op y.a y.b y.c y.k y.t=_;rw[k1.2.2.2,k4];exact Qbl l k1.2.1 k2
theorem Qo2 {l:List UInt8} {i:Nat} {x:Nt} {c:Nat} (h:Qct l (i:Int)=some (x,c)):i<=c/\c<=l.length/\Qb5 x.kind x.term x.vote x.prev x.l x.snap=(l.drop i).take (c - i):=by
 unfold Qct at h;cases h1:getN l (i:Int)with
 |none=>simp[h1]at h
 |some p1=>
 obtain⟨n1,c1⟩:=p1;cases h2:getN l (c1:Int)with
 |none=>simp[h1,h2]at h
 |some p2=>
 obtain⟨n2,c2⟩:=p2;cases h3:getN l (c2:Int)with
 |none=>simp[h1,h2,h3]at h
 |some p3=>
 obtain⟨n3,c3⟩:=p3;cases h4:getN l (c3:Int)with
 |none=>simp[h1,h2,h3,h4]at h
 |some p4=>
 obtain⟨n4,c4⟩:=p4;cases h5:Qb0 l (Qbq l) (c4:Int)with
 |none=>simp[h1,h2,h3,h4,h5]at h
 |some p5=>
 obtain⟨xs,c5⟩:=p5;cases h6:getT l (c5:Int)with
 |none=>simp[h1,h2,h3,h4,h5,h6]at h
 |some p6=>
 obtain⟨s6,c6⟩:=p6;simp only[h1,h2,h3,h4,h5,h6,Option.some.injEq,Prod.mk.injEq]at h;obtain⟨rfl,rfl⟩:=h;have k1:=Qed h1;have k2:=Qed h2;have k3:=Qed h3;have k4:=Qed h4;unfold Qb0 at h5;cases h7:getN l (c4:Int)with
 |none=>simp[h7]at h5
 |some p7=>
 obtain⟨n7,c7⟩:=p7;rw[h7]at h5;have k7:=Qed h7;have k5:=Qlo (f:=enB) (fun i x c h=>Qmw h) n7 c7 k7.2.2.1 h5;have k6:=Qqq h6;refine⟨by omega,k6.2.1,?_⟩;have e7:numI (xs.length:Int)=(l.drop c4).take (c7 - c4):=by rw[k5.2.2.1];exact k7.2.2.2
 have e3:numI ((n3:Int) - 1+1)=(l.drop c2).take (c3 - c2):=by rw[show(n3:Int) - 1+1=n3 by omega];exact k3.2.2.2
 show Qbo [(n1:Int),(n2:Int),(n3:Int) - 1+1,(n4:Int)]++((numI (xs.length:Int)++xs.flatMap enB)++txtB s6)=_;have eN:Qbo [(n1:Int),(n2:Int),(n3:Int) - 1+1,(n4:Int)]=numI (n1:Int)++(numI (n2:Int)++(numI ((n3:Int) - 1+1)++numI (n4:Int))):=by simp[Qbo]
 rw[eN,k1.2.2.2,k2.2.2.2,e3,k4.2.2.2,e7,k5.2.2.2,k6.2.2];rw[Qbl l k7.2.1 k5.1,Qbl l (by omega:c4<=c5) k6.1,Qbl l k3.2.1 k4.2.1,Qbl l k2.2.1 (by omega:c2<=c4),Qbl l k1.2.1 (by omega:c1<=c4),Qbl l (by omega:i<=c4) (by omega:c4<=c6)]
theorem Qo4 {l:List UInt8} {i:Nat} {L:List UInt8} {c:Nat} (h:Qd1 l (i:Int)=some (L,c)):i<=c/\c<=l.length/\L.length<=2147483647/\Qbk L=(l.drop i).take (c - i):=by
 cases h1:getN l (i:Int)with
 |none=>
  unfold Qd1 getT at h;rw[h1]at h;cases h
 |some p=>
 obtain⟨n,d⟩:=p;rw[Qil h1]at h;have k1:=Qed h1;by_cases hc:d+n+4<=l.length/\sumB 4 (sumN ((l.drop d).take n))=(l.drop (d+n)).take 4
 . rw[if_pos hc]at h;simp only[Option.some.injEq,Prod.mk.injEq]at h;obtain⟨rfl,rfl⟩:=h;have hn:((l.drop d).take n).length=n:=(by simp;omega);refine⟨by omega,hc.1,by rw[hn];exact k1.1,?_⟩;unfold Qbk;rw[hn,hc.2,← Qb7 k1.1,k1.2.2.2];have s1:=Qbl l (show d<=d+n by omega) (show d+n<=d+n+4 by omega);rw[show d+n - d=n by omega,show d+n+4 - (d+n)=4 by omega]at s1;rw[s1];exact Qbl l k1.2.1 (by omega)
 . rw[if_neg hc]at h;cases h
theorem ofN_inv {l:List UInt8} {i:Nat} {x:Nt} {c:Nat} (h:ofN l (i:Int)=some (x,c)):i<=c/\c<=l.length/\x.ok=true/\Qbk (Qb5 x.kind x.term x.vote x.prev x.l x.snap)=(l.drop i).take (c - i):=by
 unfold ofN at h;cases h1:Qd1 l (i:Int)with
 |none=>rw[h1]at h;cases h
 |some p=>
 obtain⟨L,d⟩:=p;rw[h1]at h;simp only[]at h;cases h2:Qct L 0 with
 |none=>rw[h2]at h;cases h
 |some q=>
 obtain⟨y,e⟩:=q;rw[h2]at h;simp only[]at h;by_cases hc:e=L.length/\y.ok=true
 . rw[if_pos hc]at h;simp only[Option.some.injEq,Prod.mk.injEq]at h;obtain⟨rfl,rfl⟩:=h;have k1:=Qo4 h1;have k2:=Qo2 (i:=0) h2;have eb:Qb5 y.kind y.term y.vote y.prev y.l y.snap=L:=(by rw[k2.2.2,hc.1];simp);exact⟨k1.1,k1.2.1,hc.2,by rw[eb];exact k1.2.2.2⟩
 . rw[if_neg hc]at h;cases h
end Go.Proofs.YtajbldnhjpjghaaGreat.Gen.Bk
namespace Go.Proofs.YtajbldnhjpjghaaGreat.Gen
open ChangeShapes WideShapes ChangeAt RowKit Joins Deep Base
theorem Ql0:∀(l:List UInt8) (p:Nat × Nat),(l.foldl Qd7 p).1 % 65521=(p.1+(l.map UInt8.toNat).sum) % 65521
 | [],p=>by simp
 |x::l,p=>by
  rw[List.foldl_cons,Ql0 l];simp only[Qd7,List.map_cons,List.sum_cons];omega
theorem Qpd:∀(l:List UInt8) (p:Nat × Nat),p.1<65521->(l.foldl Qd7 p).1<65521
 | [],p,h=>h
 |x::l,p,h=>Qpd l _ (Nat.mod_lt _ (by omega))
theorem Qli (l:List UInt8):sumN l % 65536=(1+(l.map UInt8.toNat).sum) % 65521:=by
 have h1:=Ql0 l (1,0);have h2:=Qpd l (1,0) (by omega);unfold sumN;show((sumP l).2*65536+(sumP l).1) % 65536=_;have h3:(sumP l).1<65521:=h2;have h4:(sumP l).1 % 65521=(1+(l.map UInt8.toNat).sum) % 65521:=h1;omega
theorem Qnl:∀(l:List UInt8) (k:Nat) (h:k<l.length) (y:UInt8),((l.set k y).map UInt8.toNat).sum+l[k].toNat=(l.map UInt8.toNat).sum+y.toNat
 |x::l,0,_,y=>by simp;omega
 |x::l,k+1,h,y=>by
  have:=Qnl l k (by simpa using h) y;simp only[List.set_cons_succ,List.map_cons,List.sum_cons,List.getElem_cons_succ];omega
theorem Qpv (l:List UInt8) (k:Nat) (h:k<l.length) (y:UInt8) (hy:y≠l[k]):sumN (l.set k y)≠sumN l:=fun e=>by
 have h1:=Qli l;have h2:=Qli (l.set k y);rw[e]at h2;have h3:=Qnl l k h y;have h4:y.toNat≠l[k].toNat:=fun e=>hy (UInt8.toNat_inj.1 e)
 have h5:=y.toNat_lt;have h6:=l[k].toNat_lt;omega
theorem Qt2 {L:List UInt8} {i:Int} {x:Nt} {c:Nat} (hL:L.length<=200000) (h:ofN L i=some (x,c)) (r:List UInt8):c<=L.length/\x.ok=true/\ofN (L.take c++r) i=some (x,c):=by
 obtain⟨j,rfl⟩:∃j:Nat,i=(j:Int):=by
  by_cases hi:i<0
  . exfalso;unfold ofN Qd1 getT at h;rw[Qly hi]at h;simp at h
  . exact⟨i.toNat,by omega⟩
 obtain⟨h1,h2,h3,h4⟩:=Bk.ofN_inv h;generalize hB:Qb5 x.kind x.term x.vote x.prev x.l x.snap=B at h4;have hf:(Qbk B).length=c - j:=by rw[h4,List.length_take,List.length_drop];omega
 have hb:B.length<=2147483647:=by
  have:B.length<=(Qbk B).length:=by unfold Qbk;simp only[List.length_append];omega
  omega
 have hj:(L.take j).length=j:=by rw[List.length_take];omega
 have e:L.take c++r=L.take j++(Qbk B++r):=by
  rw[h4,← List.append_assoc,← List.take_add,Nat.add_sub_cancel' h1]
 subst hB;have h5:=Bk.ofN_at (l:=L.take c++r) (p:=L.take j) (r:=r) h3 hb e;rw[hj]at h5;rw[List.length_append,hj,hf,Nat.add_sub_cancel' h1]at h5;exact⟨h2,h3,h5⟩
theorem Qq1 {x:Nt} (hx:x.ok=true) {F:List UInt8} (hF:F=Qbk (Qb5 x.kind x.term x.vote x.prev x.l x.snap)) (hL:F.length<=200000) {k:Nat} (hk:k<F.length):ofN (F.take k) 0=none:=by
 cases h:ofN (F.take k) 0 with
 |none=>rfl
 |some p=>
  exfalso;obtain⟨y,c⟩:=p;obtain⟨h1,_,h3⟩:=Qt2 (by rw[List.length_take];omega) h (F.drop c);rw[List.length_take]at h1;rw[List.take_take,Nat.min_eq_left (by omega),List.take_append_drop]at h3;have hb:(Qb5 x.kind x.term x.vote x.prev x.l x.snap).length<=2147483647:=by
   have:(Qb5 x.kind x.term x.vote x.prev x.l x.snap).length<=F.length:=(by rw[hF];unfold Qbk;simp only[List.length_append];omega);omega
  have h4:=Bk.ofN_at (l:=F) (p:= []) (r:= []) hx hb (by rw[hF];simp);rw[← hF]at h4;simp only[List.length_nil,List.nil_append]at h4;rw[show((0:Nat):Int)=0 by rfl,h3]at h4;simp only[Option.some.injEq,Prod.mk.injEq]at h4;omega
theorem Qpw {a b:Nat} (ha:a<4294967296) (hb:b<4294967296) (h:sumB 4 a=sumB 4 b):a=b:=by
 have l4:=Qbd 4 a;have e1:=(Qnm (sumB 4 a) 0 a (by omega) ha).2 (by rw[List.drop_zero,List.take_of_length_le (by omega)]);have e2:=(Qnm (sumB 4 a) 0 b (by omega) hb).2 (by rw[List.drop_zero,List.take_of_length_le (by omega),h]);omega
theorem Qpe {L:List UInt8} {F:List UInt8} (hF:F=Qbk L) (hL:F.length<=200000) {k:Nat} (h0:(numB L.length).length<=k) (hk:k<F.length) {y:UInt8} (hy:F[k]? ≠some y):ofN (F.set k y) 0=none:=by
 have hl:L.length<=2147483647:=by
  have:L.length<=F.length:=by rw[hF];unfold Qbk;simp only[List.length_append];omega
  omega
 have e:F.set k y=numB L.length++(L++sumB 4 (sumN L)).set (k - (numB L.length).length) y:=by
  rw[hF];unfold Qbk;rw[List.set_append_right _ _ h0]
 have hk' :F.length=(numB L.length).length+(L.length+4):=by rw[hF];unfold Qbk;simp only[List.length_append,Qbd]
 have hget:F[k]? =(L++sumB 4 (sumN L))[k - (numB L.length).length]? :=by
  rw[hF];unfold Qbk;rw[List.getElem?_append_right h0]
 rw[hget]at hy;generalize hz:k - (numB L.length).length=z at*;have hz4:z<L.length+4:=by omega
 have h1:=Bk.getN_at (n:=(L.length:Int)) (p:= []) (r:=(L++sumB 4 (sumN L)).set z y) (l:=F.set k y) (by rw[e,Qb7 hl];simp) (by omega) (by omega);rw[Int.toNat_natCast,Qb7 hl]at h1;simp only[List.length_nil,List.nil_append]at h1;rw[show((0:Nat):Int)=0 by rfl]at h1;have d1:(F.set k y).drop (numB L.length).length=(L++sumB 4 (sumN L)).set z y:=by rw[e,List.drop_left]
 have d2:(F.set k y).drop ((numB L.length).length+L.length)=((L++sumB 4 (sumN L)).set z y).drop L.length:=by rw[← List.drop_drop,d1]
 have hfr:Qd1 (F.set k y) 0=none:=by
  rw[Qil h1,if_neg];rintro ⟨_,q⟩;rw[d1,d2]at q;by_cases hc:z<L.length
  . rw[List.set_append_left _ _ hc,List.take_left' (by simp),List.drop_left' (by simp),List.take_of_length_le (by rw[Qbd];omega)]at q;rw[List.getElem?_append_left hc,List.getElem?_eq_getElem hc]at hy;exact Qpv L z hc y (fun e=>hy (by rw[e])) (Qpw (Qgn _) (Qgn _) q)
  . rw[List.set_append_right _ _ (by omega),List.take_left' rfl,List.drop_left' rfl,List.take_of_length_le (by rw[List.length_set,Qbd];omega)]at q;rw[List.getElem?_append_right (by omega)]at hy;apply hy;rw[q,List.getElem?_set_self (by rw[Qbd];omega)]
 unfold ofN;rw[hfr]
end Go.Proofs.YtajbldnhjpjghaaGreat.Gen
