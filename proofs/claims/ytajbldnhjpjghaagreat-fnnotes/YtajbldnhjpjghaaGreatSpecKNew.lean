/-
  The specification's KeepNew at this seat. No condition.
-/
import Derived.Test.YtajbldnhjpjghaaGreatKGr2
set_option linter.unusedVariables false
set_option linter.unusedSimpArgs false
set_option maxRecDepth 100000
set_option maxHeartbeats 8000000
set_option maxRecDepth 100000
set_option maxHeartbeats 8000000
namespace Go.Proofs.YtajbldnhjpjghaaGreat.Gen
open ChangeShapes WideShapes ChangeAt RowKit Joins Deep Base
theorem Qgq (ro wi le ke:Int) (w:World):
 Calls Tryz.prog 97 #[.agg (Qaj ro wi le ke)] w fun e w' =>Qq8 w w' e (newK (setB ro wi le ke) ro):=by
 cases hb:setB ro wi le ke
 . go_enter Tryz.func97,Tryz.ntmps97;go_wp2_with (go_at_call 98;refine(Qd8 ro wi le ke _).mono ?_;rw[hb];rintro e w1 ⟨rfl,g1⟩;obtain⟨k1,m1⟩:=Qeh g1;have B1:Below w.heap.size w w1:=via0 g1 (Qad (Qad (Below.refl _ _) _) _);have p1:=((Blk.new (w.alloc (.cells (Qaj ro wi le ke) 96)) 102 Qae)).below g1 (by simp);rw[World.size_alloc]at p1;obtain⟨r0,r1,r2,r3,r4,r5⟩:=p1.row6;have f0:=p1.thaw 0;have f1:=p1.thaw 1;have f2:=p1.thaw 2;have f3:=p1.thaw 3;have f4:=p1.thaw 4;have f5:=p1.thaw 5);refine bodyPost_ret (v:= .agg Qae) (by simp[results,Tryz.results97,go_sem,r0,r1,r2,r3,r4,r5]) rfl (Qmc ?_);exact Qav (Qav (Qav (Qav (Qav (Qav B1 (Nat.le_succ _) _) (Nat.le_succ _) _) (Nat.le_succ _) _) (Nat.le_succ _) _) (Nat.le_succ _) _) (Nat.le_succ _) _
 . obtain⟨hr1,hr4⟩:=Qi5 hb;obtain⟨n,rfl⟩:∃n:Nat,ro=n:=⟨ro.toNat,by omega⟩
   have hmR:=Qga (P:=Tryz.prog) Tryz.underlying97 Qrc (by omega) n (by omega);have hmD:∀w:World,(Instr.makeSlice 63 (.int .i64 4) (.int .i64 4)).run Tryz.prog w= .ok (.slice (some ⟨w.heap.size,0,none⟩) 4 4) (w.alloc (.cells (madeCells #[.int .i64 0] 4) 3)):=Qga (P:=Tryz.prog) Tryz.underlying63 Qec (by omega) 4 (by omega);have hmL:∀w:World,(Instr.makeSlice 100 (.int .i64 4) (.int .i64 4)).run Tryz.prog w= .ok (.slice (some ⟨w.heap.size,0,none⟩) 4 4) (w.alloc (.cells (madeCells Qaq 16) 145)):=Qga (P:=Tryz.prog) Tryz.underlying100 Qou (by omega) 4 (by omega);go_enter Tryz.func97,Tryz.ntmps97;go_upto_region 3 with(go_at_call 98;refine(Qd8 (n:Int) wi le ke _).mono ?_;rw[hb];rintro e w1 ⟨rfl,g1⟩)
   have I:∀V,KR w w1 (n:Int) wi le ke n V (fun _=>none):=fun V=>⟨via0 g1 (Qad (Qad (Below.refl _ _) _) _),((Blk.new w _ _).alloc _).below g1 (by simp;omega),by have:=(Blk.new (w.alloc (.cells (Qaj (n:Int) wi le ke) 96)) 102 Qae).below g1 (by simp);rwa [World.size_alloc]at this,fun i b e=>(by cases e),fun i j b e=>(by cases e),fun b e=>(by cases e),fun b e=>(by cases e),fun b e=>(by cases e),fun b e=>(by cases e)⟩
   have J:=hidP I;have I:=I Qae;clear g1;go_cut [3]from 9 to 14 (fun s wx=>∃g bR bD bL Q,s= .pointer (some ⟨g,0,none⟩)/\Q<=wx.heap.size/\KN w wx (n:Int) wi le ke n g bR bD bL Q (.slice none 0 0))
   case first=>
    obtain⟨AA,hAA⟩:∃f:(Nat->Bool)->(Nat->Value)->Array Value,f=(fun(m:Nat->Bool) (v:Nat->Value)=> #[.agg (Qaj (n:Int) wi le ke),.pointer (some ⟨w.heap.size,0,none⟩),.pointer (some ⟨w.heap.size+1,0,none⟩),sl m v 6,undef,.agg (Qaj (n:Int) wi le ke),.bool true,.bool false,undef,.pointer (some ⟨w.heap.size,0,none⟩),.int .i64 (n:Int),sl m v 2,sl m v 3,sl m v 4,sl m v 5,undef,undef,undef,undef,undef,undef,undef,undef,undef,undef,undef,undef,undef]):=⟨_,rfl⟩
    refine wp_region_noPanic ?_;refine wp_region_held_drew (S:=fun(w' :World)=>w'.cell? ⟨w.heap.size,0,none⟩=some (.int .i64 (n:Int))) (by kernel_rfl) ?_ (fun hH=> ?_)
    . exact I.b1.row4.1
    refine ztk [0,1] ?_;repeat(refine ztn (h:= ?_);try simp only[zX,zY])
    refine zte ?_;refine Qpo (n1:=1+5) (l1:=lstK (fun _=>false)) (T:=StK w n wi le ke AA (fun _=>false)) (fun a W hT hS=>Qpn [2,3,4,5,6] lstK preK (StK w n wi le ke AA) ?hl ?step ?tail 5 (fun _=>false) a W (by kernel_rfl) hT hS) (by kernel_rfl) ⟨fun _=>undef,fun _=>none,by rw[hAA];rfl,I.drew,(fun e=>by cases e),(fun e=>by cases e),(fun e=>by cases e),(fun e=>by cases e),(fun e=>by cases e)⟩ hH
    case hl=>
     intro i hi m;simp only[List.mem_cons,List.not_mem_nil,or_false]at hi;rcases hi with rfl|rfl|rfl|rfl|rfl<;>rfl
    case step=>
     clear hH J I;intro i hi m a W hp hT hS;obtain⟨v,o,rfl,I,h2,h3,h4,h5,h6⟩:=hT;subst hAA;simp only[List.mem_cons,List.not_mem_nil,or_false]at hi;rcases hi with rfl|rfl|rfl|rfl|rfl
     . have q5:m 5=false:=(by simpa [preK]using hp);have hmk:=hmR W;have I2:=I.new0 W.heap.size rfl;refine⟨_,rfl,fun K hK=> ?_⟩;go_simp;exact hK.out _ _ I2.b1.row4.1 ⟨updv v 2 (.slice (some ⟨W.heap.size,0,none⟩) n n),_,rfl,I2,(fun _=>⟨_,rfl,rfl⟩),h3,h4,fun e=>by simp[updm,q5]at e,h6⟩
     . have q5:m 5=false:=(by simpa [preK]using hp);have hmk:=hmD W;have I2:=I.new1 W.heap.size rfl;refine⟨_,rfl,fun K hK=> ?_⟩;go_simp;exact hK.out _ _ I2.b1.row4.1 ⟨updv v 3 (.slice (some ⟨W.heap.size,0,none⟩) 4 4),_,rfl,I2,h2,(fun _=>⟨_,rfl,rfl⟩),h4,fun e=>by simp[updm,q5]at e,h6⟩
     . have q5:m 5=false:=(by simpa [preK]using hp);have hmk:=hmL W;have I2:=I.new2 W.heap.size rfl;refine⟨_,rfl,fun K hK=> ?_⟩;go_simp;exact hK.out _ _ I2.b1.row4.1 ⟨updv v 4 (.slice (some ⟨W.heap.size,0,none⟩) 4 4),_,rfl,I2,h2,h3,(fun _=>⟨_,rfl,rfl⟩),fun e=>by simp[updm,q5]at e,h6⟩
     . have q:(m 2=true/\m 3=true)/\m 4=true:=(by simpa [preK]using hp);obtain⟨bR,_,v2⟩:=h2 q.1.1;obtain⟨bD,_,v3⟩:=h3 q.1.2;obtain⟨bL,_,v4⟩:=h4 q.2;have e2:sl m v 2= .slice (some ⟨bR,0,none⟩) n n:=(by simp[sl,q.1.1,v2]);have e3:sl m v 3= .slice (some ⟨bD,0,none⟩) 4 4:=(by simp[sl,q.1.2,v3]);have e4:sl m v 4= .slice (some ⟨bL,0,none⟩) 4 4:=(by simp[sl,q.2,v4]);refine⟨_,rfl,fun K hK=> ?_⟩;go_simp;refine hK.out _ _ I.b1.row4.1 ⟨updv v 5 (.agg (Qaa (some ⟨bR,0,none⟩) n n none 0 0 none 0 0 0 (some ⟨bD,0,none⟩) 4 4 (some ⟨bL,0,none⟩) 4 4)),o,?_,I,h2,h3,h4,fun _=>by simp[updv,v2,v3,v4],h6⟩;simp[sl,updm,updv,q.1.1,q.1.2,q.2,v2,v3,v4]
     . have I2:=I.new3 W.heap.size rfl;refine⟨_,rfl,fun K hK=> ?_⟩;go_simp;exact hK.out _ _ I2.b1.row4.1 ⟨updv v 6 (.pointer (some ⟨W.heap.size,0,none⟩)),_,rfl,I2,h2,h3,h4,h5,fun _=>⟨_,rfl,rfl⟩⟩
    case tail=>
     clear hH J I;intro m a W hm hT hS;obtain⟨v,o,rfl,I,h2,h3,h4,h5,h6⟩:=hT;subst hAA;simp only[List.all_cons,List.all_nil,Bool.and_true,Bool.and_eq_true]at hm;obtain⟨m2,m3,m4,m5,m6⟩:=hm;obtain⟨bR,oR,v2⟩:=h2 m2;obtain⟨bD,oD,v3⟩:=h3 m3;obtain⟨bL,oL,v4⟩:=h4 m4;obtain⟨g,oG,v6⟩:=h6 m6;have v5:=h5 m5;rw[v2,v3,v4]at v5;simp only[sl,m2,m3,m4,m5,m6,v2,v3,v4,v5,v6,if_true,lstK];have I2:=I.store oG (Qaa (some ⟨bR,0,none⟩) n n none 0 0 none 0 0 0 (some ⟨bD,0,none⟩) 4 4 (some ⟨bL,0,none⟩) 4 4);refine zR1 7 (fun K hK=> ?_);simp only[zG];rw[if_pos (by rfl)];refine wp_store_row 102 _ _ (by rfl) g (Qaa (some ⟨bR,0,none⟩) n n none 0 0 none 0 0 0 (some ⟨bD,0,none⟩) 4 4 (some ⟨bL,0,none⟩) 4 4) (by rfl) (by rfl) 102 Qae (I.g g oG) (by kernel_rfl) rfl (by simp[Value.oneCell']) ?_;refine hK.out _ _ I2.b1.row4.1 (fun hH=> ?_);refine zdn ?_;go_wp2_with fail
     go_meet
     exact⟨g,bR,bD,bL,_,rfl,Nat.le_refl _,I2.done oR oD oL oG⟩
   case rest=>
    obtain⟨g,bR,bD,bL,Q,rfl,hQ,K0⟩:=hcut;have HK:=hidP K0;have HG:=hidP (GL.nil wc (n:Int) Q hQ);clear K0 hQ I J hmR hmD hmL;go_wp2
    go_loopw [4] (fun i W=>∃(j:Nat) (a:Option Addr) (c:Nat) (gs:List GC) (fp:Nat->Nat->Prop),i= .int .i64 (j:Int)/\j<=2/\Hid (KN w W (n:Int) wi le ke n g bR bD bL Q (.slice a j c))/\Hid (GL W (n:Int) Q (.slice a j c) gs fp)/\Hid (gs.length=j)) (fun i _=>2 - (intOf i).toNat)
    case atStart=>exact⟨0,none,0,[],_,rfl,by omega,HK,HG,rfl⟩
    case round=>
     obtain⟨j,a,c,gs,fp,rfl,hj,hKn,hG,hl⟩:=hrel;by_cases hlt:j<2
     . have hS4:(fun(w' :World)=>w'.cell? ⟨g,2,none⟩=some (.slice a j c)/\w'.cell? ⟨w.heap.size,0,none⟩=some (.int .i64 (n:Int))) wr.drew:=⟨hKn.out.bg.row6.2.2.1,hKn.out.b1.row4.1⟩
       go_wp2_with fail;refine wp_region_noPanic ?_;have hH:(fun(w' :World)=>w'.cell? ⟨g,2,none⟩=some (.slice a j c)/\w'.cell? ⟨w.heap.size,0,none⟩=some (.int .i64 (n:Int))) _:=hS4;refine Qe2 8 (fun(w' :World)=>w'.cell? ⟨g,2,none⟩=some (.slice a j c)/\w'.cell? ⟨w.heap.size,0,none⟩=some (.int .i64 (n:Int))) (by kernel_rfl) ?_;refine' Qa6 (i:=0) (v:=_) (by kernel_rfl) rfl (by kernel_rfl) (by decide) (by kernel_rfl) (by kernel_rfl) (by kernel_rfl) (fun _ _ _ h=>h) (Or.inl ⟨by rfl,?hy1⟩) (by assumption) ?rest1
       case hy1=>(intro w hSw;(try dsimp only at hSw);go_simp<;>with_reducible rfl)
       try simp only[zX,zY]
       refine' Qa6 (i:=1) (v:=_) (by kernel_rfl) rfl (by kernel_rfl) (by decide) (by kernel_rfl) (by kernel_rfl) (by kernel_rfl) (fun _ _ _ h=>h) (Or.inl ⟨by rfl,?hy2⟩) (by assumption) ?rest2
       case hy2=>(intro w hSw;(try dsimp only at hSw);go_simp<;>with_reducible rfl)
       try simp only[zX,zY]
       refine' Qa6 (i:=2) (v:=_) (by kernel_rfl) rfl (by kernel_rfl) (by decide) (by kernel_rfl) (by kernel_rfl) (by kernel_rfl) (fun _ _ _ h=>h) (Or.inl ⟨by rfl,?hy3⟩) (by assumption) ?rest3
       case hy3=>(intro w hSw;(try dsimp only at hSw);go_simp<;>with_reducible rfl)
       try simp only[zX,zY]
       refine' Qa6 (i:=3) (v:=_) (by kernel_rfl) rfl (by kernel_rfl) (by decide) (by kernel_rfl) (by kernel_rfl) (by kernel_rfl) (fun _ _ _ h=>h) (Or.inl ⟨by rfl,?hy4⟩) (by assumption) ?rest4
       case hy4=>(intro w hSw;(try dsimp only at hSw);go_simp<;>with_reducible rfl)
       try simp only[zX,zY]
       refine Qcc (i:=4) (by kernel_rfl) rfl (fun K hK=> ?_);simp only[zG]
       go_simp;go_at_call 103;refine(Qkp (n:Int) _).mono ?_;rintro e w2 ⟨xa,xc,F,rfl,g2,hGp,hF⟩;have gB:Below wr.heap.size wr w2:=via0 g2 (Below.drew (Below.refl _ _));have hF' :∀x∈F,wr.heap.size<=x:=hF;have K2:=hKn.out.below gB;have K2a:=K2.below (Qad (Below.refl _ _) (.cells (Qak 0 none 0 0 none 0 0 xa (newO (n:Int)).length xc) 143));have gBa:Below wr.heap.size wr (w2.alloc (.cells (Qak 0 none 0 0 none 0 0 xa (newO (n:Int)).length xc) 143)):=Qad gB _;have hxP:=Qtp (c:=xc) hGp;have hxPa:=Qdj _ (w2.alloc (.cells (Qak 0 none 0 0 none 0 0 xa (newO (n:Int)).length xc) 143)) (⟨0,none,0,[],none,0,[],xa,xc,newO (n:Int)⟩:GC) _ (fun _=>False) hxP (Offp.of_below (Qad (Below.refl _ _) _)) (fun _ _ e=>e);have hAt:At (w2.alloc (.cells (Qak 0 none 0 0 none 0 0 xa (newO (n:Int)).length xc) 143)) (some ⟨w2.heap.size,0,none⟩) [(⟨0,none,0,[],none,0,[],xa,xc,newO (n:Int)⟩:GC)]:= .inr ⟨w2.heap.size,0,rfl,by simp,Qs1 w2 (⟨0,none,0,[],none,0,[],xa,xc,newO (n:Int)⟩:GC) 143⟩;have hGa:=hG.out.below gBa;have hll:=hl.out;obtain⟨v',w3,hr,hown,hgrow,hat⟩:=Qbj (P:=Tryz.prog) Tryz.underlying99 Qre rfl (by decide) (by decide) Q (.slice a j c) gs [(⟨0,none,0,[],none,0,[],xa,xc,newO (n:Int)⟩:GC)] (some ⟨w2.heap.size,0,none⟩) 1 (w2.alloc (.cells (Qak 0 none 0 0 none 0 0 xa (newO (n:Int)).length xc) 143)) hGa.q hGa.own hAt (by rw[hll];simp;omega);simp only[List.length_cons,List.length_nil,Nat.zero_add]at hr hown;have G3:=hG.out.snoc gBa hxPa rfl (fun b hb=>⟨hF' b hb,by have:=hGp.lt b hb;simp;omega⟩) hown hgrow hat;rw[hll]at hown;obtain⟨a',c',rfl,_⟩:=Qao hown;have K3:=K2a.offp (Qb8 hgrow) (fun x hx=>(hGa.own.lt x hx).1);have hgQ:=K3.g0;have HK4:=hidP (K3.set (.slice a' (j+1) c'));have HG4:=hidP (G3.offp (Offp.of_only ((Only.refl g w3).set 2 (.slice a' (j+1) c'))) (fun x hx e=>by omega));have hS5:(fun(w' :World)=>w'.cell? ⟨g,2,none⟩=some (.slice a j c)/\w'.cell? ⟨w.heap.size,0,none⟩=some (.int .i64 (n:Int))) w2:=⟨K2.bg.row6.2.2.1,K2.b1.row4.1⟩;have hS6:(fun(w' :World)=>w'.cell? ⟨g,2,none⟩=some (.slice a j c)/\w'.cell? ⟨w.heap.size,0,none⟩=some (.int .i64 (n:Int))) (w2.alloc (.cells (Qak 0 none 0 0 none 0 0 xa (newO (n:Int)).length xc) 143)):=⟨K2a.bg.row6.2.2.1,K2a.b1.row4.1⟩;have hS7:(fun(w' :World)=>w'.cell? ⟨g,2,none⟩=some (.slice a j c)/\w'.cell? ⟨w.heap.size,0,none⟩=some (.int .i64 (n:Int))) w3:=⟨K3.bg.row6.2.2.1,K3.b1.row4.1⟩;have z2:=K3.bg.row6.2.2.1;have y2:=K3.bg.thaw 2;have HL4:Hid ((gs++ [(⟨0,none,0,[],none,0,[],xa,xc,newO (n:Int)⟩:GC)]).length=j+1):=(by show _=_;rw[List.length_append,hll];first|rfl|done);clear K2 K2a K3 G3 hGa hown hgrow hat hAt hxP hxPa gB gBa hF hF' hGp g2 hll hgQ
       refine hK.out _ _ (.inr hS5) ?_;clear hK K
       try simp only[zX,zY]
       refine Qcc (i:=5) (by kernel_rfl) rfl (fun K hK=> ?_);simp only[zG];go_simp;refine hK.out _ _ (.inr hS6) ?_;clear hK K
       try simp only[zX,zY]
       refine Qcc (i:=6) (by kernel_rfl) rfl (fun K hK=> ?_);simp only[zG];rw[if_pos (by rfl)];refine Qai _ _ _ (by rfl) _ _ _ (by rfl) (by rfl) hr ?_;refine hK.out _ _ (.inr hS7) ?_;clear hK K
       try simp only[zX,zY]
       refine' Qhu (i:=7) (v:=_) rfl (by kernel_rfl) (by decide) (by kernel_rfl) (by kernel_rfl) (fun _ _ _ h=>h) (Or.inl ⟨by rfl,?hy5⟩) (by assumption) ?rest5
       case hy5=>(intro w hSw;(try dsimp only at hSw);go_simp<;>with_reducible rfl)
       try simp only[zX,zY]
       refine Qcc (i:=8) (by kernel_rfl) rfl (fun K hK=> ?_);simp only[zG];go_simp;refine hK.out _ _ (.inl rfl) ?_;clear hK K
       try simp only[zX,zY]
       refine Qgk (by kernel_rfl) ?_ _;refine NoPanic.normal ?_;go_wp2;exact⟨⟨j+1,a',c',_,_,by go_num,by omega,HK4,HG4,HL4⟩,by simp[intOf];omega⟩
     . obtain rfl:j=2:=(by omega);obtain⟨u0,u1,u2,u3,u4,u5⟩:=hKn.out.bg.row6;have b2:=hKn.out.b2;obtain⟨r0,r1,r2,r3,r4,r5⟩:=b2.row6;have f0:=b2.thaw 0;have f1:=b2.thaw 1;have f2:=b2.thaw 2;have f3:=b2.thaw 3;have f4:=b2.thaw 4;have f5:=b2.thaw 5;have hne:g≠w.heap.size+1:=(by have:=hKn.out.g0;omega);go_wp2;have e6:=(((((b2.setAt 0 (.slice (some ⟨bR,0,none⟩) n n)).setAt 1 (.slice none 0 0)).setAt 2 (.slice a 2 c)).setAt 3 (.int .i64 0)).setAt 4 (.slice (some ⟨bD,0,none⟩) 4 4)).setAt 5 (.slice (some ⟨bL,0,none⟩) 4 4);have e6' :Blk _ (w.heap.size+1) 102 (Qaa (some ⟨bR,0,none⟩) n n none 0 0 a 2 c 0 (some ⟨bD,0,none⟩) 4 4 (some ⟨bL,0,none⟩) 4 4):=e6;obtain⟨x0,x1,x2,x3,x4,x5⟩:=e6'.row6;refine bodyPost_ret (v:= .agg (Qaa (some ⟨bR,0,none⟩) n n none 0 0 a 2 c 0 (some ⟨bD,0,none⟩) 4 4 (some ⟨bL,0,none⟩) 4 4)) (by simp[results,Tryz.results97,go_sem,x0,x1,x2,x3,x4,x5]) rfl ?_;exact Qnc rfl hKn.out hG.out hl.out (((((((Offp.refl (fun x=>x=w.heap.size+1) _).set (b:=w.heap.size+1) rfl _ _).set (b:=w.heap.size+1) rfl _ _).set (b:=w.heap.size+1) rfl _ _).set (b:=w.heap.size+1) rfl _ _).set (b:=w.heap.size+1) rfl _ _).set (b:=w.heap.size+1) rfl _ _)
open Items (It)
instance:Cel Cq where
  k:=8
  cs x:= [.int .i64 x.who,.int .i64 x.seq,.int .i64 x.op,.int .i64 x.a,.int .i64 x.b,.int .i64 x.c,.string x.key,.string x.text]
  len _:=rfl
  one x u hu:=by simp at hu;rcases hu with rfl|rfl|rfl|rfl|rfl|rfl|rfl|rfl<;>rfl
theorem In.getCq {w:World} {b o:Nat} {l:List Cq} (h:In w b o l) (i:Nat) (hi:i<l.length):
 w.cell? ⟨b,o+i*8,none⟩=some (.int .i64 l[i].who)/\w.cell? ⟨b,o+i*8+1,none⟩=some (.int .i64 l[i].seq)/\w.cell? ⟨b,o+i*8+2,none⟩=some (.int .i64 l[i].op)/\w.cell? ⟨b,o+i*8+3,none⟩=some (.int .i64 l[i].a)/\w.cell? ⟨b,o+i*8+4,none⟩=some (.int .i64 l[i].b)/\w.cell? ⟨b,o+i*8+5,none⟩=some (.int .i64 l[i].c)/\w.cell? ⟨b,o+i*8+6,none⟩=some (.string l[i].key)/\w.cell? ⟨b,o+i*8+7,none⟩=some (.string l[i].text):=
 ⟨h.cell i hi (f:=0) rfl,h.cell i hi (f:=1) rfl,h.cell i hi (f:=2) rfl,h.cell i hi (f:=3) rfl,h.cell i hi (f:=4) rfl,h.cell i hi (f:=5) rfl,h.cell i hi (f:=6) rfl,h.cell i hi (f:=7) rfl⟩
def okC (c:Cq):Bool:=CmdOk.okB c.who c.seq c.op c.a c.b c.c c.key c.text
theorem Qs2 {c:Cq} (h:okC c=true):c.who<0∨CqR c:=by
 unfold okC CmdOk.okB at h;split at h
 . left;omega
 . right
   simp only[CmdOk.restB,CmdOk.inB,CmdOk.textB,Bool.and_eq_true,decide_eq_true_eq]at h;obtain⟨⟨⟨⟨⟨⟨⟨h1,h2⟩,h3⟩,h4⟩,h5⟩,h6⟩,h7⟩,h8⟩:=h;exact⟨h1,⟨by omega,h2.2⟩,h3,h4,h5,h6,h7.2,h8.2⟩
def Qpx (ro wi le ke:Int) (p:PK) (c:Cq):PK:=if okC c then(doQ ro wi le ke p c).1 else p
def allQ (ro wi le ke:Int) (p:PK) (L:List Cq):PK:=L.foldl (Qpx ro wi le ke) p
theorem Qkj (ro wi le ke:Int) (p:PK) (L:List Cq) (n:Nat) (h:n<L.length):allQ ro wi le ke p (L.take (n+1))=Qpx ro wi le ke (allQ ro wi le ke p (L.take n)) L[n]:=by
 unfold allQ;rw[List.take_succ_eq_append_getElem h,List.foldl_append];rfl
theorem Qs4 {ro:Int} {R:Nat} (h:ro=R) (hR:1<=R/\R<=4):Kin R 0 (newK true ro):=by
 subst h;have hr:((R:Int)).toNat=R:=by omega
 simp only[newK,if_true];refine⟨by simp,?_,by simp,by simp,by simp,?_,⟨by show(0:Int)<=0;omega,by show(0:Int)<=100000;omega⟩,by simp,?_,by simp,?_⟩
 . intro r hr;have:=(List.mem_replicate.1 hr).2;subst this;rfl
 . intro g hg;have:=(List.mem_replicate.1 hg).2;subst this;refine⟨⟨by show(0:Int)<=0;omega,by show(0:Int)<=100000;omega⟩,by simp,by simp,?_,rfl,by simp,?_⟩
   . intro y hy;have h1:y∈newO (R:Int):=hy;unfold newO at h1;split at h1
     . have h0:=(List.mem_replicate.1 h1).2;subst h0;exact⟨by omega,by omega⟩
     . simp at h1
   . show(newO (R:Int)).length=R;unfold newO;rw[if_pos (by simp[inB];omega)];simp
 . intro y hy;have:=(List.mem_replicate.1 hy).2;subst this;exact⟨by omega,by omega⟩
 . intro y hy;have:=(List.mem_replicate.1 hy).2;subst this;exact Qsr
structure KV (W:World) (x:KC) (S:Nat->Prop):Prop where
  r:Av W x.rA x.rs S
  ri:∀y∈x.rs,Av W y.A y.its S
  m:Av W x.mA x.ms S
  mi:∀y∈x.ms,Av W y.A y.ms S
  g:Av W x.gA x.gs S
  gi:∀y∈x.gs,Av W y.a1 y.m S/\Av W y.a2 y.b S/\Av W y.a3 y.o S
  d:Av W x.dA x.ds S
  l:Av W x.lA x.ls S
section
variable {W W' :World} {x:KC} {S T S' :Nat->Prop}
theorem KV.at (h:KV W x S):KAt W x:=⟨h.r.at,fun y hy=>(h.ri y hy).at,h.m.at,fun y hy=>(h.mi y hy).at,h.g.at,fun y hy=>⟨(h.gi y hy).1.at,(h.gi y hy).2.1.at,(h.gi y hy).2.2.at⟩,h.d.at,h.l.at⟩
theorem KV.offp (h:KV W x S) (k:Offp T W W') (hT:∀b,S b->¬T b):KV W' x S:=
 ⟨h.r.offp k hT,fun y hy=>(h.ri y hy).offp k hT,h.m.offp k hT,fun y hy=>(h.mi y hy).offp k hT,h.g.offp k hT,fun y hy=>⟨(h.gi y hy).1.offp k hT,(h.gi y hy).2.1.offp k hT,(h.gi y hy).2.2.offp k hT⟩,h.d.offp k hT,h.l.offp k hT⟩
theorem KV.below (h:KV W x S) (k:Below W.heap.size W W'):KV W' x S:=h.offp (T:=fun _=>False) (Offp.of_below k) (fun _ _ e=>e)
theorem KV.mono (h:KV W x S) (s:∀b,b<W.heap.size->S b->S' b):KV W x S' :=
 ⟨h.r.mono s,fun y hy=>(h.ri y hy).mono s,h.m.mono s,fun y hy=>(h.mi y hy).mono s,h.g.mono s,fun y hy=>⟨(h.gi y hy).1.mono s,(h.gi y hy).2.1.mono s,(h.gi y hy).2.2.mono s⟩,h.d.mono s,h.l.mono s⟩
theorem Pl.av {α:Type} [Cel α] {A:Option Addr} {l:List α} {b:Nat} (h:Pl W A l b) (hS:S b):Av W A l S:= .inr ⟨b,0,h.a,h.lt,h.i,hS⟩
theorem KQ.kv {br bg bd bl:Nat} (h:KQ W x S br bg bd bl):KV W x S:=
 ⟨h.r.av h.s.1,fun y hy=>(h.ri y hy).mono (fun _ _ e=>e.1),h.m.mono (fun _ _ e=>e.1),fun y hy=>(h.mi y hy).mono (fun _ _ e=>e.1),h.g.av h.s.2.1,fun y hy=>⟨(h.gi y hy).1.mono (fun _ _ e=>e.1),(h.gi y hy).2.1.mono (fun _ _ e=>e.1),(h.gi y hy).2.2.mono (fun _ _ e=>e.1)⟩,h.d.av h.s.2.2.1,h.l.av h.s.2.2.2⟩
theorem Own.av {α:Type} [Cel α] {P:World->α->(Nat->Prop)->Prop} {A:Option Addr} {l:List α} (h:Own P W A l S):Av W A l S:=
 h.imp id fun⟨b,o,fp,e,hs,hf,hO⟩=>⟨b,o,e,hO.lt,hO.lst,hs⟩
theorem Own.mem {α:Type} [Cel α] {P:World->α->(Nat->Prop)->Prop} {A:Option Addr} {l:List α} (h:Own P W A l S) {y:α} (hy:y∈l):∃F:Nat->Prop,P W y F/\∀z,F z->S z:=by
 rcases h with h|⟨b,o,fp,e,hs,hf,hO⟩
 . subst h;simp at hy
 . obtain⟨i,hi,rfl⟩:=List.mem_iff_getElem.1 hy;exact⟨fp i,hO.sub i hi,hf i⟩
theorem KOwn.kv (h:KOwn W x S):KV W x S:=by
 obtain⟨col,h⟩:=h;refine⟨h.r.av.mono (fun _ _ e=>e.1),fun y hy=> ?_,h.m.av.mono (fun _ _ e=>e.1),fun y hy=> ?_,h.g.av.mono (fun _ _ e=>e.1),fun y hy=> ?_,Av.of_sub h.d (fun _ e=>e.1),Av.of_sub h.l (fun _ e=>e.1)⟩
 . obtain⟨F,hF,hS⟩:=h.r.mem hy;exact Av.of_sub hF (fun z hz=>(hS z hz).1)
 . obtain⟨F,hF,hS⟩:=h.m.mem hy;exact Av.of_sub hF (fun z hz=>(hS z hz).1)
 . obtain⟨F,⟨S1,S2,S3,i1,i2,i3,_,_,_,s1,s2,s3⟩,hS⟩:=h.g.mem hy;exact⟨Av.of_sub s1 (fun z hz=>(hS z (i1 z hz)).1),Av.of_sub s2 (fun z hz=>(hS z (i2 z hz)).1),Av.of_sub s3 (fun z hz=>(hS z (i3 z hz)).1)⟩
end
theorem Qet {α:Type} [Cel α] {B g:Nat} {W:World} {t:TypeId} (h:B<=W.heap.size) (hg:g=W.heap.size):(W.alloc (.cells #[] t)).ownsRow B t (Cel.k α) (.slice (some ⟨g,0,none⟩) ([]:List α).length 0) ([]:List α).length (flat ([]:List α)):=by
 subst hg;exact⟨by simp[flat],.inr ⟨W.heap.size,0,#[],rfl,h,Blk.new W t #[],by simp,by simp[maxLen],by simp,by simp[flat]⟩⟩
structure Al (w W:World) (PT:Nat) (sc:Array Value) (a:Option Addr) (c:Nat) (xs:List An) (y:KC) (lo hi:Nat):Prop where
  sb:Blk W w.heap.size 96 sc
  rb:Blk W (w.heap.size+1) 102 Qae
  kb:Blk W PT 102 y.cells
  kv:KV W y (fun b=>lo<=b/\b<hi)
  hi' :hi<=W.heap.size
  own:W.ownsRow (w.heap.size+1+1) 145 4 (.slice a xs.length c) xs.length (flat xs)
  ob:∀z,(Value.slice a xs.length c).ownBlock=some z->¬(lo<=z/\z<hi)/\z≠PT
  bl:Below w.heap.size w W
  pt:w.heap.size+1<PT/\¬(lo<=PT/\PT<hi)
  lo' :w.heap.size+1<lo
section
variable {w W W' :World} {PT:Nat} {sc:Array Value} {a:Option Addr} {c:Nat} {xs:List An} {y:KC} {lo hi:Nat}
theorem Al.below (h:Al w W PT sc a c xs y lo hi) (g:Below W.heap.size W W'):Al w W' PT sc a c xs y lo hi:=
 ⟨h.sb.below g h.sb.lt,h.rb.below g h.rb.lt,h.kb.below g h.kb.lt,h.kv.below g,Nat.le_trans h.hi' g.size,Qas h.own g,h.ob,via0 g h.bl,h.pt,h.lo'⟩
theorem Al.alloc (h:Al w W PT sc a c xs y lo hi) (ob:Obj):Al w (W.alloc ob) PT sc a c xs y lo hi:=h.below (Qad (Below.refl _ _) _)
theorem Al.drew (h:Al w W PT sc a c xs y lo hi):Al w W.drew PT sc a c xs y lo hi:=h.below (Below.refl _ _).drew
theorem Al.only {q:Nat} (h:Al w W PT sc a c xs y lo hi) (k:Only q W W') (hq:w.heap.size+1<q/\q≠PT/\¬(lo<=q/\q<hi)) (ho:(Value.slice a xs.length c).ownBlock≠some q):Al w W' PT sc a c xs y lo hi:=
 ⟨h.sb.only k (by omega),h.rb.only k (by omega),h.kb.only k (fun e=>hq.2.1 e.symm),h.kv.offp (Offp.of_only k) (fun b hb e=>hq.2.2 (e▸hb)),Nat.le_trans h.hi' k.size,Qbc h.own (Offp.of_only k) (fun z hz e=>ho (by rw[hz,e])),h.ob,h.bl.trans ((Off.of_only k).toBelow (by simp;omega) h.bl.size),h.pt,h.lo'⟩
theorem Al.setK (h:Al w W PT sc a c xs y lo hi) {y' :KC} {lo2 hi2:Nat} (k:Only PT W W') (hb:Blk W' PT 102 y'.cells) (hv:KV W y' (fun b=>lo2<=b/\b<hi2)) (h1:hi2<=W.heap.size) (h2:∀z,(Value.slice a xs.length c).ownBlock=some z->z<lo2) (h3:PT<lo2):Al w W' PT sc a c xs y' lo2 hi2:=by
 have hp:=h.pt;exact⟨h.sb.only k (by omega),h.rb.only k (by omega),hb,hv.offp (Offp.of_only k) (fun b hb e=>by omega),Nat.le_trans h1 k.size,Qbc h.own (Offp.of_only k) (fun z hz e=>(h.ob z hz).2 e),fun z hz=>⟨by have:=h2 z hz;omega,(h.ob z hz).2⟩,h.bl.trans ((Off.of_only k).toBelow (by simp;omega) h.bl.size),⟨hp.1,by omega⟩,by omega⟩
theorem Al.app (h:Al w W PT sc a c xs y lo hi) (x:An) (cs:Array Value) (hcs:cs.toList=Cel.cs x) (hx:xs.length<=1000000):
 ∃a2 c2 W2,(Builtin.append_ #[100,100] 100 (l1SS a xs.length c (some ⟨W.heap.size,0,none⟩) 1 1)).run Tryz.prog (W.alloc (.cells cs 145))= .ok (.slice a2 (xs.length+1) c2) W2/\Al w W2 PT sc a2 c2 (xs++ [x]) y lo hi:=by
 have h1:=h.alloc (.cells cs 145);have hX:At (W.alloc (.cells cs 145)) (some ⟨W.heap.size,0,none⟩) [x]:=by
  refine .inr ⟨_,0,rfl,by simp,fun j u hu=> ?_⟩;rw[Qdg,← hcs]at hu;rw[Nat.zero_add];exact(Blk.new W 145 cs).cell (by simpa using hu)
 have hsz:=h1.bl.size;have hrl:=h1.rb.lt;obtain⟨v',W2,hr,hown,hgrow,hob⟩:=Qbj (P:=Tryz.prog) (α:=An) Tryz.underlying100 Qou rfl (by decide) (by decide) (w.heap.size+1+1) (.slice a xs.length c) xs [x] (some ⟨W.heap.size,0,none⟩) 1 _ (by omega) h1.own hX (by simp;omega);simp only[List.length_cons,List.length_nil,Nat.zero_add]at hown hr;obtain⟨a2,c2,rfl,_⟩:=Qao hown;have ko:=Qb8 hgrow;have hlo:∀z,(Value.slice a xs.length c).ownBlock=some z->w.heap.size+1<z:=fun z hz=>(h.own.lt z hz).1
 have hlen:(xs++ [x]).length=xs.length+1:=by simp
 refine⟨a2,c2,W2,hr,⟨h1.sb.offp ko (fun e=>by have:=hlo _ e;omega),h1.rb.offp ko (fun e=>by have:=hlo _ e;omega),h1.kb.offp ko (fun e=>(h.ob _ e).2 rfl),h1.kv.offp ko (fun b hb e=>(h.ob _ e).1 hb),Nat.le_trans h1.hi' ko.size,by rw[hlen];exact hown,?_,h1.bl.trans (ko.toBelow (fun z hz=>by have:=hlo _ hz;omega) h1.bl.size),h.pt,h.lo'⟩⟩;intro z hz;rw[hlen]at hz;rcases hob with h' |h'
 . rw[h']at hz;exact h.ob z hz
 . rw[h']at hz;simp only[World.size_alloc,Option.some.injEq]at hz;have h2:=h.hi';have h3:=h.kb.lt;exact⟨by omega,by omega⟩
end
theorem Qjl {α:Type} [Cel α] (W:World) (L:List α) (cs:Array Value) (tt:TypeId) (h:cs.toList=flat L):In (W.alloc (.cells cs tt)) W.heap.size 0 L:=by
 intro j v hv;rw[← h]at hv;exact(Blk.new W tt cs).cell (i:=0+j) (by simpa using hv)
theorem Qel {B:Nat} {W:World} {a:Option Addr} {c n k:Nat} {t:TypeId} {xs:List Value} (h:W.ownsRow B t k (.slice a n c) n xs):n<=c/\c<=9223372036854775807:=by
 rcases h.2 with⟨e,h0⟩|⟨g,c',cur,e,_,_,hc,hm,_⟩
 . cases e;omega
 . cases e;exact⟨hc,by simpa [maxLen]using Nat.le_trans hm (by simp[maxLen])⟩
theorem Qdm {B:Nat} {W W' :World} {a:Option Addr} {n c k m:Nat} {t:TypeId} {xs:List Value} (hO:W.ownsRow B t k (.slice a n c) m xs) (hB:B<=W.heap.size) (g:W.grownBy W' (Value.slice a n c).ownBlock):Below B W W' :=
 ⟨g.os,g.tape,g.output,g.size,fun j hj=>g.block j (by omega) (Qa9 hO hj)⟩
theorem Qdo {C B:Nat} {w W W' :World} (h:Only C w W) (hB:w.heap.size<=B) (g:Below B W W'):Only C w W' :=
 ⟨g.os.trans h.os,g.tape.trans h.tape,g.output.trans h.output,Nat.le_trans h.size g.size,fun k hk hne=>(g.block k (by omega)).trans (h.block k hk hne)⟩
theorem Drawn.under {W W' :World} {C cap n:Nat} {A:Option Addr} {l:List By} (h:Drawn W C A cap l) (g:Below n W W') (hC:C<n):Drawn W' C A cap l:=by
 refine⟨?_,h.code.imp id fun⟨b,o,e,hb,hi⟩=>⟨b,o,e,hb,fun j v hv=>(World.cell?_of_block (a:=⟨b,o+j,none⟩) (g.block b (by omega))).trans (hi j v hv)⟩,h.len,h.byte⟩;obtain⟨i,x,hi,hb⟩:=h.cur;exact⟨i,x,hi,(g.block C hC).trans hb⟩
theorem Qlb {B:Nat} {a a' :Option Addr} {c c' :Nat} {xs ys:List UInt8} {W:World} (hB:B<=W.heap.size) (hv:W.ownsRow B 5 1 (.slice a xs.length c) xs.length (flat xs)) (hy:At W a' ys) (hlen:xs.length+ys.length<=3000000):
 ∃a2 c2 W',(Builtin.append_ #[22,22] 22 (l1SS a xs.length c a' ys.length c')).run Tryz.prog W= .ok (.slice a2 (xs++ys).length c2) W' /\
  W'.ownsRow B 5 1 (.slice a2 (xs++ys).length c2) (xs++ys).length (flat (xs++ys))/\Below B W W' :=by
 obtain⟨v',W',hr,hown,hg,_⟩:=Qbj (P:=Tryz.prog) (ts:=22) Tryz.underlying22 Qj1 rfl (by decide) (by decide) B (.slice a xs.length c) xs ys a' c' W hB hv hy hlen;obtain⟨a2,c2,rfl,_⟩:=Qao hown;have e:(xs++ys).length=xs.length+ys.length:=by simp
 exact⟨a2,c2,W',by rw[e];exact hr,by rw[e];exact hown,Qdm hv hB hg⟩
theorem Qeq {x:Int} (h0:0<=x) (h1:x<=255):((u8 x).toNat:Int)=x:=by rw[Qps];omega
theorem Qkd (C:Nat) (A:Option Addr) (cap:Nat) (l:List By) (w:World) (hD:Drawn w C A cap l):
 Calls Tryz.prog 26 #[.pointer (some ⟨C,0,none⟩)] w fun e w' =>∃(L:List UInt8) (a:Option Addr) (c:Nat),e= .returned (.slice a L.length c)/\L.length<=30/\w'.ownsRow w.heap.size 5 1 (.slice a L.length c) L.length (flat L)/\Only C w w' /\Drawn w' C A cap l:=by
 have own0:Hid ((w.alloc (.cells #[] 5)).ownsRow w.heap.size 5 1 (.slice (some ⟨w.heap.size,0,none⟩) 0 0) 0 []):=by
  refine⟨by simp,.inr ⟨w.heap.size,0,#[],rfl,Nat.le_refl _,Blk.new w 5 #[],by omega,by simp[maxLen],rfl,rfl⟩⟩
 have hC:=hD.lt;have HD0:=hidP (hD.below (Qad (Below.refl _ w) (.cells #[] 5)));clear hD;go_enter Tryz.func26,Tryz.ntmps26;go_wp2
 go_loopw [3,4] (fun v i W=>∃(n:Nat) (xs:List UInt8) (a:Option Addr) (c:Nat),i= .int .i64 (n:Int)/\v= .slice a xs.length c/\n<=4/\Hid (xs.length<=5*n)/\Hid (W.ownsRow w.heap.size 5 1 (.slice a xs.length c) xs.length (flat xs))/\Hid (Only C w W)/\Hid (Drawn W C A cap l)) (fun _ i _=>4 - (intOf i).toNat)
 case atStart=>exact⟨0,[],_,_,rfl,rfl,by omega,by show 0<=0;omega,own0,Only.of_below (Qad (Below.refl _ w) _),HD0⟩
 case round=>
  obtain⟨n,xs,a,c,rfl,rfl,hn,hxl,hO,hOn,hDr⟩:=hrel;go_wp2_with fail;refine(Qa3 C A cap l 4 (by omega) (by omega) _ hDr.out).mono ?_;rintro e w1 ⟨x,rfl,hx0,hx1,o1,d1⟩;have HO1:=hidP (Qbi hO.out o1 hC);have HN1:=hidP (hOn.out.trans o1);have s1:w.heap.size<=w1.heap.size:=HN1.out.size;by_cases hlt:(n:Int)<x
  . have HD1:=hidP (d1.below (Qad (Below.refl _ w1) (.cells (Qcs 0 1 127 128 300 2147483647) 3)));have HI:=hidP (Qjl w1 ([⟨0⟩,⟨1⟩,⟨127⟩,⟨128⟩,⟨300⟩,⟨2147483647⟩]:List Nu) (Qcs 0 1 127 128 300 2147483647) 3 rfl);have HO2:=hidP (Qau HO1.out (.cells (Qcs 0 1 127 128 300 2147483647) 3));have HN2:=hidP (HN1.out.below (Qad (Below.refl _ w1) (.cells (Qcs 0 1 127 128 300 2147483647) 3)));clear hO hOn hDr o1 d1 HO1 HN1;go_wp2_with fail;refine(Qb6 C A cap l w1.heap.size 0 6 ([⟨0⟩,⟨1⟩,⟨127⟩,⟨128⟩,⟨300⟩,⟨2147483647⟩]:List Nu) (by simp) (by simp) _ HD1.out (by simp) (by omega) HI.out).mono ?_;rintro e w2 ⟨y,_,rfl,o2,d2⟩;have HO3:=hidP (Qbi HO2.out o2 hC);have HN3:=hidP (HN2.out.trans o2);have HD2:=hidP d2;clear HO2 HN2 HD1 HI o2 d2;go_wp2_with fail;refine(Qa4 y.n _).mono ?_;rintro e w3 ⟨a3,c3,rfl,g3,o3⟩;have s3:w.heap.size<=w3.heap.size:=Nat.le_trans HN3.out.size g3.size;obtain⟨a4,c4,w4,hr4,hown4,b4⟩:=Qlb (c' :=c3) s3 (Qas HO3.out g3) (Qay o3).at (by have:=hxl.out;have:=Qbm y.n;omega);have HO4:=hidP hown4;have HN4:=hidP (Qdo (HN3.out.below g3) (Nat.le_refl _) b4);have HD4:=hidP ((HD2.out.below g3).under b4 hC);have hl4:Hid ((xs++numI y.n).length<=5* (n+1)):=(by show _<=_;rw[List.length_append];have:=hxl.out;have:=Qbm y.n;omega);clear hown4 b4 g3 o3 HO3 HN3 HD2;generalize xs++numI y.n=ys at*;go_wp2_with (at_builtin;refine Qac rfl _ _ _ rfl _ _ _ rfl rfl hr4 ?_);exact⟨⟨n+1,ys,a4,c4,by go_num,rfl,by omega,hl4,HO4,HN4,HD4⟩,by simp[intOf];omega⟩
  . have HD1:=hidP d1;have hxl' :Hid (xs.length<=20):=hidP (by have:=hxl.out;omega);clear hO hOn hDr o1 d1 hxl;go_wp2_with fail;refine(Qic C A cap l 3 (by omega) (by omega) _ HD1.out).mono ?_;rintro e w2 ⟨q,rfl,o2,d2⟩;have HO2:=hidP (Qbi HO1.out o2 hC);have HN2:=hidP (HN1.out.trans o2);have s2:w.heap.size<=w2.heap.size:=HN2.out.size;cases q with
    |false=>
     clear HO1 HN1 HD1 o2;have HD2:=hidP d2;clear d2;go_wp2;go_ret;exact⟨xs,a,c,rfl,by have:=hxl'.out;omega,HO2.out,HN2.out,HD2.out⟩
    |true=>
     have HD2:=hidP (d2.below (Qad (Below.refl _ w2) (.cells (Qck 0 128 255) 3)));have HI:=hidP (Qjl w2 ([⟨0⟩,⟨128⟩,⟨255⟩]:List Nu) (Qck 0 128 255) 3 rfl);have HO3:=hidP (Qau HO2.out (.cells (Qck 0 128 255) 3));have HN3:=hidP (HN2.out.below (Qad (Below.refl _ w2) (.cells (Qck 0 128 255) 3)));clear HO1 HN1 HD1 o2 d2 HO2 HN2;go_wp2_with fail;refine(Qb6 C A cap l w2.heap.size 0 3 ([⟨0⟩,⟨128⟩,⟨255⟩]:List Nu) (by simp) (by simp) _ HD2.out (by simp) (by omega) HI.out).mono ?_;rintro e w3 ⟨y,hy,rfl,o3,d3⟩;have hy0:0<=y.n/\y.n<=255:=by
      simp only[List.mem_cons,List.not_mem_nil,or_false]at hy;rcases hy with rfl|rfl|rfl<;>exact⟨by decide,by decide⟩
     obtain⟨hy1,hy2⟩:=hy0;have HO4:=hidP (Qbi HO3.out o3 hC);have HN4:=hidP (HN3.out.trans o3);have HD3:=hidP d3;clear HO3 HN3 HD2 HI o3 d3 hy;go_wp2_with fail;refine(Qa3 C A cap l 3 (by omega) (by omega) _ HD3.out).mono ?_;rintro e w4 ⟨z,rfl,hz0,hz1,o4,d4⟩;have HO5:=hidP (Qbi HO4.out o4 hC);have HN5:=hidP (HN4.out.trans o4);have hat:At (w4.alloc (.cells #[.int .u8 y.n,.int .u8 z] 5)) (some ⟨w4.heap.size,0,none⟩) [Go.Proofs.YtajbldnhjpjghaaGreat.Gen.u8 y.n,Go.Proofs.YtajbldnhjpjghaaGreat.Gen.u8 z]:= .inr ⟨_,_,rfl,by simp,Qjl w4 [Go.Proofs.YtajbldnhjpjghaaGreat.Gen.u8 y.n,Go.Proofs.YtajbldnhjpjghaaGreat.Gen.u8 z] #[.int .u8 y.n,.int .u8 z] 5 (by
      show [Value.int .u8 y.n,Value.int .u8 z]= [Value.int .u8 ((Go.Proofs.YtajbldnhjpjghaaGreat.Gen.u8 y.n).toNat:Int),Value.int .u8 ((Go.Proofs.YtajbldnhjpjghaaGreat.Gen.u8 z).toNat:Int)]
      rw[Qeq hy1 hy2,Qeq hz0 (by omega)])⟩
     have al:=Qad (Below.refl _ w4) (.cells #[.int .u8 y.n,.int .u8 z] 5);have s4:w.heap.size<=w4.heap.size:=HN5.out.size;obtain⟨a6,c6,w6,hr6,hown6,b6⟩:=Qlb (c' :=2) (by simp;omega) (Qas HO5.out al) hat (by have:=hxl'.out;simp;omega);have HO6:=hidP hown6;have HN6:=hidP (Qdo (HN5.out.below al) (Nat.le_refl _) b6);have HD6:=hidP ((d4.below al).under b6 hC);have hl6:Hid ((xs++ [Go.Proofs.YtajbldnhjpjghaaGreat.Gen.u8 y.n,Go.Proofs.YtajbldnhjpjghaaGreat.Gen.u8 z]).length<=30):=(by show _<=_;rw[List.length_append];have:=hxl'.out;simp;omega);have hr6' :(Builtin.append_ #[22,22] 22 (l1SS a xs.length c (some ⟨w4.heap.size,0,none⟩) 2 2)).run Tryz.prog (w4.alloc (.cells #[.int .u8 y.n,.int .u8 z] 5))= .ok (.slice a6 (xs++ [Go.Proofs.YtajbldnhjpjghaaGreat.Gen.u8 y.n,Go.Proofs.YtajbldnhjpjghaaGreat.Gen.u8 z]).length c6) w6:=hr6;clear hown6 b6 hat al HO5 HN5 HO4 HN4 HD3 o4 d4 hr6;generalize xs++ [Go.Proofs.YtajbldnhjpjghaaGreat.Gen.u8 y.n,Go.Proofs.YtajbldnhjpjghaaGreat.Gen.u8 z]=ys at*;go_wp2_with (at_builtin;refine Qac rfl _ _ _ rfl _ _ _ rfl rfl hr6' ?_);go_ret;exact⟨ys,a6,c6,rfl,hl6.out,HO6.out,HN6.out,HD6.out⟩
def Sat (C:Nat) (w:World) (a:Option Addr) (L:List UInt8):Prop:=At w a L/\(L= []∨∀b o,a=some ⟨b,o,none⟩->b≠C)
theorem Sat.below {C:Nat} {w w' :World} {a:Option Addr} {L:List UInt8} (h:Sat C w a L) (g:Below w.heap.size w w'):Sat C w' a L:=⟨h.1.below g,h.2⟩
theorem Sat.only {C:Nat} {w w' :World} {a:Option Addr} {L:List UInt8} (h:Sat C w a L) (g:Only C w w'):Sat C w' a L:=by
 refine⟨?_,h.2⟩;rcases h.1 with e|⟨b,o,e,hb,hi⟩
 . exact .inl e
 . rcases h.2 with e2|h2
   . exact .inl e2
   . exact .inr ⟨b,o,e,Nat.lt_of_lt_of_le hb g.size,fun j v hv=>(g.cell (p:=⟨b,o+j,none⟩) hb (h2 b o e)).trans (hi j v hv)⟩
theorem Qhw {B C:Nat} {w:World} {a:Option Addr} {c:Nat} {L:List UInt8} {t:TypeId} (h:w.ownsRow B t 1 (.slice a L.length c) L.length (flat L)) (hC:C<B):Sat C w a L:=by
 refine⟨(Qay h).at,?_⟩;rcases h.2 with⟨e,h0⟩|⟨g,c',cur,e,hB,_⟩
 . exact .inl (List.length_eq_zero_iff.1 h0)
 . cases e;refine .inr fun b o e2=> ?_
   cases e2;omega
theorem Qrg (a:Option Addr) (n c m:Nat) (hm:m<=c) (hc:c<=9223372036854775807) (W:World):
 (Instr.slice 22 (.slice a n c) none (some (.int .i64 (m:Int))) none).run Tryz.prog W= .ok (.slice a m c) W:=by
 obtain⟨i0,hi,hz0,hz1,hz2⟩:=info_parts Qj1;have hsz:∀W:World,(sizeOf 5).run Tryz.prog W= .ok 1 W:=fun W=>by simp[sizeOf,typeInfo,hi,hz1]
 cases a with
 |none=>simp[Instr.slice,run_underlying Tryz.underlying22,Instr.sliceBounds,Instr.sliceBound,asIntOf,hsz,hm]
 |some v=>
  simp[Instr.slice,run_underlying Tryz.underlying22,Instr.sliceBounds,Instr.sliceBound,asIntOf,hsz,hm];intro _;rfl
theorem Qni {w:World} {a:Option Addr} {L:List UInt8} (h:At w a L) (n:Nat):At w a (L.take n):=by
 rcases h with rfl|⟨b,o,e,hb,hi⟩
 . exact .inl (by simp)
 . refine .inr ⟨b,o,e,hb,?_⟩;intro j v hv;refine hi j v ?_;rw[Qd5]at hv ⊢;rw[List.getElem?_map]at hv ⊢;have hj:j<(L.take n).length:=by
    cases hq:(L.take n)[j]? with
    |none=>rw[hq]at hv;cases hv
    |some x=>exact(List.getElem?_eq_some_iff.1 hq).1
   rw[List.getElem?_take_of_lt (by rw[List.length_take]at hj;omega)]at hv;exact hv
theorem Qlj {C:Nat} {w:World} {a:Option Addr} {L:List UInt8} (h:Sat C w a L) (n:Nat):Sat C w a (L.take n):=⟨Qni h.1 n,h.2.imp (fun e=>by rw[e];simp) id⟩
structure DL {α:Type} [Cel α] (t:TypeId) (w W:World) (C cap:Nat) (A:Option Addr) (l:List By) (a:Option Addr) (c:Nat) (xs:List α):Prop where
  on:Only C w W
  dr:Drawn W C A cap l
  own:W.ownsRow w.heap.size t (Cel.k α) (.slice a xs.length c) xs.length (flat xs)
  hC:C<w.heap.size
section
variable {α:Type} [Cel α] {t:TypeId} {w W W' :World} {C cap:Nat} {A:Option Addr} {l:List By} {a:Option Addr} {c:Nat} {xs:List α}
theorem DL.size (h:DL t w W C cap A l a c xs):w.heap.size<=W.heap.size:=h.on.size
theorem DL.below (h:DL t w W C cap A l a c xs) (g:Below W.heap.size W W'):DL t w W' C cap A l a c xs:=⟨h.on.below g,h.dr.below g,Qas h.own g,h.hC⟩
theorem DL.alloc (h:DL t w W C cap A l a c xs) (ob:Obj):DL t w (W.alloc ob) C cap A l a c xs:=h.below (Qad (Below.refl _ _) _)
theorem DL.only (h:DL t w W C cap A l a c xs) (k:Only C W W') (d:Drawn W' C A cap l):DL t w W' C cap A l a c xs:=
 ⟨h.on.trans k,d,Qbc h.own (Offp.of_only k) (fun y hy e=>by have:=(h.own.lt y hy).1;have:=h.hC;omega),h.hC⟩
theorem DL.box {q:Nat} (h:DL t w W C cap A l a c xs) (k:Only q W W') (hq:w.heap.size<=q) (ho:(Value.slice a xs.length c).ownBlock≠some q):DL t w W' C cap A l a c xs:=
 ⟨Qaf h.on k hq,h.dr.only k (by have:=h.hC;omega),Qbc h.own (Offp.of_only k) (fun y hy e=>ho (by rw[hy,e])),h.hC⟩
theorem DL.app {ts:TypeId} {z:Value} {bytes:Nat} (hu:Tryz.prog.underlying ts=some (.slice t)) (hinfo:(Tryz.prog.info? t).map (fun i=>(i.zero,i.size,i.bytes))=some (some z,Cel.k α,bytes)) (hz:z.cells.size=Cel.k α) (hk:0<Cel.k α) (hby:bytes<=1000)
 (h:DL t w W C cap A l a c xs) (x:α) (cs:Array Value) (hcs:cs.toList=Cel.cs x) (hx:xs.length<=1000000):
 ∃a2 c2 W2,(Builtin.append_ #[ts,ts] ts (l1SS a xs.length c (some ⟨W.heap.size,0,none⟩) 1 1)).run Tryz.prog (W.alloc (.cells cs t))= .ok (.slice a2 (xs.length+1) c2) W2/\DL t w W2 C cap A l a2 c2 (xs++ [x]):=by
 have h1:=h.alloc (.cells cs t);have hX:At (W.alloc (.cells cs t)) (some ⟨W.heap.size,0,none⟩) [x]:=by
  refine .inr ⟨_,0,rfl,by simp,fun j u hu=> ?_⟩;rw[Qdg,← hcs]at hu;rw[Nat.zero_add];exact(Blk.new W t cs).cell (by simpa using hu)
 have hs:=h1.size;obtain⟨v',W2,hr,hown,hgrow,hob⟩:=Qbj (P:=Tryz.prog) (α:=α) hu hinfo hz hk hby w.heap.size (.slice a xs.length c) xs [x] (some ⟨W.heap.size,0,none⟩) 1 _ hs h1.own hX (by simp;omega);simp only[List.length_cons,List.length_nil,Nat.zero_add]at hown hr;obtain⟨a2,c2,rfl,_⟩:=Qao hown;have ko:=Qb8 hgrow;have g:Below w.heap.size (W.alloc (.cells cs t)) W2:=ko.toBelow (fun z hz=>(h.own.lt z hz).1) hs;have hlen:(xs++ [x]).length=xs.length+1:=by simp
 exact⟨a2,c2,W2,hr,Qdo h1.on (Nat.le_refl _) g,h1.dr.under g h.hC,by rw[hlen];exact hown,h.hC⟩
end
theorem Qm7 (C:Nat) (A:Option Addr) (cap:Nat) (l:List By) (n:Int) (h1:1<=n) (h2:n<=1000000000) (w:World) (hD:Drawn w C A cap l):
 Calls Tryz.prog 46 #[.pointer (some ⟨C,0,none⟩),.int .i64 n] w fun e w' =>∃x:Int,e= .returned (.int .i64 x)/\0<=x/\x<n/\Only C w w' /\Drawn w' C A cap l:=by
 by_cases h3:n<=256
 . exact Qa3 C A cap l n h1 h3 w hD
 have HD:=hidP hD;clear hD;have hn:¬n<=0:=by omega
 have hz:¬n=0:=by omega
 go_enter Tryz.func46,Tryz.ntmps46;go_wp2_with fail;refine(Qfo C A cap l _ HD.out).mono ?_;rintro e w1 ⟨x,rfl,hx0,hx1,k1,d1⟩;have K1:=hidP k1;have D1:=hidP d1;clear k1 d1 HD;go_wp2_with fail;refine(Qfo C A cap l _ D1.out).mono ?_;rintro e w2 ⟨y,rfl,hy0,hy1,k2,d2⟩;have K2:=hidP (K1.out.trans k2);have D2:=hidP d2;clear k2 d2 D1 K1;go_wp2_with fail;refine(Qfo C A cap l _ D2.out).mono ?_;rintro e w3 ⟨z,rfl,hz0,hz1,k3,d3⟩;have K3:=hidP (K2.out.trans k3);have D3:=hidP d3;clear k3 d3 D2 K2;go_wp2_with fail;refine(Qfo C A cap l _ D3.out).mono ?_;rintro e w4 ⟨v,rfl,hv0,hv1,k4,d4⟩;have K4:=hidP (K3.out.trans k4);have D4:=hidP d4;clear k4 d4 D3 K3;have hm0:0<=(x*16777216+y*65536+z*256+v) % n:=Int.emod_nonneg _ hz;have hm1:(x*16777216+y*65536+z*256+v) % n<n:=Int.emod_lt_of_pos _ (by omega);go_wp2;go_ret;exact⟨_,rfl,hm0,hm1,K4.out,D4.out⟩
def Src (C B:Nat) (W:World) (a:Option Addr) (L:List UInt8):Prop:=L= []∨∃b o,a=some ⟨b,o,none⟩/\b<B/\b≠C/\b<W.heap.size/\In W b o L
theorem Src.at {C B:Nat} {W:World} {a:Option Addr} {L:List UInt8} (h:Src C B W a L):At W a L:=h.imp id fun⟨b,o,e,_,_,hb,hi⟩=>⟨b,o,e,hb,hi⟩
theorem Qno {C:Nat} {W:World} {a:Option Addr} {L:List UInt8} (h:Sat C W a L):Src C W.heap.size W a L:=by
 rcases h.1 with e|⟨b,o,e,hb,hi⟩
 . exact .inl e
 . rcases h.2 with e2|h2
   . exact .inl e2
   . exact .inr ⟨b,o,e,hb,h2 b o e,hb,hi⟩
theorem Src.under {C B:Nat} {W W' :World} {a:Option Addr} {L:List UInt8} (h:Src C B W a L) (g:Below B W W'):Src C B W' a L:=h.imp id fun⟨b,o,e,hB,hne,hb,hi⟩=>⟨b,o,e,hB,hne,Nat.lt_of_lt_of_le hb g.size,fun j v hv=>(World.cell?_of_block (a:=⟨b,o+j,none⟩) (g.block b hB)).trans (hi j v hv)⟩
theorem Src.only {C B:Nat} {W W' :World} {a:Option Addr} {L:List UInt8} (h:Src C B W a L) (g:Only C W W'):Src C B W' a L:=h.imp id fun⟨b,o,e,hB,hne,hb,hi⟩=>⟨b,o,e,hB,hne,Nat.lt_of_lt_of_le hb g.size,fun j v hv=>(g.cell (p:=⟨b,o+j,none⟩) hb hne).trans (hi j v hv)⟩
structure Dn (w:World) (C cap:Nat) (A:Option Addr) (l:List By) (a a2:Option Addr) (P Q:List UInt8) (B:Nat) (W:World):Prop where
  on:Only C w W
  dr:Drawn W C A cap l
  sp:Src C B W a P
  sq:Src C B W a2 Q
  le:B<=W.heap.size
  hw:w.heap.size<=B
  hC:C<B
section
variable {w:World} {C cap:Nat} {A:Option Addr} {l:List By} {a a2:Option Addr} {P Q:List UInt8} {B:Nat} {W W' :World}
theorem Dn.under (h:Dn w C cap A l a a2 P Q B W) (g:Below B W W'):Dn w C cap A l a a2 P Q B W' :=⟨Qdo h.on h.hw g,h.dr.under g h.hC,h.sp.under g,h.sq.under g,Nat.le_trans h.le g.size,h.hw,h.hC⟩
theorem Dn.alloc (h:Dn w C cap A l a a2 P Q B W) (o:Obj):Dn w C cap A l a a2 P Q B (W.alloc o):=h.under ((Qad (Below.refl _ W) o).mono h.le)
theorem Dn.drew (h:Dn w C cap A l a a2 P Q B W):Dn w C cap A l a a2 P Q B W.drew:=h.under (Below.refl _ W).drew
theorem Dn.only (h:Dn w C cap A l a a2 P Q B W) (g:Only C W W') (d:Drawn W' C A cap l):Dn w C cap A l a a2 P Q B W' :=⟨h.on.trans g,d,h.sp.only g,h.sq.only g,Nat.le_trans h.le g.size,h.hw,h.hC⟩
end
structure Jn (C z:Nat) (W:World):Prop where
  lt:z<W.heap.size
  ne:z≠C
  cells:In W z 0 ([⟨0⟩,⟨1⟩,⟨128⟩,⟨3⟩]:List Nu)
theorem Jn.alloc {C z:Nat} {W:World} (h:Jn C z W) (o:Obj):Jn C z (W.alloc o):=⟨by have:=h.lt;simp;omega,h.ne,h.cells.below h.lt (Qad (Below.refl _ _) o)⟩
theorem Jn.grown {C z:Nat} {W W' :World} {row:Option Nat} (h:Jn C z W) (g:W.grownBy W' row) (hne:some z≠row):Jn C z W' :=⟨Nat.lt_of_lt_of_le h.lt g.size,h.ne,fun j v hv=>g.cell (h.cells j v hv) hne⟩
theorem Jn.new {w:World} {C cap:Nat} {A:Option Addr} {l:List By} {a a2:Option Addr} {P Q:List UInt8} {B:Nat} {W:World} {z:Nat} (h:Dn w C cap A l a a2 P Q B W) (hz:z=W.heap.size):Jn C z (W.alloc (.cells (Qaj 0 1 128 3) 3)):=by
 subst hz;exact⟨by simp,by have:=h.hC;have:=h.le;omega,Qjl W ([⟨0⟩,⟨1⟩,⟨128⟩,⟨3⟩]:List Nu) (Qaj 0 1 128 3) 3 rfl⟩
theorem Qfe {B g:Nat} {W:World} (h:B<=W.heap.size) (hg:g=W.heap.size):(W.alloc (.cells #[] 5)).ownsRow B 5 1 (.slice (some ⟨g,0,none⟩) ([]:List UInt8).length 0) ([]:List UInt8).length (flat ([]:List UInt8)):=by
 subst hg;exact⟨by simp[flat],.inr ⟨W.heap.size,0,#[],rfl,h,Blk.new W 5 #[],by simp,by simp[maxLen],rfl,rfl⟩⟩
theorem Qry {W:World} {z:Int} (h0:0<=z) (h1:z<=255):(W.alloc (.cells #[.int .u8 z] 5)).ownsRow W.heap.size 5 1 (.slice (some ⟨W.heap.size,0,none⟩) [u8 z].length 1) [u8 z].length (flat [u8 z]):=by
 have e:flat [u8 z]= [.int .u8 z]:=by
  show [Value.int .u8 ((u8 z).toNat:Int)]=_;rw[Qeq h0 h1]
 rw[e];exact⟨by simp,.inr ⟨W.heap.size,1,#[.int .u8 z],rfl,Nat.le_refl _,Blk.new W 5 _,by simp,by simp[maxLen],rfl,rfl⟩⟩
theorem Qku {B n:Nat} {W W' :World} {v:Value} {t:TypeId} {k m:Nat} {xs:List Value} (h:W.ownsRow B t k v m xs) (g:Below n W W') (hn:∀x,v.ownBlock=some x->x<n):W'.ownsRow B t k v m xs:=by
 refine⟨h.1,?_⟩;rcases h.2 with hz|⟨b,c',cur,e,hB,hblk,hr⟩
 . exact .inl hz
 . subst e;exact .inr ⟨b,c',cur,rfl,hB,(g.block b (hn b rfl)).trans hblk,hr⟩
theorem Qog {B:Nat} {W:World} {v:Value} {t:TypeId} {k m:Nat} {xs:List Value} (h:W.ownsRow B t k v m xs) (x:Nat) (hx:v.ownBlock=some x):x<W.heap.size:=Qcn h hx
theorem Qhr {z:Int} (h0:0<=z) (h1:z<=255):IntKind.u8.wrap z=z:=by
 simp[IntKind.wrap,IntKind.signed,IntKind.bits];omega
theorem Qpc {y:Nu} (h:y∈([⟨0⟩,⟨1⟩,⟨128⟩,⟨3⟩]:List Nu)):0<=y.n/\y.n<=255:=by
 simp only[List.mem_cons,List.not_mem_nil,or_false]at h;rcases h with rfl|rfl|rfl|rfl<;>exact⟨by decide,by decide⟩
theorem Qm4 {C:Nat} {W0:World} (a:Option Addr) (c:Nat) (L:List UInt8) (m:Nat) (hm:m<=L.length) (h1:L.length<=c) (h2:c<=9223372036854775807) (hS:Sat C W0 a L):
 ∃a2,(∀W:World,(Instr.slice 22 (.slice a L.length c) (some (.int .i64 (m:Int))) none none).run Tryz.prog W= .ok (.slice a2 (L.drop m).length (c - m)) W)/\Sat C W0 a2 (L.drop m):=by
 obtain⟨i0,hi,hz0,hz1,hz2⟩:=info_parts Qj1;have hsz:∀W:World,(sizeOf 5).run Tryz.prog W= .ok 1 W:=fun W=>by simp[sizeOf,typeInfo,hi,hz1]
 rcases Qno hS with rfl|⟨b,o,rfl,hB,hne,hb,hin⟩
 . simp only[List.length_nil,Nat.le_zero]at hm;subst hm;refine⟨a,fun W=> ?_,.inl (by simp),.inl (by simp)⟩;cases a with
   |none=>simp[Instr.slice,run_underlying Tryz.underlying22,Instr.sliceBounds,Instr.sliceBound,asIntOf,hsz]
   |some a=>
    simp[Instr.slice,run_underlying Tryz.underlying22,Instr.sliceBounds,Instr.sliceBound,asIntOf,hsz];intro _;rfl
 . by_cases h:c=m
   . have hmL:m=L.length:=(by omega);refine⟨some ⟨b,o,none⟩,fun W=> ?_,.inl (by simp;omega),.inl (by simp;omega)⟩;simp[Instr.slice,run_underlying Tryz.underlying22,Instr.sliceBounds,Instr.sliceBound,asIntOf,hsz,h,hm,h1]
     try omega
   . refine⟨some ⟨b,o+m,none⟩,fun W=> ?_,.inr ⟨b,o+m,rfl,hb,?_⟩,.inr fun b' o' e=>by cases e;exact hne⟩
     . simp[Instr.slice,run_underlying Tryz.underlying22,Instr.sliceBounds,Instr.sliceBound,asIntOf,hsz,h,hm,h1]
       try rw[Addr.add_mid]
     . intro j v hv;rw[Qd5]at hv;have:=hin (m+j) v (by
        rw[Qd5,List.getElem?_map];rw[List.getElem?_map,List.getElem?_drop]at hv;exact hv)
       rwa [← Nat.add_assoc]at this
theorem Qqz (C:Nat) (A:Option Addr) (cap:Nat) (l:List By) (a:Option Addr) (c:Nat) (L:List UInt8) (hL:L.length<=500000) (h1:L.length<=c) (h2:c<=9223372036854775807) (w:World) (hD:Drawn w C A cap l) (hS:Sat C w a L):
 Calls Tryz.prog 37 #[.pointer (some ⟨C,0,none⟩),.slice a L.length c] w fun e w' =>∃(L' :List UInt8) (a' :Option Addr) (c' :Nat),e= .returned (.slice a' L'.length c')/\L'.length<=L.length+1/\L'.length<=c' /\c' <=9223372036854775807/\Sat C w' a' L' /\Only C w w' /\Drawn w' C A cap l:=by
 have hC:=hD.lt;have HD:=hidP hD;have HS:=hidP hS;clear hD hS;go_enter Tryz.func37,Tryz.ntmps37;go_wp2_with fail;refine(Qm7 C A cap l ((L.length:Int)+1) (by omega) (by omega) _ HD.out).mono ?_;rintro e w1 ⟨m,rfl,hm0,hm1,o1,d1⟩;obtain⟨m,rfl⟩:∃n:Nat,m=(n:Int):=⟨m.toNat,by omega⟩
 have hle:m<=L.length:=by omega
 have HS1:=hidP (HS.out.only o1);have HO1:=hidP o1;have HD1:=hidP d1;clear o1 d1 HS HD;go_wp2_with fail;refine(Qa3 C A cap l 5 (by omega) (by omega) _ HD1.out).mono ?_;rintro e w2 ⟨q,rfl,hq0,hq1,o2,d2⟩;have HS2:=hidP (HS1.out.only o2);have HO2:=hidP (HO1.out.trans o2);have HD2:=hidP d2;have s2:=HO2.out.size;clear o2 d2 HS1 HO1 HD1;have hcut:∀W:World,(Instr.slice 22 (.slice a L.length c) none (some (.int .i64 (m:Int))) none).run Tryz.prog W= .ok (.slice a (L.take m).length c) W:=fun W=>by
  have e:(L.take m).length=m:=by rw[List.length_take];omega
  rw[e];exact Qrg a L.length c m (by omega) h2 W
 by_cases e0:q=0
 . subst e0;have HT:=hidP (Qlj HS2.out m);have hlm:(L.take m).length<=L.length+1:=(by rw[List.length_take];omega);have hlc:(L.take m).length<=c:=(by rw[List.length_take];omega);generalize L.take m=P at*;go_wp2;go_ret;exact⟨P,a,c,rfl,hlm,hlc,h2,HT.out,HO2.out,HD2.out⟩
 by_cases e1:q=1
 . subst e1;obtain⟨a2,hcut2,hS2⟩:=Qm4 a c L m hle h1 h2 HS2.out;have I:Dn w C cap A l a a2 (L.take m) (L.drop m) w2.heap.size w2.drew:=Dn.drew ⟨HO2.out,HD2.out,Qno (Qlj HS2.out m),Qno hS2,Nat.le_refl _,s2,by omega⟩;have hPQ:(L.take m).length+(L.drop m).length=L.length:=(by rw[List.length_take,List.length_drop];omega);have hCB:C<w2.heap.size:=(by omega);clear HO2 HD2 HS2 hS2;generalize L.take m=P at*;generalize L.drop m=Q at*;go_wp2_with fail;refine wp_region_noPanic ?_;refine wp_region_held_drew (S:=(fun _=>True)) (by kernel_rfl) ?_ (fun hH=> ?_)
   . exact trivial
   refine ztk [1,2,3,5,10,11,12] ?_;repeat(refine ztn (h:= ?_);try simp only[zX,zY])
   refine zte ?_;refine zR2 0 6 (fun K hK=> ?_) (fun K hK=> ?_)
   focus
    simp only[zG];go_simp;have O:=hidP (Qfe (g:=w2.heap.size) I.le (by first|rfl|simp));have I:=I.alloc (.cells #[] 5);refine hK.out _ _ trivial fun hH=> ?_;clear hK K;try simp only[zX,zY]
    refine zR2 4 6 (fun K hK=> ?_) (fun K hK=> ?_)
    focus
     simp only[zG];obtain⟨x4,c4,W4,hr4,own4,g4⟩:=Qcj (xs:= []) (c' :=c) I.le O.out I.sp.at (by simp;omega);rw[List.nil_append]at hr4 own4;rw[if_pos (by rfl)];refine Qai _ _ _ (by rfl) _ _ _ (by rfl) (by rfl) hr4 ?_;have I:=I.under (Qdm O.out I.le g4);have O:=hidP own4;clear hr4 own4 g4;refine hK.out _ _ trivial fun hH=> ?_;clear hK K;try simp only[zX,zY]
     refine zR1 6 (fun K hK=> ?_);simp only[zG];go_simp;have J:=Jn.new (z:=W4.heap.size) I (by first|rfl|simp);have O:=hidP (Qau O.out (.cells (Qaj 0 1 128 3) 3));have I:=I.alloc (.cells (Qaj 0 1 128 3) 3)
    rotate_left
    focus
     simp only[zG];go_simp;have J:=Jn.new (z:=w2.heap.size+1) I (by first|rfl|simp);have O:=hidP (Qau O.out (.cells (Qaj 0 1 128 3) 3));have I:=I.alloc (.cells (Qaj 0 1 128 3) 3);refine hK.out _ _ trivial fun hH=> ?_;clear hK K;try simp only[zX,zY]
     refine zR1 4 (fun K hK=> ?_);simp only[zG];obtain⟨x4,c4,W4,hr4,own4,g4⟩:=Qcj (xs:= []) (c' :=c) I.le O.out I.sp.at (by simp;omega);rw[List.nil_append]at hr4 own4;rw[if_pos (by rfl)];refine Qai _ _ _ (by rfl) _ _ _ (by rfl) (by rfl) hr4 ?_;have J:=J.grown g4 (by first|(simp[Value.ownBlock];done)|(simp[Value.ownBlock];omega));have I:=I.under (Qdm O.out I.le g4);have O:=hidP own4;clear hr4 own4 g4
   rotate_left 2
   focus
    simp only[zG];go_simp;have J:=Jn.new (z:=w2.heap.size) I (by first|rfl|simp);have I:=I.alloc (.cells (Qaj 0 1 128 3) 3);refine hK.out _ _ trivial fun hH=> ?_;clear hK K;try simp only[zX,zY]
    refine zR1 0 (fun K hK=> ?_);simp only[zG];go_simp;have O:=hidP (Qfe (g:=w2.heap.size+1) I.le (by first|rfl|simp));have J:=J.alloc (.cells #[] 5);have I:=I.alloc (.cells #[] 5);refine hK.out _ _ trivial fun hH=> ?_;clear hK K;try simp only[zX,zY]
    refine zR1 4 (fun K hK=> ?_);simp only[zG];obtain⟨x4,c4,W4,hr4,own4,g4⟩:=Qcj (xs:= []) (c' :=c) I.le O.out I.sp.at (by simp;omega);rw[List.nil_append]at hr4 own4;rw[if_pos (by rfl)];refine Qai _ _ _ (by rfl) _ _ _ (by rfl) (by rfl) hr4 ?_;have J:=J.grown g4 (by first|(simp[Value.ownBlock];done)|(simp[Value.ownBlock];omega));have I:=I.under (Qdm O.out I.le g4);have O:=hidP own4;clear hr4 own4 g4
   all_goals
    refine hK.out _ _ trivial fun hH=> ?_;clear hK K;try simp only[zX,zY]
    refine zR1 7 (fun K hK=> ?_);simp only[zG];go_simp;refine(Qb6 C A cap l _ 0 4 ([⟨0⟩,⟨1⟩,⟨128⟩,⟨3⟩]:List Nu) (by simp) (by simp) _ I.dr J.lt J.ne J.cells).mono ?_;rintro e w7 ⟨y,hy,rfl,o7,d7⟩;obtain⟨hy0,hy1⟩:=Qpc hy;have O:=hidP (Qbi O.out o7 hCB);have I:=I.only o7 d7;clear hy o7 d7 J;generalize y.n=z at*;have hz8:IntKind.u8.wrap z=z:=Qhr hy0 hy1;have O7:=O;have I7:=I;refine hK.out _ _ trivial fun hH=> ?_;clear hK K;try simp only[zX,zY]
    refine zt1 8 ?_;refine ztn (h:= ?_);try simp only[zX,zY]
    refine zte ?_;refine zR1 9 (fun K hK=> ?_);simp only[zG];go_simp;have O9:=hidP (Qry (W:=w7) hy0 hy1);have O:=hidP (Qau O.out (.cells #[.int .u8 z] 5));have I:=I.alloc (.cells #[.int .u8 z] 5);refine hK.out _ _ trivial fun hH=> ?_;clear hK K;try simp only[zX,zY]
    refine zR1 13 (fun K hK=> ?_);simp only[zG];obtain⟨x13,c13,W13,hr13,own13,g13⟩:=Qcj (c' :=c - m) (show w7.heap.size<=(w7.alloc (.cells #[.int .u8 z] 5)).heap.size by simp) O9.out I.sq.at (by simp;omega);obtain⟨Q9,hQ9⟩:∃Q9,Q9= [u8 z]++Q:=⟨_,rfl⟩;rw[← hQ9]at hr13 own13;have hlQ:=hidP (show Q9.length=Q.length+1 by rw[hQ9];simp);clear hQ9;rw[if_pos (by rfl)];refine Qai _ _ _ (by rfl) _ _ _ (by rfl) (by rfl) hr13 ?_;have u13:=Qdm O9.out (show w7.heap.size<=(w7.alloc (.cells #[.int .u8 z] 5)).heap.size by simp) g13;have O:=hidP (Qku O.out u13 (fun x h=>Qog O7.out x h));have I:=I.under (u13.mono I7.le);have O13:=hidP own13;clear hr13 own13 g13 u13 O9;refine hK.out _ _ trivial fun hH=> ?_;clear hK K;try simp only[zX,zY]
    refine zR1 14 (fun K hK=> ?_);simp only[zG];obtain⟨x14,c14,W14,hr14,own14,g14⟩:=Qcj (c' :=c13) I.le O.out (Qay O13.out).at (by have:=hlQ.out;omega);obtain⟨Z,hZ⟩:∃Z,Z=P++Q9:=⟨_,rfl⟩;rw[← hZ]at hr14 own14;have hlen:=hidP (show Z.length<=L.length+1 by rw[hZ,List.length_append];have:=hlQ.out;omega);clear hZ;rw[if_pos (by rfl)];refine Qai _ _ _ (by rfl) _ _ _ (by rfl) (by rfl) hr14 ?_;have I:=I.under (Qdm O.out I.le g14);have O:=hidP own14;clear hr14 own14 g14 O13;refine hK.out _ _ trivial fun hH=> ?_;clear hK K;try simp only[zX,zY]
    refine zt1 15 ?_;refine ztn (h:= ?_);try simp only[zX,zY]
    refine zte ?_;refine zdn ?_;obtain⟨hc1,hc2⟩:=Qel O.out;have hsat:=hidP (Qhw (C:=C) O.out hCB);have HI1:=hidP I.on;have HI2:=hidP I.dr;clear O I O7 I7;go_wp2;go_ret;exact⟨Z,_,_,rfl,hlen.out,hc1,hc2,hsat.out,HI1.out,HI2.out⟩
 go_wp2;go_ret;exact⟨L,a,c,rfl,by omega,h1,h2,HS2.out,HO2.out,HD2.out⟩
theorem Qnp (C:Nat) (A:Option Addr) (cap:Nat) (l:List By) (who seq op a b c:Int) (k t:ByteArray) (hk:k.size<=40) (ht:t.size<=40) (w:World) (hD:Drawn w C A cap l):
 Calls Tryz.prog 47 #[.pointer (some ⟨C,0,none⟩),.agg (Qab who seq op a b c k t)] w fun e w' =>∃(who seq op a b c:Int) (k t:ByteArray),e= .returned (.agg (Qab who seq op a b c k t))/\k.size<=40/\t.size<=40/\Only C w w' /\Drawn w' C A cap l:=by
 have hC:=hD.lt;have HD0:=hidP hD;clear hD;have bX:=(Blk.new w 55 (Qab who seq op a b c k t)).alloc (.cells Qar 55);have bR:=Blk.new (w.alloc (.cells (Qab who seq op a b c k t) 55)) 55 Qar;rw[World.size_alloc]at bR;have HO:=hidP ((Only.of_below (c:=C) (Qad (Below.refl _ w) (.cells (Qab who seq op a b c k t) 55))).below (Qad (Below.refl _ _) (.cells Qar 55)));have HD:=hidP ((HD0.out.below (Qad (Below.refl _ w) (.cells (Qab who seq op a b c k t) 55))).below (Qad (Below.refl _ _) (.cells Qar 55)));clear HD0;have hRX:w.heap.size≠w.heap.size+1:=by omega
 go_enter Tryz.func47,Tryz.ntmps47;go_wp2_with fail;refine(Qa3 C A cap l 14 (by omega) (by omega) _ (HD.out)).mono ?_;rintro e w1 ⟨q,rfl,hq0,hq1,o_,d_⟩;replace bR:Blk w1 (w.heap.size+1) 55 Qar:=(bR).only o_ (by omega);replace bX:Blk w1 w.heap.size 55 (Qab who seq op a b c k t):=(bX).only o_ (by omega);have q_:=o_.size
 try simp only[World.size_alloc,World.size_setCell]at q_
 replace HO:=hidP ((HO.out).trans o_);replace HD:=hidP d_;clear o_ d_;have cx0:=bX.cell (i:=0) rfl;have cx1:=bX.cell (i:=1) rfl;have cx2:=bX.cell (i:=2) rfl;have cx3:=bX.cell (i:=3) rfl;have cx4:=bX.cell (i:=4) rfl;have cx5:=bX.cell (i:=5) rfl;have cx6:=bX.cell (i:=6) rfl;have cx7:=bX.cell (i:=7) rfl;have fx0:=bX.thaw 0;have fx1:=bX.thaw 1;have fx2:=bX.thaw 2;have fx3:=bX.thaw 3;have fx4:=bX.thaw 4;have fx5:=bX.thaw 5;have fx6:=bX.thaw 6;have fx7:=bX.thaw 7;have qX:=bX.lt;by_cases e0:q=0
 . subst e0;have HI:=hidP (Qem w1 ([⟨-2⟩,⟨-1⟩,⟨3⟩,⟨4⟩]:List Nu) (Qaj (-2) (-1) (3) (4)) 3 rfl);go_wp2_with fail;refine(Qb6 C A cap l w1.heap.size 0 4 ([⟨-2⟩,⟨-1⟩,⟨3⟩,⟨4⟩]:List Nu) (by simp) (by simp) _ ((HD.out).below (Qad (Below.refl _ _) (.cells (Qaj (-2) (-1) (3) (4)) 3))) (by simp) (by omega) HI.out).mono ?_;rintro e w2 ⟨y,hy,rfl,o_,d_⟩;replace bR:Blk w2 (w.heap.size+1) 55 Qar:=((bR).alloc (.cells (Qaj (-2) (-1) (3) (4)) 3)).only o_ (by omega);replace bX:Blk w2 w.heap.size 55 (Qab who seq op a b c k t):=((bX).alloc (.cells (Qaj (-2) (-1) (3) (4)) 3)).only o_ (by omega);have q_:=o_.size
   try simp only[World.size_alloc,World.size_setCell]at q_
   replace HO:=hidP (((HO.out).below (Qad (Below.refl _ _) (.cells (Qaj (-2) (-1) (3) (4)) 3))).trans o_);replace HD:=hidP d_;clear o_ d_;generalize y.n=n at*;clear hy HI;clear cx0 cx1 cx2 cx3 cx4 cx5 cx6 cx7 fx0 fx1 fx2 fx3 fx4 fx5 fx6 fx7 qX;have cx0:=bX.cell (i:=0) rfl;have cx1:=bX.cell (i:=1) rfl;have cx2:=bX.cell (i:=2) rfl;have cx3:=bX.cell (i:=3) rfl;have cx4:=bX.cell (i:=4) rfl;have cx5:=bX.cell (i:=5) rfl;have cx6:=bX.cell (i:=6) rfl;have cx7:=bX.cell (i:=7) rfl;have fx0:=bX.thaw 0;have fx1:=bX.thaw 1;have fx2:=bX.thaw 2;have fx3:=bX.thaw 3;have fx4:=bX.thaw 4;have fx5:=bX.thaw 5;have fx6:=bX.thaw 6;have fx7:=bX.thaw 7;have qX:=bX.lt;have rr0:=bR.cell (i:=0) rfl;have rr1:=bR.cell (i:=1) rfl;have rr2:=bR.cell (i:=2) rfl;have rr3:=bR.cell (i:=3) rfl;have rr4:=bR.cell (i:=4) rfl;have rr5:=bR.cell (i:=5) rfl;have rr6:=bR.cell (i:=6) rfl;have rr7:=bR.cell (i:=7) rfl;have zz0:=bR.thaw 0;have zz1:=bR.thaw 1;have zz2:=bR.thaw 2;have zz3:=bR.thaw 3;have zz4:=bR.thaw 4;have zz5:=bR.thaw 5;have zz6:=bR.thaw 6;have zz7:=bR.thaw 7;have qR:=bR.lt;have hF:Hid (∀W,Only C w W->Drawn W C A cap l->Only C w W):=hidP (fun _ h _=>h);clear hF;go_wp2
   exact bodyPost_ret (v:= .agg (Qab n seq op a b c k t)) (by simp[results,Tryz.results47,go_sem,rr0,rr1,rr2,rr3,rr4,rr5,rr6,rr7,hRX]) rfl ⟨n,seq,op,a,b,c,k,t,rfl,hk,ht,Qaf (Qaf (Qaf (Qaf (Qaf (Qaf (Qaf (Qaf (Qaf (HO.out) ((Only.refl w.heap.size _).set 0 (.int .i64 n)) (by omega)) ((Only.refl (w.heap.size+1) _).set 0 (.int .i64 n)) (by omega)) ((Only.refl (w.heap.size+1) _).set 1 (.int .i64 seq)) (by omega)) ((Only.refl (w.heap.size+1) _).set 2 (.int .i64 op)) (by omega)) ((Only.refl (w.heap.size+1) _).set 3 (.int .i64 a)) (by omega)) ((Only.refl (w.heap.size+1) _).set 4 (.int .i64 b)) (by omega)) ((Only.refl (w.heap.size+1) _).set 5 (.int .i64 c)) (by omega)) ((Only.refl (w.heap.size+1) _).set 6 (.string k)) (by omega)) ((Only.refl (w.heap.size+1) _).set 7 (.string t)) (by omega),(((((((((HD.out).only ((Only.refl w.heap.size _).set 0 (.int .i64 n)) (by omega)).only ((Only.refl (w.heap.size+1) _).set 0 (.int .i64 n)) (by omega)).only ((Only.refl (w.heap.size+1) _).set 1 (.int .i64 seq)) (by omega)).only ((Only.refl (w.heap.size+1) _).set 2 (.int .i64 op)) (by omega)).only ((Only.refl (w.heap.size+1) _).set 3 (.int .i64 a)) (by omega)).only ((Only.refl (w.heap.size+1) _).set 4 (.int .i64 b)) (by omega)).only ((Only.refl (w.heap.size+1) _).set 5 (.int .i64 c)) (by omega)).only ((Only.refl (w.heap.size+1) _).set 6 (.string k)) (by omega)).only ((Only.refl (w.heap.size+1) _).set 7 (.string t)) (by omega)⟩
 by_cases e1:q=1
 . subst e1;have HI:=hidP (Qem w1 ([⟨0⟩,⟨-1⟩,⟨100000⟩,⟨100001⟩]:List Nu) (Qaj (0) (-1) (100000) (100001)) 3 rfl);go_wp2_with fail;refine(Qb6 C A cap l w1.heap.size 0 4 ([⟨0⟩,⟨-1⟩,⟨100000⟩,⟨100001⟩]:List Nu) (by simp) (by simp) _ ((HD.out).below (Qad (Below.refl _ _) (.cells (Qaj (0) (-1) (100000) (100001)) 3))) (by simp) (by omega) HI.out).mono ?_;rintro e w2 ⟨y,hy,rfl,o_,d_⟩;replace bR:Blk w2 (w.heap.size+1) 55 Qar:=((bR).alloc (.cells (Qaj (0) (-1) (100000) (100001)) 3)).only o_ (by omega);replace bX:Blk w2 w.heap.size 55 (Qab who seq op a b c k t):=((bX).alloc (.cells (Qaj (0) (-1) (100000) (100001)) 3)).only o_ (by omega);have q_:=o_.size
   try simp only[World.size_alloc,World.size_setCell]at q_
   replace HO:=hidP (((HO.out).below (Qad (Below.refl _ _) (.cells (Qaj (0) (-1) (100000) (100001)) 3))).trans o_);replace HD:=hidP d_;clear o_ d_;generalize y.n=n at*;clear hy HI;clear cx0 cx1 cx2 cx3 cx4 cx5 cx6 cx7 fx0 fx1 fx2 fx3 fx4 fx5 fx6 fx7 qX;have cx0:=bX.cell (i:=0) rfl;have cx1:=bX.cell (i:=1) rfl;have cx2:=bX.cell (i:=2) rfl;have cx3:=bX.cell (i:=3) rfl;have cx4:=bX.cell (i:=4) rfl;have cx5:=bX.cell (i:=5) rfl;have cx6:=bX.cell (i:=6) rfl;have cx7:=bX.cell (i:=7) rfl;have fx0:=bX.thaw 0;have fx1:=bX.thaw 1;have fx2:=bX.thaw 2;have fx3:=bX.thaw 3;have fx4:=bX.thaw 4;have fx5:=bX.thaw 5;have fx6:=bX.thaw 6;have fx7:=bX.thaw 7;have qX:=bX.lt;have rr0:=bR.cell (i:=0) rfl;have rr1:=bR.cell (i:=1) rfl;have rr2:=bR.cell (i:=2) rfl;have rr3:=bR.cell (i:=3) rfl;have rr4:=bR.cell (i:=4) rfl;have rr5:=bR.cell (i:=5) rfl;have rr6:=bR.cell (i:=6) rfl;have rr7:=bR.cell (i:=7) rfl;have zz0:=bR.thaw 0;have zz1:=bR.thaw 1;have zz2:=bR.thaw 2;have zz3:=bR.thaw 3;have zz4:=bR.thaw 4;have zz5:=bR.thaw 5;have zz6:=bR.thaw 6;have zz7:=bR.thaw 7;have qR:=bR.lt;have hF:Hid (∀W,Only C w W->Drawn W C A cap l->Only C w W):=hidP (fun _ h _=>h);clear hF;go_wp2
   exact bodyPost_ret (v:= .agg (Qab who n op a b c k t)) (by simp[results,Tryz.results47,go_sem,rr0,rr1,rr2,rr3,rr4,rr5,rr6,rr7,hRX]) rfl ⟨who,n,op,a,b,c,k,t,rfl,hk,ht,Qaf (Qaf (Qaf (Qaf (Qaf (Qaf (Qaf (Qaf (Qaf (HO.out) ((Only.refl w.heap.size _).set 1 (.int .i64 n)) (by omega)) ((Only.refl (w.heap.size+1) _).set 0 (.int .i64 who)) (by omega)) ((Only.refl (w.heap.size+1) _).set 1 (.int .i64 n)) (by omega)) ((Only.refl (w.heap.size+1) _).set 2 (.int .i64 op)) (by omega)) ((Only.refl (w.heap.size+1) _).set 3 (.int .i64 a)) (by omega)) ((Only.refl (w.heap.size+1) _).set 4 (.int .i64 b)) (by omega)) ((Only.refl (w.heap.size+1) _).set 5 (.int .i64 c)) (by omega)) ((Only.refl (w.heap.size+1) _).set 6 (.string k)) (by omega)) ((Only.refl (w.heap.size+1) _).set 7 (.string t)) (by omega),(((((((((HD.out).only ((Only.refl w.heap.size _).set 1 (.int .i64 n)) (by omega)).only ((Only.refl (w.heap.size+1) _).set 0 (.int .i64 who)) (by omega)).only ((Only.refl (w.heap.size+1) _).set 1 (.int .i64 n)) (by omega)).only ((Only.refl (w.heap.size+1) _).set 2 (.int .i64 op)) (by omega)).only ((Only.refl (w.heap.size+1) _).set 3 (.int .i64 a)) (by omega)).only ((Only.refl (w.heap.size+1) _).set 4 (.int .i64 b)) (by omega)).only ((Only.refl (w.heap.size+1) _).set 5 (.int .i64 c)) (by omega)).only ((Only.refl (w.heap.size+1) _).set 6 (.string k)) (by omega)).only ((Only.refl (w.heap.size+1) _).set 7 (.string t)) (by omega)⟩
 by_cases e2:q=2
 . subst e2;have HI:=hidP (Qem w1 ([⟨-1⟩,⟨0⟩,⟨10⟩,⟨11⟩]:List Nu) (Qaj (-1) (0) (10) (11)) 3 rfl);go_wp2_with fail;refine(Qb6 C A cap l w1.heap.size 0 4 ([⟨-1⟩,⟨0⟩,⟨10⟩,⟨11⟩]:List Nu) (by simp) (by simp) _ ((HD.out).below (Qad (Below.refl _ _) (.cells (Qaj (-1) (0) (10) (11)) 3))) (by simp) (by omega) HI.out).mono ?_;rintro e w2 ⟨y,hy,rfl,o_,d_⟩;replace bR:Blk w2 (w.heap.size+1) 55 Qar:=((bR).alloc (.cells (Qaj (-1) (0) (10) (11)) 3)).only o_ (by omega);replace bX:Blk w2 w.heap.size 55 (Qab who seq op a b c k t):=((bX).alloc (.cells (Qaj (-1) (0) (10) (11)) 3)).only o_ (by omega);have q_:=o_.size
   try simp only[World.size_alloc,World.size_setCell]at q_
   replace HO:=hidP (((HO.out).below (Qad (Below.refl _ _) (.cells (Qaj (-1) (0) (10) (11)) 3))).trans o_);replace HD:=hidP d_;clear o_ d_;generalize y.n=n at*;clear hy HI;clear cx0 cx1 cx2 cx3 cx4 cx5 cx6 cx7 fx0 fx1 fx2 fx3 fx4 fx5 fx6 fx7 qX;have cx0:=bX.cell (i:=0) rfl;have cx1:=bX.cell (i:=1) rfl;have cx2:=bX.cell (i:=2) rfl;have cx3:=bX.cell (i:=3) rfl;have cx4:=bX.cell (i:=4) rfl;have cx5:=bX.cell (i:=5) rfl;have cx6:=bX.cell (i:=6) rfl;have cx7:=bX.cell (i:=7) rfl;have fx0:=bX.thaw 0;have fx1:=bX.thaw 1;have fx2:=bX.thaw 2;have fx3:=bX.thaw 3;have fx4:=bX.thaw 4;have fx5:=bX.thaw 5;have fx6:=bX.thaw 6;have fx7:=bX.thaw 7;have qX:=bX.lt;have rr0:=bR.cell (i:=0) rfl;have rr1:=bR.cell (i:=1) rfl;have rr2:=bR.cell (i:=2) rfl;have rr3:=bR.cell (i:=3) rfl;have rr4:=bR.cell (i:=4) rfl;have rr5:=bR.cell (i:=5) rfl;have rr6:=bR.cell (i:=6) rfl;have rr7:=bR.cell (i:=7) rfl;have zz0:=bR.thaw 0;have zz1:=bR.thaw 1;have zz2:=bR.thaw 2;have zz3:=bR.thaw 3;have zz4:=bR.thaw 4;have zz5:=bR.thaw 5;have zz6:=bR.thaw 6;have zz7:=bR.thaw 7;have qR:=bR.lt;have hF:Hid (∀W,Only C w W->Drawn W C A cap l->Only C w W):=hidP (fun _ h _=>h);clear hF;go_wp2
   exact bodyPost_ret (v:= .agg (Qab who seq n a b c k t)) (by simp[results,Tryz.results47,go_sem,rr0,rr1,rr2,rr3,rr4,rr5,rr6,rr7,hRX]) rfl ⟨who,seq,n,a,b,c,k,t,rfl,hk,ht,Qaf (Qaf (Qaf (Qaf (Qaf (Qaf (Qaf (Qaf (Qaf (HO.out) ((Only.refl w.heap.size _).set 2 (.int .i64 n)) (by omega)) ((Only.refl (w.heap.size+1) _).set 0 (.int .i64 who)) (by omega)) ((Only.refl (w.heap.size+1) _).set 1 (.int .i64 seq)) (by omega)) ((Only.refl (w.heap.size+1) _).set 2 (.int .i64 n)) (by omega)) ((Only.refl (w.heap.size+1) _).set 3 (.int .i64 a)) (by omega)) ((Only.refl (w.heap.size+1) _).set 4 (.int .i64 b)) (by omega)) ((Only.refl (w.heap.size+1) _).set 5 (.int .i64 c)) (by omega)) ((Only.refl (w.heap.size+1) _).set 6 (.string k)) (by omega)) ((Only.refl (w.heap.size+1) _).set 7 (.string t)) (by omega),(((((((((HD.out).only ((Only.refl w.heap.size _).set 2 (.int .i64 n)) (by omega)).only ((Only.refl (w.heap.size+1) _).set 0 (.int .i64 who)) (by omega)).only ((Only.refl (w.heap.size+1) _).set 1 (.int .i64 seq)) (by omega)).only ((Only.refl (w.heap.size+1) _).set 2 (.int .i64 n)) (by omega)).only ((Only.refl (w.heap.size+1) _).set 3 (.int .i64 a)) (by omega)).only ((Only.refl (w.heap.size+1) _).set 4 (.int .i64 b)) (by omega)).only ((Only.refl (w.heap.size+1) _).set 5 (.int .i64 c)) (by omega)).only ((Only.refl (w.heap.size+1) _).set 6 (.string k)) (by omega)).only ((Only.refl (w.heap.size+1) _).set 7 (.string t)) (by omega)⟩
 by_cases e3:q=3
 . subst e3;have HI:=hidP (Qem w1 ([⟨-1⟩,⟨100000⟩,⟨100001⟩,⟨-9223372036854775808⟩]:List Nu) (Qaj (-1) (100000) (100001) (-9223372036854775808)) 3 rfl);go_wp2_with fail;refine(Qb6 C A cap l w1.heap.size 0 4 ([⟨-1⟩,⟨100000⟩,⟨100001⟩,⟨-9223372036854775808⟩]:List Nu) (by simp) (by simp) _ ((HD.out).below (Qad (Below.refl _ _) (.cells (Qaj (-1) (100000) (100001) (-9223372036854775808)) 3))) (by simp) (by omega) HI.out).mono ?_;rintro e w2 ⟨y,hy,rfl,o_,d_⟩;replace bR:Blk w2 (w.heap.size+1) 55 Qar:=((bR).alloc (.cells (Qaj (-1) (100000) (100001) (-9223372036854775808)) 3)).only o_ (by omega);replace bX:Blk w2 w.heap.size 55 (Qab who seq op a b c k t):=((bX).alloc (.cells (Qaj (-1) (100000) (100001) (-9223372036854775808)) 3)).only o_ (by omega);have q_:=o_.size
   try simp only[World.size_alloc,World.size_setCell]at q_
   replace HO:=hidP (((HO.out).below (Qad (Below.refl _ _) (.cells (Qaj (-1) (100000) (100001) (-9223372036854775808)) 3))).trans o_);replace HD:=hidP d_;clear o_ d_;generalize y.n=n at*;clear hy HI;clear cx0 cx1 cx2 cx3 cx4 cx5 cx6 cx7 fx0 fx1 fx2 fx3 fx4 fx5 fx6 fx7 qX;have cx0:=bX.cell (i:=0) rfl;have cx1:=bX.cell (i:=1) rfl;have cx2:=bX.cell (i:=2) rfl;have cx3:=bX.cell (i:=3) rfl;have cx4:=bX.cell (i:=4) rfl;have cx5:=bX.cell (i:=5) rfl;have cx6:=bX.cell (i:=6) rfl;have cx7:=bX.cell (i:=7) rfl;have fx0:=bX.thaw 0;have fx1:=bX.thaw 1;have fx2:=bX.thaw 2;have fx3:=bX.thaw 3;have fx4:=bX.thaw 4;have fx5:=bX.thaw 5;have fx6:=bX.thaw 6;have fx7:=bX.thaw 7;have qX:=bX.lt;have rr0:=bR.cell (i:=0) rfl;have rr1:=bR.cell (i:=1) rfl;have rr2:=bR.cell (i:=2) rfl;have rr3:=bR.cell (i:=3) rfl;have rr4:=bR.cell (i:=4) rfl;have rr5:=bR.cell (i:=5) rfl;have rr6:=bR.cell (i:=6) rfl;have rr7:=bR.cell (i:=7) rfl;have zz0:=bR.thaw 0;have zz1:=bR.thaw 1;have zz2:=bR.thaw 2;have zz3:=bR.thaw 3;have zz4:=bR.thaw 4;have zz5:=bR.thaw 5;have zz6:=bR.thaw 6;have zz7:=bR.thaw 7;have qR:=bR.lt;have hF:Hid (∀W,Only C w W->Drawn W C A cap l->Only C w W):=hidP (fun _ h _=>h);clear hF;go_wp2
   exact bodyPost_ret (v:= .agg (Qab who seq op n b c k t)) (by simp[results,Tryz.results47,go_sem,rr0,rr1,rr2,rr3,rr4,rr5,rr6,rr7,hRX]) rfl ⟨who,seq,op,n,b,c,k,t,rfl,hk,ht,Qaf (Qaf (Qaf (Qaf (Qaf (Qaf (Qaf (Qaf (Qaf (HO.out) ((Only.refl w.heap.size _).set 3 (.int .i64 n)) (by omega)) ((Only.refl (w.heap.size+1) _).set 0 (.int .i64 who)) (by omega)) ((Only.refl (w.heap.size+1) _).set 1 (.int .i64 seq)) (by omega)) ((Only.refl (w.heap.size+1) _).set 2 (.int .i64 op)) (by omega)) ((Only.refl (w.heap.size+1) _).set 3 (.int .i64 n)) (by omega)) ((Only.refl (w.heap.size+1) _).set 4 (.int .i64 b)) (by omega)) ((Only.refl (w.heap.size+1) _).set 5 (.int .i64 c)) (by omega)) ((Only.refl (w.heap.size+1) _).set 6 (.string k)) (by omega)) ((Only.refl (w.heap.size+1) _).set 7 (.string t)) (by omega),(((((((((HD.out).only ((Only.refl w.heap.size _).set 3 (.int .i64 n)) (by omega)).only ((Only.refl (w.heap.size+1) _).set 0 (.int .i64 who)) (by omega)).only ((Only.refl (w.heap.size+1) _).set 1 (.int .i64 seq)) (by omega)).only ((Only.refl (w.heap.size+1) _).set 2 (.int .i64 op)) (by omega)).only ((Only.refl (w.heap.size+1) _).set 3 (.int .i64 n)) (by omega)).only ((Only.refl (w.heap.size+1) _).set 4 (.int .i64 b)) (by omega)).only ((Only.refl (w.heap.size+1) _).set 5 (.int .i64 c)) (by omega)).only ((Only.refl (w.heap.size+1) _).set 6 (.string k)) (by omega)).only ((Only.refl (w.heap.size+1) _).set 7 (.string t)) (by omega)⟩
 by_cases e4:q=4
 . subst e4;have HI:=hidP (Qem w1 ([⟨⟨#[65]⟩⟩,⟨⟨#[48,49,50,51,52,53,54,55,56,57,48,49,50,51,52,53,54,55,56,57,48,49,50,51,52,53,54,55,56,57,48]⟩⟩]:List St) (l1TT ⟨#[65]⟩ ⟨#[48,49,50,51,52,53,54,55,56,57,48,49,50,51,52,53,54,55,56,57,48,49,50,51,52,53,54,55,56,57,48]⟩) 9 rfl);go_wp2_with fail;refine(Qje C A cap l w1.heap.size 0 2 ([⟨⟨#[65]⟩⟩,⟨⟨#[48,49,50,51,52,53,54,55,56,57,48,49,50,51,52,53,54,55,56,57,48,49,50,51,52,53,54,55,56,57,48]⟩⟩]:List St) (by simp) (by simp) _ ((HD.out).below (Qad (Below.refl _ _) (.cells (l1TT ⟨#[65]⟩ ⟨#[48,49,50,51,52,53,54,55,56,57,48,49,50,51,52,53,54,55,56,57,48,49,50,51,52,53,54,55,56,57,48]⟩) 9))) (by simp) (by omega) HI.out).mono ?_;rintro e w2 ⟨y,hy,rfl,o_,d_⟩;replace bR:Blk w2 (w.heap.size+1) 55 Qar:=((bR).alloc (.cells (l1TT ⟨#[65]⟩ ⟨#[48,49,50,51,52,53,54,55,56,57,48,49,50,51,52,53,54,55,56,57,48,49,50,51,52,53,54,55,56,57,48]⟩) 9)).only o_ (by omega);replace bX:Blk w2 w.heap.size 55 (Qab who seq op a b c k t):=((bX).alloc (.cells (l1TT ⟨#[65]⟩ ⟨#[48,49,50,51,52,53,54,55,56,57,48,49,50,51,52,53,54,55,56,57,48,49,50,51,52,53,54,55,56,57,48]⟩) 9)).only o_ (by omega);have q_:=o_.size
   try simp only[World.size_alloc,World.size_setCell]at q_
   replace HO:=hidP (((HO.out).below (Qad (Below.refl _ _) (.cells (l1TT ⟨#[65]⟩ ⟨#[48,49,50,51,52,53,54,55,56,57,48,49,50,51,52,53,54,55,56,57,48,49,50,51,52,53,54,55,56,57,48]⟩) 9))).trans o_);replace HD:=hidP d_;clear o_ d_;have hk2:y.s.size<=40:=by
    simp only[List.mem_cons,List.not_mem_nil,or_false]at hy;rcases hy with rfl|rfl<;>decide
   generalize y.s=k2 at*;clear hy HI;clear cx0 cx1 cx2 cx3 cx4 cx5 cx6 cx7 fx0 fx1 fx2 fx3 fx4 fx5 fx6 fx7 qX;have cx0:=bX.cell (i:=0) rfl;have cx1:=bX.cell (i:=1) rfl;have cx2:=bX.cell (i:=2) rfl;have cx3:=bX.cell (i:=3) rfl;have cx4:=bX.cell (i:=4) rfl;have cx5:=bX.cell (i:=5) rfl;have cx6:=bX.cell (i:=6) rfl;have cx7:=bX.cell (i:=7) rfl;have fx0:=bX.thaw 0;have fx1:=bX.thaw 1;have fx2:=bX.thaw 2;have fx3:=bX.thaw 3;have fx4:=bX.thaw 4;have fx5:=bX.thaw 5;have fx6:=bX.thaw 6;have fx7:=bX.thaw 7;have qX:=bX.lt;have rr0:=bR.cell (i:=0) rfl;have rr1:=bR.cell (i:=1) rfl;have rr2:=bR.cell (i:=2) rfl;have rr3:=bR.cell (i:=3) rfl;have rr4:=bR.cell (i:=4) rfl;have rr5:=bR.cell (i:=5) rfl;have rr6:=bR.cell (i:=6) rfl;have rr7:=bR.cell (i:=7) rfl;have zz0:=bR.thaw 0;have zz1:=bR.thaw 1;have zz2:=bR.thaw 2;have zz3:=bR.thaw 3;have zz4:=bR.thaw 4;have zz5:=bR.thaw 5;have zz6:=bR.thaw 6;have zz7:=bR.thaw 7;have qR:=bR.lt;have hF:Hid (∀W,Only C w W->Drawn W C A cap l->Only C w W):=hidP (fun _ h _=>h);clear hF;go_wp2
   exact bodyPost_ret (v:= .agg (Qab who seq op a b c k2 t)) (by simp[results,Tryz.results47,go_sem,rr0,rr1,rr2,rr3,rr4,rr5,rr6,rr7,hRX]) rfl ⟨who,seq,op,a,b,c,k2,t,rfl,hk2,ht,Qaf (Qaf (Qaf (Qaf (Qaf (Qaf (Qaf (Qaf (Qaf (HO.out) ((Only.refl w.heap.size _).set 6 (.string k2)) (by omega)) ((Only.refl (w.heap.size+1) _).set 0 (.int .i64 who)) (by omega)) ((Only.refl (w.heap.size+1) _).set 1 (.int .i64 seq)) (by omega)) ((Only.refl (w.heap.size+1) _).set 2 (.int .i64 op)) (by omega)) ((Only.refl (w.heap.size+1) _).set 3 (.int .i64 a)) (by omega)) ((Only.refl (w.heap.size+1) _).set 4 (.int .i64 b)) (by omega)) ((Only.refl (w.heap.size+1) _).set 5 (.int .i64 c)) (by omega)) ((Only.refl (w.heap.size+1) _).set 6 (.string k2)) (by omega)) ((Only.refl (w.heap.size+1) _).set 7 (.string t)) (by omega),(((((((((HD.out).only ((Only.refl w.heap.size _).set 6 (.string k2)) (by omega)).only ((Only.refl (w.heap.size+1) _).set 0 (.int .i64 who)) (by omega)).only ((Only.refl (w.heap.size+1) _).set 1 (.int .i64 seq)) (by omega)).only ((Only.refl (w.heap.size+1) _).set 2 (.int .i64 op)) (by omega)).only ((Only.refl (w.heap.size+1) _).set 3 (.int .i64 a)) (by omega)).only ((Only.refl (w.heap.size+1) _).set 4 (.int .i64 b)) (by omega)).only ((Only.refl (w.heap.size+1) _).set 5 (.int .i64 c)) (by omega)).only ((Only.refl (w.heap.size+1) _).set 6 (.string k2)) (by omega)).only ((Only.refl (w.heap.size+1) _).set 7 (.string t)) (by omega)⟩
 have rr0:=bR.cell (i:=0) rfl;have rr1:=bR.cell (i:=1) rfl;have rr2:=bR.cell (i:=2) rfl;have rr3:=bR.cell (i:=3) rfl;have rr4:=bR.cell (i:=4) rfl;have rr5:=bR.cell (i:=5) rfl;have rr6:=bR.cell (i:=6) rfl;have rr7:=bR.cell (i:=7) rfl;have zz0:=bR.thaw 0;have zz1:=bR.thaw 1;have zz2:=bR.thaw 2;have zz3:=bR.thaw 3;have zz4:=bR.thaw 4;have zz5:=bR.thaw 5;have zz6:=bR.thaw 6;have zz7:=bR.thaw 7;have qR:=bR.lt;have hF:Hid (∀W,Only C w W->Drawn W C A cap l->Only C w W):=hidP (fun _ h _=>h);clear hF;go_wp2
 exact bodyPost_ret (v:= .agg (Qab who seq op a b c k t)) (by simp[results,Tryz.results47,go_sem,rr0,rr1,rr2,rr3,rr4,rr5,rr6,rr7,hRX]) rfl ⟨who,seq,op,a,b,c,k,t,rfl,hk,ht,Qaf (Qaf (Qaf (Qaf (Qaf (Qaf (Qaf (Qaf (HO.out) ((Only.refl (w.heap.size+1) _).set 0 (.int .i64 who)) (by omega)) ((Only.refl (w.heap.size+1) _).set 1 (.int .i64 seq)) (by omega)) ((Only.refl (w.heap.size+1) _).set 2 (.int .i64 op)) (by omega)) ((Only.refl (w.heap.size+1) _).set 3 (.int .i64 a)) (by omega)) ((Only.refl (w.heap.size+1) _).set 4 (.int .i64 b)) (by omega)) ((Only.refl (w.heap.size+1) _).set 5 (.int .i64 c)) (by omega)) ((Only.refl (w.heap.size+1) _).set 6 (.string k)) (by omega)) ((Only.refl (w.heap.size+1) _).set 7 (.string t)) (by omega),((((((((HD.out).only ((Only.refl (w.heap.size+1) _).set 0 (.int .i64 who)) (by omega)).only ((Only.refl (w.heap.size+1) _).set 1 (.int .i64 seq)) (by omega)).only ((Only.refl (w.heap.size+1) _).set 2 (.int .i64 op)) (by omega)).only ((Only.refl (w.heap.size+1) _).set 3 (.int .i64 a)) (by omega)).only ((Only.refl (w.heap.size+1) _).set 4 (.int .i64 b)) (by omega)).only ((Only.refl (w.heap.size+1) _).set 5 (.int .i64 c)) (by omega)).only ((Only.refl (w.heap.size+1) _).set 6 (.string k)) (by omega)).only ((Only.refl (w.heap.size+1) _).set 7 (.string t)) (by omega)⟩
theorem Qot:(Tryz.prog.info? 55).map (fun i=>(i.zero,i.size,i.bytes))=some (some (.agg Qar),8,80):=by kernel_rfl
theorem Qkf (C:Nat) (A:Option Addr) (cap:Nat) (l:List By) (most:Nat) (hm:most<=200) (w:World) (hD:Drawn w C A cap l):
 Calls Tryz.prog 85 #[.pointer (some ⟨C,0,none⟩),.int .i64 (most:Int)] w fun e w' =>∃(a:Option Addr) (c:Nat) (L:List Cq),e= .returned (.slice a L.length c)/\L.length<=most/\(∀x∈L,x.key.size<=30/\x.text.size<=30)/\DL 55 w w' C cap A l a c L:=by
 have hC:=hD.lt;have I0:DL (α:=Cq) 55 w (w.alloc (.cells #[] 55)) C cap A l (some ⟨w.heap.size,0,none⟩) 0 []:=⟨Only.of_below (Qad (Below.refl _ _) _),hD.below (Qad (Below.refl _ _) _),Qet (α:=Cq) (Nat.le_refl _) rfl,hC⟩
 have HI:=hidP I0;clear hD I0;go_enter Tryz.func85,Tryz.ntmps85;go_wp2_with fail;refine(Qa3 C A cap l ((most:Int)+1) (by omega) (by omega) _ HI.out.dr).mono ?_;rintro e w1 ⟨n,rfl,hn0,hn1,k1,d1⟩;have I1:=HI.out.only k1 d1;clear HI k1 d1;go_wp2
 go_loopw [5,7] (fun ov iv wx=>∃(i:Nat) (a:Option Addr) (c:Nat) (L:List Cq),ov= .slice a L.length c/\iv= .int .i64 (i:Int)/\(i:Int)<=n/\Hid (L.length=i)/\Hid (∀x∈L,x.key.size<=30/\x.text.size<=30)/\DL 55 w wx C cap A l a c L) (fun _ iv _=>(n - intOf iv).toNat)
 case atStart=>exact⟨0,_,_,[],rfl,rfl,by omega,rfl,by show ∀x∈_,_;simp,I1⟩
 case round=>
  clear I1;obtain⟨i,la,lc,L,rfl,rfl,hi,hl,hs,P⟩:=hrel;by_cases hlt:(i:Int)<n
  . have HP:=hidP P;clear P;go_wp2_with fail;refine(Qee C A cap l _ HP.out.dr).mono ?_;rintro e w2 ⟨who,seq,op,a,b,c,k,t,rfl,hdc,k2,d2⟩;have Hsz:=hidP hdc.size;have P2:=HP.out.only k2 d2;have hob:Hid (∀z,(Value.slice la L.length lc).ownBlock=some z->z<w2.heap.size):=fun z hz=>Qcn P2.own hz
    have P3:=P2.alloc (.cells (Qab who seq op a b c k t) 55);have X3:=Blk.new w2 55 (Qab who seq op a b c k t);have hws:w.heap.size<=w2.heap.size:=P2.size;clear hdc k2 d2 P2 HP;by_cases hw0:0<=who
    . have HP3:=hidP P3;obtain⟨x0,x1,x2,x3,x4,x5,x6,x7⟩:=X3.row8c;clear P3;go_wp2_with fail;refine(Qic C A cap l 4 (by omega) (by omega) _ HP3.out.dr).mono ?_;rintro e w4 ⟨q,rfl,k4,d4⟩;have P:=HP3.out.only k4 d4;have X4:=X3.only k4 (by omega);clear k4 d4 HP3 x0 x1 x2 x3 x4 x5 x6 x7 X3;generalize w2.heap.size=X at X4 hob hws ⊢;cases q
      . have H5:=hidP (And.intro (P.box ((Only.refl X w4).set 1 (.int .i64 ((i:Int)+1))) hws (fun e=>by have:=hob.out _ e;omega)) (X4.setAt 1 (.int .i64 ((i:Int)+1))));obtain⟨x0,x1,x2,x3,x4,x5,x6,x7⟩:=X4.row8c;have f1:=X4.thaw 1;have lx:=X4.lt;clear P X4;go_upto_region 9 with fail;clear x0 x1 x2 x3 x4 x5 x6 x7 f1 lx;generalize w4.setCell ⟨X,1,none⟩ (.int .i64 ((i:Int)+1))=w5 at H5 ⊢;obtain⟨P,X5⟩:=H5.out;have X5:Blk w5 X 55 (Qab who ((i:Int)+1) op a b c k t):=X5;obtain⟨a9,c9,W9,hr,P9⟩:=P.app Tryz.underlying130 Qot rfl (by decide) (by decide) (⟨who,((i:Int)+1),op,a,b,c,k,t⟩:Cq) (Qab who ((i:Int)+1) op a b c k t) rfl (by have:=hl.out;omega);obtain⟨x0,x1,x2,x3,x4,x5,x6,x7⟩:=X5.row8c;have lx:=X5.lt;go_wp2_with (at_builtin;refine Qac rfl _ _ _ rfl _ _ _ rfl rfl hr ?_);exact⟨⟨i+1,a9,c9,L++ [(⟨who,((i:Int)+1),op,a,b,c,k,t⟩:Cq)],by rw[List.length_append];rfl,by go_num,by omega,by show _=_;rw[List.length_append,hl.out];rfl,by show ∀x∈_,_;intro x hx;rcases List.mem_append.1 hx with h|h;exact hs.out x h;rw[List.mem_singleton]at h;subst h;exact Hsz.out,P9⟩,by simp[intOf];omega⟩
      . go_upto_region 9 with fail;obtain⟨a9,c9,W9,hr,P9⟩:=P.app Tryz.underlying130 Qot rfl (by decide) (by decide) (⟨who,seq,op,a,b,c,k,t⟩:Cq) (Qab who seq op a b c k t) rfl (by have:=hl.out;omega);obtain⟨x0,x1,x2,x3,x4,x5,x6,x7⟩:=X4.row8c;have lx:=X4.lt;go_wp2_with (at_builtin;refine Qac rfl _ _ _ rfl _ _ _ rfl rfl hr ?_);exact⟨⟨i+1,a9,c9,L++ [(⟨who,seq,op,a,b,c,k,t⟩:Cq)],by rw[List.length_append];rfl,by go_num,by omega,by show _=_;rw[List.length_append,hl.out];rfl,by show ∀x∈_,_;intro x hx;rcases List.mem_append.1 hx with h|h;exact hs.out x h;rw[List.mem_singleton]at h;subst h;exact Hsz.out,P9⟩,by simp[intOf];omega⟩
    . have P:=P3;clear P3;have nw:¬who>=0:=(by omega);obtain⟨x0,x1,x2,x3,x4,x5,x6,x7⟩:=X3.row8c;go_upto_region 9 with fail;clear x0 x1 x2 x3 x4 x5 x6 x7;have X4:=X3;clear X3;generalize w2.alloc (.cells (Qab who seq op a b c k t) 55)=w4 at P X4 ⊢;generalize w2.heap.size=X at X4 hob hws ⊢;obtain⟨a9,c9,W9,hr,P9⟩:=P.app Tryz.underlying130 Qot rfl (by decide) (by decide) (⟨who,seq,op,a,b,c,k,t⟩:Cq) (Qab who seq op a b c k t) rfl (by have:=hl.out;omega);obtain⟨x0,x1,x2,x3,x4,x5,x6,x7⟩:=X4.row8c;have lx:=X4.lt;go_wp2_with (at_builtin;refine Qac rfl _ _ _ rfl _ _ _ rfl rfl hr ?_);exact⟨⟨i+1,a9,c9,L++ [(⟨who,seq,op,a,b,c,k,t⟩:Cq)],by rw[List.length_append];rfl,by go_num,by omega,by show _=_;rw[List.length_append,hl.out];rfl,by show ∀x∈_,_;intro x hx;rcases List.mem_append.1 hx with h|h;exact hs.out x h;rw[List.mem_singleton]at h;subst h;exact Hsz.out,P9⟩,by simp[intOf];omega⟩
  . go_wp2;go_ret;exact⟨la,lc,L,rfl,by have:=hl.out;omega,hs.out,P⟩
theorem Qio (C:Nat) (A:Option Addr) (cap:Nat) (l:List By) (w:World) (hD:Drawn w C A cap l):
 Calls Tryz.prog 83 #[.pointer (some ⟨C,0,none⟩)] w fun e w' =>∃(ro wi le ke:Int),e= .returned (.agg (Qaj ro wi le ke))/\setB ro wi le ke=true/\Only C w w' /\Drawn w' C A cap l:=by
 have hC:=hD.lt;have O0:Only C w (w.alloc (.cells Qe0 96)):=Only.of_below (Qad (Below.refl _ _) _);have D0:=hD.below (Qad (Below.refl _ w) (.cells Qe0 96));have R0:=Blk.new w 96 Qe0;have H0:=hidP (And.intro O0 D0);clear hD O0 D0;go_enter Tryz.func83,Tryz.ntmps83;go_wp2_with fail;refine(Qa3 C A cap l 3 (by omega) (by omega) _ H0.out.2).mono ?_;rintro e w1 ⟨x,rfl,hx0,hx1,k1,d1⟩;have O1:=(H0.out.1.trans k1).below (Qad (Below.refl _ w1) (.cells (Qck 1 2 5) 3));have D1:=d1.below (Qad (Below.refl _ w1) (.cells (Qck 1 2 5) 3));have R1:=(R0.only k1 (by omega)).alloc (.cells (Qck 1 2 5) 3);have I1:=Qem w1 ([⟨1⟩,⟨2⟩,⟨5⟩]:List Nu) (Qck 1 2 5) 3 rfl;have s1:w.heap.size<w1.heap.size:=(R0.only k1 (by omega)).lt;have H1:=hidP (And.intro O1 (And.intro D1 I1));clear H0 k1 d1 O1 D1 I1 R0;go_wp2_with fail;refine(Qb6 C A cap l w1.heap.size 0 3 ([⟨1⟩,⟨2⟩,⟨5⟩]:List Nu) (by simp) (by simp) _ H1.out.2.1 (by simp) (by omega) H1.out.2.2).mono ?_;rintro e w2 ⟨y,hy,rfl,k2,d2⟩;have h2:1<=y.n/\y.n<=5:=by
  simp only[List.mem_cons,List.not_mem_nil,or_false]at hy;rcases hy with rfl|rfl|rfl<;>exact⟨by decide,by decide⟩
 generalize y.n=wi at*;have O2:=(H1.out.1.trans k2).below (Qad (Below.refl _ w2) (.cells (Qaj 1 2 3 8) 3));have D2:=d2.below (Qad (Below.refl _ w2) (.cells (Qaj 1 2 3 8) 3));have R2:=(R1.only k2 (by omega)).alloc (.cells (Qaj 1 2 3 8) 3);have I2:=Qem w2 ([⟨1⟩,⟨2⟩,⟨3⟩,⟨8⟩]:List Nu) (Qaj 1 2 3 8) 3 rfl;have s2:w.heap.size<w2.heap.size:=(R1.only k2 (by omega)).lt;have H2:=hidP (And.intro O2 (And.intro D2 I2));clear H1 k2 d2 O2 D2 I2 hy R1 s1;go_wp2_with fail;refine(Qb6 C A cap l w2.heap.size 0 4 ([⟨1⟩,⟨2⟩,⟨3⟩,⟨8⟩]:List Nu) (by simp) (by simp) _ H2.out.2.1 (by simp) (by omega) H2.out.2.2).mono ?_;rintro e w3 ⟨z,hz,rfl,k3,d3⟩;have h3:1<=z.n/\z.n<=8:=by
  simp only[List.mem_cons,List.not_mem_nil,or_false]at hz;rcases hz with rfl|rfl|rfl|rfl<;>exact⟨by decide,by decide⟩
 generalize z.n=le at*;have O3:=(H2.out.1.trans k3).below (Qad (Below.refl _ w3) (.cells (Qaj 0 1 3 10) 3));have D3:=d3.below (Qad (Below.refl _ w3) (.cells (Qaj 0 1 3 10) 3));have R3:=(R2.only k3 (by omega)).alloc (.cells (Qaj 0 1 3 10) 3);have I3:=Qem w3 ([⟨0⟩,⟨1⟩,⟨3⟩,⟨10⟩]:List Nu) (Qaj 0 1 3 10) 3 rfl;have s3:w.heap.size<w3.heap.size:=(R2.only k3 (by omega)).lt;have H3:=hidP (And.intro O3 (And.intro D3 I3));clear H2 k3 d3 O3 D3 I3 hz R2 s2;go_wp2_with fail;refine(Qb6 C A cap l w3.heap.size 0 4 ([⟨0⟩,⟨1⟩,⟨3⟩,⟨10⟩]:List Nu) (by simp) (by simp) _ H3.out.2.1 (by simp) (by omega) H3.out.2.2).mono ?_;rintro e w4 ⟨v,hv,rfl,k4,d4⟩;have h4:0<=v.n/\v.n<=10:=by
  simp only[List.mem_cons,List.not_mem_nil,or_false]at hv;rcases hv with rfl|rfl|rfl|rfl<;>exact⟨by decide,by decide⟩
 generalize v.n=ke at*;have O4:=hidP (H3.out.1.trans k4);have D4:=hidP d4;have R4:=R3.only k4 (by omega);obtain⟨r0,r1,r2,r3⟩:=R4.row4;have f0:=R4.thaw 0;have f1:=R4.thaw 1;have f2:=R4.thaw 2;have f3:=R4.thaw 3;have q4:=R4.lt;clear H3 k4 d4 hv R3 s3;go_wp2;refine bodyPost_ret (v:= .agg (Qaj (1+x) wi le ke)) (by simp[results,Tryz.results83,go_sem,r0,r1,r2,r3]) rfl ⟨1+x,wi,le,ke,rfl,?_,?_,?_⟩
 . simp only[setB,inB,Bool.and_eq_true,decide_eq_true_eq];omega
 . exact Qaf O4.out ((((Only.refl w.heap.size w4).set 0 _).set 1 _).set 2 _ |>.set 3 _) (Nat.le_refl _)
 . exact D4.out.only ((((Only.refl w.heap.size w4).set 0 _).set 1 _).set 2 _ |>.set 3 _) hC
end Go.Proofs.YtajbldnhjpjghaaGreat.Gen
