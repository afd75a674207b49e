/-
  The specification's KeepNew at this seat. No condition.
-/
import Derived.Test.YtajbldnhjpjghaaGreatDoorKGr4
set_option linter.unusedVariables false
set_option linter.unusedSimpArgs false
set_option maxRecDepth 100000
set_option maxHeartbeats 8000000
set_option maxRecDepth 100000
set_option maxHeartbeats 8000000
namespace Go.Proofs.YtajbldnhjpjghaaGreatDoor.Gen
open ChangeShapes WideShapes ChangeAt RowKit Joins Deep Base
theorem Qgr (ro wi le ke:Int) (w:World):
 Calls Tryz.prog 91 #[.agg (Qaj ro wi le ke)] w fun e w' =>ToldK w w' e (newK (setB ro wi le ke) ro):=by
 cases hb:setB ro wi le ke
 . go_enter Tryz.func91,Tryz.ntmps91;go_wp2_with (go_at_call 92;refine(Qdy ro wi le ke _).mono ?_;rw[hb];rintro e w1 ⟨rfl,g1⟩;obtain⟨k1,m1⟩:=Qd9 g1;have B1:Below w.heap.size w w1:=via0 g1 (Qad (Qad (Below.refl _ _) _) _);have p1:=((Blk.new (w.alloc (.cells (Qaj ro wi le ke) 108)) 114 Qae)).below g1 (by simp);rw[World.size_alloc]at p1;obtain⟨r0,r1,r2,r3,r4,r5⟩:=p1.row6;have f0:=p1.thaw 0;have f1:=p1.thaw 1;have f2:=p1.thaw 2;have f3:=p1.thaw 3;have f4:=p1.thaw 4;have f5:=p1.thaw 5);refine bodyPost_ret (v:= .agg Qae) (by simp[results,Tryz.results91,go_sem,r0,r1,r2,r3,r4,r5]) rfl (toldK_zero ?_);exact Qas (Qas (Qas (Qas (Qas (Qas B1 (Nat.le_succ _) _) (Nat.le_succ _) _) (Nat.le_succ _) _) (Nat.le_succ _) _) (Nat.le_succ _) _) (Nat.le_succ _) _
 . obtain⟨hr1,hr4⟩:=Qjf hb;obtain⟨n,rfl⟩:∃n:Nat,ro=n:=⟨ro.toNat,by omega⟩
   have hmR:=Qgf (P:=Tryz.prog) Tryz.underlying109 infoRC (by omega) n (by omega);have hmD:∀w:World,(Instr.makeSlice 57 (.int .i64 4) (.int .i64 4)).run Tryz.prog w= .ok (.slice (some ⟨w.heap.size,0,none⟩) 4 4) (w.alloc (.cells (madeCells #[.int .i64 0] 4) 3)):=Qgf (P:=Tryz.prog) Tryz.underlying57 Qd5 (by omega) 4 (by omega);have hmL:∀w:World,(Instr.makeSlice 112 (.int .i64 4) (.int .i64 4)).run Tryz.prog w= .ok (.slice (some ⟨w.heap.size,0,none⟩) 4 4) (w.alloc (.cells (madeCells Qap 16) 169)):=Qgf (P:=Tryz.prog) Tryz.underlying112 infoAn (by omega) 4 (by omega);go_enter Tryz.func91,Tryz.ntmps91;go_upto_region 3 with(go_at_call 92;refine(Qdy (n:Int) wi le ke _).mono ?_;rw[hb];rintro e w1 ⟨rfl,g1⟩)
   have I:∀V,KR w w1 (n:Int) wi le ke n V (fun _=>none):=fun V=>⟨via0 g1 (Qad (Qad (Below.refl _ _) _) _),((Blk.new w _ _).alloc _).below g1 (by simp;omega),by have:=(Blk.new (w.alloc (.cells (Qaj (n:Int) wi le ke) 108)) 114 Qae).below g1 (by simp);rwa [World.size_alloc]at this,fun i b e=>(by cases e),fun i j b e=>(by cases e),fun b e=>(by cases e),fun b e=>(by cases e),fun b e=>(by cases e),fun b e=>(by cases e)⟩
   have J:=hidP I;have I:=I Qae;clear g1;go_cut [3]from 9 to 14 (fun s wx=>∃g bR bD bL Q,s= .pointer (some ⟨g,0,none⟩)/\Q<=wx.heap.size/\KN w wx (n:Int) wi le ke n g bR bD bL Q (.slice none 0 0))
   case first=>
    obtain⟨AA,hAA⟩:∃f:(Nat->Bool)->(Nat->Value)->Array Value,f=(fun(m:Nat->Bool) (v:Nat->Value)=> #[.agg (Qaj (n:Int) wi le ke),.pointer (some ⟨w.heap.size,0,none⟩),.pointer (some ⟨w.heap.size+1,0,none⟩),sl m v 6,undef,.agg (Qaj (n:Int) wi le ke),.bool true,.bool false,undef,.pointer (some ⟨w.heap.size,0,none⟩),.int .i64 (n:Int),sl m v 2,sl m v 3,sl m v 4,sl m v 5,undef,undef,undef,undef,undef,undef,undef,undef,undef,undef,undef,undef,undef]):=⟨_,rfl⟩
    refine wp_region_noPanic ?_;refine wp_region_held_drew (S:=fun(w' :World)=>w'.cell? ⟨w.heap.size,0,none⟩=some (.int .i64 (n:Int))) (by kernel_rfl) ?_ (fun hH=> ?_)
    . exact I.b1.row4.1
    refine ztk [0,1] ?_;repeat(refine ztn (h:= ?_);try simp only[zX,zY])
    refine zte ?_;refine any_at (n1:=1+5) (l1:=lstK (fun _=>false)) (T:=StK w n wi le ke AA (fun _=>false)) (fun a W hT hS=>any_lat [2,3,4,5,6] lstK preK (StK w n wi le ke AA) ?hl ?step ?tail 5 (fun _=>false) a W (by kernel_rfl) hT hS) (by kernel_rfl) ⟨fun _=>undef,fun _=>none,by rw[hAA];rfl,I.drew,(fun e=>by cases e),(fun e=>by cases e),(fun e=>by cases e),(fun e=>by cases e),(fun e=>by cases e)⟩ hH
    case hl=>
     intro i hi m;simp only[List.mem_cons,List.not_mem_nil,or_false]at hi;rcases hi with rfl|rfl|rfl|rfl|rfl<;>rfl
    case step=>
     clear hH J I;intro i hi m a W hp hT hS;obtain⟨v,o,rfl,I,h2,h3,h4,h5,h6⟩:=hT;subst hAA;simp only[List.mem_cons,List.not_mem_nil,or_false]at hi;rcases hi with rfl|rfl|rfl|rfl|rfl
     . have q5:m 5=false:=(by simpa [preK]using hp);have hmk:=hmR W;have I2:=I.new0 W.heap.size rfl;refine⟨_,rfl,fun K hK=> ?_⟩;go_simp;exact hK.out _ _ I2.b1.row4.1 ⟨updv v 2 (.slice (some ⟨W.heap.size,0,none⟩) n n),_,rfl,I2,(fun _=>⟨_,rfl,rfl⟩),h3,h4,fun e=>by simp[updm,q5]at e,h6⟩
     . have q5:m 5=false:=(by simpa [preK]using hp);have hmk:=hmD W;have I2:=I.new1 W.heap.size rfl;refine⟨_,rfl,fun K hK=> ?_⟩;go_simp;exact hK.out _ _ I2.b1.row4.1 ⟨updv v 3 (.slice (some ⟨W.heap.size,0,none⟩) 4 4),_,rfl,I2,h2,(fun _=>⟨_,rfl,rfl⟩),h4,fun e=>by simp[updm,q5]at e,h6⟩
     . have q5:m 5=false:=(by simpa [preK]using hp);have hmk:=hmL W;have I2:=I.new2 W.heap.size rfl;refine⟨_,rfl,fun K hK=> ?_⟩;go_simp;exact hK.out _ _ I2.b1.row4.1 ⟨updv v 4 (.slice (some ⟨W.heap.size,0,none⟩) 4 4),_,rfl,I2,h2,h3,(fun _=>⟨_,rfl,rfl⟩),fun e=>by simp[updm,q5]at e,h6⟩
     . have q:(m 2=true/\m 3=true)/\m 4=true:=(by simpa [preK]using hp);obtain⟨bR,_,v2⟩:=h2 q.1.1;obtain⟨bD,_,v3⟩:=h3 q.1.2;obtain⟨bL,_,v4⟩:=h4 q.2;have e2:sl m v 2= .slice (some ⟨bR,0,none⟩) n n:=(by simp[sl,q.1.1,v2]);have e3:sl m v 3= .slice (some ⟨bD,0,none⟩) 4 4:=(by simp[sl,q.1.2,v3]);have e4:sl m v 4= .slice (some ⟨bL,0,none⟩) 4 4:=(by simp[sl,q.2,v4]);refine⟨_,rfl,fun K hK=> ?_⟩;go_simp;refine hK.out _ _ I.b1.row4.1 ⟨updv v 5 (.agg (Qaa (some ⟨bR,0,none⟩) n n none 0 0 none 0 0 0 (some ⟨bD,0,none⟩) 4 4 (some ⟨bL,0,none⟩) 4 4)),o,?_,I,h2,h3,h4,fun _=>by simp[updv,v2,v3,v4],h6⟩;simp[sl,updm,updv,q.1.1,q.1.2,q.2,v2,v3,v4]
     . have I2:=I.new3 W.heap.size rfl;refine⟨_,rfl,fun K hK=> ?_⟩;go_simp;exact hK.out _ _ I2.b1.row4.1 ⟨updv v 6 (.pointer (some ⟨W.heap.size,0,none⟩)),_,rfl,I2,h2,h3,h4,h5,fun _=>⟨_,rfl,rfl⟩⟩
    case tail=>
     clear hH J I;intro m a W hm hT hS;obtain⟨v,o,rfl,I,h2,h3,h4,h5,h6⟩:=hT;subst hAA;simp only[List.all_cons,List.all_nil,Bool.and_true,Bool.and_eq_true]at hm;obtain⟨m2,m3,m4,m5,m6⟩:=hm;obtain⟨bR,oR,v2⟩:=h2 m2;obtain⟨bD,oD,v3⟩:=h3 m3;obtain⟨bL,oL,v4⟩:=h4 m4;obtain⟨g,oG,v6⟩:=h6 m6;have v5:=h5 m5;rw[v2,v3,v4]at v5;simp only[sl,m2,m3,m4,m5,m6,v2,v3,v4,v5,v6,if_true,lstK];have I2:=I.store oG (Qaa (some ⟨bR,0,none⟩) n n none 0 0 none 0 0 0 (some ⟨bD,0,none⟩) 4 4 (some ⟨bL,0,none⟩) 4 4);refine zR1 7 (fun K hK=> ?_);simp only[zG];rw[if_pos (by rfl)];refine wp_store_row 114 _ _ (by rfl) g (Qaa (some ⟨bR,0,none⟩) n n none 0 0 none 0 0 0 (some ⟨bD,0,none⟩) 4 4 (some ⟨bL,0,none⟩) 4 4) (by rfl) (by rfl) 114 Qae (I.g g oG) (by kernel_rfl) rfl (by simp[Value.oneCell']) ?_;refine hK.out _ _ I2.b1.row4.1 (fun hH=> ?_);refine zdn ?_;go_wp2_with fail
     go_meet
     exact⟨g,bR,bD,bL,_,rfl,Nat.le_refl _,I2.done oR oD oL oG⟩
   case rest=>
    obtain⟨g,bR,bD,bL,Q,rfl,hQ,K0⟩:=hcut;have HK:=hidP K0;have HG:=hidP (GL.nil wc (n:Int) Q hQ);clear K0 hQ I J hmR hmD hmL;go_wp2
    go_loopw [4] (fun i W=>∃(j:Nat) (a:Option Addr) (c:Nat) (gs:List GC) (fp:Nat->Nat->Prop),i= .int .i64 (j:Int)/\j<=2/\Hid (KN w W (n:Int) wi le ke n g bR bD bL Q (.slice a j c))/\Hid (GL W (n:Int) Q (.slice a j c) gs fp)/\Hid (gs.length=j)) (fun i _=>2 - (intOf i).toNat)
    case atStart=>exact⟨0,none,0,[],_,rfl,by omega,HK,HG,rfl⟩
    case round=>
     obtain⟨j,a,c,gs,fp,rfl,hj,hKn,hG,hl⟩:=hrel;by_cases hlt:j<2
     . have hS4:(fun(w' :World)=>w'.cell? ⟨g,2,none⟩=some (.slice a j c)/\w'.cell? ⟨w.heap.size,0,none⟩=some (.int .i64 (n:Int))) wr.drew:=⟨hKn.out.bg.row6.2.2.1,hKn.out.b1.row4.1⟩
       go_wp2_with fail;refine wp_region_noPanic ?_;have hH:(fun(w' :World)=>w'.cell? ⟨g,2,none⟩=some (.slice a j c)/\w'.cell? ⟨w.heap.size,0,none⟩=some (.int .i64 (n:Int))) _:=hS4;refine Qk5 8 (fun(w' :World)=>w'.cell? ⟨g,2,none⟩=some (.slice a j c)/\w'.cell? ⟨w.heap.size,0,none⟩=some (.int .i64 (n:Int))) (by kernel_rfl) ?_;refine' Qei (i:=0) (v:=_) (by kernel_rfl) rfl (by kernel_rfl) (by decide) (by kernel_rfl) (by kernel_rfl) (by kernel_rfl) (fun _ _ _ h=>h) (Or.inl ⟨by rfl,?hy1⟩) (by assumption) ?rest1
       case hy1=>(intro w hSw;(try dsimp only at hSw);go_simp<;>with_reducible rfl)
       try simp only[zX,zY]
       refine' Qei (i:=1) (v:=_) (by kernel_rfl) rfl (by kernel_rfl) (by decide) (by kernel_rfl) (by kernel_rfl) (by kernel_rfl) (fun _ _ _ h=>h) (Or.inl ⟨by rfl,?hy2⟩) (by assumption) ?rest2
       case hy2=>(intro w hSw;(try dsimp only at hSw);go_simp<;>with_reducible rfl)
       try simp only[zX,zY]
       refine' Qei (i:=2) (v:=_) (by kernel_rfl) rfl (by kernel_rfl) (by decide) (by kernel_rfl) (by kernel_rfl) (by kernel_rfl) (fun _ _ _ h=>h) (Or.inl ⟨by rfl,?hy3⟩) (by assumption) ?rest3
       case hy3=>(intro w hSw;(try dsimp only at hSw);go_simp<;>with_reducible rfl)
       try simp only[zX,zY]
       refine' Qei (i:=3) (v:=_) (by kernel_rfl) rfl (by kernel_rfl) (by decide) (by kernel_rfl) (by kernel_rfl) (by kernel_rfl) (fun _ _ _ h=>h) (Or.inl ⟨by rfl,?hy4⟩) (by assumption) ?rest4
       case hy4=>(intro w hSw;(try dsimp only at hSw);go_simp<;>with_reducible rfl)
       try simp only[zX,zY]
       refine Qe5 (i:=4) (by kernel_rfl) rfl (fun K hK=> ?_);simp only[zG]
       go_simp;go_at_call 100;refine(Qk1 (n:Int) _).mono ?_;rintro e w2 ⟨xa,xc,F,rfl,g2,hGp,hF⟩;have gB:Below wr.heap.size wr w2:=via0 g2 (Below.drew (Below.refl _ _));have hF' :∀x∈F,wr.heap.size<=x:=hF;have K2:=hKn.out.below gB;have K2a:=K2.below (Qad (Below.refl _ _) (.cells (Qah 0 none 0 0 none 0 0 xa (newO (n:Int)).length xc) 167));have gBa:Below wr.heap.size wr (w2.alloc (.cells (Qah 0 none 0 0 none 0 0 xa (newO (n:Int)).length xc) 167)):=Qad gB _;have hxP:=gp_new (c:=xc) hGp;have hxPa:=Qdd _ (w2.alloc (.cells (Qah 0 none 0 0 none 0 0 xa (newO (n:Int)).length xc) 167)) (⟨0,none,0,[],none,0,[],xa,xc,newO (n:Int)⟩:GC) _ (fun _=>False) hxP (Offp.of_below (Qad (Below.refl _ _) _)) (fun _ _ e=>e);have hAt:At (w2.alloc (.cells (Qah 0 none 0 0 none 0 0 xa (newO (n:Int)).length xc) 167)) (some ⟨w2.heap.size,0,none⟩) [(⟨0,none,0,[],none,0,[],xa,xc,newO (n:Int)⟩:GC)]:= .inr ⟨w2.heap.size,0,rfl,by simp,one_in w2 (⟨0,none,0,[],none,0,[],xa,xc,newO (n:Int)⟩:GC) 167⟩;have hGa:=hG.out.below gBa;have hll:=hl.out;obtain⟨v',w3,hr,hown,hgrow,hat⟩:=Qbh (P:=Tryz.prog) Tryz.underlying111 infoGC rfl (by decide) (by decide) Q (.slice a j c) gs [(⟨0,none,0,[],none,0,[],xa,xc,newO (n:Int)⟩:GC)] (some ⟨w2.heap.size,0,none⟩) 1 (w2.alloc (.cells (Qah 0 none 0 0 none 0 0 xa (newO (n:Int)).length xc) 167)) hGa.q hGa.own hAt (by rw[hll];simp;omega);simp only[List.length_cons,List.length_nil,Nat.zero_add]at hr hown;have G3:=hG.out.snoc gBa hxPa rfl (fun b hb=>⟨hF' b hb,by have:=hGp.lt b hb;simp;omega⟩) hown hgrow hat;rw[hll]at hown;obtain⟨a',c',rfl,_⟩:=Qan hown;have K3:=K2a.offp (Qb3 hgrow) (fun x hx=>(hGa.own.lt x hx).1);have hgQ:=K3.g0;have HK4:=hidP (K3.set (.slice a' (j+1) c'));have HG4:=hidP (G3.offp (Offp.of_only ((Only.refl g w3).set 2 (.slice a' (j+1) c'))) (fun x hx e=>by omega));have hS5:(fun(w' :World)=>w'.cell? ⟨g,2,none⟩=some (.slice a j c)/\w'.cell? ⟨w.heap.size,0,none⟩=some (.int .i64 (n:Int))) w2:=⟨K2.bg.row6.2.2.1,K2.b1.row4.1⟩;have hS6:(fun(w' :World)=>w'.cell? ⟨g,2,none⟩=some (.slice a j c)/\w'.cell? ⟨w.heap.size,0,none⟩=some (.int .i64 (n:Int))) (w2.alloc (.cells (Qah 0 none 0 0 none 0 0 xa (newO (n:Int)).length xc) 167)):=⟨K2a.bg.row6.2.2.1,K2a.b1.row4.1⟩;have hS7:(fun(w' :World)=>w'.cell? ⟨g,2,none⟩=some (.slice a j c)/\w'.cell? ⟨w.heap.size,0,none⟩=some (.int .i64 (n:Int))) w3:=⟨K3.bg.row6.2.2.1,K3.b1.row4.1⟩;have z2:=K3.bg.row6.2.2.1;have y2:=K3.bg.thaw 2;have HL4:Hid ((gs++ [(⟨0,none,0,[],none,0,[],xa,xc,newO (n:Int)⟩:GC)]).length=j+1):=(by show _=_;rw[List.length_append,hll];first|rfl|done);clear K2 K2a K3 G3 hGa hown hgrow hat hAt hxP hxPa gB gBa hF hF' hGp g2 hll hgQ
       refine hK.out _ _ (.inr hS5) ?_;clear hK K
       try simp only[zX,zY]
       refine Qe5 (i:=5) (by kernel_rfl) rfl (fun K hK=> ?_);simp only[zG];go_simp;refine hK.out _ _ (.inr hS6) ?_;clear hK K
       try simp only[zX,zY]
       refine Qe5 (i:=6) (by kernel_rfl) rfl (fun K hK=> ?_);simp only[zG];rw[if_pos (by rfl)];refine Qag _ _ _ (by rfl) _ _ _ (by rfl) (by rfl) hr ?_;refine hK.out _ _ (.inr hS7) ?_;clear hK K
       try simp only[zX,zY]
       refine' till_freed (i:=7) (v:=_) rfl (by kernel_rfl) (by decide) (by kernel_rfl) (by kernel_rfl) (fun _ _ _ h=>h) (Or.inl ⟨by rfl,?hy5⟩) (by assumption) ?rest5
       case hy5=>(intro w hSw;(try dsimp only at hSw);go_simp<;>with_reducible rfl)
       try simp only[zX,zY]
       refine Qe5 (i:=8) (by kernel_rfl) rfl (fun K hK=> ?_);simp only[zG];go_simp;refine hK.out _ _ (.inl rfl) ?_;clear hK K
       try simp only[zX,zY]
       refine till_done (by kernel_rfl) ?_ _;refine NoPanic.normal ?_;go_wp2;exact⟨⟨j+1,a',c',_,_,by go_num,by omega,HK4,HG4,HL4⟩,by simp[intOf];omega⟩
     . obtain rfl:j=2:=(by omega);obtain⟨u0,u1,u2,u3,u4,u5⟩:=hKn.out.bg.row6;have b2:=hKn.out.b2;obtain⟨r0,r1,r2,r3,r4,r5⟩:=b2.row6;have f0:=b2.thaw 0;have f1:=b2.thaw 1;have f2:=b2.thaw 2;have f3:=b2.thaw 3;have f4:=b2.thaw 4;have f5:=b2.thaw 5;have hne:g≠w.heap.size+1:=(by have:=hKn.out.g0;omega);go_wp2;have e6:=(((((b2.setAt 0 (.slice (some ⟨bR,0,none⟩) n n)).setAt 1 (.slice none 0 0)).setAt 2 (.slice a 2 c)).setAt 3 (.int .i64 0)).setAt 4 (.slice (some ⟨bD,0,none⟩) 4 4)).setAt 5 (.slice (some ⟨bL,0,none⟩) 4 4);have e6' :Blk _ (w.heap.size+1) 114 (Qaa (some ⟨bR,0,none⟩) n n none 0 0 a 2 c 0 (some ⟨bD,0,none⟩) 4 4 (some ⟨bL,0,none⟩) 4 4):=e6;obtain⟨x0,x1,x2,x3,x4,x5⟩:=e6'.row6;refine bodyPost_ret (v:= .agg (Qaa (some ⟨bR,0,none⟩) n n none 0 0 a 2 c 0 (some ⟨bD,0,none⟩) 4 4 (some ⟨bL,0,none⟩) 4 4)) (by simp[results,Tryz.results91,go_sem,x0,x1,x2,x3,x4,x5]) rfl ?_;exact toldK_new rfl hKn.out hG.out hl.out (((((((Offp.refl (fun x=>x=w.heap.size+1) _).set (b:=w.heap.size+1) rfl _ _).set (b:=w.heap.size+1) rfl _ _).set (b:=w.heap.size+1) rfl _ _).set (b:=w.heap.size+1) rfl _ _).set (b:=w.heap.size+1) rfl _ _).set (b:=w.heap.size+1) rfl _ _)
open Items (It)
instance:Cel Cq where
  k:=8
  cs x:= [.int .i64 x.who,.int .i64 x.seq,.int .i64 x.op,.int .i64 x.a,.int .i64 x.b,.int .i64 x.c,.string x.key,.string x.text]
  len _:=rfl
  one x u hu:=by simp at hu;rcases hu with rfl|rfl|rfl|rfl|rfl|rfl|rfl|rfl<;>rfl
theorem In.getCq {w:World} {b o:Nat} {l:List Cq} (h:In w b o l) (i:Nat) (hi:i<l.length):
 w.cell? ⟨b,o+i*8,none⟩=some (.int .i64 l[i].who)/\w.cell? ⟨b,o+i*8+1,none⟩=some (.int .i64 l[i].seq)/\w.cell? ⟨b,o+i*8+2,none⟩=some (.int .i64 l[i].op)/\w.cell? ⟨b,o+i*8+3,none⟩=some (.int .i64 l[i].a)/\w.cell? ⟨b,o+i*8+4,none⟩=some (.int .i64 l[i].b)/\w.cell? ⟨b,o+i*8+5,none⟩=some (.int .i64 l[i].c)/\w.cell? ⟨b,o+i*8+6,none⟩=some (.string l[i].key)/\w.cell? ⟨b,o+i*8+7,none⟩=some (.string l[i].text):=
 ⟨h.cell i hi (f:=0) rfl,h.cell i hi (f:=1) rfl,h.cell i hi (f:=2) rfl,h.cell i hi (f:=3) rfl,h.cell i hi (f:=4) rfl,h.cell i hi (f:=5) rfl,h.cell i hi (f:=6) rfl,h.cell i hi (f:=7) rfl⟩
def okC (c:Cq):Bool:=CmdOk.okB c.who c.seq c.op c.a c.b c.c c.key c.text
theorem okC_R {c:Cq} (h:okC c=true):c.who<0∨CqR c:=by
 unfold okC CmdOk.okB at h;split at h
 . left;omega
 . right
   simp only[CmdOk.restB,CmdOk.inB,CmdOk.textB,Bool.and_eq_true,decide_eq_true_eq]at h;obtain⟨⟨⟨⟨⟨⟨⟨h1,h2⟩,h3⟩,h4⟩,h5⟩,h6⟩,h7⟩,h8⟩:=h;exact⟨h1,⟨by omega,h2.2⟩,h3,h4,h5,h6,h7.2,h8.2⟩
def stepQ (ro wi le ke:Int) (p:PK) (c:Cq):PK:=if okC c then(doQ ro wi le ke p c).1 else p
def allQ (ro wi le ke:Int) (p:PK) (L:List Cq):PK:=L.foldl (stepQ ro wi le ke) p
theorem Qks (ro wi le ke:Int) (p:PK) (L:List Cq) (n:Nat) (h:n<L.length):allQ ro wi le ke p (L.take (n+1))=stepQ ro wi le ke (allQ ro wi le ke p (L.take n)) L[n]:=by
 unfold allQ;rw[List.take_succ_eq_append_getElem h,List.foldl_append];rfl
theorem newK_R {ro:Int} {R:Nat} (h:ro=R) (hR:1<=R/\R<=4):Kin R 0 (newK true ro):=by
 subst h;have hr:((R:Int)).toNat=R:=by omega
 simp only[newK,if_true];refine⟨by simp,?_,by simp,by simp,by simp,?_,⟨by show(0:Int)<=0;omega,by show(0:Int)<=100000;omega⟩,by simp,?_,by simp,?_⟩
 . intro r hr;have:=(List.mem_replicate.1 hr).2;subst this;rfl
 . intro g hg;have:=(List.mem_replicate.1 hg).2;subst this;refine⟨⟨by show(0:Int)<=0;omega,by show(0:Int)<=100000;omega⟩,by simp,by simp,?_,rfl,by simp,?_⟩
   . intro y hy;have h1:y∈newO (R:Int):=hy;unfold newO at h1;split at h1
     . have h0:=(List.mem_replicate.1 h1).2;subst h0;exact⟨by omega,by omega⟩
     . simp at h1
   . show(newO (R:Int)).length=R;unfold newO;rw[if_pos (by simp[inB];omega)];simp
 . intro y hy;have:=(List.mem_replicate.1 hy).2;subst this;exact⟨by omega,by omega⟩
 . intro y hy;have:=(List.mem_replicate.1 hy).2;subst this;exact zAn_p
structure KV (W:World) (x:KC) (S:Nat->Prop):Prop where
  r:Av W x.rA x.rs S
  ri:∀y∈x.rs,Av W y.A y.its S
  m:Av W x.mA x.ms S
  mi:∀y∈x.ms,Av W y.A y.ms S
  g:Av W x.gA x.gs S
  gi:∀y∈x.gs,Av W y.a1 y.m S/\Av W y.a2 y.b S/\Av W y.a3 y.o S
  d:Av W x.dA x.ds S
  l:Av W x.lA x.ls S
section
variable {W W' :World} {x:KC} {S T S' :Nat->Prop}
theorem KV.at (h:KV W x S):KAt W x:=⟨h.r.at,fun y hy=>(h.ri y hy).at,h.m.at,fun y hy=>(h.mi y hy).at,h.g.at,fun y hy=>⟨(h.gi y hy).1.at,(h.gi y hy).2.1.at,(h.gi y hy).2.2.at⟩,h.d.at,h.l.at⟩
theorem KV.offp (h:KV W x S) (k:Offp T W W') (hT:∀b,S b->¬T b):KV W' x S:=
 ⟨h.r.offp k hT,fun y hy=>(h.ri y hy).offp k hT,h.m.offp k hT,fun y hy=>(h.mi y hy).offp k hT,h.g.offp k hT,fun y hy=>⟨(h.gi y hy).1.offp k hT,(h.gi y hy).2.1.offp k hT,(h.gi y hy).2.2.offp k hT⟩,h.d.offp k hT,h.l.offp k hT⟩
theorem KV.below (h:KV W x S) (k:Below W.heap.size W W'):KV W' x S:=h.offp (T:=fun _=>False) (Offp.of_below k) (fun _ _ e=>e)
theorem KV.mono (h:KV W x S) (s:∀b,b<W.heap.size->S b->S' b):KV W x S' :=
 ⟨h.r.mono s,fun y hy=>(h.ri y hy).mono s,h.m.mono s,fun y hy=>(h.mi y hy).mono s,h.g.mono s,fun y hy=>⟨(h.gi y hy).1.mono s,(h.gi y hy).2.1.mono s,(h.gi y hy).2.2.mono s⟩,h.d.mono s,h.l.mono s⟩
theorem Pl.av {α:Type} [Cel α] {A:Option Addr} {l:List α} {b:Nat} (h:Pl W A l b) (hS:S b):Av W A l S:= .inr ⟨b,0,h.a,h.lt,h.i,hS⟩
theorem KQ.kv {br bg bd bl:Nat} (h:KQ W x S br bg bd bl):KV W x S:=
 ⟨h.r.av h.s.1,fun y hy=>(h.ri y hy).mono (fun _ _ e=>e.1),h.m.mono (fun _ _ e=>e.1),fun y hy=>(h.mi y hy).mono (fun _ _ e=>e.1),h.g.av h.s.2.1,fun y hy=>⟨(h.gi y hy).1.mono (fun _ _ e=>e.1),(h.gi y hy).2.1.mono (fun _ _ e=>e.1),(h.gi y hy).2.2.mono (fun _ _ e=>e.1)⟩,h.d.av h.s.2.2.1,h.l.av h.s.2.2.2⟩
theorem Own.av {α:Type} [Cel α] {P:World->α->(Nat->Prop)->Prop} {A:Option Addr} {l:List α} (h:Own P W A l S):Av W A l S:=
 h.imp id fun⟨b,o,fp,e,hs,hf,hO⟩=>⟨b,o,e,hO.lt,hO.lst,hs⟩
theorem Own.mem {α:Type} [Cel α] {P:World->α->(Nat->Prop)->Prop} {A:Option Addr} {l:List α} (h:Own P W A l S) {y:α} (hy:y∈l):∃F:Nat->Prop,P W y F/\∀z,F z->S z:=by
 rcases h with h|⟨b,o,fp,e,hs,hf,hO⟩
 . subst h;simp at hy
 . obtain⟨i,hi,rfl⟩:=List.mem_iff_getElem.1 hy;exact⟨fp i,hO.sub i hi,hf i⟩
theorem KOwn.kv (h:KOwn W x S):KV W x S:=by
 obtain⟨col,h⟩:=h;refine⟨h.r.av.mono (fun _ _ e=>e.1),fun y hy=> ?_,h.m.av.mono (fun _ _ e=>e.1),fun y hy=> ?_,h.g.av.mono (fun _ _ e=>e.1),fun y hy=> ?_,Av.of_sub h.d (fun _ e=>e.1),Av.of_sub h.l (fun _ e=>e.1)⟩
 . obtain⟨F,hF,hS⟩:=h.r.mem hy;exact Av.of_sub hF (fun z hz=>(hS z hz).1)
 . obtain⟨F,hF,hS⟩:=h.m.mem hy;exact Av.of_sub hF (fun z hz=>(hS z hz).1)
 . obtain⟨F,⟨S1,S2,S3,i1,i2,i3,_,_,_,s1,s2,s3⟩,hS⟩:=h.g.mem hy;exact⟨Av.of_sub s1 (fun z hz=>(hS z (i1 z hz)).1),Av.of_sub s2 (fun z hz=>(hS z (i2 z hz)).1),Av.of_sub s3 (fun z hz=>(hS z (i3 z hz)).1)⟩
end
theorem Qem {α:Type} [Cel α] {B g:Nat} {W:World} {t:TypeId} (h:B<=W.heap.size) (hg:g=W.heap.size):(W.alloc (.cells #[] t)).ownsRow B t (Cel.k α) (.slice (some ⟨g,0,none⟩) ([]:List α).length 0) ([]:List α).length (flat ([]:List α)):=by
 subst hg;exact⟨by simp[flat],.inr ⟨W.heap.size,0,#[],rfl,h,Blk.new W t #[],by simp,by simp[maxLen],by simp,by simp[flat]⟩⟩
structure Al (w W:World) (PT:Nat) (sc:Array Value) (a:Option Addr) (c:Nat) (xs:List An) (y:KC) (lo hi:Nat):Prop where
  sb:Blk W w.heap.size 108 sc
  rb:Blk W (w.heap.size+1) 114 Qae
  kb:Blk W PT 114 y.cells
  kv:KV W y (fun b=>lo<=b/\b<hi)
  hi' :hi<=W.heap.size
  own:W.ownsRow (w.heap.size+1+1) 169 4 (.slice a xs.length c) xs.length (flat xs)
  ob:∀z,(Value.slice a xs.length c).ownBlock=some z->¬(lo<=z/\z<hi)/\z≠PT
  bl:Below w.heap.size w W
  pt:w.heap.size+1<PT/\¬(lo<=PT/\PT<hi)
  lo' :w.heap.size+1<lo
section
variable {w W W' :World} {PT:Nat} {sc:Array Value} {a:Option Addr} {c:Nat} {xs:List An} {y:KC} {lo hi:Nat}
theorem Al.below (h:Al w W PT sc a c xs y lo hi) (g:Below W.heap.size W W'):Al w W' PT sc a c xs y lo hi:=
 ⟨h.sb.below g h.sb.lt,h.rb.below g h.rb.lt,h.kb.below g h.kb.lt,h.kv.below g,Nat.le_trans h.hi' g.size,Qar h.own g,h.ob,via0 g h.bl,h.pt,h.lo'⟩
theorem Al.alloc (h:Al w W PT sc a c xs y lo hi) (ob:Obj):Al w (W.alloc ob) PT sc a c xs y lo hi:=h.below (Qad (Below.refl _ _) _)
theorem Al.drew (h:Al w W PT sc a c xs y lo hi):Al w W.drew PT sc a c xs y lo hi:=h.below (Below.refl _ _).drew
theorem Al.only {q:Nat} (h:Al w W PT sc a c xs y lo hi) (k:Only q W W') (hq:w.heap.size+1<q/\q≠PT/\¬(lo<=q/\q<hi)) (ho:(Value.slice a xs.length c).ownBlock≠some q):Al w W' PT sc a c xs y lo hi:=
 ⟨h.sb.only k (by omega),h.rb.only k (by omega),h.kb.only k (fun e=>hq.2.1 e.symm),h.kv.offp (Offp.of_only k) (fun b hb e=>hq.2.2 (e▸hb)),Nat.le_trans h.hi' k.size,Qbb h.own (Offp.of_only k) (fun z hz e=>ho (by rw[hz,e])),h.ob,h.bl.trans ((Off.of_only k).toBelow (by simp;omega) h.bl.size),h.pt,h.lo'⟩
theorem Al.setK (h:Al w W PT sc a c xs y lo hi) {y' :KC} {lo2 hi2:Nat} (k:Only PT W W') (hb:Blk W' PT 114 y'.cells) (hv:KV W y' (fun b=>lo2<=b/\b<hi2)) (h1:hi2<=W.heap.size) (h2:∀z,(Value.slice a xs.length c).ownBlock=some z->z<lo2) (h3:PT<lo2):Al w W' PT sc a c xs y' lo2 hi2:=by
 have hp:=h.pt;exact⟨h.sb.only k (by omega),h.rb.only k (by omega),hb,hv.offp (Offp.of_only k) (fun b hb e=>by omega),Nat.le_trans h1 k.size,Qbb h.own (Offp.of_only k) (fun z hz e=>(h.ob z hz).2 e),fun z hz=>⟨by have:=h2 z hz;omega,(h.ob z hz).2⟩,h.bl.trans ((Off.of_only k).toBelow (by simp;omega) h.bl.size),⟨hp.1,by omega⟩,by omega⟩
theorem Al.app (h:Al w W PT sc a c xs y lo hi) (x:An) (cs:Array Value) (hcs:cs.toList=Cel.cs x) (hx:xs.length<=1000000):
 ∃a2 c2 W2,(Builtin.append_ #[112,112] 112 #[.slice a xs.length c,.slice (some ⟨W.heap.size,0,none⟩) 1 1]).run Tryz.prog (W.alloc (.cells cs 169))= .ok (.slice a2 (xs.length+1) c2) W2/\Al w W2 PT sc a2 c2 (xs++ [x]) y lo hi:=by
 have h1:=h.alloc (.cells cs 169);have hX:At (W.alloc (.cells cs 169)) (some ⟨W.heap.size,0,none⟩) [x]:=by
  refine .inr ⟨_,0,rfl,by simp,fun j u hu=> ?_⟩;rw[Qda,← hcs]at hu;rw[Nat.zero_add];exact(Blk.new W 169 cs).cell (by simpa using hu)
 have hsz:=h1.bl.size;have hrl:=h1.rb.lt;obtain⟨v',W2,hr,hown,hgrow,hob⟩:=Qbh (P:=Tryz.prog) (α:=An) Tryz.underlying112 infoAn rfl (by decide) (by decide) (w.heap.size+1+1) (.slice a xs.length c) xs [x] (some ⟨W.heap.size,0,none⟩) 1 _ (by omega) h1.own hX (by simp;omega);simp only[List.length_cons,List.length_nil,Nat.zero_add]at hown hr;obtain⟨a2,c2,rfl,_⟩:=Qan hown;have ko:=Qb3 hgrow;have hlo:∀z,(Value.slice a xs.length c).ownBlock=some z->w.heap.size+1<z:=fun z hz=>(h.own.lt z hz).1
 have hlen:(xs++ [x]).length=xs.length+1:=by simp
 refine⟨a2,c2,W2,hr,⟨h1.sb.offp ko (fun e=>by have:=hlo _ e;omega),h1.rb.offp ko (fun e=>by have:=hlo _ e;omega),h1.kb.offp ko (fun e=>(h.ob _ e).2 rfl),h1.kv.offp ko (fun b hb e=>(h.ob _ e).1 hb),Nat.le_trans h1.hi' ko.size,by rw[hlen];exact hown,?_,h1.bl.trans (ko.toBelow (fun z hz=>by have:=hlo _ hz;omega) h1.bl.size),h.pt,h.lo'⟩⟩;intro z hz;rw[hlen]at hz;rcases hob with h' |h'
 . rw[h']at hz;exact h.ob z hz
 . rw[h']at hz;simp only[World.size_alloc,Option.some.injEq]at hz;have h2:=h.hi';have h3:=h.kb.lt;exact⟨by omega,by omega⟩
end
theorem newIn {α:Type} [Cel α] (W:World) (L:List α) (cs:Array Value) (tt:TypeId) (h:cs.toList=flat L):In (W.alloc (.cells cs tt)) W.heap.size 0 L:=by
 intro j v hv;rw[← h]at hv;exact(Blk.new W tt cs).cell (i:=0+j) (by simpa using hv)
theorem Qjp {B:Nat} {W:World} {a:Option Addr} {c n k:Nat} {t:TypeId} {xs:List Value} (h:W.ownsRow B t k (.slice a n c) n xs):n<=c/\c<=9223372036854775807:=by
 rcases h.2 with⟨e,h0⟩|⟨g,c',cur,e,_,_,hc,hm,_⟩
 . cases e;omega
 . cases e;exact⟨hc,by simpa [maxLen]using Nat.le_trans hm (by simp[maxLen])⟩
theorem Qen {B:Nat} {W W' :World} {a:Option Addr} {n c k m:Nat} {t:TypeId} {xs:List Value} (hO:W.ownsRow B t k (.slice a n c) m xs) (hB:B<=W.heap.size) (g:W.grownBy W' (Value.slice a n c).ownBlock):Below B W W' :=
 ⟨g.os,g.tape,g.output,g.size,fun j hj=>g.block j (by omega) (Qa6 hO hj)⟩
theorem Qfp {C B:Nat} {w W W' :World} (h:Only C w W) (hB:w.heap.size<=B) (g:Below B W W'):Only C w W' :=
 ⟨g.os.trans h.os,g.tape.trans h.tape,g.output.trans h.output,Nat.le_trans h.size g.size,fun k hk hne=>(g.block k (by omega)).trans (h.block k hk hne)⟩
theorem Drawn.under {W W' :World} {C cap n:Nat} {A:Option Addr} {l:List By} (h:Drawn W C A cap l) (g:Below n W W') (hC:C<n):Drawn W' C A cap l:=by
 refine⟨?_,h.code.imp id fun⟨b,o,e,hb,hi⟩=>⟨b,o,e,hb,fun j v hv=>(World.cell?_of_block (a:=⟨b,o+j,none⟩) (g.block b (by omega))).trans (hi j v hv)⟩,h.len,h.byte⟩;obtain⟨i,x,hi,hb⟩:=h.cur;exact⟨i,x,hi,(g.block C hC).trans hb⟩
theorem u8_small {x:Int} (h0:0<=x) (h1:x<=255):((u8 x).toNat:Int)=x:=by rw[u8_toNat];omega
def Sat (C:Nat) (w:World) (a:Option Addr) (L:List UInt8):Prop:=At w a L/\(L= []∨∀b o,a=some ⟨b,o,none⟩->b≠C)
theorem Sat.only {C:Nat} {w w' :World} {a:Option Addr} {L:List UInt8} (h:Sat C w a L) (g:Only C w w'):Sat C w' a L:=by
 refine⟨?_,h.2⟩;rcases h.1 with e|⟨b,o,e,hb,hi⟩
 . exact .inl e
 . rcases h.2 with e2|h2
   . exact .inl e2
   . exact .inr ⟨b,o,e,Nat.lt_of_lt_of_le hb g.size,fun j v hv=>(g.cell (p:=⟨b,o+j,none⟩) hb (h2 b o e)).trans (hi j v hv)⟩
theorem Qh1 {B C:Nat} {w:World} {a:Option Addr} {c:Nat} {L:List UInt8} {t:TypeId} (h:w.ownsRow B t 1 (.slice a L.length c) L.length (flat L)) (hC:C<B):Sat C w a L:=by
 refine⟨(Qa0 h).at,?_⟩;rcases h.2 with⟨e,h0⟩|⟨g,c',cur,e,hB,_⟩
 . exact .inl (List.length_eq_zero_iff.1 h0)
 . cases e;refine .inr fun b o e2=> ?_
   cases e2;omega
theorem cut_to (a:Option Addr) (n c m:Nat) (hm:m<=c) (hc:c<=9223372036854775807) (W:World):
 (Instr.slice 22 (.slice a n c) none (some (.int .i64 (m:Int))) none).run Tryz.prog W= .ok (.slice a m c) W:=by
 obtain⟨i0,hi,hz0,hz1,hz2⟩:=info_parts infoB;have hsz:∀W:World,(sizeOf 5).run Tryz.prog W= .ok 1 W:=fun W=>by simp[sizeOf,typeInfo,hi,hz1]
 cases a with
 |none=>simp[Instr.slice,run_underlying Tryz.underlying22,Instr.sliceBounds,Instr.sliceBound,asIntOf,hsz,hm]
 |some v=>
  simp[Instr.slice,run_underlying Tryz.underlying22,Instr.sliceBounds,Instr.sliceBound,asIntOf,hsz,hm];intro _;rfl
theorem Qkv {w:World} {a:Option Addr} {L:List UInt8} (h:At w a L) (n:Nat):At w a (L.take n):=by
 rcases h with rfl|⟨b,o,e,hb,hi⟩
 . exact .inl (by simp)
 . refine .inr ⟨b,o,e,hb,?_⟩;intro j v hv;refine hi j v ?_;rw[Qdw]at hv ⊢;rw[List.getElem?_map]at hv ⊢;have hj:j<(L.take n).length:=by
    cases hq:(L.take n)[j]? with
    |none=>rw[hq]at hv;cases hv
    |some x=>exact(List.getElem?_eq_some_iff.1 hq).1
   rw[List.getElem?_take_of_lt (by rw[List.length_take]at hj;omega)]at hv;exact hv
theorem sat_take {C:Nat} {w:World} {a:Option Addr} {L:List UInt8} (h:Sat C w a L) (n:Nat):Sat C w a (L.take n):=⟨Qkv h.1 n,h.2.imp (fun e=>by rw[e];simp) id⟩
structure DL {α:Type} [Cel α] (t:TypeId) (w W:World) (C cap:Nat) (A:Option Addr) (l:List By) (a:Option Addr) (c:Nat) (xs:List α):Prop where
  on:Only C w W
  dr:Drawn W C A cap l
  own:W.ownsRow w.heap.size t (Cel.k α) (.slice a xs.length c) xs.length (flat xs)
  hC:C<w.heap.size
section
variable {α:Type} [Cel α] {t:TypeId} {w W W' :World} {C cap:Nat} {A:Option Addr} {l:List By} {a:Option Addr} {c:Nat} {xs:List α}
theorem DL.size (h:DL t w W C cap A l a c xs):w.heap.size<=W.heap.size:=h.on.size
theorem DL.below (h:DL t w W C cap A l a c xs) (g:Below W.heap.size W W'):DL t w W' C cap A l a c xs:=⟨h.on.below g,h.dr.below g,Qar h.own g,h.hC⟩
theorem DL.alloc (h:DL t w W C cap A l a c xs) (ob:Obj):DL t w (W.alloc ob) C cap A l a c xs:=h.below (Qad (Below.refl _ _) _)
theorem DL.only (h:DL t w W C cap A l a c xs) (k:Only C W W') (d:Drawn W' C A cap l):DL t w W' C cap A l a c xs:=
 ⟨h.on.trans k,d,Qbb h.own (Offp.of_only k) (fun y hy e=>by have:=(h.own.lt y hy).1;have:=h.hC;omega),h.hC⟩
theorem DL.box {q:Nat} (h:DL t w W C cap A l a c xs) (k:Only q W W') (hq:w.heap.size<=q) (ho:(Value.slice a xs.length c).ownBlock≠some q):DL t w W' C cap A l a c xs:=
 ⟨Qaq h.on k hq,h.dr.only k (by have:=h.hC;omega),Qbb h.own (Offp.of_only k) (fun y hy e=>ho (by rw[hy,e])),h.hC⟩
theorem DL.app {ts:TypeId} {z:Value} {bytes:Nat} (hu:Tryz.prog.underlying ts=some (.slice t)) (hinfo:(Tryz.prog.info? t).map (fun i=>(i.zero,i.size,i.bytes))=some (some z,Cel.k α,bytes)) (hz:z.cells.size=Cel.k α) (hk:0<Cel.k α) (hby:bytes<=1000)
 (h:DL t w W C cap A l a c xs) (x:α) (cs:Array Value) (hcs:cs.toList=Cel.cs x) (hx:xs.length<=1000000):
 ∃a2 c2 W2,(Builtin.append_ #[ts,ts] ts #[.slice a xs.length c,.slice (some ⟨W.heap.size,0,none⟩) 1 1]).run Tryz.prog (W.alloc (.cells cs t))= .ok (.slice a2 (xs.length+1) c2) W2/\DL t w W2 C cap A l a2 c2 (xs++ [x]):=by
 have h1:=h.alloc (.cells cs t);have hX:At (W.alloc (.cells cs t)) (some ⟨W.heap.size,0,none⟩) [x]:=by
  refine .inr ⟨_,0,rfl,by simp,fun j u hu=> ?_⟩;rw[Qda,← hcs]at hu;rw[Nat.zero_add];exact(Blk.new W t cs).cell (by simpa using hu)
 have hs:=h1.size;obtain⟨v',W2,hr,hown,hgrow,hob⟩:=Qbh (P:=Tryz.prog) (α:=α) hu hinfo hz hk hby w.heap.size (.slice a xs.length c) xs [x] (some ⟨W.heap.size,0,none⟩) 1 _ hs h1.own hX (by simp;omega);simp only[List.length_cons,List.length_nil,Nat.zero_add]at hown hr;obtain⟨a2,c2,rfl,_⟩:=Qan hown;have ko:=Qb3 hgrow;have g:Below w.heap.size (W.alloc (.cells cs t)) W2:=ko.toBelow (fun z hz=>(h.own.lt z hz).1) hs;have hlen:(xs++ [x]).length=xs.length+1:=by simp
 exact⟨a2,c2,W2,hr,Qfp h1.on (Nat.le_refl _) g,h1.dr.under g h.hC,by rw[hlen];exact hown,h.hC⟩
end
theorem belowG_any (C:Nat) (A:Option Addr) (cap:Nat) (l:List By) (n:Int) (h1:1<=n) (h2:n<=1000000000) (w:World) (hD:Drawn w C A cap l):
 Calls Tryz.prog 22 #[.pointer (some ⟨C,0,none⟩),.int .i64 n] w fun e w' =>∃x:Int,e= .returned (.int .i64 x)/\0<=x/\x<n/\Only C w w' /\Drawn w' C A cap l:=by
 by_cases h3:n<=256
 . exact Qbc C A cap l n h1 h3 w hD
 have HD:=hidP hD;clear hD;have hn:¬n<=0:=by omega
 have hz:¬n=0:=by omega
 go_enter Tryz.func22,Tryz.ntmps22;go_wp2_with fail;refine(Qfk C A cap l _ HD.out).mono ?_;rintro e w1 ⟨x,rfl,hx0,hx1,k1,d1⟩;have K1:=hidP k1;have D1:=hidP d1;clear k1 d1 HD;go_wp2_with fail;refine(Qfk C A cap l _ D1.out).mono ?_;rintro e w2 ⟨y,rfl,hy0,hy1,k2,d2⟩;have K2:=hidP (K1.out.trans k2);have D2:=hidP d2;clear k2 d2 D1 K1;go_wp2_with fail;refine(Qfk C A cap l _ D2.out).mono ?_;rintro e w3 ⟨z,rfl,hz0,hz1,k3,d3⟩;have K3:=hidP (K2.out.trans k3);have D3:=hidP d3;clear k3 d3 D2 K2;go_wp2_with fail;refine(Qfk C A cap l _ D3.out).mono ?_;rintro e w4 ⟨v,rfl,hv0,hv1,k4,d4⟩;have K4:=hidP (K3.out.trans k4);have D4:=hidP d4;clear k4 d4 D3 K3;have hm0:0<=(x*16777216+y*65536+z*256+v) % n:=Int.emod_nonneg _ hz;have hm1:(x*16777216+y*65536+z*256+v) % n<n:=Int.emod_lt_of_pos _ (by omega);go_wp2;go_ret;exact⟨_,rfl,hm0,hm1,K4.out,D4.out⟩
def Src (C B:Nat) (W:World) (a:Option Addr) (L:List UInt8):Prop:=L= []∨∃b o,a=some ⟨b,o,none⟩/\b<B/\b≠C/\b<W.heap.size/\In W b o L
theorem Src.at {C B:Nat} {W:World} {a:Option Addr} {L:List UInt8} (h:Src C B W a L):At W a L:=h.imp id fun⟨b,o,e,_,_,hb,hi⟩=>⟨b,o,e,hb,hi⟩
theorem src_of {C:Nat} {W:World} {a:Option Addr} {L:List UInt8} (h:Sat C W a L):Src C W.heap.size W a L:=by
 rcases h.1 with e|⟨b,o,e,hb,hi⟩
 . exact .inl e
 . rcases h.2 with e2|h2
   . exact .inl e2
   . exact .inr ⟨b,o,e,hb,h2 b o e,hb,hi⟩
theorem Src.under {C B:Nat} {W W' :World} {a:Option Addr} {L:List UInt8} (h:Src C B W a L) (g:Below B W W'):Src C B W' a L:=h.imp id fun⟨b,o,e,hB,hne,hb,hi⟩=>⟨b,o,e,hB,hne,Nat.lt_of_lt_of_le hb g.size,fun j v hv=>(World.cell?_of_block (a:=⟨b,o+j,none⟩) (g.block b hB)).trans (hi j v hv)⟩
theorem Src.only {C B:Nat} {W W' :World} {a:Option Addr} {L:List UInt8} (h:Src C B W a L) (g:Only C W W'):Src C B W' a L:=h.imp id fun⟨b,o,e,hB,hne,hb,hi⟩=>⟨b,o,e,hB,hne,Nat.lt_of_lt_of_le hb g.size,fun j v hv=>(g.cell (p:=⟨b,o+j,none⟩) hb hne).trans (hi j v hv)⟩
structure Dn (w:World) (C cap:Nat) (A:Option Addr) (l:List By) (a a2:Option Addr) (P Q:List UInt8) (B:Nat) (W:World):Prop where
  on:Only C w W
  dr:Drawn W C A cap l
  sp:Src C B W a P
  sq:Src C B W a2 Q
  le:B<=W.heap.size
  hw:w.heap.size<=B
  hC:C<B
section
variable {w:World} {C cap:Nat} {A:Option Addr} {l:List By} {a a2:Option Addr} {P Q:List UInt8} {B:Nat} {W W' :World}
theorem Dn.under (h:Dn w C cap A l a a2 P Q B W) (g:Below B W W'):Dn w C cap A l a a2 P Q B W' :=⟨Qfp h.on h.hw g,h.dr.under g h.hC,h.sp.under g,h.sq.under g,Nat.le_trans h.le g.size,h.hw,h.hC⟩
theorem Dn.alloc (h:Dn w C cap A l a a2 P Q B W) (o:Obj):Dn w C cap A l a a2 P Q B (W.alloc o):=h.under ((Qad (Below.refl _ W) o).mono h.le)
theorem Dn.drew (h:Dn w C cap A l a a2 P Q B W):Dn w C cap A l a a2 P Q B W.drew:=h.under (Below.refl _ W).drew
theorem Dn.only (h:Dn w C cap A l a a2 P Q B W) (g:Only C W W') (d:Drawn W' C A cap l):Dn w C cap A l a a2 P Q B W' :=⟨h.on.trans g,d,h.sp.only g,h.sq.only g,Nat.le_trans h.le g.size,h.hw,h.hC⟩
end
structure Jn (C z:Nat) (W:World):Prop where
  lt:z<W.heap.size
  ne:z≠C
  cells:In W z 0 ([⟨0⟩,⟨1⟩,⟨128⟩,⟨3⟩]:List Nu)
theorem Jn.alloc {C z:Nat} {W:World} (h:Jn C z W) (o:Obj):Jn C z (W.alloc o):=⟨by have:=h.lt;simp;omega,h.ne,h.cells.below h.lt (Qad (Below.refl _ _) o)⟩
theorem Jn.grown {C z:Nat} {W W' :World} {row:Option Nat} (h:Jn C z W) (g:W.grownBy W' row) (hne:some z≠row):Jn C z W' :=⟨Nat.lt_of_lt_of_le h.lt g.size,h.ne,fun j v hv=>g.cell (h.cells j v hv) hne⟩
theorem Jn.new {w:World} {C cap:Nat} {A:Option Addr} {l:List By} {a a2:Option Addr} {P Q:List UInt8} {B:Nat} {W:World} {z:Nat} (h:Dn w C cap A l a a2 P Q B W) (hz:z=W.heap.size):Jn C z (W.alloc (.cells (Qaj 0 1 128 3) 3)):=by
 subst hz;exact⟨by simp,by have:=h.hC;have:=h.le;omega,newIn W ([⟨0⟩,⟨1⟩,⟨128⟩,⟨3⟩]:List Nu) (Qaj 0 1 128 3) 3 rfl⟩
theorem Qgy {B g:Nat} {W:World} (h:B<=W.heap.size) (hg:g=W.heap.size):(W.alloc (.cells #[] 5)).ownsRow B 5 1 (.slice (some ⟨g,0,none⟩) ([]:List UInt8).length 0) ([]:List UInt8).length (flat ([]:List UInt8)):=by
 subst hg;exact⟨by simp[flat],.inr ⟨W.heap.size,0,#[],rfl,h,Blk.new W 5 #[],by simp,by simp[maxLen],rfl,rfl⟩⟩
theorem own_one {W:World} {z:Int} (h0:0<=z) (h1:z<=255):(W.alloc (.cells #[.int .u8 z] 5)).ownsRow W.heap.size 5 1 (.slice (some ⟨W.heap.size,0,none⟩) [u8 z].length 1) [u8 z].length (flat [u8 z]):=by
 have e:flat [u8 z]= [.int .u8 z]:=by
  show [Value.int .u8 ((u8 z).toNat:Int)]=_;rw[u8_small h0 h1]
 rw[e];exact⟨by simp,.inr ⟨W.heap.size,1,#[.int .u8 z],rfl,Nat.le_refl _,Blk.new W 5 _,by simp,by simp[maxLen],rfl,rfl⟩⟩
theorem Qk9 {B n:Nat} {W W' :World} {v:Value} {t:TypeId} {k m:Nat} {xs:List Value} (h:W.ownsRow B t k v m xs) (g:Below n W W') (hn:∀x,v.ownBlock=some x->x<n):W'.ownsRow B t k v m xs:=by
 refine⟨h.1,?_⟩;rcases h.2 with hz|⟨b,c',cur,e,hB,hblk,hr⟩
 . exact .inl hz
 . subst e;exact .inr ⟨b,c',cur,rfl,hB,(g.block b (hn b rfl)).trans hblk,hr⟩
theorem lt_of_new {B:Nat} {W:World} {v:Value} {t:TypeId} {k m:Nat} {xs:List Value} (h:W.ownsRow B t k v m xs) (x:Nat) (hx:v.ownBlock=some x):x<W.heap.size:=Qcf h hx
theorem Qhx {z:Int} (h0:0<=z) (h1:z<=255):IntKind.u8.wrap z=z:=by
 simp[IntKind.wrap,IntKind.signed,IntKind.bits];omega
theorem four_byte {y:Nu} (h:y∈([⟨0⟩,⟨1⟩,⟨128⟩,⟨3⟩]:List Nu)):0<=y.n/\y.n<=255:=by
 simp only[List.mem_cons,List.not_mem_nil,or_false]at h;rcases h with rfl|rfl|rfl|rfl<;>exact⟨by decide,by decide⟩
theorem cut_behind {C:Nat} {W0:World} (a:Option Addr) (c:Nat) (L:List UInt8) (m:Nat) (hm:m<=L.length) (h1:L.length<=c) (h2:c<=9223372036854775807) (hS:Sat C W0 a L):
 ∃a2,(∀W:World,(Instr.slice 22 (.slice a L.length c) (some (.int .i64 (m:Int))) none none).run Tryz.prog W= .ok (.slice a2 (L.drop m).length (c - m)) W)/\Sat C W0 a2 (L.drop m):=by
 obtain⟨i0,hi,hz0,hz1,hz2⟩:=info_parts infoB;have hsz:∀W:World,(sizeOf 5).run Tryz.prog W= .ok 1 W:=fun W=>by simp[sizeOf,typeInfo,hi,hz1]
 rcases src_of hS with rfl|⟨b,o,rfl,hB,hne,hb,hin⟩
 . simp only[List.length_nil,Nat.le_zero]at hm;subst hm;refine⟨a,fun W=> ?_,.inl (by simp),.inl (by simp)⟩;cases a with
   |none=>simp[Instr.slice,run_underlying Tryz.underlying22,Instr.sliceBounds,Instr.sliceBound,asIntOf,hsz]
   |some a=>
    simp[Instr.slice,run_underlying Tryz.underlying22,Instr.sliceBounds,Instr.sliceBound,asIntOf,hsz];intro _;rfl
 . by_cases h:c=m
   . have hmL:m=L.length:=(by omega);refine⟨some ⟨b,o,none⟩,fun W=> ?_,.inl (by simp;omega),.inl (by simp;omega)⟩;simp[Instr.slice,run_underlying Tryz.underlying22,Instr.sliceBounds,Instr.sliceBound,asIntOf,hsz,h,hm,h1]
     try omega
   . refine⟨some ⟨b,o+m,none⟩,fun W=> ?_,.inr ⟨b,o+m,rfl,hb,?_⟩,.inr fun b' o' e=>by cases e;exact hne⟩
     . simp[Instr.slice,run_underlying Tryz.underlying22,Instr.sliceBounds,Instr.sliceBound,asIntOf,hsz,h,hm,h1]
       try rw[Addr.add_mid]
     . intro j v hv;rw[Qdw]at hv;have:=hin (m+j) v (by
        rw[Qdw,List.getElem?_map];rw[List.getElem?_map,List.getElem?_drop]at hv;exact hv)
       rwa [← Nat.add_assoc]at this
theorem dent_any (C:Nat) (A:Option Addr) (cap:Nat) (l:List By) (a:Option Addr) (c:Nat) (L:List UInt8) (hL:L.length<=500000) (h1:L.length<=c) (h2:c<=9223372036854775807) (w:World) (hD:Drawn w C A cap l) (hS:Sat C w a L):
 Calls Tryz.prog 11 #[.pointer (some ⟨C,0,none⟩),.slice a L.length c] w fun e w' =>∃(L' :List UInt8) (a' :Option Addr) (c' :Nat),e= .returned (.slice a' L'.length c')/\L'.length<=L.length+1/\L'.length<=c' /\c' <=9223372036854775807/\Sat C w' a' L' /\Only C w w' /\Drawn w' C A cap l:=by
 have hC:=hD.lt;have HD:=hidP hD;have HS:=hidP hS;clear hD hS;go_enter Tryz.func11,Tryz.ntmps11;go_wp2_with fail;refine(belowG_any C A cap l ((L.length:Int)+1) (by omega) (by omega) _ HD.out).mono ?_;rintro e w1 ⟨m,rfl,hm0,hm1,o1,d1⟩;obtain⟨m,rfl⟩:∃n:Nat,m=(n:Int):=⟨m.toNat,by omega⟩
 have hle:m<=L.length:=by omega
 have HS1:=hidP (HS.out.only o1);have HO1:=hidP o1;have HD1:=hidP d1;clear o1 d1 HS HD;go_wp2_with fail;refine(Qbc C A cap l 5 (by omega) (by omega) _ HD1.out).mono ?_;rintro e w2 ⟨q,rfl,hq0,hq1,o2,d2⟩;have HS2:=hidP (HS1.out.only o2);have HO2:=hidP (HO1.out.trans o2);have HD2:=hidP d2;have s2:=HO2.out.size;clear o2 d2 HS1 HO1 HD1;have hcut:∀W:World,(Instr.slice 22 (.slice a L.length c) none (some (.int .i64 (m:Int))) none).run Tryz.prog W= .ok (.slice a (L.take m).length c) W:=fun W=>by
  have e:(L.take m).length=m:=by rw[List.length_take];omega
  rw[e];exact cut_to a L.length c m (by omega) h2 W
 by_cases e0:q=0
 . subst e0;have HT:=hidP (sat_take HS2.out m);have hlm:(L.take m).length<=L.length+1:=(by rw[List.length_take];omega);have hlc:(L.take m).length<=c:=(by rw[List.length_take];omega);generalize L.take m=P at*;go_wp2;go_ret;exact⟨P,a,c,rfl,hlm,hlc,h2,HT.out,HO2.out,HD2.out⟩
 by_cases e1:q=1
 . subst e1;obtain⟨a2,hcut2,hS2⟩:=cut_behind a c L m hle h1 h2 HS2.out;have I:Dn w C cap A l a a2 (L.take m) (L.drop m) w2.heap.size w2.drew:=Dn.drew ⟨HO2.out,HD2.out,src_of (sat_take HS2.out m),src_of hS2,Nat.le_refl _,s2,by omega⟩;have hPQ:(L.take m).length+(L.drop m).length=L.length:=(by rw[List.length_take,List.length_drop];omega);have hCB:C<w2.heap.size:=(by omega);clear HO2 HD2 HS2 hS2;generalize L.take m=P at*;generalize L.drop m=Q at*;go_wp2_with fail;refine wp_region_noPanic ?_;refine wp_region_held_drew (S:=(fun _=>True)) (by kernel_rfl) ?_ (fun hH=> ?_)
   . exact trivial
   refine ztk [1,2,3,5,10,11,12] ?_;repeat(refine ztn (h:= ?_);try simp only[zX,zY])
   refine zte ?_;refine zR2 0 6 (fun K hK=> ?_) (fun K hK=> ?_)
   focus
    simp only[zG];go_simp;have O:=hidP (Qgy (g:=w2.heap.size) I.le (by first|rfl|simp));have I:=I.alloc (.cells #[] 5);refine hK.out _ _ trivial fun hH=> ?_;clear hK K;try simp only[zX,zY]
    refine zR2 4 6 (fun K hK=> ?_) (fun K hK=> ?_)
    focus
     simp only[zG];obtain⟨x4,c4,W4,hr4,own4,g4⟩:=Qcr (xs:= []) (c' :=c) I.le O.out I.sp.at (by simp;omega);rw[List.nil_append]at hr4 own4;rw[if_pos (by rfl)];refine Qag _ _ _ (by rfl) _ _ _ (by rfl) (by rfl) hr4 ?_;have I:=I.under (Qen O.out I.le g4);have O:=hidP own4;clear hr4 own4 g4;refine hK.out _ _ trivial fun hH=> ?_;clear hK K;try simp only[zX,zY]
     refine zR1 6 (fun K hK=> ?_);simp only[zG];go_simp;have J:=Jn.new (z:=W4.heap.size) I (by first|rfl|simp);have O:=hidP (Qav O.out (.cells (Qaj 0 1 128 3) 3));have I:=I.alloc (.cells (Qaj 0 1 128 3) 3)
    rotate_left
    focus
     simp only[zG];go_simp;have J:=Jn.new (z:=w2.heap.size+1) I (by first|rfl|simp);have O:=hidP (Qav O.out (.cells (Qaj 0 1 128 3) 3));have I:=I.alloc (.cells (Qaj 0 1 128 3) 3);refine hK.out _ _ trivial fun hH=> ?_;clear hK K;try simp only[zX,zY]
     refine zR1 4 (fun K hK=> ?_);simp only[zG];obtain⟨x4,c4,W4,hr4,own4,g4⟩:=Qcr (xs:= []) (c' :=c) I.le O.out I.sp.at (by simp;omega);rw[List.nil_append]at hr4 own4;rw[if_pos (by rfl)];refine Qag _ _ _ (by rfl) _ _ _ (by rfl) (by rfl) hr4 ?_;have J:=J.grown g4 (by first|(simp[Value.ownBlock];done)|(simp[Value.ownBlock];omega));have I:=I.under (Qen O.out I.le g4);have O:=hidP own4;clear hr4 own4 g4
   rotate_left 2
   focus
    simp only[zG];go_simp;have J:=Jn.new (z:=w2.heap.size) I (by first|rfl|simp);have I:=I.alloc (.cells (Qaj 0 1 128 3) 3);refine hK.out _ _ trivial fun hH=> ?_;clear hK K;try simp only[zX,zY]
    refine zR1 0 (fun K hK=> ?_);simp only[zG];go_simp;have O:=hidP (Qgy (g:=w2.heap.size+1) I.le (by first|rfl|simp));have J:=J.alloc (.cells #[] 5);have I:=I.alloc (.cells #[] 5);refine hK.out _ _ trivial fun hH=> ?_;clear hK K;try simp only[zX,zY]
    refine zR1 4 (fun K hK=> ?_);simp only[zG];obtain⟨x4,c4,W4,hr4,own4,g4⟩:=Qcr (xs:= []) (c' :=c) I.le O.out I.sp.at (by simp;omega);rw[List.nil_append]at hr4 own4;rw[if_pos (by rfl)];refine Qag _ _ _ (by rfl) _ _ _ (by rfl) (by rfl) hr4 ?_;have J:=J.grown g4 (by first|(simp[Value.ownBlock];done)|(simp[Value.ownBlock];omega));have I:=I.under (Qen O.out I.le g4);have O:=hidP own4;clear hr4 own4 g4
   all_goals
    refine hK.out _ _ trivial fun hH=> ?_;clear hK K;try simp only[zX,zY]
    refine zR1 7 (fun K hK=> ?_);simp only[zG];go_simp;refine(Qd1 C A cap l _ 0 4 ([⟨0⟩,⟨1⟩,⟨128⟩,⟨3⟩]:List Nu) (by simp) (by simp) _ I.dr J.lt J.ne J.cells).mono ?_;rintro e w7 ⟨y,hy,rfl,o7,d7⟩;obtain⟨hy0,hy1⟩:=four_byte hy;have O:=hidP (Qh3 O.out o7 hCB);have I:=I.only o7 d7;clear hy o7 d7 J;generalize y.n=z at*;have hz8:IntKind.u8.wrap z=z:=Qhx hy0 hy1;have O7:=O;have I7:=I;refine hK.out _ _ trivial fun hH=> ?_;clear hK K;try simp only[zX,zY]
    refine zt1 8 ?_;refine ztn (h:= ?_);try simp only[zX,zY]
    refine zte ?_;refine zR1 9 (fun K hK=> ?_);simp only[zG];go_simp;have O9:=hidP (own_one (W:=w7) hy0 hy1);have O:=hidP (Qav O.out (.cells #[.int .u8 z] 5));have I:=I.alloc (.cells #[.int .u8 z] 5);refine hK.out _ _ trivial fun hH=> ?_;clear hK K;try simp only[zX,zY]
    refine zR1 13 (fun K hK=> ?_);simp only[zG];obtain⟨x13,c13,W13,hr13,own13,g13⟩:=Qcr (c' :=c - m) (show w7.heap.size<=(w7.alloc (.cells #[.int .u8 z] 5)).heap.size by simp) O9.out I.sq.at (by simp;omega);obtain⟨Q9,hQ9⟩:∃Q9,Q9= [u8 z]++Q:=⟨_,rfl⟩;rw[← hQ9]at hr13 own13;have hlQ:=hidP (show Q9.length=Q.length+1 by rw[hQ9];simp);clear hQ9;rw[if_pos (by rfl)];refine Qag _ _ _ (by rfl) _ _ _ (by rfl) (by rfl) hr13 ?_;have u13:=Qen O9.out (show w7.heap.size<=(w7.alloc (.cells #[.int .u8 z] 5)).heap.size by simp) g13;have O:=hidP (Qk9 O.out u13 (fun x h=>lt_of_new O7.out x h));have I:=I.under (u13.mono I7.le);have O13:=hidP own13;clear hr13 own13 g13 u13 O9;refine hK.out _ _ trivial fun hH=> ?_;clear hK K;try simp only[zX,zY]
    refine zR1 14 (fun K hK=> ?_);simp only[zG];obtain⟨x14,c14,W14,hr14,own14,g14⟩:=Qcr (c' :=c13) I.le O.out (Qa0 O13.out).at (by have:=hlQ.out;omega);obtain⟨Z,hZ⟩:∃Z,Z=P++Q9:=⟨_,rfl⟩;rw[← hZ]at hr14 own14;have hlen:=hidP (show Z.length<=L.length+1 by rw[hZ,List.length_append];have:=hlQ.out;omega);clear hZ;rw[if_pos (by rfl)];refine Qag _ _ _ (by rfl) _ _ _ (by rfl) (by rfl) hr14 ?_;have I:=I.under (Qen O.out I.le g14);have O:=hidP own14;clear hr14 own14 g14 O13;refine hK.out _ _ trivial fun hH=> ?_;clear hK K;try simp only[zX,zY]
    refine zt1 15 ?_;refine ztn (h:= ?_);try simp only[zX,zY]
    refine zte ?_;refine zdn ?_;obtain⟨hc1,hc2⟩:=Qjp O.out;have hsat:=hidP (Qh1 (C:=C) O.out hCB);have HI1:=hidP I.on;have HI2:=hidP I.dr;clear O I O7 I7;go_wp2;go_ret;exact⟨Z,_,_,rfl,hlen.out,hc1,hc2,hsat.out,HI1.out,HI2.out⟩
 go_wp2;go_ret;exact⟨L,a,c,rfl,by omega,h1,h2,HS2.out,HO2.out,HD2.out⟩
end Go.Proofs.YtajbldnhjpjghaaGreatDoor.Gen
