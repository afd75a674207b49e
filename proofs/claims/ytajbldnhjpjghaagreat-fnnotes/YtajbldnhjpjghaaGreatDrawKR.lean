/-
  A right setup and a keeper that are drawn (spec.l6DrawRight): the keeper's bounds. No condition.
-/
import Derived.Test.YtajbldnhjpjghaaGreatKAl2
set_option linter.unusedVariables false
set_option linter.unusedSimpArgs false
set_option maxRecDepth 100000
set_option maxHeartbeats 8000000
set_option maxRecDepth 100000
set_option maxHeartbeats 8000000
namespace Go.Proofs.YtajbldnhjpjghaaGreat.Gen
open ChangeShapes WideShapes ChangeAt RowKit Joins Deep Base
open Items (It)
structure Kr (w W:World) (C cap:Nat) (A:Option Addr) (l:List By) (X:Nat) (sc:Array Value):Prop where
  on:Only C w W
  dr:Drawn W C A cap l
  r1:Blk W w.heap.size 96 Qe0
  r2:Blk W (w.heap.size+1) 102 Qae
  sb:Blk W X 96 sc
  hC:C<w.heap.size
  hX:w.heap.size+1<X
section
variable {w W W' :World} {C cap:Nat} {A:Option Addr} {l:List By} {X:Nat} {sc:Array Value}
theorem Kr.below (h:Kr w W C cap A l X sc) (g:Below W.heap.size W W'):Kr w W' C cap A l X sc:=⟨h.on.below g,h.dr.below g,h.r1.below g h.r1.lt,h.r2.below g h.r2.lt,h.sb.below g h.sb.lt,h.hC,h.hX⟩
theorem Kr.alloc (h:Kr w W C cap A l X sc) (ob:Obj):Kr w (W.alloc ob) C cap A l X sc:=h.below (Qad (Below.refl _ _) _)
theorem Kr.drew (h:Kr w W C cap A l X sc):Kr w W.drew C cap A l X sc:=h.below (Below.refl _ _).drew
theorem Kr.only (h:Kr w W C cap A l X sc) (k:Only C W W') (d:Drawn W' C A cap l):Kr w W' C cap A l X sc:=
 ⟨h.on.trans k,d,h.r1.only k (by have:=h.hC;omega),h.r2.only k (by have:=h.hC;omega),h.sb.only k (by have:=h.hC;have:=h.hX;omega),h.hC,h.hX⟩
theorem Kr.box {q:Nat} (h:Kr w W C cap A l X sc) (k:Only q W W') (h1:w.heap.size+1<q) (h2:X≠q):Kr w W' C cap A l X sc:=
 ⟨Qaf h.on k (by omega),h.dr.only k (by have:=h.hC;omega),h.r1.only k (by omega),h.r2.only k (by omega),h.sb.only k h2,h.hC,h.hX⟩
end
def Quh (C:Nat) (A:Option Addr) (cap:Nat) (l:List By) (w:World) (e:Ending) (w' :World):Prop:=∃(ro wi le ke:Int) (y:KC) (R:Nat),e= .returned (.tuple #[.agg (Qaj ro wi le ke),.agg (Qaa y.rA y.rs.length y.rc y.mA y.ms.length y.mc y.gA y.gs.length y.gc y.time y.dA y.ds.length y.dc y.lA y.ls.length y.lc)])/\setB ro wi le ke=true/\ro=R/\(1<=R/\R<=4)/\Kin R 14 y.p/\KV w' y (fun b=>w.heap.size<b/\b<w'.heap.size)/\Only C w w' /\Drawn w' C A cap l
theorem Qke (C:Nat) (A:Option Addr) (cap:Nat) (l:List By) (w:World) (hD:Drawn w C A cap l):
 Calls Tryz.prog 61 #[.pointer (some ⟨C,0,none⟩)] w fun e w' =>Quh C A cap l w e w' :=by
 have hC:=hD.lt;have B0:Below w.heap.size w ((w.alloc (.cells Qe0 96)).alloc (.cells Qae 102)):=Qad (Qad (Below.refl _ _) _) _;have r1:Blk ((w.alloc (.cells Qe0 96)).alloc (.cells Qae 102)) w.heap.size 96 Qe0:=(Blk.new w _ _).alloc _;have r2:Blk ((w.alloc (.cells Qe0 96)).alloc (.cells Qae 102)) (w.heap.size+1) 102 Qae:=by have:=Blk.new (w.alloc (.cells Qe0 96)) 102 Qae;rwa [World.size_alloc]at this
 have D0:=hD.below B0;have O0:Only C w ((w.alloc (.cells Qe0 96)).alloc (.cells Qae 102)):=Only.of_below B0;have H0:=hidP (And.intro O0 D0);clear hD B0 D0 O0;go_enter Tryz.func61,Tryz.ntmps61;go_wp2_with fail;refine(Qio C A cap l _ H0.out.2).mono ?_;rintro e w1 ⟨ro,wi,le,ke,rfl,hset,k1,d1⟩;have q1:=r1.only k1 (by omega);have q2:=r2.only k1 (by omega);have P:Kr w (w1.alloc (.cells (Qaj ro wi le ke) 96)) C cap A l w1.heap.size (Qaj ro wi le ke):=⟨(H0.out.1.trans k1).below (Qad (Below.refl _ _) _),d1.below (Qad (Below.refl _ _) _),q1.alloc _,q2.alloc _,Blk.new w1 _ _,hC,q2.lt⟩
 clear H0 k1 d1 q1 q2 r1 r2;have hset:=hidP hset;obtain⟨h1,h4⟩:=Qi5 hset.out;obtain⟨R,hro0⟩:∃R:Nat,ro=R:=⟨ro.toNat,by omega⟩
 have hR:1<=R/\R<=4:=by omega
 have hro:=hidP hro0;clear h1 h4 hro0;have HCM:Hid (∀V:World,Drawn V C A cap l->Calls Tryz.prog 85 #[.pointer (some ⟨C,0,none⟩),.int .i64 14] V fun e w' =>∃(a:Option Addr) (c:Nat) (L:List Cq),e= .returned (.slice a L.length c)/\L.length<=14/\(∀x∈L,x.key.size<=30/\x.text.size<=30)/\DL 55 V w' C cap A l a c L):=fun V d=>Qkf C A cap l 14 (by omega) V d
 go_upto_region 2 with fail;generalize w1.alloc (.cells (Qaj ro wi le ke) 96)=w2a at P ⊢;have hX:=P.hX;generalize w1.heap.size=X at P hX ⊢;have mkS:∀V:World,Kr w V C cap A l X (Qaj ro wi le ke)->(fun(V:World)=>V.cell? ⟨X,0,none⟩=some (.int .i64 ro)/\V.cell? ⟨X,1,none⟩=some (.int .i64 wi)/\V.cell? ⟨X,2,none⟩=some (.int .i64 le)/\V.cell? ⟨X,3,none⟩=some (.int .i64 ke)) V:=fun V p=>by
  obtain⟨a0,a1,a2,a3⟩:=p.sb.row4;exact⟨a0,a1,a2,a3⟩
 have P:=P.drew;go_cut [5]from 9 to 15 (fun pv wx=>∃(P5:Nat) (y:KC) (lo2 hi2:Nat),pv= .pointer (some ⟨P5,0,none⟩)/\Kr w wx C cap A l X (Qaj ro wi le ke)/\Blk wx P5 102 (Qaa y.rA y.rs.length y.rc y.mA y.ms.length y.mc y.gA y.gs.length y.gc y.time y.dA y.ds.length y.dc y.lA y.ls.length y.lc)/\Hid (KV wx y (fun b=>lo2<b/\b<hi2))/\Hid (Kin R 14 y.p)/\hi2<=wx.heap.size/\w.heap.size+1<lo2/\(X<P5/\w.heap.size+1<P5)/\¬(lo2<P5/\P5<hi2))
 case first=>
  refine wp_region_noPanic ?_;refine wp_region_held_drew (S:=(fun(V:World)=>V.cell? ⟨X,0,none⟩=some (.int .i64 ro)/\V.cell? ⟨X,1,none⟩=some (.int .i64 wi)/\V.cell? ⟨X,2,none⟩=some (.int .i64 le)/\V.cell? ⟨X,3,none⟩=some (.int .i64 ke))) (by kernel_rfl) ?_ (fun hH=> ?_)
  . exact mkS _ P
  refine ztk [0,1] ?_;repeat(refine ztn (hS:=hH) (h:= ?_);try simp only[zX,zY])
  refine zte ?_;generalize hw2:w2a.drew=w2 at P hH ⊢;have hz2:w2.heap.size=w2a.heap.size:=(by rw[← hw2];rfl)
  have hX2:X<w2.heap.size:=P.sb.lt;clear hw2 hz2;refine zR2 2 7 (fun K hK=> ?_) (fun K hK=> ?_)
  focus
   simp only[zG];go_simp;refine(HCM.out _ P.dr).mono ?_;rintro e w3 ⟨ca,cc,L,rfl,hL,hLs,dl⟩;have z3:=dl.on.size;have z3:w2.heap.size<=w3.heap.size:=z3;have P:=P.only dl.on dl.dr;have hat:=hidP (Qc2 rfl dl.own);have HL:=hidP (And.intro hL hLs);clear hL hLs dl;refine hK.out _ _ (mkS _ P) fun hH=> ?_;clear hK K;try simp only[zX,zY]
   refine zR2 3 7 (fun K hK=> ?_) (fun K hK=> ?_)
   focus
    simp only[zG];go_simp;refine(Qe4 R hR ro wi le ke hro.out hset.out ca cc L (by have h9:=HL.out.1;omega) HL.out.2 _ hat.out).mono ?_;rintro e w4 ⟨y,v,rfl,hyp,hyk,hyv,g4⟩;have z4:=g4.size;have z4:w3.heap.size<=w4.heap.size:=z4;have hyv:KV w4 y (fun b=>w3.heap.size<b/\b<w4.heap.size):=hyv;have P:=P.below g4;have hyk:=hidP (hyk.mono HL.out.1);simp only[KC.cells];clear hyp g4;refine hK.out _ _ (mkS _ P) fun hH=> ?_;clear hK K;try simp only[zX,zY]
    refine ztk [4,5,6] ?_;repeat(refine ztn (hS:=hH) (h:= ?_);try simp only[zX,zY])
    refine zte ?_;refine zR1 7 (fun K hK=> ?_);simp only[zG];go_simp;have B7:Blk (w4.alloc (.cells Qae 102)) (w4.heap.size) 102 Qae:=Blk.new w4 102 Qae;have P:=P.alloc (.cells Qae 102);have hyv:=hyv.below (Qad (Below.refl _ _) (.cells Qae 102));refine hK.out _ _ (mkS _ P) fun hH=> ?_;clear hK K;try simp only[zX,zY]
    have hP7:w2.heap.size<=(w4.heap.size)/\¬(w3.heap.size<(w4.heap.size)/\(w4.heap.size)<w4.heap.size)/\w2.heap.size<=w3.heap.size:=(by omega)
    have hle4:w4.heap.size<=((w4.alloc (.cells Qae 102))).heap.size:=(by simp only[World.size_alloc];omega)
    obtain⟨lo2,hi2,hyv,hP7,hle4⟩:∃lo2 hi2,KV ((w4.alloc (.cells Qae 102))) y (fun b=>lo2<b/\b<hi2)/\(w2.heap.size<=(w4.heap.size)/\¬(lo2<(w4.heap.size)/\(w4.heap.size)<hi2)/\w2.heap.size<=lo2)/\hi2<=((w4.alloc (.cells Qae 102))).heap.size:=⟨_,_,hyv,hP7,hle4⟩
    have hn7:X<(w4.heap.size)/\w.heap.size+1<(w4.heap.size):=(by omega)
    have hlo2:w.heap.size+1<lo2:=(by omega)
    generalize (w4.alloc (.cells Qae 102))=w6 at P B7 hyv hle4 ⊢;generalize (w4.heap.size)=P5 at B7 hP7 hn7 ⊢
   rotate_left
   focus
    simp only[zG];go_simp;have B7:Blk (w3.alloc (.cells Qae 102)) (w3.heap.size) 102 Qae:=Blk.new w3 102 Qae;have P:=P.alloc (.cells Qae 102);refine hK.out _ _ (mkS _ P) fun hH=> ?_;clear hK K;try simp only[zX,zY]
    refine zR1 3 (fun K hK=> ?_);simp only[zG];go_simp;refine(Qe4 R hR ro wi le ke hro.out hset.out ca cc L (by have h9:=HL.out.1;omega) HL.out.2 _ (hat.out.below (Qad (Below.refl _ _) (.cells Qae 102)))).mono ?_;rintro e w4 ⟨y,v,rfl,hyp,hyk,hyv,g4⟩;have z4:=g4.size;simp only[World.size_alloc]at z4 hyv;have z4:w3.heap.size+1<=w4.heap.size:=z4;have hyv:KV w4 y (fun b=>w3.heap.size+1<b/\b<w4.heap.size):=hyv;have P:=P.below g4;have B7:=B7.below g4 B7.lt;have hyk:=hidP (hyk.mono HL.out.1);simp only[KC.cells];clear hyp g4;refine hK.out _ _ (mkS _ P) fun hH=> ?_;clear hK K;try simp only[zX,zY]
    refine ztk [4,5,6] ?_;repeat(refine ztn (hS:=hH) (h:= ?_);try simp only[zX,zY])
    refine zte ?_;have hP7:w2.heap.size<=(w3.heap.size)/\¬(w3.heap.size+1<(w3.heap.size)/\(w3.heap.size)<w4.heap.size)/\w2.heap.size<=w3.heap.size+1:=(by omega)
    have hle4:w4.heap.size<=(w4).heap.size:=(by omega)
    obtain⟨lo2,hi2,hyv,hP7,hle4⟩:∃lo2 hi2,KV (w4) y (fun b=>lo2<b/\b<hi2)/\(w2.heap.size<=(w3.heap.size)/\¬(lo2<(w3.heap.size)/\(w3.heap.size)<hi2)/\w2.heap.size<=lo2)/\hi2<=(w4).heap.size:=⟨_,_,hyv,hP7,hle4⟩
    have hn7:X<(w3.heap.size)/\w.heap.size+1<(w3.heap.size):=(by omega)
    have hlo2:w.heap.size+1<lo2:=(by omega)
    generalize w4=w6 at P B7 hyv hle4 ⊢;generalize (w3.heap.size)=P5 at B7 hP7 hn7 ⊢
  rotate_left 2
  focus
   simp only[zG];go_simp;have B7:Blk (w2.alloc (.cells Qae 102)) (w2.heap.size) 102 Qae:=Blk.new w2 102 Qae;have P:=P.alloc (.cells Qae 102);refine hK.out _ _ (mkS _ P) fun hH=> ?_;clear hK K;try simp only[zX,zY]
   refine zR1 2 (fun K hK=> ?_);simp only[zG];go_simp;refine(HCM.out _ P.dr).mono ?_;rintro e w3 ⟨ca,cc,L,rfl,hL,hLs,dl⟩;have z3:=dl.on.size;simp only[World.size_alloc]at z3;have z3:w2.heap.size+1<=w3.heap.size:=z3;have P:=P.only dl.on dl.dr;have hat:=hidP (Qc2 rfl dl.own);have HL:=hidP (And.intro hL hLs);have B7:=B7.only dl.on (by omega);clear hL hLs dl;refine hK.out _ _ (mkS _ P) fun hH=> ?_;clear hK K;try simp only[zX,zY]
   refine zR1 3 (fun K hK=> ?_);simp only[zG];go_simp;refine(Qe4 R hR ro wi le ke hro.out hset.out ca cc L (by have h9:=HL.out.1;omega) HL.out.2 _ hat.out).mono ?_;rintro e w4 ⟨y,v,rfl,hyp,hyk,hyv,g4⟩;have z4:=g4.size;have z4:w3.heap.size<=w4.heap.size:=z4;have hyv:KV w4 y (fun b=>w3.heap.size<b/\b<w4.heap.size):=hyv;have P:=P.below g4;have B7:=B7.below g4 B7.lt;have hyk:=hidP (hyk.mono HL.out.1);simp only[KC.cells];clear hyp g4;refine hK.out _ _ (mkS _ P) fun hH=> ?_;clear hK K;try simp only[zX,zY]
   refine ztk [4,5,6] ?_;repeat(refine ztn (hS:=hH) (h:= ?_);try simp only[zX,zY])
   refine zte ?_;have hP7:w2.heap.size<=(w2.heap.size)/\¬(w3.heap.size<(w2.heap.size)/\(w2.heap.size)<w4.heap.size)/\w2.heap.size<=w3.heap.size:=(by omega)
   have hle4:w4.heap.size<=(w4).heap.size:=(by omega)
   obtain⟨lo2,hi2,hyv,hP7,hle4⟩:∃lo2 hi2,KV (w4) y (fun b=>lo2<b/\b<hi2)/\(w2.heap.size<=(w2.heap.size)/\¬(lo2<(w2.heap.size)/\(w2.heap.size)<hi2)/\w2.heap.size<=lo2)/\hi2<=(w4).heap.size:=⟨_,_,hyv,hP7,hle4⟩
   have hn7:X<(w2.heap.size)/\w.heap.size+1<(w2.heap.size):=(by omega)
   have hlo2:w.heap.size+1<lo2:=(by omega)
   generalize w4=w6 at P B7 hyv hle4 ⊢;generalize (w2.heap.size)=P5 at B7 hP7 hn7 ⊢
  all_goals
   obtain⟨z0,z1,z2,z3,z4,z5⟩:=B7.row6;have f0:=B7.thaw 0;have f1:=B7.thaw 1;have f2:=B7.thaw 2;have f3:=B7.thaw 3;have f4:=B7.thaw 4;have f5:=B7.thaw 5;have kk:=Qaw w6 P5 (.slice y.rA y.rs.length y.rc) (.slice y.mA y.ms.length y.mc) (.slice y.gA y.gs.length y.gc) (.int .i64 y.time) (.slice y.dA y.ds.length y.dc) (.slice y.lA y.ls.length y.lc);have P9:=P.box kk (by omega) (by omega);have C7:=Qbv B7 (.slice y.rA y.rs.length y.rc) (.slice y.mA y.ms.length y.mc) (.slice y.gA y.gs.length y.gc) (.int .i64 y.time) (.slice y.dA y.ds.length y.dc) (.slice y.lA y.ls.length y.lc);have kv9:=hidP (hyv.offp (Offp.of_only kk) (fun q hq e=>hP7.2.1 (e▸hq)));have hz6:(putK w6 P5 (.slice y.rA y.rs.length y.rc) (.slice y.mA y.ms.length y.mc) (.slice y.gA y.gs.length y.gc) (.int .i64 y.time) (.slice y.dA y.ds.length y.dc) (.slice y.lA y.ls.length y.lc)).heap.size=w6.heap.size:=(by simp)
   clear kk;refine zR1 8 (fun K hK=> ?_);simp only[zG];go_simp
   skip
   refine hK.out _ _ (mkS _ P9) fun hH=> ?_;clear hK K;try simp only[zX,zY]
   refine zt1 9 ?_;refine ztn (hS:=hH) (h:= ?_);try simp only[zX,zY]
   refine zte ?_;refine zdn ?_;go_wp2_with fail
   go_meet
   exact⟨P5,y,lo2,hi2,rfl,P9,C7,kv9,hyk,by rw[hz6];exact hle4,hlo2,hn7,hP7.2.1⟩
 case rest=>
  obtain⟨P5,y,lo2,hi2,rfl,P,C7,kv9,hyk,hle4,hlo2,hn7,hP7⟩:=hcut;clear mkS;go_upto_region 3 with fail;have P5' :=P.drew;have D7:Blk wc.drew P5 102 (Qaa y.rA y.rs.length y.rc y.mA y.ms.length y.mc y.gA y.gs.length y.gc y.time y.dA y.ds.length y.dc y.lA y.ls.length y.lc):=C7;have mkS3:∀V:World,Kr w V C cap A l X (Qaj ro wi le ke)->Blk V P5 102 (Qaa y.rA y.rs.length y.rc y.mA y.ms.length y.mc y.gA y.gs.length y.gc y.time y.dA y.ds.length y.dc y.lA y.ls.length y.lc)->(fun(V:World)=>V.cell? ⟨X,0,none⟩=some (.int .i64 ro)/\V.cell? ⟨X,1,none⟩=some (.int .i64 wi)/\V.cell? ⟨X,2,none⟩=some (.int .i64 le)/\V.cell? ⟨X,3,none⟩=some (.int .i64 ke)/\V.cell? ⟨P5,0,none⟩=some (.slice y.rA y.rs.length y.rc)/\V.cell? ⟨P5,1,none⟩=some (.slice y.mA y.ms.length y.mc)/\V.cell? ⟨P5,2,none⟩=some (.slice y.gA y.gs.length y.gc)/\V.cell? ⟨P5,3,none⟩=some (.int .i64 y.time)/\V.cell? ⟨P5,4,none⟩=some (.slice y.dA y.ds.length y.dc)/\V.cell? ⟨P5,5,none⟩=some (.slice y.lA y.ls.length y.lc)) V:=fun V p q=>by
   obtain⟨a0,a1,a2,a3⟩:=p.sb.row4;obtain⟨k0,k1,k2,k3,k4,k5⟩:=q.row6;exact⟨a0,a1,a2,a3,k0,k1,k2,k3,k4,k5⟩
  clear P C7;refine wp_region_noPanic ?_;refine wp_region_held_drew (S:=(fun(V:World)=>V.cell? ⟨X,0,none⟩=some (.int .i64 ro)/\V.cell? ⟨X,1,none⟩=some (.int .i64 wi)/\V.cell? ⟨X,2,none⟩=some (.int .i64 le)/\V.cell? ⟨X,3,none⟩=some (.int .i64 ke)/\V.cell? ⟨P5,0,none⟩=some (.slice y.rA y.rs.length y.rc)/\V.cell? ⟨P5,1,none⟩=some (.slice y.mA y.ms.length y.mc)/\V.cell? ⟨P5,2,none⟩=some (.slice y.gA y.gs.length y.gc)/\V.cell? ⟨P5,3,none⟩=some (.int .i64 y.time)/\V.cell? ⟨P5,4,none⟩=some (.slice y.dA y.ds.length y.dc)/\V.cell? ⟨P5,5,none⟩=some (.slice y.lA y.ls.length y.lc))) (by kernel_rfl) ?_ (fun hH=> ?_)
  . exact mkS3 _ P5' D7
  have kvd:=hidP (kv9.out.below (Below.refl _ _).drew);have hzd:wc.drew.heap.size=wc.heap.size:=rfl;generalize wc.drew=XX at P5' D7 kvd hzd hH ⊢;refine ztk [0,1] ?_;repeat(refine ztn (hS:=hH) (h:= ?_);try simp only[zX,zY])
  refine zte ?_;obtain⟨r0,r1,r2,r3⟩:=P5'.r1.row4;have f0:=P5'.r1.thaw 0;have f1:=P5'.r1.thaw 1;have f2:=P5'.r1.thaw 2;have f3:=P5'.r1.thaw 3;have ks:=Qa1 XX w.heap.size (.int .i64 ro) (.int .i64 wi) (.int .i64 le) (.int .i64 ke);have B1:=Qgh P5'.r1 (.int .i64 ro) (.int .i64 wi) (.int .i64 le) (.int .i64 ke);have Q2:=P5'.r2.only ks (by omega);obtain⟨z0,z1,z2,z3,z4,z5⟩:=Q2.row6;have g0:=Q2.thaw 0;have g1:=Q2.thaw 1;have g2:=Q2.thaw 2;have g3:=Q2.thaw 3;have g4:=Q2.thaw 4;have g5:=Q2.thaw 5;have SA:Hid ((fun(V:World)=>V.cell? ⟨X,0,none⟩=some (.int .i64 ro)/\V.cell? ⟨X,1,none⟩=some (.int .i64 wi)/\V.cell? ⟨X,2,none⟩=some (.int .i64 le)/\V.cell? ⟨X,3,none⟩=some (.int .i64 ke)/\V.cell? ⟨P5,0,none⟩=some (.slice y.rA y.rs.length y.rc)/\V.cell? ⟨P5,1,none⟩=some (.slice y.mA y.ms.length y.mc)/\V.cell? ⟨P5,2,none⟩=some (.slice y.gA y.gs.length y.gc)/\V.cell? ⟨P5,3,none⟩=some (.int .i64 y.time)/\V.cell? ⟨P5,4,none⟩=some (.slice y.dA y.ds.length y.dc)/\V.cell? ⟨P5,5,none⟩=some (.slice y.lA y.ls.length y.lc)) (putN XX w.heap.size (.int .i64 ro) (.int .i64 wi) (.int .i64 le) (.int .i64 ke))):=(by obtain⟨a0,a1,a2,a3⟩:=(P5'.sb.only ks (by have:=P5'.hX;omega)).row4;obtain⟨k0,k1,k2,k3,k4,k5⟩:=(D7.only ks (by omega)).row6;exact⟨a0,a1,a2,a3,k0,k1,k2,k3,k4,k5⟩)
  have kk:=Qaw (putN XX w.heap.size (.int .i64 ro) (.int .i64 wi) (.int .i64 le) (.int .i64 ke)) (w.heap.size+1) (.slice y.rA y.rs.length y.rc) (.slice y.mA y.ms.length y.mc) (.slice y.gA y.gs.length y.gc) (.int .i64 y.time) (.slice y.dA y.ds.length y.dc) (.slice y.lA y.ls.length y.lc);have SB:Hid ((fun(V:World)=>V.cell? ⟨X,0,none⟩=some (.int .i64 ro)/\V.cell? ⟨X,1,none⟩=some (.int .i64 wi)/\V.cell? ⟨X,2,none⟩=some (.int .i64 le)/\V.cell? ⟨X,3,none⟩=some (.int .i64 ke)/\V.cell? ⟨P5,0,none⟩=some (.slice y.rA y.rs.length y.rc)/\V.cell? ⟨P5,1,none⟩=some (.slice y.mA y.ms.length y.mc)/\V.cell? ⟨P5,2,none⟩=some (.slice y.gA y.gs.length y.gc)/\V.cell? ⟨P5,3,none⟩=some (.int .i64 y.time)/\V.cell? ⟨P5,4,none⟩=some (.slice y.dA y.ds.length y.dc)/\V.cell? ⟨P5,5,none⟩=some (.slice y.lA y.ls.length y.lc)) (putK (putN XX w.heap.size (.int .i64 ro) (.int .i64 wi) (.int .i64 le) (.int .i64 ke)) (w.heap.size+1) (.slice y.rA y.rs.length y.rc) (.slice y.mA y.ms.length y.mc) (.slice y.gA y.gs.length y.gc) (.int .i64 y.time) (.slice y.dA y.ds.length y.dc) (.slice y.lA y.ls.length y.lc))):=(by obtain⟨a0,a1,a2,a3⟩:=((P5'.sb.only ks (by have:=P5'.hX;omega)).only kk (by have:=P5'.hX;omega)).row4;obtain⟨k0,k1,k2,k3,k4,k5⟩:=((D7.only ks (by omega)).only kk (by omega)).row6;exact⟨a0,a1,a2,a3,k0,k1,k2,k3,k4,k5⟩)
  have B1' :=B1.only kk (by omega);obtain⟨s0,s1,s2,s3⟩:=B1'.row4;obtain⟨t0,t1,t2,t3,t4,t5⟩:=Qbh Q2 (.slice y.rA y.rs.length y.rc) (.slice y.mA y.ms.length y.mc) (.slice y.gA y.gs.length y.gc) (.int .i64 y.time) (.slice y.dA y.ds.length y.dc) (.slice y.lA y.ls.length y.lc);have O9:=Qaf (Qaf P5'.on ks (Nat.le_refl _)) kk (by omega);have D9:=(P5'.dr.only ks P5'.hC).only kk (by have:=P5'.hC;omega);have V9:=kvd.out.offp (Offp.of_only ks) (fun q hq e=>by omega);have V9:=V9.offp (Offp.of_only kk) (fun q hq e=>by omega);have hz9:(putK (putN XX w.heap.size (.int .i64 ro) (.int .i64 wi) (.int .i64 le) (.int .i64 ke)) (w.heap.size+1) (.slice y.rA y.rs.length y.rc) (.slice y.mA y.ms.length y.mc) (.slice y.gA y.gs.length y.gc) (.int .i64 y.time) (.slice y.dA y.ds.length y.dc) (.slice y.lA y.ls.length y.lc)).heap.size=wc.heap.size:=(by simp[hzd])
  have TT:Hid (Only C w _/\Drawn _ C A cap l/\KV _ y (fun b=>lo2<b/\b<hi2)/\_=wc.heap.size):=⟨O9,D9,V9,hz9⟩
  refine zR1 2 (fun K hK=> ?_);simp only[zG];go_simp
  skip
  refine hK.out _ _ SA.out fun hH=> ?_;clear hK K;try simp only[zX,zY]
  refine zR1 3 (fun K hK=> ?_);simp only[zG];go_simp
  skip
  refine hK.out _ _ SB.out fun hH=> ?_;clear hK K;try simp only[zX,zY]
  refine zdn ?_;go_wp2;refine bodyPost_ret (v:= .tuple #[.agg (Qaj ro wi le ke),.agg (Qaa y.rA y.rs.length y.rc y.mA y.ms.length y.mc y.gA y.gs.length y.gc y.time y.dA y.ds.length y.dc y.lA y.ls.length y.lc)]) (by simp[results,Tryz.results61,go_sem,s0,s1,s2,s3,t0,t1,t2,t3,t4,t5]) rfl ⟨ro,wi,le,ke,y,R,rfl,hset.out,hro.out,hR,hyk.out,TT.out.2.2.1.mono (fun q _ hq=>⟨by omega,by rw[TT.out.2.2.2];omega⟩),TT.out.1,TT.out.2.1⟩
structure En where
  term:Int
  who:Int
  seq:Int
  op:Int
  a:Int
  b:Int
  c:Int
  key:ByteArray
  text:ByteArray
instance:Inhabited En:=⟨⟨0,0,0,0,0,0,0,⟨#[]⟩,⟨#[]⟩⟩⟩
instance:Cel En where
  k:=9
  cs x:= [.int .i64 x.term,.int .i64 x.who,.int .i64 x.seq,.int .i64 x.op,.int .i64 x.a,.int .i64 x.b,.int .i64 x.c,.string x.key,.string x.text]
  len _:=rfl
  one x u hu:=by simp at hu;rcases hu with rfl|rfl|rfl|rfl|rfl|rfl|rfl|rfl|rfl<;>rfl
def En.fit (x:En):Prop:=x.key.size<=9223372036854775807/\x.text.size<=9223372036854775807
theorem In.getEn {w:World} {b o:Nat} {l:List En} (h:In w b o l) (n:Nat) (hi:n<l.length):
 w.cell? ⟨b,o+n*9,none⟩=some (.int .i64 l[n].term)/\w.cell? ⟨b,o+n*9+1,none⟩=some (.int .i64 l[n].who)/\w.cell? ⟨b,o+n*9+2,none⟩=some (.int .i64 l[n].seq)/\w.cell? ⟨b,o+n*9+3,none⟩=some (.int .i64 l[n].op)/\w.cell? ⟨b,o+n*9+4,none⟩=some (.int .i64 l[n].a)/\w.cell? ⟨b,o+n*9+5,none⟩=some (.int .i64 l[n].b)/\w.cell? ⟨b,o+n*9+6,none⟩=some (.int .i64 l[n].c)/\w.cell? ⟨b,o+n*9+7,none⟩=some (.string l[n].key)/\w.cell? ⟨b,o+n*9+8,none⟩=some (.string l[n].text):=
 ⟨h.cell n hi (f:=0) rfl,h.cell n hi (f:=1) rfl,h.cell n hi (f:=2) rfl,h.cell n hi (f:=3) rfl,h.cell n hi (f:=4) rfl,h.cell n hi (f:=5) rfl,h.cell n hi (f:=6) rfl,h.cell n hi (f:=7) rfl,h.cell n hi (f:=8) rfl⟩
theorem Qlu:(Tryz.prog.info? 57).map (fun i=>(i.zero,i.size,i.bytes))=some (some (.agg Qbe),9,88):=by kernel_rfl
theorem Qhb (C:Nat) (A:Option Addr) (cap:Nat) (l:List By) (term0:Int) (ht0:0<=term0/\term0<=1000) (most:Nat) (hm:most<=200) (w:World) (hD:Drawn w C A cap l):
 Calls Tryz.prog 63 #[.pointer (some ⟨C,0,none⟩),.int .i64 term0,.int .i64 (most:Int)] w fun e w' =>∃(a:Option Addr) (c:Nat) (L:List En),e= .returned (.slice a L.length c)/\L.length<=most/\(∀x∈L,x.key.size<=30/\x.text.size<=30)/\DL 57 w w' C cap A l a c L:=by
 have hC:=hD.lt;have I0:DL (α:=En) 57 w (w.alloc (.cells #[] 57)) C cap A l (some ⟨w.heap.size,0,none⟩) 0 []:=⟨Only.of_below (Qad (Below.refl _ _) _),hD.below (Qad (Below.refl _ _) _),Qet (α:=En) (Nat.le_refl _) rfl,hC⟩
 have HI:=hidP I0;clear hD I0;go_enter Tryz.func63,Tryz.ntmps63;go_wp2_with fail;refine(Qa3 C A cap l ((most:Int)+1) (by omega) (by omega) _ HI.out.dr).mono ?_;rintro e w1 ⟨n,rfl,hn0,hn1,k1,d1⟩;have I1:=HI.out.only k1 d1;clear HI k1 d1;go_wp2
 go_loopw [1,7,9] (fun tv ov iv wx=>∃(i:Nat) (term:Int) (a:Option Addr) (c:Nat) (L:List En),tv= .int .i64 term/\ov= .slice a L.length c/\iv= .int .i64 (i:Int)/\(i:Int)<=n/\(0<=term/\term<=1000+(i:Int))/\Hid (L.length=i)/\Hid (∀x∈L,x.key.size<=30/\x.text.size<=30)/\DL 57 w wx C cap A l a c L) (fun _ _ iv _=>(n - intOf iv).toNat)
 case atStart=>exact⟨0,term0,_,_,[],rfl,rfl,rfl,by omega,by omega,rfl,by show ∀x∈_,_;simp,I1⟩
 case round=>
  clear I1;obtain⟨i,term,la,lc,L,rfl,rfl,rfl,hi,ht,hl,hs,P⟩:=hrel;by_cases hlt:(i:Int)<n
  . have HP:=hidP P;clear P;go_wp2_with fail;refine(Qa3 C A cap l 2 (by omega) (by omega) _ HP.out.dr).mono ?_;rintro e w2 ⟨q,rfl,hq0,hq1,k2,d2⟩;have P2:=hidP (HP.out.only k2 d2);clear HP k2 d2;go_wp2_with fail;refine(Qee C A cap l _ P2.out.dr).mono ?_;rintro e w3 ⟨who,seq,op,a,b,c,k,t,rfl,hdc,k3,d3⟩;have Hsz:=hidP hdc.size;have P:=P2.out.only k3 d3;clear P2 k3 d3 hdc;obtain⟨a9,c9,W9,hr,P9⟩:=P.app Tryz.underlying24 Qlu rfl (by decide) (by decide) (⟨term+q,who,seq,op,a,b,c,k,t⟩:En) (Qbg (term+q) who seq op a b c k t) rfl (by have:=hl.out;omega);go_wp2_with (at_builtin;refine Qac rfl _ _ _ rfl _ _ _ rfl rfl hr ?_);exact⟨⟨i+1,term+q,a9,c9,L++ [(⟨term+q,who,seq,op,a,b,c,k,t⟩:En)],rfl,by rw[List.length_append];rfl,by go_num,by omega,by omega,by show _=_;rw[List.length_append,hl.out];rfl,by show ∀x∈_,_;intro x hx;rcases List.mem_append.1 hx with h|h;exact hs.out x h;rw[List.mem_singleton]at h;subst h;exact Hsz.out,P9⟩,by simp[intOf];omega⟩
  . go_wp2;go_ret;exact⟨la,lc,L,rfl,by have:=hl.out;omega,hs.out,P⟩
theorem Qh6 {s:ByteArray} (h:s.size<=30):(txtB s).length<=35:=by rw[Qb9];have:=Qcx (n:=s.size) (by omega);omega
theorem Qdt {α:Type} (f:α->List UInt8) (k:Nat) (l:List α) (h:∀x∈l,(f x).length<=k):(l.flatMap f).length<=k*l.length:=by
 induction l with
 |nil=>simp
 |cons x l ih=>
  rw[List.flatMap_cons,List.length_append,List.length_cons,Nat.mul_add];have:=h x (by simp);have:=ih (fun y hy=>h y (by simp[hy]));omega
theorem Qj7 {α:Type} (f:α->List UInt8) {l:List α} {n:Nat} (h:n<l.length):(l.take (n+1)).flatMap f=(l.take n).flatMap f++f l[n]:=by
 rw[List.take_succ_eq_append_getElem h,List.flatMap_append];simp
theorem Qfz {α:Type} (f:α->List UInt8) (l:List α) (n:Nat):((l.take n).flatMap f).length<=(l.flatMap f).length:=by
 conv=>rhs;rw[← List.take_append_drop n l]
 rw[List.flatMap_append,List.length_append];omega
def Pt {α:Type} [Cel α] (P:Nat->Prop) (w:World) (A:Option Addr) (L:List α):Prop:=At w A L/\(L= []∨∀k o,A=some ⟨k,o,none⟩->P k)
theorem Pt.turn {α:Type} [Cel α] {P:Nat->Prop} {w w' :World} {A:Option Addr} {L:List α} (h:Pt P w A L) (g:Turn P w w'):Pt P w' A L:=by
 refine⟨?_,h.2⟩;rcases h.2 with e|hP
 . exact .inl e
 . exact h.1.turn g hP
theorem Pt.mono {α:Type} [Cel α] {P Q:Nat->Prop} {w:World} {A:Option Addr} {L:List α} (h:Pt P w A L) (hn:∀k,P k->Q k):Pt Q w A L:=⟨h.1,h.2.imp id fun f k o e=>hn k (f k o e)⟩
theorem Wr.lt {P:Nat->Prop} {b:Nat} {W:World} {xs:List UInt8} (h:Wr P b W xs):∀k,P k->k<W.heap.size:=by obtain⟨_,_,_,_,_,_,h⟩:=h;exact h
theorem Qgy (P:Nat->Prop) (b:Nat) (n:Int) (h0:0<=n/\n<=2147483647) (xs:List UInt8) (hx:xs.length<=599999000) (w:World) (hW:Wr P b w xs):
 Calls Tryz.prog 77 #[.pointer (some ⟨b,0,none⟩),.int .i64 n] w fun e w' =>e= .returned (.tuple #[])/\Turn P w w' /\Wr P b w' (xs++numI n):=by
 obtain⟨m,rfl⟩:∃m:Nat,n=(m:Int):=⟨n.toNat,by omega⟩
 rw[Qb7 (show m<=2147483647 by omega)];exact Qfq P b m (by omega) xs hx w hW
def itB (x:It):List UInt8:=numI x.off++(txtB x.key++(txtB x.text++Qbo [x.who,x.time]))
def mkB (x:Mk):List UInt8:=Qbo [x.seq,x.off]
def itsB (l:List It):List UInt8:=numI (l.length:Int)++l.flatMap itB
def mksB (l:List Mk):List UInt8:=numI (l.length:Int)++l.flatMap mkB
def rcB (x:RC):List UInt8:=Qbo [x.start,x.next]++itsB x.its
def mcB (x:MC):List UInt8:=Qbo [x.row,x.who,x.epoch,x.last+1]++mksB x.ms
def memB (m b:List Int):List UInt8:=(List.zip m b).flatMap fun p=>Qbo [p.1,p.2]
def gcB (x:GC):List UInt8:=Qbo [x.gen,(x.m.length:Int)]++(memB x.m x.b++Qbo x.o)
def anB (x:An):List UInt8:=Qbo [x.code,x.n+1]++(txtB x.key++txtB x.text)
def rcsB (l:List RC):List UInt8:=numI (l.length:Int)++l.flatMap rcB
def mcsB (l:List MC):List UInt8:=numI (l.length:Int)++l.flatMap mcB
def gcsB (l:List GC):List UInt8:=numI (l.length:Int)++l.flatMap gcB
def Qhk (d:List Int) (a:List An):List UInt8:=(List.zip d a).flatMap fun p=>numI p.1++anB p.2
def kB (x:KC):List UInt8:=rcsB x.rs++(mcsB x.ms++(gcsB x.gs++(numI x.time++Qhk x.ds x.ls)))
structure ItR (x:It):Prop where
  off:0<=x.off/\x.off<=2147483647
  key:x.key.size<=30
  text:x.text.size<=30
  who:0<=x.who/\x.who<=2147483647
  time:0<=x.time/\x.time<=2147483647
structure MkR (x:Mk):Prop where
  seq:0<=x.seq/\x.seq<=2147483647
  off:0<=x.off/\x.off<=2147483647
structure RcR (x:RC):Prop where
  start:0<=x.start/\x.start<=2147483647
  next:0<=x.next/\x.next<=2147483647
  its:∀y∈x.its,ItR y
  len:x.its.length<=80
structure McR (x:MC):Prop where
  row:0<=x.row/\x.row<=2147483647
  who:0<=x.who/\x.who<=2147483647
  epoch:0<=x.epoch/\x.epoch<=2147483647
  last: -1<=x.last/\x.last<=2147483646
  ms:∀y∈x.ms,MkR y
  len:x.ms.length<=5
structure GcR (x:GC):Prop where
  gen:0<=x.gen/\x.gen<=2147483647
  m:∀y∈x.m,0<=y/\y<=2147483647
  b:∀y∈x.b,0<=y/\y<=2147483647
  o:∀y∈x.o,0<=y/\y<=2147483647
  same:x.b.length=x.m.length
  len:x.m.length<=300000
  leo:x.o.length<=300000
structure AnR (x:An):Prop where
  code:0<=x.code/\x.code<=2147483647
  n: -1<=x.n/\x.n<=2147483646
  key:x.key.size<=30
  text:x.text.size<=30
theorem Qtk {x:It} (h:ItR x):(itB x).length<=100:=by
 have h1:=Qbm x.off;have h2:=Qh6 h.key;have h3:=Qh6 h.text;have h4:=Qca [x.who,x.time];simp only[itB,List.length_append,List.length_cons,List.length_nil]at h4 ⊢;omega
theorem Qs6 (x:Mk):(mkB x).length<=10:=by have:=Qca [x.seq,x.off];simpa [mkB]using this
structure KcR (x:KC):Prop where
  rs:∀y∈x.rs,RcR y
  ms:∀y∈x.ms,McR y
  gs:∀y∈x.gs,GcR y
  time:0<=x.time/\x.time<=2147483647
  ds:∀y∈x.ds,0<=y/\y<=2147483647
  ls:∀y∈x.ls,AnR y
  rl:x.rs.length<=1048576
  ml:x.ms.length<=1048576
  gl:x.gs.length<=1048576
  dl:x.ds.length<=1048576
  same:x.ls.length=x.ds.length
def Qr0 (l:List Mk) (j:Nat):Int:=(l.getD j ⟨0,0⟩).off
def Qt3 (last:Int) (l:List Mk) (j:Nat):Int:=IntKind.i64.wrap (last - IntKind.i64.wrap (IntKind.i64.wrap ((l.length:Int) - 1) - (j:Int)))
def Qrx (last:Int) (l:List Mk) (j:Nat):Bool:=inB (Qr0 l j) 0 100000&&decide ((l.getD j ⟨0,0⟩).seq=Qt3 last l j)&&(decide (j=0)||decide (Qr0 l (j - 1)<Qr0 l j))
def Qrw (last:Int) (l:List Mk) (n:Nat):Bool:=(List.range n).all (Qrx last l)
def okB (row who epoch last window:Int) (l:List Mk):Bool:=
  inB row 0 3&&inB who 0 3&&inB epoch 0 100000&&inB last (-1) 100000&&decide ((l.length:Int)<=window)&&decide ((l.length:Int)<=last+1)&&(decide ((l.length:Int)=0)==decide (last= -1))&&Qrw last l l.length
theorem Qsy {y:RC} (h:RcR y):(rcB y).length<=8100:=by
 have h1:=Qca [y.start,y.next];have h2:=Qdt itB 100 y.its (fun z hz=>Qtk (h.its z hz));have h3:=Qbm (y.its.length:Int);have:=h.len;simp only[rcB,itsB,List.length_append,List.length_cons,List.length_nil]at h1 ⊢;omega
theorem Qs7 {y:MC} (h:McR y):(mcB y).length<=80:=by
 have h1:=Qca [y.row,y.who,y.epoch,y.last+1];have h2:=Qdt mkB 10 y.ms (fun z _=>Qs6 z);have h3:=Qbm (y.ms.length:Int);have:=h.len;simp only[mcB,mksB,List.length_append,List.length_cons,List.length_nil]at h1 ⊢;omega
theorem Qtw {y:An} (h:AnR y):(anB y).length<=80:=by
 have a1:=Qca [y.code,y.n+1];have a2:=Qh6 h.key;have a3:=Qh6 h.text;simp only[anB,List.length_append,List.length_cons,List.length_nil]at a1 ⊢;omega
theorem Qsh {y:GC} {N:Nat} (h1:y.m.length<=N) (h2:y.o.length<=4):(gcB y).length<=40+10*N:=by
 have a1:=Qca [y.gen,(y.m.length:Int)];have a2:=Qca y.o;have a3:=Qdt (fun p:Int × Int=>Qbo [p.1,p.2]) 10 (List.zip y.m y.b) (fun p _=>by have:=Qca [p.1,p.2];simpa using this);have a4:(List.zip y.m y.b).length<=N:=by rw[List.length_zip];omega
 have a5:10* (List.zip y.m y.b).length<=10*N:=by omega
 simp only[gcB,memB,List.length_append,List.length_cons,List.length_nil]at a1 ⊢;omega
theorem Kin.kcr {R N:Nat} (hN:N<=1000) (hR:1<=R/\R<=4) {x:KC} (h:Kin R N x.p):KcR x/\(kB x).length<=200000:=by
 have hrl:x.rs.length=R:=by have:=h.rl;simpa [KC.p]using this
 have hml:x.ms.length<=N:=by have:=h.ml;simpa [KC.p]using this
 have hgl:x.gs.length=2:=by have:=h.gl;simpa [KC.p]using this
 have hdl:x.ds.length=4:=h.dl;have hll:x.ls.length=4:=h.ll;have ht:In2 x.time 100000:=h.t;have hrow:∀y∈x.rs,RcR y:=fun y hy=>by
  obtain⟨g1,g2,g3,g4⟩:=Qdn (h.ri y.p (List.mem_map_of_mem hy));unfold In2 at g1 g2;have e1:y.p.start=y.start:=rfl;have e2:y.p.next=y.next:=rfl;have e3:y.p.its=y.its:=rfl;rw[e1]at g1;rw[e2]at g2;rw[e3]at g3 g4;refine⟨by omega,by omega,fun z hz=> ?_,g3⟩;obtain⟨k1,k2,k3,k4,k5⟩:=g4 z hz;unfold In2 at k1 k2 k3;exact⟨by omega,k4,k5,by omega,by omega⟩
 have hmak:∀y∈x.ms,McR y:=fun y hy=>by
  have g:=h.mi y.p (List.mem_map_of_mem hy);have g1:In2 y.row 100000:=g.row;have g2:In2 y.who 3:=g.who;have g3:In2 y.epoch 100000:=g.epoch;have g4: -1<=y.last/\y.last<=100000:=g.last;have g5:∀z∈y.ms,In2 z.seq 100000/\In2 z.off 100000:=g.ms;unfold In2 at g1 g2 g3;refine⟨by omega,by omega,by omega,by omega,fun z hz=> ?_,g.len⟩;obtain⟨k1,k2⟩:=g5 z hz;unfold In2 at k1 k2;exact⟨by omega,by omega⟩
 have hgrp:∀y∈x.gs,GcR y/\y.m.length<=N/\y.o.length<=4:=fun y hy=>by
  have g:=h.gi y.p (List.mem_map_of_mem hy);have g1:In2 y.gen 100000:=g.gen;have g2:∀z∈y.m,In2 z 3:=g.m;have g3:∀z∈y.b,In2 z 100000:=g.b;have g4:∀z∈y.o,In2 z 100000:=g.o;have g5:y.b.length=y.m.length:=g.same;have g6:y.m.length<=N:=g.len;have g7:y.o.length=R:=g.ol;unfold In2 at g1 g2 g3 g4;exact⟨⟨by omega,fun z hz=>by have:=g2 z hz;omega,fun z hz=>by have:=g3 z hz;omega,fun z hz=>by have:=g4 z hz;omega,g5,by omega,by omega⟩,g6,by omega⟩
 have hans:∀y∈x.ls,AnR y:=fun y hy=>by
  have g:=h.li y hy;have g1:=g.code;have g2:=g.n;unfold In2 at g1;exact⟨by omega,by omega,g.key,g.text⟩
 have hds:∀y∈x.ds,0<=y/\y<=2147483647:=fun y hy=>by have g:=h.di y hy;unfold In2 at g;omega
 unfold In2 at ht;refine⟨⟨hrow,hmak,fun y hy=>(hgrp y hy).1,by omega,hds,hans,by omega,by omega,by omega,by omega,by omega⟩,?_⟩;have b1:=Qdt rcB 8100 x.rs (fun y hy=>Qsy (hrow y hy));have b2:=Qdt mcB 80 x.ms (fun y hy=>Qs7 (hmak y hy));have b3:=Qdt gcB (40+10*N) x.gs (fun y hy=>Qsh (hgrp y hy).2.1 (hgrp y hy).2.2);have b4:=Qdt (fun p:Int × An=>numI p.1++anB p.2) 90 (List.zip x.ds x.ls) (fun p hp=>by
  have:=Qtw (hans p.2 (List.of_mem_zip hp).2);have:=Qbm p.1;rw[List.length_append];omega)
 have b5:(List.zip x.ds x.ls).length<=4:=by rw[List.length_zip];omega
 have c1:=Qbm (x.rs.length:Int);have c2:=Qbm (x.ms.length:Int);have c3:=Qbm (x.gs.length:Int);have c4:=Qbm x.time;rw[hgl]at b3;simp only[kB,rcsB,mcsB,gcsB,Qhk,List.length_append];omega
theorem Qth {x:KC} (hx:x.rs.length<=1000):0<(kB x).length:=by
 have h:0<(numI (x.rs.length:Int)).length:=by
  rw[Qb7 (by omega)];unfold numB;split<;>simp
 simp only[kB,rcsB,List.length_append];omega
structure KW (w W:World) (kx:Array Value) (v:Value) (xs R K:List UInt8):Prop where
  bl:Below w.heap.size w W
  bx:Blk W w.heap.size 102 kx
  own:W.ownsRow (w.heap.size+1) 5 1 v xs.length (flat xs)
  eq:xs++R=K
theorem KW.below {w W W' :World} {kx:Array Value} {v:Value} {xs R K:List UInt8} (h:KW w W kx v xs R K) (g:Below W.heap.size W W'):KW w W' kx v xs R K:=
 ⟨via0 g h.bl,h.bx.below g h.bx.lt,Qas h.own g,h.eq⟩
theorem KW.rest {w W:World} {kx:Array Value} {v:Value} {xs R R' K:List UInt8} (h:KW w W kx v xs R K) (e:R=R'):KW w W kx v xs R' K:=e▸h
theorem Qnz {B n k b:Nat} {W:World} {v:Value} {xs:List Value} {t:TypeId} {vs:Array Value} (h:W.ownsRow B 5 k v n xs) (hb:Blk W b t vs) (ht:t≠5):some b≠v.ownBlock:=by
 rcases h.2 with⟨rfl,_⟩|⟨g,c,cur,rfl,_,hg,_⟩
 . simp[Value.ownBlock]
 . intro e;have e' :b=g:=(by simpa [Value.ownBlock]using e);subst e';have:=(show W.heap[b]? =_ from hb).symm.trans hg;simp at this;exact ht this.2
theorem KW.add {w W W1:World} {kx:Array Value} {a a1:Option Addr} {c c1:Nat} {xs R K ys R' :List UInt8} (h:KW w W kx (.slice a xs.length c) xs R K) (hK:K.length<=400000000) (hR:R=ys++R') (g:Below W.heap.size W W1) {B:Nat} (o:W1.ownsRow B 5 1 (.slice a1 ys.length c1) ys.length (flat ys)):
 ∃a2 c2 zs W2,(Builtin.append_ #[22,22] 22 (l1SS a xs.length c a1 ys.length c1)).run Tryz.prog W1= .ok (.slice a2 (List.length zs) c2) W2/\KW w W2 kx (.slice a2 zs.length c2) zs R' K/\(∀b t vs,Blk W b t vs->t≠5->Blk W2 b t vs):=by
 have h1:=h.below g;have hl:xs.length+ys.length<=1000000000:=by
  have:=congrArg List.length h.eq;rw[hR]at this;simp at this;omega
 obtain⟨a2,c2,W2,hr,hown,hg⟩:=Qcj (c' :=c1) (B:=w.heap.size+1) (by have:=h1.bx.lt;omega) h1.own (Qay o).at hl;have ko:=Qb8 hg;refine⟨a2,c2,xs++ys,W2,hr,⟨h1.bl.trans (ko.toBelow (fun x hx=>by have:=(h1.own.lt x hx).1;omega) h1.bl.size),h1.bx.offp ko (fun e=>Qnz h1.own h1.bx (by decide) e.symm),hown,?_⟩,?_⟩
 . rw[← h.eq,hR,List.append_assoc]
 . intro b t vs hb ht;exact(hb.below g hb.lt).offp ko (fun e=>Qnz h1.own (hb.below g hb.lt) ht e.symm)
theorem Qha {α:Type} (f:α->List UInt8) {l:List α} {n:Nat} (h:n<l.length):(l.drop n).flatMap f=f l[n]++(l.drop (n+1)).flatMap f:=by
 rw[List.drop_eq_getElem_cons h,List.flatMap_cons]
theorem Qj6 {α:Type} (f:α->List UInt8) {l:List α} {n:Nat} (h:l.length<=n):(l.drop n).flatMap f= []:=by
 rw[List.drop_eq_nil_of_le h];rfl
theorem Qp4 (y:RC) (T:List UInt8):rcB y++T=Qbo [y.start,y.next,(y.its.length:Int)]++(y.its.flatMap itB++T):=by
 simp[rcB,itsB,Qbo,List.append_assoc]
theorem Qqj (z:It) (T:List UInt8):itB z++T=numI z.off++(txtB z.key++(txtB z.text++(Qbo [z.who,z.time]++T))):=by simp[itB,List.append_assoc]
theorem Qqd (y:MC) (T:List UInt8):mcB y++T=Qbo [y.row,y.who,y.epoch,y.last+1,(y.ms.length:Int)]++(y.ms.flatMap mkB++T):=by
 simp[mcB,mksB,Qbo,List.append_assoc]
theorem Qqu (y:GC) (T:List UInt8):gcB y++T=Qbo [y.gen,(y.m.length:Int)]++(memB y.m y.b++(Qbo y.o++T)):=by simp[gcB,List.append_assoc]
theorem Qq7 (d:Int) (y:An) (T:List UInt8):(numI d++anB y)++T=Qbo [d,y.code,y.n+1]++(txtB y.key++(txtB y.text++T)):=by simp[anB,Qbo,List.append_assoc]
theorem In.getItG {w:World} {b o:Nat} {l:List It} (h:In w b o l) (i:Nat) (hi:i<l.length):
 w.cell? ⟨b,o+i*5,none⟩=some (.int .i64 l[i].off)/\w.cell? ⟨b,o+i*5+1,none⟩=some (.string l[i].key)/\w.cell? ⟨b,o+i*5+2,none⟩=some (.string l[i].text)/\w.cell? ⟨b,o+i*5+3,none⟩=some (.int .i64 l[i].who)/\w.cell? ⟨b,o+i*5+4,none⟩=some (.int .i64 l[i].time):=
 ⟨h.cell i hi (f:=0) rfl,h.cell i hi (f:=1) rfl,h.cell i hi (f:=2) rfl,h.cell i hi (f:=3) rfl,h.cell i hi (f:=4) rfl⟩
theorem newN (W:World) (L:List Int) (cs:Array Value) {z:Nat} (hz:z=W.heap.size) (h:cs.toList=flat L):At (W.alloc (.cells cs 3)) (some ⟨z,0,none⟩) L:=by subst hz;exact newL W L cs 3 h
end Go.Proofs.YtajbldnhjpjghaaGreat.Gen
