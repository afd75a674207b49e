/-
  A right setup and a keeper that are drawn (spec.l6DrawRight): the keeper's bounds. No condition.
-/
import Derived.Test.YtajbldnhjpjghaaGreatDoorDrawK
import Derived.Test.YtajbldnhjpjghaaGreatDoorKAl2
set_option linter.unusedVariables false
set_option linter.unusedSimpArgs false
set_option maxRecDepth 100000
set_option maxHeartbeats 8000000
set_option maxRecDepth 100000
set_option maxHeartbeats 8000000
namespace Go.Proofs.YtajbldnhjpjghaaGreatDoor.Gen
open ChangeShapes WideShapes ChangeAt RowKit Joins Deep Base
open Items (It)
structure Kr (w W:World) (C cap:Nat) (A:Option Addr) (l:List By) (X:Nat) (sc:Array Value):Prop where
  on:Only C w W
  dr:Drawn W C A cap l
  r1:Blk W w.heap.size 108 Qeu
  r2:Blk W (w.heap.size+1) 114 Qae
  sb:Blk W X 108 sc
  hC:C<w.heap.size
  hX:w.heap.size+1<X
section
variable {w W W' :World} {C cap:Nat} {A:Option Addr} {l:List By} {X:Nat} {sc:Array Value}
theorem Kr.below (h:Kr w W C cap A l X sc) (g:Below W.heap.size W W'):Kr w W' C cap A l X sc:=⟨h.on.below g,h.dr.below g,h.r1.below g h.r1.lt,h.r2.below g h.r2.lt,h.sb.below g h.sb.lt,h.hC,h.hX⟩
theorem Kr.alloc (h:Kr w W C cap A l X sc) (ob:Obj):Kr w (W.alloc ob) C cap A l X sc:=h.below (Qad (Below.refl _ _) _)
theorem Kr.drew (h:Kr w W C cap A l X sc):Kr w W.drew C cap A l X sc:=h.below (Below.refl _ _).drew
theorem Kr.only (h:Kr w W C cap A l X sc) (k:Only C W W') (d:Drawn W' C A cap l):Kr w W' C cap A l X sc:=
 ⟨h.on.trans k,d,h.r1.only k (by have:=h.hC;omega),h.r2.only k (by have:=h.hC;omega),h.sb.only k (by have:=h.hC;have:=h.hX;omega),h.hC,h.hX⟩
theorem Kr.box {q:Nat} (h:Kr w W C cap A l X sc) (k:Only q W W') (h1:w.heap.size+1<q) (h2:X≠q):Kr w W' C cap A l X sc:=
 ⟨Qaq h.on k (by omega),h.dr.only k (by have:=h.hC;omega),h.r1.only k (by omega),h.r2.only k (by omega),h.sb.only k h2,h.hC,h.hX⟩
end
def DrewK (C:Nat) (A:Option Addr) (cap:Nat) (l:List By) (w:World) (e:Ending) (w' :World):Prop:=∃(ro wi le ke:Int) (y:KC) (R:Nat),e= .returned (.tuple #[.agg (Qaj ro wi le ke),.agg (Qaa y.rA y.rs.length y.rc y.mA y.ms.length y.mc y.gA y.gs.length y.gc y.time y.dA y.ds.length y.dc y.lA y.ls.length y.lc)])/\setB ro wi le ke=true/\ro=R/\(1<=R/\R<=4)/\Kin R 14 y.p/\KV w' y (fun b=>w.heap.size<b/\b<w'.heap.size)/\Only C w w' /\Drawn w' C A cap l
theorem Qkn (C:Nat) (A:Option Addr) (cap:Nat) (l:List By) (w:World) (hD:Drawn w C A cap l):
 Calls Tryz.prog 54 #[.pointer (some ⟨C,0,none⟩)] w fun e w' =>DrewK C A cap l w e w' :=by
 have hC:=hD.lt;have B0:Below w.heap.size w ((w.alloc (.cells Qeu 108)).alloc (.cells Qae 114)):=Qad (Qad (Below.refl _ _) _) _;have r1:Blk ((w.alloc (.cells Qeu 108)).alloc (.cells Qae 114)) w.heap.size 108 Qeu:=(Blk.new w _ _).alloc _;have r2:Blk ((w.alloc (.cells Qeu 108)).alloc (.cells Qae 114)) (w.heap.size+1) 114 Qae:=by have:=Blk.new (w.alloc (.cells Qeu 108)) 114 Qae;rwa [World.size_alloc]at this
 have D0:=hD.below B0;have O0:Only C w ((w.alloc (.cells Qeu 108)).alloc (.cells Qae 114)):=Only.of_below B0;have H0:=hidP (And.intro O0 D0);clear hD B0 D0 O0;go_enter Tryz.func54,Tryz.ntmps54;go_wp2_with fail;refine(Qix C A cap l _ H0.out.2).mono ?_;rintro e w1 ⟨ro,wi,le,ke,rfl,hset,k1,d1⟩;have q1:=r1.only k1 (by omega);have q2:=r2.only k1 (by omega);have P:Kr w (w1.alloc (.cells (Qaj ro wi le ke) 108)) C cap A l w1.heap.size (Qaj ro wi le ke):=⟨(H0.out.1.trans k1).below (Qad (Below.refl _ _) _),d1.below (Qad (Below.refl _ _) _),q1.alloc _,q2.alloc _,Blk.new w1 _ _,hC,q2.lt⟩
 clear H0 k1 d1 q1 q2 r1 r2;have hset:=hidP hset;obtain⟨h1,h4⟩:=Qjf hset.out;obtain⟨R,hro0⟩:∃R:Nat,ro=R:=⟨ro.toNat,by omega⟩
 have hR:1<=R/\R<=4:=by omega
 have hro:=hidP hro0;clear h1 h4 hro0;have HCM:Hid (∀V:World,Drawn V C A cap l->Calls Tryz.prog 81 #[.pointer (some ⟨C,0,none⟩),.int .i64 14] V fun e w' =>∃(a:Option Addr) (c:Nat) (L:List Cq),e= .returned (.slice a L.length c)/\L.length<=14/\(∀x∈L,x.key.size<=30/\x.text.size<=30)/\DL 91 V w' C cap A l a c L):=fun V d=>Qko C A cap l 14 (by omega) V d
 go_upto_region 2 with fail;generalize w1.alloc (.cells (Qaj ro wi le ke) 108)=w2a at P ⊢;have hX:=P.hX;generalize w1.heap.size=X at P hX ⊢;have mkS:∀V:World,Kr w V C cap A l X (Qaj ro wi le ke)->(fun(V:World)=>V.cell? ⟨X,0,none⟩=some (.int .i64 ro)/\V.cell? ⟨X,1,none⟩=some (.int .i64 wi)/\V.cell? ⟨X,2,none⟩=some (.int .i64 le)/\V.cell? ⟨X,3,none⟩=some (.int .i64 ke)) V:=fun V p=>by
  obtain⟨a0,a1,a2,a3⟩:=p.sb.row4;exact⟨a0,a1,a2,a3⟩
 have P:=P.drew;go_cut [5]from 9 to 15 (fun pv wx=>∃(P5:Nat) (y:KC) (lo2 hi2:Nat),pv= .pointer (some ⟨P5,0,none⟩)/\Kr w wx C cap A l X (Qaj ro wi le ke)/\Blk wx P5 114 (Qaa y.rA y.rs.length y.rc y.mA y.ms.length y.mc y.gA y.gs.length y.gc y.time y.dA y.ds.length y.dc y.lA y.ls.length y.lc)/\Hid (KV wx y (fun b=>lo2<b/\b<hi2))/\Hid (Kin R 14 y.p)/\hi2<=wx.heap.size/\w.heap.size+1<lo2/\(X<P5/\w.heap.size+1<P5)/\¬(lo2<P5/\P5<hi2))
 case first=>
  refine wp_region_noPanic ?_;refine wp_region_held_drew (S:=(fun(V:World)=>V.cell? ⟨X,0,none⟩=some (.int .i64 ro)/\V.cell? ⟨X,1,none⟩=some (.int .i64 wi)/\V.cell? ⟨X,2,none⟩=some (.int .i64 le)/\V.cell? ⟨X,3,none⟩=some (.int .i64 ke))) (by kernel_rfl) ?_ (fun hH=> ?_)
  . exact mkS _ P
  refine ztk [0,1] ?_;repeat(refine ztn (hS:=hH) (h:= ?_);try simp only[zX,zY])
  refine zte ?_;generalize hw2:w2a.drew=w2 at P hH ⊢;have hz2:w2.heap.size=w2a.heap.size:=(by rw[← hw2];rfl)
  have hX2:X<w2.heap.size:=P.sb.lt;clear hw2 hz2;refine zR2 2 7 (fun K hK=> ?_) (fun K hK=> ?_)
  focus
   simp only[zG];go_simp;refine(HCM.out _ P.dr).mono ?_;rintro e w3 ⟨ca,cc,L,rfl,hL,hLs,dl⟩;have z3:=dl.on.size;have z3:w2.heap.size<=w3.heap.size:=z3;have P:=P.only dl.on dl.dr;have hat:=hidP (Qc7 rfl dl.own);have HL:=hidP (And.intro hL hLs);clear hL hLs dl;refine hK.out _ _ (mkS _ P) fun hH=> ?_;clear hK K;try simp only[zX,zY]
   refine zR2 3 7 (fun K hK=> ?_) (fun K hK=> ?_)
   focus
    simp only[zG];go_simp;refine(Qez R hR ro wi le ke hro.out hset.out ca cc L (by have h9:=HL.out.1;omega) HL.out.2 _ hat.out).mono ?_;rintro e w4 ⟨y,v,rfl,hyp,hyk,hyv,g4⟩;have z4:=g4.size;have z4:w3.heap.size<=w4.heap.size:=z4;have hyv:KV w4 y (fun b=>w3.heap.size<b/\b<w4.heap.size):=hyv;have P:=P.below g4;have hyk:=hidP (hyk.mono HL.out.1);simp only[KC.cells];clear hyp g4;refine hK.out _ _ (mkS _ P) fun hH=> ?_;clear hK K;try simp only[zX,zY]
    refine ztk [4,5,6] ?_;repeat(refine ztn (hS:=hH) (h:= ?_);try simp only[zX,zY])
    refine zte ?_;refine zR1 7 (fun K hK=> ?_);simp only[zG];go_simp;have B7:Blk (w4.alloc (.cells Qae 114)) (w4.heap.size) 114 Qae:=Blk.new w4 114 Qae;have P:=P.alloc (.cells Qae 114);have hyv:=hyv.below (Qad (Below.refl _ _) (.cells Qae 114));refine hK.out _ _ (mkS _ P) fun hH=> ?_;clear hK K;try simp only[zX,zY]
    have hP7:w2.heap.size<=(w4.heap.size)/\¬(w3.heap.size<(w4.heap.size)/\(w4.heap.size)<w4.heap.size)/\w2.heap.size<=w3.heap.size:=(by omega)
    have hle4:w4.heap.size<=((w4.alloc (.cells Qae 114))).heap.size:=(by simp only[World.size_alloc];omega)
    obtain⟨lo2,hi2,hyv,hP7,hle4⟩:∃lo2 hi2,KV ((w4.alloc (.cells Qae 114))) y (fun b=>lo2<b/\b<hi2)/\(w2.heap.size<=(w4.heap.size)/\¬(lo2<(w4.heap.size)/\(w4.heap.size)<hi2)/\w2.heap.size<=lo2)/\hi2<=((w4.alloc (.cells Qae 114))).heap.size:=⟨_,_,hyv,hP7,hle4⟩
    have hn7:X<(w4.heap.size)/\w.heap.size+1<(w4.heap.size):=(by omega)
    have hlo2:w.heap.size+1<lo2:=(by omega)
    generalize (w4.alloc (.cells Qae 114))=w6 at P B7 hyv hle4 ⊢;generalize (w4.heap.size)=P5 at B7 hP7 hn7 ⊢
   rotate_left
   focus
    simp only[zG];go_simp;have B7:Blk (w3.alloc (.cells Qae 114)) (w3.heap.size) 114 Qae:=Blk.new w3 114 Qae;have P:=P.alloc (.cells Qae 114);refine hK.out _ _ (mkS _ P) fun hH=> ?_;clear hK K;try simp only[zX,zY]
    refine zR1 3 (fun K hK=> ?_);simp only[zG];go_simp;refine(Qez R hR ro wi le ke hro.out hset.out ca cc L (by have h9:=HL.out.1;omega) HL.out.2 _ (hat.out.below (Qad (Below.refl _ _) (.cells Qae 114)))).mono ?_;rintro e w4 ⟨y,v,rfl,hyp,hyk,hyv,g4⟩;have z4:=g4.size;simp only[World.size_alloc]at z4 hyv;have z4:w3.heap.size+1<=w4.heap.size:=z4;have hyv:KV w4 y (fun b=>w3.heap.size+1<b/\b<w4.heap.size):=hyv;have P:=P.below g4;have B7:=B7.below g4 B7.lt;have hyk:=hidP (hyk.mono HL.out.1);simp only[KC.cells];clear hyp g4;refine hK.out _ _ (mkS _ P) fun hH=> ?_;clear hK K;try simp only[zX,zY]
    refine ztk [4,5,6] ?_;repeat(refine ztn (hS:=hH) (h:= ?_);try simp only[zX,zY])
    refine zte ?_;have hP7:w2.heap.size<=(w3.heap.size)/\¬(w3.heap.size+1<(w3.heap.size)/\(w3.heap.size)<w4.heap.size)/\w2.heap.size<=w3.heap.size+1:=(by omega)
    have hle4:w4.heap.size<=(w4).heap.size:=(by omega)
    obtain⟨lo2,hi2,hyv,hP7,hle4⟩:∃lo2 hi2,KV (w4) y (fun b=>lo2<b/\b<hi2)/\(w2.heap.size<=(w3.heap.size)/\¬(lo2<(w3.heap.size)/\(w3.heap.size)<hi2)/\w2.heap.size<=lo2)/\hi2<=(w4).heap.size:=⟨_,_,hyv,hP7,hle4⟩
    have hn7:X<(w3.heap.size)/\w.heap.size+1<(w3.heap.size):=(by omega)
    have hlo2:w.heap.size+1<lo2:=(by omega)
    generalize w4=w6 at P B7 hyv hle4 ⊢;generalize (w3.heap.size)=P5 at B7 hP7 hn7 ⊢
  rotate_left 2
  focus
   simp only[zG];go_simp;have B7:Blk (w2.alloc (.cells Qae 114)) (w2.heap.size) 114 Qae:=Blk.new w2 114 Qae;have P:=P.alloc (.cells Qae 114);refine hK.out _ _ (mkS _ P) fun hH=> ?_;clear hK K;try simp only[zX,zY]
   refine zR1 2 (fun K hK=> ?_);simp only[zG];go_simp;refine(HCM.out _ P.dr).mono ?_;rintro e w3 ⟨ca,cc,L,rfl,hL,hLs,dl⟩;have z3:=dl.on.size;simp only[World.size_alloc]at z3;have z3:w2.heap.size+1<=w3.heap.size:=z3;have P:=P.only dl.on dl.dr;have hat:=hidP (Qc7 rfl dl.own);have HL:=hidP (And.intro hL hLs);have B7:=B7.only dl.on (by omega);clear hL hLs dl;refine hK.out _ _ (mkS _ P) fun hH=> ?_;clear hK K;try simp only[zX,zY]
   refine zR1 3 (fun K hK=> ?_);simp only[zG];go_simp;refine(Qez R hR ro wi le ke hro.out hset.out ca cc L (by have h9:=HL.out.1;omega) HL.out.2 _ hat.out).mono ?_;rintro e w4 ⟨y,v,rfl,hyp,hyk,hyv,g4⟩;have z4:=g4.size;have z4:w3.heap.size<=w4.heap.size:=z4;have hyv:KV w4 y (fun b=>w3.heap.size<b/\b<w4.heap.size):=hyv;have P:=P.below g4;have B7:=B7.below g4 B7.lt;have hyk:=hidP (hyk.mono HL.out.1);simp only[KC.cells];clear hyp g4;refine hK.out _ _ (mkS _ P) fun hH=> ?_;clear hK K;try simp only[zX,zY]
   refine ztk [4,5,6] ?_;repeat(refine ztn (hS:=hH) (h:= ?_);try simp only[zX,zY])
   refine zte ?_;have hP7:w2.heap.size<=(w2.heap.size)/\¬(w3.heap.size<(w2.heap.size)/\(w2.heap.size)<w4.heap.size)/\w2.heap.size<=w3.heap.size:=(by omega)
   have hle4:w4.heap.size<=(w4).heap.size:=(by omega)
   obtain⟨lo2,hi2,hyv,hP7,hle4⟩:∃lo2 hi2,KV (w4) y (fun b=>lo2<b/\b<hi2)/\(w2.heap.size<=(w2.heap.size)/\¬(lo2<(w2.heap.size)/\(w2.heap.size)<hi2)/\w2.heap.size<=lo2)/\hi2<=(w4).heap.size:=⟨_,_,hyv,hP7,hle4⟩
   have hn7:X<(w2.heap.size)/\w.heap.size+1<(w2.heap.size):=(by omega)
   have hlo2:w.heap.size+1<lo2:=(by omega)
   generalize w4=w6 at P B7 hyv hle4 ⊢;generalize (w2.heap.size)=P5 at B7 hP7 hn7 ⊢
  all_goals
   obtain⟨z0,z1,z2,z3,z4,z5⟩:=B7.row6;have f0:=B7.thaw 0;have f1:=B7.thaw 1;have f2:=B7.thaw 2;have f3:=B7.thaw 3;have f4:=B7.thaw 4;have f5:=B7.thaw 5;have kk:=Qat w6 P5 (.slice y.rA y.rs.length y.rc) (.slice y.mA y.ms.length y.mc) (.slice y.gA y.gs.length y.gc) (.int .i64 y.time) (.slice y.dA y.ds.length y.dc) (.slice y.lA y.ls.length y.lc);have P9:=P.box kk (by omega) (by omega);have C7:=Qbs B7 (.slice y.rA y.rs.length y.rc) (.slice y.mA y.ms.length y.mc) (.slice y.gA y.gs.length y.gc) (.int .i64 y.time) (.slice y.dA y.ds.length y.dc) (.slice y.lA y.ls.length y.lc);have kv9:=hidP (hyv.offp (Offp.of_only kk) (fun q hq e=>hP7.2.1 (e▸hq)));have hz6:(putK w6 P5 (.slice y.rA y.rs.length y.rc) (.slice y.mA y.ms.length y.mc) (.slice y.gA y.gs.length y.gc) (.int .i64 y.time) (.slice y.dA y.ds.length y.dc) (.slice y.lA y.ls.length y.lc)).heap.size=w6.heap.size:=(by simp)
   clear kk;refine zR1 8 (fun K hK=> ?_);simp only[zG];go_simp
   skip
   refine hK.out _ _ (mkS _ P9) fun hH=> ?_;clear hK K;try simp only[zX,zY]
   refine zt1 9 ?_;refine ztn (hS:=hH) (h:= ?_);try simp only[zX,zY]
   refine zte ?_;refine zdn ?_;go_wp2_with fail
   go_meet
   exact⟨P5,y,lo2,hi2,rfl,P9,C7,kv9,hyk,by rw[hz6];exact hle4,hlo2,hn7,hP7.2.1⟩
 case rest=>
  obtain⟨P5,y,lo2,hi2,rfl,P,C7,kv9,hyk,hle4,hlo2,hn7,hP7⟩:=hcut;clear mkS;go_upto_region 3 with fail;have P5' :=P.drew;have D7:Blk wc.drew P5 114 (Qaa y.rA y.rs.length y.rc y.mA y.ms.length y.mc y.gA y.gs.length y.gc y.time y.dA y.ds.length y.dc y.lA y.ls.length y.lc):=C7;have mkS3:∀V:World,Kr w V C cap A l X (Qaj ro wi le ke)->Blk V P5 114 (Qaa y.rA y.rs.length y.rc y.mA y.ms.length y.mc y.gA y.gs.length y.gc y.time y.dA y.ds.length y.dc y.lA y.ls.length y.lc)->(fun(V:World)=>V.cell? ⟨X,0,none⟩=some (.int .i64 ro)/\V.cell? ⟨X,1,none⟩=some (.int .i64 wi)/\V.cell? ⟨X,2,none⟩=some (.int .i64 le)/\V.cell? ⟨X,3,none⟩=some (.int .i64 ke)/\V.cell? ⟨P5,0,none⟩=some (.slice y.rA y.rs.length y.rc)/\V.cell? ⟨P5,1,none⟩=some (.slice y.mA y.ms.length y.mc)/\V.cell? ⟨P5,2,none⟩=some (.slice y.gA y.gs.length y.gc)/\V.cell? ⟨P5,3,none⟩=some (.int .i64 y.time)/\V.cell? ⟨P5,4,none⟩=some (.slice y.dA y.ds.length y.dc)/\V.cell? ⟨P5,5,none⟩=some (.slice y.lA y.ls.length y.lc)) V:=fun V p q=>by
   obtain⟨a0,a1,a2,a3⟩:=p.sb.row4;obtain⟨k0,k1,k2,k3,k4,k5⟩:=q.row6;exact⟨a0,a1,a2,a3,k0,k1,k2,k3,k4,k5⟩
  clear P C7;refine wp_region_noPanic ?_;refine wp_region_held_drew (S:=(fun(V:World)=>V.cell? ⟨X,0,none⟩=some (.int .i64 ro)/\V.cell? ⟨X,1,none⟩=some (.int .i64 wi)/\V.cell? ⟨X,2,none⟩=some (.int .i64 le)/\V.cell? ⟨X,3,none⟩=some (.int .i64 ke)/\V.cell? ⟨P5,0,none⟩=some (.slice y.rA y.rs.length y.rc)/\V.cell? ⟨P5,1,none⟩=some (.slice y.mA y.ms.length y.mc)/\V.cell? ⟨P5,2,none⟩=some (.slice y.gA y.gs.length y.gc)/\V.cell? ⟨P5,3,none⟩=some (.int .i64 y.time)/\V.cell? ⟨P5,4,none⟩=some (.slice y.dA y.ds.length y.dc)/\V.cell? ⟨P5,5,none⟩=some (.slice y.lA y.ls.length y.lc))) (by kernel_rfl) ?_ (fun hH=> ?_)
  . exact mkS3 _ P5' D7
  have kvd:=hidP (kv9.out.below (Below.refl _ _).drew);have hzd:wc.drew.heap.size=wc.heap.size:=rfl;generalize wc.drew=XX at P5' D7 kvd hzd hH ⊢;refine ztk [0,1] ?_;repeat(refine ztn (hS:=hH) (h:= ?_);try simp only[zX,zY])
  refine zte ?_;obtain⟨r0,r1,r2,r3⟩:=P5'.r1.row4;have f0:=P5'.r1.thaw 0;have f1:=P5'.r1.thaw 1;have f2:=P5'.r1.thaw 2;have f3:=P5'.r1.thaw 3;have ks:=Qa1 XX w.heap.size (.int .i64 ro) (.int .i64 wi) (.int .i64 le) (.int .i64 ke);have B1:=Qgk P5'.r1 (.int .i64 ro) (.int .i64 wi) (.int .i64 le) (.int .i64 ke);have Q2:=P5'.r2.only ks (by omega);obtain⟨z0,z1,z2,z3,z4,z5⟩:=Q2.row6;have g0:=Q2.thaw 0;have g1:=Q2.thaw 1;have g2:=Q2.thaw 2;have g3:=Q2.thaw 3;have g4:=Q2.thaw 4;have g5:=Q2.thaw 5;have SA:Hid ((fun(V:World)=>V.cell? ⟨X,0,none⟩=some (.int .i64 ro)/\V.cell? ⟨X,1,none⟩=some (.int .i64 wi)/\V.cell? ⟨X,2,none⟩=some (.int .i64 le)/\V.cell? ⟨X,3,none⟩=some (.int .i64 ke)/\V.cell? ⟨P5,0,none⟩=some (.slice y.rA y.rs.length y.rc)/\V.cell? ⟨P5,1,none⟩=some (.slice y.mA y.ms.length y.mc)/\V.cell? ⟨P5,2,none⟩=some (.slice y.gA y.gs.length y.gc)/\V.cell? ⟨P5,3,none⟩=some (.int .i64 y.time)/\V.cell? ⟨P5,4,none⟩=some (.slice y.dA y.ds.length y.dc)/\V.cell? ⟨P5,5,none⟩=some (.slice y.lA y.ls.length y.lc)) (putN XX w.heap.size (.int .i64 ro) (.int .i64 wi) (.int .i64 le) (.int .i64 ke))):=(by obtain⟨a0,a1,a2,a3⟩:=(P5'.sb.only ks (by have:=P5'.hX;omega)).row4;obtain⟨k0,k1,k2,k3,k4,k5⟩:=(D7.only ks (by omega)).row6;exact⟨a0,a1,a2,a3,k0,k1,k2,k3,k4,k5⟩)
  have kk:=Qat (putN XX w.heap.size (.int .i64 ro) (.int .i64 wi) (.int .i64 le) (.int .i64 ke)) (w.heap.size+1) (.slice y.rA y.rs.length y.rc) (.slice y.mA y.ms.length y.mc) (.slice y.gA y.gs.length y.gc) (.int .i64 y.time) (.slice y.dA y.ds.length y.dc) (.slice y.lA y.ls.length y.lc);have SB:Hid ((fun(V:World)=>V.cell? ⟨X,0,none⟩=some (.int .i64 ro)/\V.cell? ⟨X,1,none⟩=some (.int .i64 wi)/\V.cell? ⟨X,2,none⟩=some (.int .i64 le)/\V.cell? ⟨X,3,none⟩=some (.int .i64 ke)/\V.cell? ⟨P5,0,none⟩=some (.slice y.rA y.rs.length y.rc)/\V.cell? ⟨P5,1,none⟩=some (.slice y.mA y.ms.length y.mc)/\V.cell? ⟨P5,2,none⟩=some (.slice y.gA y.gs.length y.gc)/\V.cell? ⟨P5,3,none⟩=some (.int .i64 y.time)/\V.cell? ⟨P5,4,none⟩=some (.slice y.dA y.ds.length y.dc)/\V.cell? ⟨P5,5,none⟩=some (.slice y.lA y.ls.length y.lc)) (putK (putN XX w.heap.size (.int .i64 ro) (.int .i64 wi) (.int .i64 le) (.int .i64 ke)) (w.heap.size+1) (.slice y.rA y.rs.length y.rc) (.slice y.mA y.ms.length y.mc) (.slice y.gA y.gs.length y.gc) (.int .i64 y.time) (.slice y.dA y.ds.length y.dc) (.slice y.lA y.ls.length y.lc))):=(by obtain⟨a0,a1,a2,a3⟩:=((P5'.sb.only ks (by have:=P5'.hX;omega)).only kk (by have:=P5'.hX;omega)).row4;obtain⟨k0,k1,k2,k3,k4,k5⟩:=((D7.only ks (by omega)).only kk (by omega)).row6;exact⟨a0,a1,a2,a3,k0,k1,k2,k3,k4,k5⟩)
  have B1' :=B1.only kk (by omega);obtain⟨s0,s1,s2,s3⟩:=B1'.row4;obtain⟨t0,t1,t2,t3,t4,t5⟩:=Qbe Q2 (.slice y.rA y.rs.length y.rc) (.slice y.mA y.ms.length y.mc) (.slice y.gA y.gs.length y.gc) (.int .i64 y.time) (.slice y.dA y.ds.length y.dc) (.slice y.lA y.ls.length y.lc);have O9:=Qaq (Qaq P5'.on ks (Nat.le_refl _)) kk (by omega);have D9:=(P5'.dr.only ks P5'.hC).only kk (by have:=P5'.hC;omega);have V9:=kvd.out.offp (Offp.of_only ks) (fun q hq e=>by omega);have V9:=V9.offp (Offp.of_only kk) (fun q hq e=>by omega);have hz9:(putK (putN XX w.heap.size (.int .i64 ro) (.int .i64 wi) (.int .i64 le) (.int .i64 ke)) (w.heap.size+1) (.slice y.rA y.rs.length y.rc) (.slice y.mA y.ms.length y.mc) (.slice y.gA y.gs.length y.gc) (.int .i64 y.time) (.slice y.dA y.ds.length y.dc) (.slice y.lA y.ls.length y.lc)).heap.size=wc.heap.size:=(by simp[hzd])
  have TT:Hid (Only C w _/\Drawn _ C A cap l/\KV _ y (fun b=>lo2<b/\b<hi2)/\_=wc.heap.size):=⟨O9,D9,V9,hz9⟩
  refine zR1 2 (fun K hK=> ?_);simp only[zG];go_simp
  skip
  refine hK.out _ _ SA.out fun hH=> ?_;clear hK K;try simp only[zX,zY]
  refine zR1 3 (fun K hK=> ?_);simp only[zG];go_simp
  skip
  refine hK.out _ _ SB.out fun hH=> ?_;clear hK K;try simp only[zX,zY]
  refine zdn ?_;go_wp2;refine bodyPost_ret (v:= .tuple #[.agg (Qaj ro wi le ke),.agg (Qaa y.rA y.rs.length y.rc y.mA y.ms.length y.mc y.gA y.gs.length y.gc y.time y.dA y.ds.length y.dc y.lA y.ls.length y.lc)]) (by simp[results,Tryz.results54,go_sem,s0,s1,s2,s3,t0,t1,t2,t3,t4,t5]) rfl ⟨ro,wi,le,ke,y,R,rfl,hset.out,hro.out,hR,hyk.out,TT.out.2.2.1.mono (fun q _ hq=>⟨by omega,by rw[TT.out.2.2.2];omega⟩),TT.out.1,TT.out.2.1⟩
structure En where
  term:Int
  who:Int
  seq:Int
  op:Int
  a:Int
  b:Int
  c:Int
  key:ByteArray
  text:ByteArray
instance:Inhabited En:=⟨⟨0,0,0,0,0,0,0,⟨#[]⟩,⟨#[]⟩⟩⟩
instance:Cel En where
  k:=9
  cs x:= [.int .i64 x.term,.int .i64 x.who,.int .i64 x.seq,.int .i64 x.op,.int .i64 x.a,.int .i64 x.b,.int .i64 x.c,.string x.key,.string x.text]
  len _:=rfl
  one x u hu:=by simp at hu;rcases hu with rfl|rfl|rfl|rfl|rfl|rfl|rfl|rfl|rfl<;>rfl
def En.fit (x:En):Prop:=x.key.size<=9223372036854775807/\x.text.size<=9223372036854775807
theorem In.getEn {w:World} {b o:Nat} {l:List En} (h:In w b o l) (n:Nat) (hi:n<l.length):
 w.cell? ⟨b,o+n*9,none⟩=some (.int .i64 l[n].term)/\w.cell? ⟨b,o+n*9+1,none⟩=some (.int .i64 l[n].who)/\w.cell? ⟨b,o+n*9+2,none⟩=some (.int .i64 l[n].seq)/\w.cell? ⟨b,o+n*9+3,none⟩=some (.int .i64 l[n].op)/\w.cell? ⟨b,o+n*9+4,none⟩=some (.int .i64 l[n].a)/\w.cell? ⟨b,o+n*9+5,none⟩=some (.int .i64 l[n].b)/\w.cell? ⟨b,o+n*9+6,none⟩=some (.int .i64 l[n].c)/\w.cell? ⟨b,o+n*9+7,none⟩=some (.string l[n].key)/\w.cell? ⟨b,o+n*9+8,none⟩=some (.string l[n].text):=
 ⟨h.cell n hi (f:=0) rfl,h.cell n hi (f:=1) rfl,h.cell n hi (f:=2) rfl,h.cell n hi (f:=3) rfl,h.cell n hi (f:=4) rfl,h.cell n hi (f:=5) rfl,h.cell n hi (f:=6) rfl,h.cell n hi (f:=7) rfl,h.cell n hi (f:=8) rfl⟩
theorem infoEn:(Tryz.prog.info? 93).map (fun i=>(i.zero,i.size,i.bytes))=some (some (.agg Qa9),9,88):=by kernel_rfl
end Go.Proofs.YtajbldnhjpjghaaGreatDoor.Gen
