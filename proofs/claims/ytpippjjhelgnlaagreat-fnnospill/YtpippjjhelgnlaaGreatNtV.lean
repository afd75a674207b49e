/-
  Notes: what the laws' sz, to and eq functions of them do; a note opened. No condition but that there are at most 1048576 entries, and the length that every text has.
-/
import Derived.Test.YtpippjjhelgnlaaGreatKS2
set_option linter.unusedVariables false
set_option linter.unusedSimpArgs false
set_option maxRecDepth 100000
set_option maxHeartbeats 8000000
namespace Go.Proofs.YtpippjjhelgnlaaGreat.Gen
open ChangeShapes WideShapes ChangeAt RowKit Joins Deep Base
theorem Blk.row6n {W:World} {B:Nat} {t:TypeId} {a b c d e f:Value} (h:Blk W B t #[a,b,c,d,e,f]):W.cell? ⟨B,0,none⟩=some a/\W.cell? ⟨B,1,none⟩=some b/\W.cell? ⟨B,2,none⟩=some c/\W.cell? ⟨B,3,none⟩=some d/\W.cell? ⟨B,4,none⟩=some e/\W.cell? ⟨B,5,none⟩=some f:=
 ⟨h.cell (by rfl),h.cell (by rfl),h.cell (by rfl),h.cell (by rfl),h.cell (by rfl),h.cell (by rfl)⟩
end Go.Proofs.YtpippjjhelgnlaaGreat.Gen
namespace Go.Proofs.YtpippjjhelgnlaaGreat.Gen
open ChangeShapes WideShapes ChangeAt RowKit Joins Deep Base
open Items (It)
def DrewN (C:Nat) (A:Option Addr) (cap:Nat) (l:List By) (w:World) (e:Ending) (w' :World):Prop:=∃(kind term vote prev:Int) (a:Option Addr) (c:Nat) (L:List En) (snap:ByteArray),e= .returned (.agg (Qah kind term vote prev a L.length c snap))/\L.length<=200/\(∀x∈L,x.key.size<=30/\x.text.size<=30)/\snap.size<=300000/\Av w' a L (fun b=>w.heap.size<b)/\Only C w w' /\Drawn w' C A cap l
structure Nr (w W:World) (C cap:Nat) (A:Option Addr) (l:List By):Prop where
  on:Only C w W
  dr:Drawn W C A cap l
  r:Blk W w.heap.size 44 Qai
  hC:C<w.heap.size
structure Nk (w W:World) (C cap:Nat) (A:Option Addr) (l:List By) (PQ:Nat) (y:KC) (lo hi:Nat):Prop where
  n:Nr w W C cap A l
  kb:Blk W PQ 32 y.cells
  kv:KV W y (fun b=>lo<b/\b<hi)
  hq:w.heap.size<PQ
  hlo:w.heap.size<=lo
section
variable {w W W' :World} {C cap:Nat} {A:Option Addr} {l:List By} {PQ:Nat} {y:KC} {lo hi:Nat}
theorem Nr.below (h:Nr w W C cap A l) (g:Below W.heap.size W W'):Nr w W' C cap A l:=⟨h.on.below g,h.dr.below g,h.r.below g h.r.lt,h.hC⟩
theorem Nr.only (h:Nr w W C cap A l) (k:Only C W W') (d:Drawn W' C A cap l):Nr w W' C cap A l:=⟨h.on.trans k,d,h.r.only k (by have:=h.hC;omega),h.hC⟩
theorem Nk.below (h:Nk w W C cap A l PQ y lo hi) (g:Below W.heap.size W W'):Nk w W' C cap A l PQ y lo hi:=⟨h.n.below g,h.kb.below g h.kb.lt,h.kv.below g,h.hq,h.hlo⟩
theorem Nk.only (h:Nk w W C cap A l PQ y lo hi) (k:Only C W W') (d:Drawn W' C A cap l):Nk w W' C cap A l PQ y lo hi:=
 ⟨h.n.only k d,h.kb.only k (by have:=h.n.hC;have:=h.hq;omega),h.kv.offp (Offp.of_only k) (fun b hb e=>by have:=h.n.hC;have:=h.hlo;omega),h.hq,h.hlo⟩
end
theorem Qf1 (C:Nat) (A:Option Addr) (cap:Nat) (l:List By) (w:World) (hD:Drawn w C A cap l):
 Calls Tryz.prog 73 #[.pointer (some ⟨C,0,none⟩)] w fun e w' =>DrewN C A cap l w e w' :=by
 have hC:=hD.lt;have I0:Nr w (w.alloc (.cells Qai 44)) C cap A l:=⟨Only.of_below (Qad (Below.refl _ _) _),hD.below (Qad (Below.refl _ _) _),Blk.new w _ _,hC⟩
 have H0:=hidP I0;clear hD I0;go_enter Tryz.func73,Tryz.ntmps73;go_wp2_with fail;refine(Qbe C A cap l 4 (by omega) (by omega) _ H0.out.dr).mono ?_;rintro e w1 ⟨x,rfl,hx0,hx1,k1,d1⟩;have P1:=hidP (H0.out.only k1 d1);clear H0 k1 d1;by_cases h0:x=0
 . subst h0;go_wp2_with fail;refine(Qbe C A cap l 6 (by omega) (by omega) _ P1.out.dr).mono ?_;rintro e w2 ⟨tm,rfl,ht0,ht1,k2,d2⟩;have P2:=hidP (P1.out.only k2 d2);clear P1 k2 d2;go_wp2_with fail;refine(Qbe C A cap l 4 (by omega) (by omega) _ P2.out.dr).mono ?_;rintro e w3 ⟨vt,rfl,hv0,hv1,k3,d3⟩;have P:=P2.out.only k3 d3;clear P2 k3 d3;obtain⟨r0,r1,r2,r3,r4,r5⟩:=P.r.row6n;have f0:=P.r.thaw 0;have f1:=P.r.thaw 1;have f2:=P.r.thaw 2;have f3:=P.r.thaw 3;have f4:=P.r.thaw 4;have f5:=P.r.thaw 5;have qr:=P.r.lt;have HP:=hidP P;clear P;go_wp2;have ko:∀u0 u1 u2 u3 u4 u5:Value,Only w.heap.size w3 ((((((w3.setCell ⟨w.heap.size,0,none⟩ u0).setCell ⟨w.heap.size,1,none⟩ u1).setCell ⟨w.heap.size,2,none⟩ u2).setCell ⟨w.heap.size,3,none⟩ u3).setCell ⟨w.heap.size,4,none⟩ u4).setCell ⟨w.heap.size,5,none⟩ u5):=fun u0 u1 u2 u3 u4 u5=>((((((Only.refl w.heap.size w3).set 0 u0).set 1 u1).set 2 u2).set 3 u3).set 4 u4).set 5 u5
   refine bodyPost_ret (v:= .agg (Qah 1 tm (vt - 1) 0 none 0 0 ⟨#[]⟩)) (by simp[results,Tryz.results73,go_sem,r0,r1,r2,r3,r4,r5]) rfl ⟨1,tm,vt - 1,0,none,0,[],⟨#[]⟩,rfl,by simp,by simp,by decide,.inl rfl,Qar HP.out.on (ko _ _ _ _ _ _) (Nat.le_refl _),HP.out.dr.only (ko _ _ _ _ _ _) HP.out.hC⟩
 by_cases h1:x=1
 . subst h1;go_wp2_with fail;refine(Qj7 C A cap l _ P1.out.dr).mono ?_;rintro e w2 ⟨ro,wi,le,ke,y,R,rfl,hs9,hro9,hR,hk,hv,k2,d2⟩;clear hs9 hro9;have P2:=P1.out.only k2 d2;have HKC:=hidP (hk.kcr (by omega) hR);have HKP:Hid (0<(kB y).length):=kB_pos (by have h9:=hk.rl;have e9:y.p.rs.length=y.rs.length:=(by simp[KC.p]);omega);have B2:Below w2.heap.size w2 ((w2.alloc (.cells (Qal ro wi le ke) 25)).alloc (.cells (Qaa y.rA y.rs.length y.rc y.mA y.ms.length y.mc y.gA y.gs.length y.gc y.time y.dA y.ds.length y.dc y.lA y.ls.length y.lc) 32)):=Qad (Qad (Below.refl _ _) _) _;have kb2:Blk ((w2.alloc (.cells (Qal ro wi le ke) 25)).alloc (.cells (Qaa y.rA y.rs.length y.rc y.mA y.ms.length y.mc y.gA y.gs.length y.gc y.time y.dA y.ds.length y.dc y.lA y.ls.length y.lc) 32)) (w2.heap.size+1) 32 (Qaa y.rA y.rs.length y.rc y.mA y.ms.length y.mc y.gA y.gs.length y.gc y.time y.dA y.ds.length y.dc y.lA y.ls.length y.lc):=(by have:=Blk.new (w2.alloc (.cells (Qal ro wi le ke) 25)) 32 (Qaa y.rA y.rs.length y.rc y.mA y.ms.length y.mc y.gA y.gs.length y.gc y.time y.dA y.ds.length y.dc y.lA y.ls.length y.lc);rwa [World.size_alloc]at this);have P:Nk w ((w2.alloc (.cells (Qal ro wi le ke) 25)).alloc (.cells (Qaa y.rA y.rs.length y.rc y.mA y.ms.length y.mc y.gA y.gs.length y.gc y.time y.dA y.ds.length y.dc y.lA y.ls.length y.lc) 32)) C cap A l (w2.heap.size+1) y w1.heap.size w2.heap.size:=⟨P2.below B2,kb2,hv.below B2,by have:=P2.r.lt;omega,by have:=P1.out.r.lt;omega⟩
   clear P1 P2 k2 d2 hk hv B2 kb2;go_upto_region 6 with fail;generalize (w2.alloc (.cells (Qal ro wi le ke) 25)).alloc (.cells (Qaa y.rA y.rs.length y.rc y.mA y.ms.length y.mc y.gA y.gs.length y.gc y.time y.dA y.ds.length y.dc y.lA y.ls.length y.lc) 32)=W3 at P ⊢;generalize w2.heap.size+1=PQ at P ⊢;generalize w1.heap.size=lo at P;generalize w2.heap.size=hi at P;have mkS:∀V:World,Nk w V C cap A l PQ y lo hi->(fun(V:World)=>V.cell? ⟨PQ,0,none⟩=some (.slice y.rA y.rs.length y.rc)/\V.cell? ⟨PQ,1,none⟩=some (.slice y.mA y.ms.length y.mc)/\V.cell? ⟨PQ,2,none⟩=some (.slice y.gA y.gs.length y.gc)/\V.cell? ⟨PQ,3,none⟩=some (.int .i64 y.time)/\V.cell? ⟨PQ,4,none⟩=some (.slice y.dA y.ds.length y.dc)/\V.cell? ⟨PQ,5,none⟩=some (.slice y.lA y.ls.length y.lc)) V:=fun V p=>by
    obtain⟨k0,k1,k2,k3,k4,k5⟩:=p.kb.row6;exact⟨k0,k1,k2,k3,k4,k5⟩
   have P:Nk w W3.drew C cap A l PQ y lo hi:=P.below (Below.refl _ _).drew;refine wp_region_noPanic ?_;refine wp_region_held_drew (S:=(fun(V:World)=>V.cell? ⟨PQ,0,none⟩=some (.slice y.rA y.rs.length y.rc)/\V.cell? ⟨PQ,1,none⟩=some (.slice y.mA y.ms.length y.mc)/\V.cell? ⟨PQ,2,none⟩=some (.slice y.gA y.gs.length y.gc)/\V.cell? ⟨PQ,3,none⟩=some (.int .i64 y.time)/\V.cell? ⟨PQ,4,none⟩=some (.slice y.dA y.ds.length y.dc)/\V.cell? ⟨PQ,5,none⟩=some (.slice y.lA y.ls.length y.lc))) (by kernel_rfl) ?_ (fun hH=> ?_)
   . exact mkS _ P
   refine ztk [0,2,4] ?_;repeat(refine ztn (hS:=hH) (h:= ?_);try simp only[zX,zY])
   refine zte ?_;refine zR1 1 (fun K hK=> ?_);simp only[zG];go_simp;refine(Qbe C A cap l 3 (by omega) (by omega) _ P.n.dr).mono ?_;rintro e w3 ⟨tm,rfl,ht0,ht1,k3,d3⟩;have P:=P.only k3 d3;clear k3 d3;refine hK.out _ _ (mkS _ P) fun hH=> ?_;clear hK K;try simp only[zX,zY]
   refine zR1 3 (fun K hK=> ?_);simp only[zG];go_simp;refine(Qbe C A cap l 5 (by omega) (by omega) _ P.n.dr).mono ?_;rintro e w4 ⟨pv,rfl,hp0,hp1,k4,d4⟩;have P:=P.only k4 d4;clear k4 d4;refine hK.out _ _ (mkS _ P) fun hH=> ?_;clear hK K;try simp only[zX,zY]
   refine zR1 5 (fun K hK=> ?_);simp only[zG];go_simp;refine(specL7_any y HKC.out.1 (by have h9:=HKC.out.2;omega) _ P.kv.at).mono ?_;rintro e w5 ⟨a5,c5,rfl,g5,o5⟩;obtain⟨b5,pl5,hb5,_⟩:=Pl.of_own (α:=UInt8) o5 HKP.out;obtain rfl:=pl5.a;have hv:=run_convert_bytes_back (P:=Tryz.prog) w5 22 9 5 ⟨b5,0,none⟩ c5 (kB y) Tryz.underlying22 Tryz.underlying5 Tryz.underlying9 (fun j hj=>by rw[Addr.add_mid];have h9:=pl5.i.getB j hj;simpa using h9);have P:=P.below g5;clear o5 g5 pl5 hb5;refine hK.out _ _ (mkS _ P) fun hH=> ?_;clear hK K;try simp only[zX,zY]
   refine zR1 6 (fun K hK=> ?_);simp only[zG];go_simp
   skip
   refine hK.out _ _ (mkS _ P) fun hH=> ?_;clear hK K;try simp only[zX,zY]
   refine zt1 7 ?_;refine ztn (hS:=hH) (h:= ?_);try simp only[zX,zY]
   refine zte ?_;obtain⟨r0,r1,r2,r3,r4,r5⟩:=P.n.r.row6n;have f0:=P.n.r.thaw 0;have f1:=P.n.r.thaw 1;have f2:=P.n.r.thaw 2;have f3:=P.n.r.thaw 3;have f4:=P.n.r.thaw 4;have f5:=P.n.r.thaw 5;have qr:=P.n.r.lt;have ko:∀u0 u1 u2 u3 u4 u5:Value,Only w.heap.size w5 ((((((w5.setCell ⟨w.heap.size,0,none⟩ u0).setCell ⟨w.heap.size,1,none⟩ u1).setCell ⟨w.heap.size,2,none⟩ u2).setCell ⟨w.heap.size,3,none⟩ u3).setCell ⟨w.heap.size,4,none⟩ u4).setCell ⟨w.heap.size,5,none⟩ u5):=fun u0 u1 u2 u3 u4 u5=>((((((Only.refl w.heap.size w5).set 0 u0).set 1 u1).set 2 u2).set 3 u3).set 4 u4).set 5 u5
   have HS:∀u0 u1 u2 u3 u4 u5:Value,(fun(V:World)=>V.cell? ⟨PQ,0,none⟩=some (.slice y.rA y.rs.length y.rc)/\V.cell? ⟨PQ,1,none⟩=some (.slice y.mA y.ms.length y.mc)/\V.cell? ⟨PQ,2,none⟩=some (.slice y.gA y.gs.length y.gc)/\V.cell? ⟨PQ,3,none⟩=some (.int .i64 y.time)/\V.cell? ⟨PQ,4,none⟩=some (.slice y.dA y.ds.length y.dc)/\V.cell? ⟨PQ,5,none⟩=some (.slice y.lA y.ls.length y.lc)) ((((((w5.setCell ⟨w.heap.size,0,none⟩ u0).setCell ⟨w.heap.size,1,none⟩ u1).setCell ⟨w.heap.size,2,none⟩ u2).setCell ⟨w.heap.size,3,none⟩ u3).setCell ⟨w.heap.size,4,none⟩ u4).setCell ⟨w.heap.size,5,none⟩ u5):=(fun u0 u1 u2 u3 u4 u5=>by obtain⟨k0,k1,k2,k3,k4,k5⟩:=(P.kb.only (ko u0 u1 u2 u3 u4 u5) (by have h9:=P.hq;omega)).row6;exact⟨k0,k1,k2,k3,k4,k5⟩)
   refine zR1 8 (fun K hK=> ?_);simp only[zG];go_simp
   skip
   refine hK.out _ _ (HS _ _ _ _ _ _) fun hH=> ?_;clear hK K;try simp only[zX,zY]
   refine zdn ?_;have HP:=hidP P;go_wp2;refine bodyPost_ret (v:= .agg (Qah 3 tm 0 pv none 0 0 ⟨(kB y).toArray⟩)) (by simp[results,Tryz.results73,go_sem,r0,r1,r2,r3,r4,r5]) rfl ⟨3,tm,0,pv,none,0,[],⟨(kB y).toArray⟩,rfl,by simp,by simp,?_,.inl rfl,Qar HP.out.n.on (ko _ _ _ _ _ _) (Nat.le_refl _),HP.out.n.dr.only (ko _ _ _ _ _ _) HP.out.n.hC⟩;have h9:=HKC.out.2;show(kB y).toArray.size<=300000;simp;omega
 . go_wp2_with fail;refine(Qbe C A cap l 2 (by omega) (by omega) _ P1.out.dr).mono ?_;rintro e w2 ⟨tm,rfl,ht0,ht1,k2,d2⟩;have P2:=hidP (P1.out.only k2 d2);clear P1 k2 d2;go_wp2_with fail;refine(Qbe C A cap l 3 (by omega) (by omega) _ P2.out.dr).mono ?_;rintro e w3 ⟨pv,rfl,hv0,hv1,k3,d3⟩;have P3:=hidP (P2.out.only k3 d3);clear P2 k3 d3;have HDE:Hid (∀V:World,Drawn V C A cap l->Calls Tryz.prog 142 #[.pointer (some ⟨C,0,none⟩),.int .i64 1,.int .i64 4] V fun e w' =>∃(a:Option Addr) (c:Nat) (L:List En),e= .returned (.slice a L.length c)/\L.length<=4/\(∀x∈L,x.key.size<=30/\x.text.size<=30)/\DL 112 V w' C cap A l a c L):=fun V d=>Qhb C A cap l 1 (by omega) 4 (by omega) V d
   go_wp2_with fail;refine(HDE.out _ P3.out.dr).mono ?_;rintro e w4 ⟨a,c,L,rfl,hL0,hLs,dl⟩;have P:=P3.out.only dl.on dl.dr;have hL:Hid (L.length<=200/\(∀x∈L,x.key.size<=30/\x.text.size<=30)):=⟨by omega,hLs⟩
   have hw3:w.heap.size<w3.heap.size:=P3.out.r.lt;have HAV:Hid (∀W:World,Only w.heap.size w4 W->Av W a L (fun b=>w.heap.size<b)):=fun W k=>(Av.of_own (S:=fun b=>w.heap.size<b) dl.own (fun b hb=>by omega)).offp (Offp.of_only k) (fun b hb e=>by omega)
   clear P3 dl HDE hL0 hLs;obtain⟨r0,r1,r2,r3,r4,r5⟩:=P.r.row6n;have f0:=P.r.thaw 0;have f1:=P.r.thaw 1;have f2:=P.r.thaw 2;have f3:=P.r.thaw 3;have f4:=P.r.thaw 4;have f5:=P.r.thaw 5;have qr:=P.r.lt;have HP:=hidP P;clear P;go_wp2;have ko:∀u0 u1 u2 u3 u4 u5:Value,Only w.heap.size w4 ((((((w4.setCell ⟨w.heap.size,0,none⟩ u0).setCell ⟨w.heap.size,1,none⟩ u1).setCell ⟨w.heap.size,2,none⟩ u2).setCell ⟨w.heap.size,3,none⟩ u3).setCell ⟨w.heap.size,4,none⟩ u4).setCell ⟨w.heap.size,5,none⟩ u5):=fun u0 u1 u2 u3 u4 u5=>((((((Only.refl w.heap.size w4).set 0 u0).set 1 u1).set 2 u2).set 3 u3).set 4 u4).set 5 u5
   refine bodyPost_ret (v:= .agg (Qah 2 tm 0 pv a L.length c ⟨#[]⟩)) (by simp[results,Tryz.results73,go_sem,r0,r1,r2,r3,r4,r5]) rfl ⟨2,tm,0,pv,a,c,L,⟨#[]⟩,rfl,hL.out.1,hL.out.2,by decide,HAV.out _ (ko _ _ _ _ _ _),Qar HP.out.on (ko _ _ _ _ _ _) (Nat.le_refl _),HP.out.dr.only (ko _ _ _ _ _ _) HP.out.hC⟩
end Go.Proofs.YtpippjjhelgnlaaGreat.Gen
