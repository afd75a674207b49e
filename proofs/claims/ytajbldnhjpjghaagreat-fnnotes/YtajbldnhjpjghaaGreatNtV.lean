/-
  Notes: what the laws' sz, to and eq functions of them do; a note opened. No condition but that there are at most 1048576 entries, and the length that every text has.
-/
import Derived.Test.YtajbldnhjpjghaaGreatKS2
set_option linter.unusedVariables false
set_option linter.unusedSimpArgs false
set_option maxRecDepth 100000
set_option maxHeartbeats 8000000
set_option maxRecDepth 100000
set_option maxHeartbeats 8000000
namespace Go.Proofs.YtajbldnhjpjghaaGreat.Gen
open ChangeShapes WideShapes ChangeAt RowKit Joins Deep Base
theorem Blk.row6n {W:World} {B:Nat} {t:TypeId} {a b c d e f:Value} (h:Blk W B t #[a,b,c,d,e,f]):W.cell? ⟨B,0,none⟩=some a/\W.cell? ⟨B,1,none⟩=some b/\W.cell? ⟨B,2,none⟩=some c/\W.cell? ⟨B,3,none⟩=some d/\W.cell? ⟨B,4,none⟩=some e/\W.cell? ⟨B,5,none⟩=some f:=
 ⟨h.cell (by rfl),h.cell (by rfl),h.cell (by rfl),h.cell (by rfl),h.cell (by rfl),h.cell (by rfl)⟩
open Items (It)
def OwE (W:World) (B:Nat) (a:Option Addr) (c:Nat) (L:List En):Prop:=W.ownsRow B 57 (Cel.k En) (.slice a L.length c) L.length (flat L)
theorem OwE.nil {W:World} {B:Nat}:OwE W B none 0 []:=⟨by simp[flat],.inl ⟨rfl,rfl⟩⟩
theorem OwE.at {W:World} {B:Nat} {a:Option Addr} {c:Nat} {L:List En} (h:OwE W B a c L):At W a L:=(Qay h).at
def Qug (C:Nat) (A:Option Addr) (cap:Nat) (l:List By) (w:World) (e:Ending) (w' :World):Prop:=∃(kind term vote prev:Int) (a:Option Addr) (c:Nat) (L:List En) (snap:ByteArray),e= .returned (.agg (Qag kind term vote prev a L.length c snap))/\L.length<=200/\(∀x∈L,x.key.size<=30/\x.text.size<=30)/\snap.size<=300000/\OwE w' (w.heap.size+1) a c L/\Only C w w' /\Drawn w' C A cap l
structure Nr (w W:World) (C cap:Nat) (A:Option Addr) (l:List By):Prop where
  on:Only C w W
  dr:Drawn W C A cap l
  r:Blk W w.heap.size 26 Qah
  hC:C<w.heap.size
structure Nk (w W:World) (C cap:Nat) (A:Option Addr) (l:List By) (PQ:Nat) (y:KC) (lo hi:Nat):Prop where
  n:Nr w W C cap A l
  kb:Blk W PQ 102 y.cells
  kv:KV W y (fun b=>lo<b/\b<hi)
  hq:w.heap.size<PQ
  hlo:w.heap.size<=lo
section
variable {w W W' :World} {C cap:Nat} {A:Option Addr} {l:List By} {PQ:Nat} {y:KC} {lo hi:Nat}
theorem Nr.below (h:Nr w W C cap A l) (g:Below W.heap.size W W'):Nr w W' C cap A l:=⟨h.on.below g,h.dr.below g,h.r.below g h.r.lt,h.hC⟩
theorem Nr.only (h:Nr w W C cap A l) (k:Only C W W') (d:Drawn W' C A cap l):Nr w W' C cap A l:=⟨h.on.trans k,d,h.r.only k (by have:=h.hC;omega),h.hC⟩
theorem Nk.below (h:Nk w W C cap A l PQ y lo hi) (g:Below W.heap.size W W'):Nk w W' C cap A l PQ y lo hi:=⟨h.n.below g,h.kb.below g h.kb.lt,h.kv.below g,h.hq,h.hlo⟩
theorem Nk.only (h:Nk w W C cap A l PQ y lo hi) (k:Only C W W') (d:Drawn W' C A cap l):Nk w W' C cap A l PQ y lo hi:=
 ⟨h.n.only k d,h.kb.only k (by have:=h.n.hC;have:=h.hq;omega),h.kv.offp (Offp.of_only k) (fun b hb e=>by have:=h.n.hC;have:=h.hlo;omega),h.hq,h.hlo⟩
end
theorem Qep (C:Nat) (A:Option Addr) (cap:Nat) (l:List By) (w:World) (hD:Drawn w C A cap l):
 Calls Tryz.prog 38 #[.pointer (some ⟨C,0,none⟩)] w fun e w' =>Qug C A cap l w e w' :=by
 have hC:=hD.lt;have I0:Nr w (w.alloc (.cells Qah 26)) C cap A l:=⟨Only.of_below (Qad (Below.refl _ _) _),hD.below (Qad (Below.refl _ _) _),Blk.new w _ _,hC⟩
 have H0:=hidP I0;clear hD I0;go_enter Tryz.func38,Tryz.ntmps38;go_wp2_with fail;refine(Qa3 C A cap l 4 (by omega) (by omega) _ H0.out.dr).mono ?_;rintro e w1 ⟨x,rfl,hx0,hx1,k1,d1⟩;have P1:=hidP (H0.out.only k1 d1);clear H0 k1 d1;by_cases h0:x=0
 . subst h0;go_wp2_with fail;refine(Qa3 C A cap l 6 (by omega) (by omega) _ P1.out.dr).mono ?_;rintro e w2 ⟨tm,rfl,ht0,ht1,k2,d2⟩;have P2:=hidP (P1.out.only k2 d2);clear P1 k2 d2;go_wp2_with fail;refine(Qa3 C A cap l 4 (by omega) (by omega) _ P2.out.dr).mono ?_;rintro e w3 ⟨vt,rfl,hv0,hv1,k3,d3⟩;have P:=P2.out.only k3 d3;clear P2 k3 d3;obtain⟨r0,r1,r2,r3,r4,r5⟩:=P.r.row6n;have f0:=P.r.thaw 0;have f1:=P.r.thaw 1;have f2:=P.r.thaw 2;have f3:=P.r.thaw 3;have f4:=P.r.thaw 4;have f5:=P.r.thaw 5;have qr:=P.r.lt;have HP:=hidP P;clear P;go_wp2;have ko:∀u0 u1 u2 u3 u4 u5:Value,Only w.heap.size w3 ((((((w3.setCell ⟨w.heap.size,0,none⟩ u0).setCell ⟨w.heap.size,1,none⟩ u1).setCell ⟨w.heap.size,2,none⟩ u2).setCell ⟨w.heap.size,3,none⟩ u3).setCell ⟨w.heap.size,4,none⟩ u4).setCell ⟨w.heap.size,5,none⟩ u5):=fun u0 u1 u2 u3 u4 u5=>((((((Only.refl w.heap.size w3).set 0 u0).set 1 u1).set 2 u2).set 3 u3).set 4 u4).set 5 u5
   refine bodyPost_ret (v:= .agg (Qag 1 tm (vt - 1) 0 none 0 0 ⟨#[]⟩)) (by simp[results,Tryz.results38,go_sem,r0,r1,r2,r3,r4,r5]) rfl ⟨1,tm,vt - 1,0,none,0,[],⟨#[]⟩,rfl,by simp,by simp,by decide,OwE.nil,Qaf HP.out.on (ko _ _ _ _ _ _) (Nat.le_refl _),HP.out.dr.only (ko _ _ _ _ _ _) HP.out.hC⟩
 by_cases h1:x=1
 . subst h1;go_wp2_with fail;refine(Qke C A cap l _ P1.out.dr).mono ?_;rintro e w2 ⟨ro,wi,le,ke,y,R,rfl,hs9,hro9,hR,hk,hv,k2,d2⟩;clear hs9 hro9;have P2:=P1.out.only k2 d2;have HKC:=hidP (hk.kcr (by omega) hR);have HKP:Hid (0<(kB y).length):=Qth (by have h9:=hk.rl;have e9:y.p.rs.length=y.rs.length:=(by simp[KC.p]);omega);have B2:Below w2.heap.size w2 ((w2.alloc (.cells (Qaj ro wi le ke) 96)).alloc (.cells (Qaa y.rA y.rs.length y.rc y.mA y.ms.length y.mc y.gA y.gs.length y.gc y.time y.dA y.ds.length y.dc y.lA y.ls.length y.lc) 102)):=Qad (Qad (Below.refl _ _) _) _;have kb2:Blk ((w2.alloc (.cells (Qaj ro wi le ke) 96)).alloc (.cells (Qaa y.rA y.rs.length y.rc y.mA y.ms.length y.mc y.gA y.gs.length y.gc y.time y.dA y.ds.length y.dc y.lA y.ls.length y.lc) 102)) (w2.heap.size+1) 102 (Qaa y.rA y.rs.length y.rc y.mA y.ms.length y.mc y.gA y.gs.length y.gc y.time y.dA y.ds.length y.dc y.lA y.ls.length y.lc):=(by have:=Blk.new (w2.alloc (.cells (Qaj ro wi le ke) 96)) 102 (Qaa y.rA y.rs.length y.rc y.mA y.ms.length y.mc y.gA y.gs.length y.gc y.time y.dA y.ds.length y.dc y.lA y.ls.length y.lc);rwa [World.size_alloc]at this);have P:Nk w ((w2.alloc (.cells (Qaj ro wi le ke) 96)).alloc (.cells (Qaa y.rA y.rs.length y.rc y.mA y.ms.length y.mc y.gA y.gs.length y.gc y.time y.dA y.ds.length y.dc y.lA y.ls.length y.lc) 102)) C cap A l (w2.heap.size+1) y w1.heap.size w2.heap.size:=⟨P2.below B2,kb2,hv.below B2,by have:=P2.r.lt;omega,by have:=P1.out.r.lt;omega⟩
   clear P1 P2 k2 d2 hk hv B2 kb2;go_upto_region 6 with fail;generalize (w2.alloc (.cells (Qaj ro wi le ke) 96)).alloc (.cells (Qaa y.rA y.rs.length y.rc y.mA y.ms.length y.mc y.gA y.gs.length y.gc y.time y.dA y.ds.length y.dc y.lA y.ls.length y.lc) 102)=W3 at P ⊢;generalize w2.heap.size+1=PQ at P ⊢;generalize w1.heap.size=lo at P;generalize w2.heap.size=hi at P;have mkS:∀V:World,Nk w V C cap A l PQ y lo hi->(fun(V:World)=>V.cell? ⟨PQ,0,none⟩=some (.slice y.rA y.rs.length y.rc)/\V.cell? ⟨PQ,1,none⟩=some (.slice y.mA y.ms.length y.mc)/\V.cell? ⟨PQ,2,none⟩=some (.slice y.gA y.gs.length y.gc)/\V.cell? ⟨PQ,3,none⟩=some (.int .i64 y.time)/\V.cell? ⟨PQ,4,none⟩=some (.slice y.dA y.ds.length y.dc)/\V.cell? ⟨PQ,5,none⟩=some (.slice y.lA y.ls.length y.lc)) V:=fun V p=>by
    obtain⟨k0,k1,k2,k3,k4,k5⟩:=p.kb.row6;exact⟨k0,k1,k2,k3,k4,k5⟩
   have P:Nk w W3.drew C cap A l PQ y lo hi:=P.below (Below.refl _ _).drew;refine wp_region_noPanic ?_;refine wp_region_held_drew (S:=(fun(V:World)=>V.cell? ⟨PQ,0,none⟩=some (.slice y.rA y.rs.length y.rc)/\V.cell? ⟨PQ,1,none⟩=some (.slice y.mA y.ms.length y.mc)/\V.cell? ⟨PQ,2,none⟩=some (.slice y.gA y.gs.length y.gc)/\V.cell? ⟨PQ,3,none⟩=some (.int .i64 y.time)/\V.cell? ⟨PQ,4,none⟩=some (.slice y.dA y.ds.length y.dc)/\V.cell? ⟨PQ,5,none⟩=some (.slice y.lA y.ls.length y.lc))) (by kernel_rfl) ?_ (fun hH=> ?_)
   . exact mkS _ P
   refine ztk [0,2,4] ?_;repeat(refine ztn (hS:=hH) (h:= ?_);try simp only[zX,zY])
   refine zte ?_;refine zR1 1 (fun K hK=> ?_);simp only[zG];go_simp;refine(Qa3 C A cap l 3 (by omega) (by omega) _ P.n.dr).mono ?_;rintro e w3 ⟨tm,rfl,ht0,ht1,k3,d3⟩;have P:=P.only k3 d3;clear k3 d3;refine hK.out _ _ (mkS _ P) fun hH=> ?_;clear hK K;try simp only[zX,zY]
   refine zR1 3 (fun K hK=> ?_);simp only[zG];go_simp;refine(Qa3 C A cap l 5 (by omega) (by omega) _ P.n.dr).mono ?_;rintro e w4 ⟨pv,rfl,hp0,hp1,k4,d4⟩;have P:=P.only k4 d4;clear k4 d4;refine hK.out _ _ (mkS _ P) fun hH=> ?_;clear hK K;try simp only[zX,zY]
   refine zR1 5 (fun K hK=> ?_);simp only[zG];go_simp;refine(Qme y HKC.out.1 (by have h9:=HKC.out.2;omega) _ P.kv.at).mono ?_;rintro e w5 ⟨a5,c5,rfl,g5,o5⟩;obtain⟨b5,pl5,hb5,_⟩:=Pl.of_own (α:=UInt8) o5 HKP.out;obtain rfl:=pl5.a;have hv:=run_convert_bytes_back (P:=Tryz.prog) w5 22 9 5 ⟨b5,0,none⟩ c5 (kB y) Tryz.underlying22 Tryz.underlying5 Tryz.underlying9 (fun j hj=>by rw[Addr.add_mid];have h9:=pl5.i.getB j hj;simpa using h9);have P:=P.below g5;clear o5 g5 pl5 hb5;refine hK.out _ _ (mkS _ P) fun hH=> ?_;clear hK K;try simp only[zX,zY]
   refine zR1 6 (fun K hK=> ?_);simp only[zG];go_simp
   skip
   refine hK.out _ _ (mkS _ P) fun hH=> ?_;clear hK K;try simp only[zX,zY]
   refine zt1 7 ?_;refine ztn (hS:=hH) (h:= ?_);try simp only[zX,zY]
   refine zte ?_;obtain⟨r0,r1,r2,r3,r4,r5⟩:=P.n.r.row6n;have f0:=P.n.r.thaw 0;have f1:=P.n.r.thaw 1;have f2:=P.n.r.thaw 2;have f3:=P.n.r.thaw 3;have f4:=P.n.r.thaw 4;have f5:=P.n.r.thaw 5;have qr:=P.n.r.lt;have ko:∀u0 u1 u2 u3 u4 u5:Value,Only w.heap.size w5 ((((((w5.setCell ⟨w.heap.size,0,none⟩ u0).setCell ⟨w.heap.size,1,none⟩ u1).setCell ⟨w.heap.size,2,none⟩ u2).setCell ⟨w.heap.size,3,none⟩ u3).setCell ⟨w.heap.size,4,none⟩ u4).setCell ⟨w.heap.size,5,none⟩ u5):=fun u0 u1 u2 u3 u4 u5=>((((((Only.refl w.heap.size w5).set 0 u0).set 1 u1).set 2 u2).set 3 u3).set 4 u4).set 5 u5
   have HS:∀u0 u1 u2 u3 u4 u5:Value,(fun(V:World)=>V.cell? ⟨PQ,0,none⟩=some (.slice y.rA y.rs.length y.rc)/\V.cell? ⟨PQ,1,none⟩=some (.slice y.mA y.ms.length y.mc)/\V.cell? ⟨PQ,2,none⟩=some (.slice y.gA y.gs.length y.gc)/\V.cell? ⟨PQ,3,none⟩=some (.int .i64 y.time)/\V.cell? ⟨PQ,4,none⟩=some (.slice y.dA y.ds.length y.dc)/\V.cell? ⟨PQ,5,none⟩=some (.slice y.lA y.ls.length y.lc)) ((((((w5.setCell ⟨w.heap.size,0,none⟩ u0).setCell ⟨w.heap.size,1,none⟩ u1).setCell ⟨w.heap.size,2,none⟩ u2).setCell ⟨w.heap.size,3,none⟩ u3).setCell ⟨w.heap.size,4,none⟩ u4).setCell ⟨w.heap.size,5,none⟩ u5):=(fun u0 u1 u2 u3 u4 u5=>by obtain⟨k0,k1,k2,k3,k4,k5⟩:=(P.kb.only (ko u0 u1 u2 u3 u4 u5) (by have h9:=P.hq;omega)).row6;exact⟨k0,k1,k2,k3,k4,k5⟩)
   refine zR1 8 (fun K hK=> ?_);simp only[zG];go_simp
   skip
   refine hK.out _ _ (HS _ _ _ _ _ _) fun hH=> ?_;clear hK K;try simp only[zX,zY]
   refine zdn ?_;have HP:=hidP P;go_wp2;refine bodyPost_ret (v:= .agg (Qag 3 tm 0 pv none 0 0 ⟨(kB y).toArray⟩)) (by simp[results,Tryz.results38,go_sem,r0,r1,r2,r3,r4,r5]) rfl ⟨3,tm,0,pv,none,0,[],⟨(kB y).toArray⟩,rfl,by simp,by simp,?_,OwE.nil,Qaf HP.out.n.on (ko _ _ _ _ _ _) (Nat.le_refl _),HP.out.n.dr.only (ko _ _ _ _ _ _) HP.out.n.hC⟩;have h9:=HKC.out.2;show(kB y).toArray.size<=300000;simp;omega
 . go_wp2_with fail;refine(Qa3 C A cap l 2 (by omega) (by omega) _ P1.out.dr).mono ?_;rintro e w2 ⟨tm,rfl,ht0,ht1,k2,d2⟩;have P2:=hidP (P1.out.only k2 d2);clear P1 k2 d2;go_wp2_with fail;refine(Qa3 C A cap l 3 (by omega) (by omega) _ P2.out.dr).mono ?_;rintro e w3 ⟨pv,rfl,hv0,hv1,k3,d3⟩;have P3:=hidP (P2.out.only k3 d3);clear P2 k3 d3;have HDE:Hid (∀V:World,Drawn V C A cap l->Calls Tryz.prog 63 #[.pointer (some ⟨C,0,none⟩),.int .i64 1,.int .i64 4] V fun e w' =>∃(a:Option Addr) (c:Nat) (L:List En),e= .returned (.slice a L.length c)/\L.length<=4/\(∀x∈L,x.key.size<=30/\x.text.size<=30)/\DL 57 V w' C cap A l a c L):=fun V d=>Qhb C A cap l 1 (by omega) 4 (by omega) V d
   go_wp2_with fail;refine(HDE.out _ P3.out.dr).mono ?_;rintro e w4 ⟨a,c,L,rfl,hL0,hLs,dl⟩;have P:=P3.out.only dl.on dl.dr;have hL:Hid (L.length<=200/\(∀x∈L,x.key.size<=30/\x.text.size<=30)):=⟨by omega,hLs⟩
   have hw3:w.heap.size<w3.heap.size:=P3.out.r.lt;have HAV:Hid (∀W:World,Only w.heap.size w4 W->OwE W (w.heap.size+1) a c L):=fun W k=>Qbi (Qat dl.own (by omega)) k (by omega)
   clear P3 dl HDE hL0 hLs;obtain⟨r0,r1,r2,r3,r4,r5⟩:=P.r.row6n;have f0:=P.r.thaw 0;have f1:=P.r.thaw 1;have f2:=P.r.thaw 2;have f3:=P.r.thaw 3;have f4:=P.r.thaw 4;have f5:=P.r.thaw 5;have qr:=P.r.lt;have HP:=hidP P;clear P;go_wp2;have ko:∀u0 u1 u2 u3 u4 u5:Value,Only w.heap.size w4 ((((((w4.setCell ⟨w.heap.size,0,none⟩ u0).setCell ⟨w.heap.size,1,none⟩ u1).setCell ⟨w.heap.size,2,none⟩ u2).setCell ⟨w.heap.size,3,none⟩ u3).setCell ⟨w.heap.size,4,none⟩ u4).setCell ⟨w.heap.size,5,none⟩ u5):=fun u0 u1 u2 u3 u4 u5=>((((((Only.refl w.heap.size w4).set 0 u0).set 1 u1).set 2 u2).set 3 u3).set 4 u4).set 5 u5
   refine bodyPost_ret (v:= .agg (Qag 2 tm 0 pv a L.length c ⟨#[]⟩)) (by simp[results,Tryz.results38,go_sem,r0,r1,r2,r3,r4,r5]) rfl ⟨2,tm,0,pv,a,c,L,⟨#[]⟩,rfl,hL.out.1,hL.out.2,by decide,HAV.out _ (ko _ _ _ _ _ _),Qaf HP.out.on (ko _ _ _ _ _ _) (Nat.le_refl _),HP.out.dr.only (ko _ _ _ _ _ _) HP.out.hC⟩
def Qd7 (p:Nat × Nat) (b:UInt8):Nat × Nat:=((p.1+b.toNat) % 65521,(p.2+(p.1+b.toNat) % 65521) % 65521)
def sumP (l:List UInt8):Nat × Nat:=l.foldl Qd7 (1,0)
def sumN (l:List UInt8):Nat:=(sumP l).2*65536+(sumP l).1
theorem Qiz {l:List UInt8} {n:Nat} (h:n<l.length):sumP (l.take (n+1))=Qd7 (sumP (l.take n)) l[n]:=by
 unfold sumP;rw[List.take_succ_eq_append_getElem h,List.foldl_append];rfl
theorem Qmd (p:Nat × Nat) (b:UInt8):(Qd7 p b).1<65521/\(Qd7 p b).2<65521:=⟨Nat.mod_lt _ (by omega),Nat.mod_lt _ (by omega)⟩
theorem Qhv:∀(l:List UInt8) (p:Nat × Nat),p.1<65521/\p.2<65521->(l.foldl Qd7 p).1<65521/\(l.foldl Qd7 p).2<65521
 | [],p,h=>h
 |b::l,p,_=>Qhv l _ (Qmd p b)
theorem Qrr (l:List UInt8):(sumP l).1<65521/\(sumP l).2<65521:=Qhv l (1,0) ⟨by omega,by omega⟩
theorem Qgn (l:List UInt8):sumN l<4294967296:=by unfold sumN;have:=Qrr l;omega
theorem Qgo (A:Option Addr) (cap:Nat) (l:List UInt8) (hl:l.length<=3000000) (w:World) (hA:At w A l):
 Calls Tryz.prog 13 #[.slice A l.length cap] w fun e w' =>e= .returned (.int .i64 (sumN l:Int))/\w' =w:=by
 have HA:=hidP hA;clear hA;go_enter Tryz.func13,Tryz.ntmps13;go_wp2
 go_loopw [3,4,5] (fun vx vy vi W=>∃(n x y:Nat),vi= .int .i64 (n:Int)/\vx= .int .i64 (x:Int)/\vy= .int .i64 (y:Int)/\n<=l.length/\x<65521/\y<65521/\Hid (sumP (l.take n)=(x,y))/\W=w) (fun _ _ vi _=>l.length - (intOf vi).toNat)
 case atStart=>exact⟨0,1,0,rfl,rfl,rfl,by omega,by omega,by omega,rfl,rfl⟩
 case round=>
  obtain⟨n,x,y,rfl,rfl,rfl,hn,hx,hy,hs,rfl⟩:=hrel;by_cases hlt:n<l.length
  . obtain⟨b,o,rfl,hbs,hIn⟩:∃b o,A=some ⟨b,o,none⟩/\b<wr.heap.size/\In wr b o l:=by
     rcases HA.out with h|h
     . subst h;simp at hlt
     . exact h
    have c0:=hIn.getB n hlt;have hst:Hid (sumP (l.take (n+1))=((x+l[n].toNat) % 65521,(y+(x+l[n].toNat) % 65521) % 65521)):=(by show _=_;rw[Qiz hlt,hs.out];rfl);have hd2:(l[n]).toNat<256:=(l[n]).toNat_lt;generalize (l[n]).toNat=d at*;clear hIn hs;go_wp2;refine⟨⟨n+1,(x+d) % 65521,(y+(x+d) % 65521) % 65521,by go_num,?_,?_,by omega,by omega,by omega,hst,trivial⟩,by simp[intOf];omega⟩
    . show Value.int .i64 _=Value.int .i64 _;congr 1
    . show Value.int .i64 _=Value.int .i64 _;congr 1
  . have e:l.take n=l:=List.take_of_length_le (by omega);have hs' :Hid ((sumN l:Int)=(y:Int) *65536+(x:Int)):=by
     show _=_;have h:=hs.out;rw[e]at h;unfold sumN;rw[h];simp
    go_wp2;go_ret;exact⟨by rw[hs'.out];rfl,rfl⟩
theorem Qe6 (A:Option Addr) (cap:Nat) (l:List UInt8) (hl:l.length<=3000000) (w:World) (hA:At w A l):
 Calls Tryz.prog 12 #[.slice A l.length cap] w fun e w' =>e= .returned (.int .i64 (sumN l:Int))/\w' =w:=by
 have HA:=hidP hA;clear hA;go_enter Tryz.func12,Tryz.ntmps12;go_wp2
 go_loopw [3,4,9] (fun vx vy vi W=>∃(n x y:Nat),vi= .int .i64 (n:Int)/\vx= .int .i64 (x:Int)/\vy= .int .i64 (y:Int)/\n<=l.length/\x<65521/\y<65521/\Hid (sumP (l.take n)=(x,y))/\W=w) (fun _ _ vi _=>l.length - (intOf vi).toNat)
 case atStart=>exact⟨0,1,0,rfl,rfl,rfl,by omega,by omega,by omega,rfl,rfl⟩
 case round=>
  obtain⟨n,x,y,rfl,rfl,rfl,hn,hx,hy,hs,rfl⟩:=hrel;by_cases hlt:n<l.length
  . obtain⟨b,o,rfl,hbs,hIn⟩:∃b o,A=some ⟨b,o,none⟩/\b<wr.heap.size/\In wr b o l:=by
     rcases HA.out with h|h
     . subst h;simp at hlt
     . exact h
    have c0:=hIn.getB n hlt;have hst:Hid (sumP (l.take (n+1))=((x+l[n].toNat) % 65521,(y+(x+l[n].toNat) % 65521) % 65521)):=(by show _=_;rw[Qiz hlt,hs.out];rfl);have hd2:(l[n]).toNat<256:=(l[n]).toNat_lt;generalize (l[n]).toNat=d at*;clear hIn hs;go_wp2;refine⟨⟨n+1,(x+d) % 65521,(y+(x+d) % 65521) % 65521,by go_num,?_,?_,by omega,by omega,by omega,hst,trivial⟩,by simp[intOf];omega⟩
    . show Value.int .i64 _=Value.int .i64 _;congr 1
    . show Value.int .i64 _=Value.int .i64 _;congr 1
  . have e:l.take n=l:=List.take_of_length_le (by omega);have hs' :Hid ((sumN l:Int)=(y:Int) *65536+(x:Int)):=by
     show _=_;have h:=hs.out;rw[e]at h;unfold sumN;rw[h];simp
    go_wp2;go_ret;exact⟨by rw[hs'.out];rfl,rfl⟩
def sumB:Nat->Nat->List UInt8
  |0,_=> []
  |k+1,n=>UInt8.ofNat (n % 256)::sumB k (n / 256)
theorem Qbd:∀k n,(sumB k n).length=k
 |0,_=>rfl
 |k+1,n=>by simp[sumB,Qbd k]
theorem Qnn (n:Nat) (hn:n<4294967296):flat (sumB 4 n)= [.int .u8 ((n:Int) % 256),.int .u8 ((n:Int) / 256 % 256),.int .u8 ((n:Int) / 65536 % 256),.int .u8 ((n:Int) / 16777216)]:=by
 have h (m:Nat):(Value.int .u8 ((UInt8.ofNat (m % 256)).toNat:Int))= .int .u8 ((m % 256:Nat):Int):=by
  congr 1;rw[UInt8.toNat_ofNat'];omega
 show [Value.int .u8 ((UInt8.ofNat (n % 256)).toNat:Int),Value.int .u8 ((UInt8.ofNat (n / 256 % 256)).toNat:Int),Value.int .u8 ((UInt8.ofNat (n / 256 / 256 % 256)).toNat:Int),Value.int .u8 ((UInt8.ofNat (n / 256 / 256 / 256 % 256)).toNat:Int)]=_;rw[h,h,h,h];simp only[List.cons.injEq,Value.int.injEq,true_and,and_true];refine⟨by omega,by omega,by omega,by omega⟩
theorem Qg4 (A:Option Addr) (cap:Nat) (l:List UInt8) (hl:l.length<=3000000) (w:World) (hA:At w A l):
 Calls Tryz.prog 29 #[.slice A l.length cap] w fun e w' =>e= .returned (.slice (some ⟨w.heap.size,0,none⟩) 4 4)/\Below w.heap.size w w' /\At w' (some ⟨w.heap.size,0,none⟩) (sumB 4 (sumN l)):=by
 have HA:=hidP hA;have hs:=Qgn l;clear hA;go_enter Tryz.func29,Tryz.ntmps29;go_wp2_with fail;refine(Qgo A cap l hl _ HA.out).mono ?_;rintro e w1 ⟨rfl,rfl⟩;have hfl:=hidP (Qnn (sumN l) hs);generalize hN:sumN l=n at*;have HN:=hidP hN;clear hN;go_wp2;go_ret;refine⟨rfl,Qad (Below.refl _ _) _,?_⟩;refine newL _ _ _ _ ?_;rw[HN.out,hfl.out]
def enB (x:En):List UInt8:=numI x.term++cmB x.who x.seq x.op x.a x.b x.c x.key x.text
def ensB (l:List En):List UInt8:=numI (l.length:Int)++l.flatMap enB
def Qb5 (kind term vote prev:Int) (l:List En) (snap:ByteArray):List UInt8:=Qbo [kind,term,vote+1,prev]++(ensB l++txtB snap)
def Qbk (L:List UInt8):List UInt8:=numB L.length++(L++sumB 4 (sumN L))
structure EnR (x:En):Prop where
  term:0<=x.term/\x.term<=2147483647
  cm:CmR x.who x.seq x.op x.a x.b x.c x.key x.text
theorem Ql2 {x:En} (h:EnR x):(enB x).length<=105:=by
 have h1:=Qbm x.term;have h2:=Qri h.cm;simp only[enB,List.length_append];omega
theorem Qpj {l:List En} (h:∀x∈l,EnR x):(ensB l).length<=5+105*l.length:=by
 have h1:=Qbm (l.length:Int);have h2:=Qdt enB 105 l (fun x hx=>Ql2 (h x hx));simp only[ensB,List.length_append];omega
theorem Qpi (P:Nat->Prop) (z:Nat) (x:En) (hR:EnR x) (xs:List UInt8) (hx:xs.length<=1800000) (w:World) (hW:Wr P z w xs):
 Calls Tryz.prog 53 #[.pointer (some ⟨z,0,none⟩),.agg (Qbg x.term x.who x.seq x.op x.a x.b x.c x.key x.text)] w fun e w' =>e= .returned (.tuple #[])/\Turn P w w' /\Wr P z w' (xs++enB x):=by
 have H0:=hidP (hW.keep (.cells (Qbg x.term x.who x.seq x.op x.a x.b x.c x.key x.text) 57));have T0:Hid (Turn P w (w.alloc (.cells (Qbg x.term x.who x.seq x.op x.a x.b x.c x.key x.text) 57))):=hidP (Turn.of_below (Qad (Below.refl _ w) _) hW.lt);have p0:=Blk.new w 57 (Qbg x.term x.who x.seq x.op x.a x.b x.c x.key x.text);have Hp0:=hidP p0;have hnl:=Qbm x.term;clear hW p0;go_enter Tryz.func53,Tryz.ntmps53;go_wp2_with fail;refine(Qgy (fun k=>P k∨k=w.heap.size) z (x.term) (hR.term) _ (by omega) _ H0.out).mono ?_;rintro e w1 ⟨rfl,t1,h1⟩;have Hp1:=hidP (Hp0.out.turn t1 (.inr rfl));have T1:=hidP (T0.out.trans (t1.mono (fun k hk=> .inl hk)));have H1:=hidP h1;clear t1 h1 H0 T0 Hp0;have d0:w1.cell? ⟨w.heap.size,0,none⟩=some (.int .i64 x.term):=Hp1.out.cell (i:=0) rfl;have d1:w1.cell? ⟨w.heap.size,1,none⟩=some (.int .i64 x.who):=Hp1.out.cell (i:=1) rfl;have d2:w1.cell? ⟨w.heap.size,2,none⟩=some (.int .i64 x.seq):=Hp1.out.cell (i:=2) rfl;have d3:w1.cell? ⟨w.heap.size,3,none⟩=some (.int .i64 x.op):=Hp1.out.cell (i:=3) rfl;have d4:w1.cell? ⟨w.heap.size,4,none⟩=some (.int .i64 x.a):=Hp1.out.cell (i:=4) rfl;have d5:w1.cell? ⟨w.heap.size,5,none⟩=some (.int .i64 x.b):=Hp1.out.cell (i:=5) rfl;have d6:w1.cell? ⟨w.heap.size,6,none⟩=some (.int .i64 x.c):=Hp1.out.cell (i:=6) rfl;have d7:w1.cell? ⟨w.heap.size,7,none⟩=some (.string x.key):=Hp1.out.cell (i:=7) rfl;have d8:w1.cell? ⟨w.heap.size,8,none⟩=some (.string x.text):=Hp1.out.cell (i:=8) rfl;have qb:=Hp1.out.lt;go_wp2_with fail;refine(Qsm (fun k=>P k∨k=w.heap.size) z x.who x.seq x.op x.a x.b x.c x.key x.text hR.cm _ (by rw[List.length_append];omega) _ H1.out).mono ?_;rintro e w2 ⟨rfl,t2,h2⟩;have T2:=hidP (T1.out.trans (t2.mono (fun k hk=> .inl hk)));have H2:=hidP h2;clear t2 h2 H1 T1 Hp1 d0 d1 d2 d3 d4 d5 d6 d7 d8 qb;go_wp2
 go_end0
 refine⟨rfl,T2.out,?_⟩;have:=H2.out.mono (Q:=P) (fun k hk=> .inl hk);simpa only[enB,List.append_assoc]using this
theorem Qf0 (P:Nat->Prop) (z:Nat) (A:Option Addr) (cap:Nat) (L:List En) (hl:L.length<=1000) (hR:∀y∈L,EnR y) (xs:List UInt8) (hx:xs.length<=1000000) (w:World) (hA:Pt P w A L) (hW:Wr P z w xs):
 Calls Tryz.prog 52 #[.pointer (some ⟨z,0,none⟩),.slice A L.length cap,.func (.func 53) #[] #[]] w fun e w' =>e= .returned (.tuple #[])/\Turn P w w' /\Wr P z w' (xs++ensB L):=by
 have HA:=hidP hA;have HW:=hidP hW;have HR:=hidP hR;have hnl:=Qbm (L.length:Int);have Hfl:=hidP (Qdt enB 105 L (fun x hx=>Ql2 (hR x hx)));clear hA hW hR;go_enter Tryz.func52,Tryz.ntmps52;go_wp2_with fail;refine(Qgy P z (L.length:Int) (by omega) xs (by omega) _ HW.out).mono ?_;rintro e w0 ⟨rfl,t0,h0⟩;have T0:=hidP t0;have H0:=hidP h0;clear t0 h0 HW;go_wp2
 go_loopw [14] (fun i W=>∃(n:Nat),i= .int .i64 (n:Int)/\n<=L.length/\Hid (Turn P w W)/\Hid (Wr P z W (xs++numI (L.length:Int)++(L.take n).flatMap enB))) (fun i _=>L.length - (intOf i).toNat)
 case atStart=>exact⟨0,rfl,by omega,T0,by simpa using H0⟩
 case round=>
  obtain⟨n,rfl,hn,hT,hO⟩:=hrel;by_cases hlt:n<L.length
  . obtain⟨b,o,rfl,hbs,hin⟩:∃b o,A=some ⟨b,o,none⟩/\b<w.heap.size/\In w b o L:=by
     rcases HA.out.1 with h|h
     . subst h;simp at hlt
     . exact h
    have hPb:∀b' o',some (⟨b,o,none⟩:Addr)=some ⟨b',o',none⟩->P b' :=by
     rcases HA.out.2 with h|h
     . subst h;simp at hlt
     . exact h
    obtain⟨c0,c1,c2,c3,c4,c5,c6,c7,c8⟩:=(hin.turn hT.out (hPb b o rfl)).getEn n hlt;have hi0:(0:Int)<=(n:Int):=(by omega);have hi1:(n:Int)<(L.length:Int):=(by omega);have hRx:=HR.out L[n] (List.getElem_mem hlt);have hto:=hidP (Qj7 enB hlt);have hle:=Qfz enB L n;have hbd:Hid ((xs++numI (L.length:Int)++(L.take n).flatMap enB).length<=1800000):=by
     show _<=_;have:=Hfl.out;simp only[List.length_append];omega
    clear hin hle;generalize L[n]=x at*;generalize (L.take n).flatMap enB=ys at*;generalize xs++numI (L.length:Int)=zs at*;have Hwr:=hidP (hO.out.below (Qad (Below.refl _ wr) (.cells (Qbg x.term x.who x.seq x.op x.a x.b x.c x.key x.text) 57)));have hTa:=hidP (hT.out.trans (Turn.of_below (Qad (Below.refl _ wr) (.cells (Qbg x.term x.who x.seq x.op x.a x.b x.c x.key x.text) 57)) hO.out.lt));clear hO;go_wp2_with fail;refine(Qpi P z x hRx _ hbd.out _ Hwr.out).mono ?_;rintro e w1 ⟨rfl,t1,h1⟩;have HT1:=hidP (hTa.out.trans t1);rw[List.append_assoc,← hto.out]at h1;have H1:=hidP h1;clear t1 h1 hT hTa Hwr;go_wp2;exact⟨⟨n+1,by go_num,by omega,HT1,H1⟩,by simp[intOf];omega⟩
  . obtain rfl:n=L.length:=(by omega);rw[List.take_length]at hO;go_wp2
    go_end0
    refine⟨rfl,hT.out,?_⟩;have:=hO.out;simpa only[ensB,List.append_assoc]using this
theorem Qm9 (P:Nat->Prop) (z:Nat) (kind term vote prev:Int) (snap:ByteArray) (A:Option Addr) (cap:Nat) (l:List En) (hk:0<=kind/\kind<=3) (ht:0<=term/\term<=300) (hv: -1<=vote/\vote<=4) (hp:0<=prev/\prev<=300) (hs:snap.size<=30000) (hl:l.length<=40) (hR:∀y∈l,EnR y) (w:World) (hA:Pt P w A l) (hW:Wr P z w []):
 Calls Tryz.prog 23 #[.pointer (some ⟨z,0,none⟩),.agg (Qag kind term vote prev A l.length cap snap)] w fun e w' =>e= .returned (.tuple #[])/\Turn P w w' /\Wr P z w' (Qb5 kind term vote prev l snap):=by
 have H0:=hidP (hW.keep (.cells (Qag kind term vote prev A l.length cap snap) 26));have T0:Hid (Turn P w (w.alloc (.cells (Qag kind term vote prev A l.length cap snap) 26))):=hidP (Turn.of_below (Qad (Below.refl _ w) _) hW.lt);have p0:=Blk.new w 26 (Qag kind term vote prev A l.length cap snap);have Hp0:=hidP p0;have HA:=hidP hA;have HR:=hidP hR;have hn4:=Qca [kind,term,vote+1,prev];simp only[List.length_cons,List.length_nil]at hn4;have hle:=Qpj hR;clear hW p0 hA hR;go_enter Tryz.func23,Tryz.ntmps23;have hat:=newL (w.alloc (.cells (Qag kind term vote prev A l.length cap snap) 26)) ([kind,term,vote+1,prev]:List Int) (Qaj kind term (vote+1) prev) 3 rfl;have hwr:=H0.out.keep (.cells (Qaj kind term (vote+1) prev) 3);have pz:=Hp0.out.alloc (.cells (Qaj kind term (vote+1) prev) 3);have tk:Turn (fun k=>P k∨k=w.heap.size) (w.alloc (.cells (Qag kind term vote prev A l.length cap snap) 26)) ((w.alloc (.cells (Qag kind term vote prev A l.length cap snap) 26)).alloc (.cells (Qaj kind term (vote+1) prev) 3)):=Turn.of_below (Qad (Below.refl _ _) _) H0.out.lt;simp only[World.size_alloc]at hat hwr;have Hat:=hidP hat;have Hwr:=hidP hwr;have Hpz:=hidP pz;have Htk:=hidP tk;clear hat hwr pz tk;go_wp2_with fail;refine(Qgx (fun k=>(P k∨k=w.heap.size)∨k=w.heap.size+1) z (some ⟨w.heap.size+1,0,none⟩) 4 [kind,term,vote+1,prev] (by simp) (by simp;omega) _ (by simp) _ Hat.out (.inr fun k o e=>by cases e;exact .inr rfl) Hwr.out).mono ?_;rintro e w1 ⟨rfl,t1,h1⟩;have Hp1:=hidP (Hpz.out.turn t1 (.inl (.inr rfl)));have T1:=hidP (T0.out.trans ((Htk.out.trans (t1.mono (fun k hk=> .inl hk))).mono (fun k hk=> .inl hk)));have H1:=hidP (h1.mono (Q:=(fun k=>P k∨k=w.heap.size)) (fun k hk=> .inl hk));clear Hat Hwr Hpz Htk t1 h1 H0 T0 Hp0
 have d4:w1.cell? ⟨w.heap.size,4,none⟩=some (.slice A l.length cap):=Hp1.out.cell (i:=4) rfl;have qb:=Hp1.out.lt;go_wp2_with fail;refine(Qf0 (fun k=>P k∨k=w.heap.size) z A cap l (by omega) HR.out _ (by rw[List.length_append];simp only[List.length_nil];omega) _ ((HA.out.turn T1.out).mono (fun k hk=> .inl hk)) H1.out).mono ?_;rintro e w2 ⟨rfl,t2,h2⟩;have Hp2:=hidP (Hp1.out.turn t2 (.inr rfl));have T2:=hidP (T1.out.trans (t2.mono (fun k hk=> .inl hk)));have H2:=hidP h2;clear t2 h2 H1 T1 Hp1 d4 qb;have d5:w2.cell? ⟨w.heap.size,5,none⟩=some (.string snap):=Hp2.out.cell (i:=5) rfl;have qb:=Hp2.out.lt;go_wp2_with fail;refine(Qe8 (fun k=>P k∨k=w.heap.size) z snap _ (by simp only[List.length_append,List.length_nil];omega) _ H2.out).mono ?_;rintro e w3 ⟨rfl,t3,h3⟩;have T3:=hidP (T2.out.trans (t3.mono (fun k hk=> .inl hk)));have H3:=hidP h3;clear t3 h3 H2 T2 Hp2 d5 qb;go_wp2
 go_end0
 refine⟨rfl,T3.out,?_⟩;have:=H3.out.mono (Q:=P) (fun k hk=> .inl hk);simpa only[Qb5,txtB,List.append_assoc,List.nil_append]using this
theorem Qpq (P:Nat->Prop) (b n:Nat) (hn:n<4294967296) (xs:List UInt8) (hx:xs.length<=500000000) (w:World) (hW:Wr P b w xs):
 Calls Tryz.prog 55 #[.pointer (some ⟨b,0,none⟩),.int .i64 (n:Int)] w fun e w' =>e= .returned (.tuple #[])/\Turn P w w' /\Wr P b w' (xs++sumB 4 n):=by
 have HW:=hidP hW;clear hW;go_enter Tryz.func55,Tryz.ntmps55;go_wp2
 go_loopw [1,4] (fun x i W=>∃(m k:Nat) (ys:List UInt8),x= .int .i64 (m:Int)/\i= .int .i64 (k:Int)/\k<=4/\m<4294967296/\Hid (ys++sumB (4 - k) m=xs++sumB 4 n)/\Hid (ys.length<=xs.length+4)/\Hid (Wr P b W ys)/\Hid (Turn P w W)) (fun _ i _=>4 - (intOf i).toNat)
 case atStart=>exact⟨n,0,xs,rfl,rfl,by omega,hn,rfl,Nat.le_add_right _ _,HW,Turn.refl _ _⟩
 case round=>
  obtain⟨m,k,ys,rfl,rfl,hk,hm,hy,hyl,hO,hT⟩:=hrel;by_cases hlt:k<4
  . have hlt' :(k:Int)<4:=(by omega);have hyl:ys.length<=600000000:=(by have:=hyl.out;omega);have hl2:Hid ((ys++ [UInt8.ofNat (m % 256)]).length<=xs.length+4):=by
     show _<=_;have h:=congrArg List.length hy.out;simp only[List.length_append,Qbd,List.length_cons,List.length_nil]at h ⊢;omega
    obtain⟨a,c,p,hv,h3,h4,h5⟩:=hO.out;have c0:=p.row1;have q0:=p.lt;have e8:((UInt8.ofNat (m % 256)).toNat:Int)=(m:Int) % 256:=(by rw[UInt8.toNat_ofNat'];omega);have he:Hid (ys++ [UInt8.ofNat (m % 256)]++sumB (4 - (k+1)) (m / 256)=xs++sumB 4 n):=by
     show _=_;rw[← hy.out,show 4 - k=(4 - (k+1))+1 by omega,sumB];simp
    obtain⟨a',c',W',hr,p',hW',hT'⟩:=Qkk (x:=UInt8.ofNat (m % 256)) e8 p hv h3 h4 h5 (by omega);have HW' :=hidP hW';have HT' :=hidP (hT.out.trans hT');have d0:=p'.row1;have f0:=p'.thaw 0;clear hW' hT' hv p p' e8 h3 h4 h5;go_wp2_with (at_builtin;refine Qac rfl _ _ _ rfl _ _ _ rfl rfl hr ?_);refine⟨⟨m / 256,k+1,ys++ [UInt8.ofNat (m % 256)],?_,by go_num,by omega,by omega,he,hl2,HW',HT'⟩,by simp[intOf];omega⟩;show Value.int .i64 _=Value.int .i64 _;congr 1
  . obtain rfl:k=4:=(by omega);have e:ys=xs++sumB 4 n:=(by have h:=hy.out;simpa [sumB]using h);go_wp2
    go_end0
    refine⟨rfl,hT.out,?_⟩;rw[← e];exact hO.out
theorem Qmy (P:Nat->Prop) (z:Nat) (A:Option Addr) (cap:Nat) (L:List UInt8) (hl:L.length<=3000000) (w:World) (hA:Pt P w A L) (hW:Wr P z w []):
 Calls Tryz.prog 25 #[.pointer (some ⟨z,0,none⟩),.slice A L.length cap] w fun e w' =>e= .returned (.tuple #[])/\Turn P w w' /\Wr P z w' (Qbk L):=by
 have HA:=hidP hA;have HW:=hidP hW;have hcv:(convert 22 9 (.slice A L.length cap)).run Tryz.prog w= .ok (.string ⟨L.toArray⟩) w:=by
  rcases hA.1 with h|⟨b,o,rfl,hb,hin⟩
  . subst h;cases A with
    |none=>rw[List.length_nil,run_convert_bytes_string w 22 9 5 none 0 cap Tryz.underlying22 Tryz.underlying5 Tryz.underlying9];simp[Conv.bytesToString,go_sem];rfl
    |some a=>
     have h:=run_convert_bytes_back (P:=Tryz.prog) w 22 9 5 a cap [] Tryz.underlying22 Tryz.underlying5 Tryz.underlying9 (fun j hj=>by simp at hj);simpa using h
  . exact run_convert_bytes_back (P:=Tryz.prog) w 22 9 5 ⟨b,o,none⟩ cap L Tryz.underlying22 Tryz.underlying5 Tryz.underlying9 (fun j hj=>by rw[Addr.add_mid];simpa using hin.getB j hj)
 have hsz:(⟨L.toArray⟩:ByteArray).size=L.length:=by show L.toArray.size=_;simp
 have hnb:=Qcx (n:=L.length) (by omega);clear hA hW;go_enter Tryz.func25,Tryz.ntmps25;go_wp2_with fail;refine(Qe8 P z ⟨L.toArray⟩ [] (by rw[hsz];simp only[List.length_nil];omega) _ HW.out).mono ?_;rintro e w1 ⟨rfl,t1,h1⟩;rw[hsz]at h1;have T1:=hidP t1;have H1:=hidP h1;clear t1 h1 hcv;go_wp2_with fail;refine(Qe6 A cap L hl _ (HA.out.turn T1.out).1).mono ?_;rintro e w2 ⟨rfl,rfl⟩;go_wp2_with fail;refine(Qpq P z (sumN L) (Qgn L) _ (by simp only[List.length_append,List.length_nil];omega) _ H1.out).mono ?_;rintro e w3 ⟨rfl,t3,h3⟩;have T3:=hidP (T1.out.trans t3);have H3:=hidP h3;clear t3 h3;go_wp2
 go_end0
 refine⟨rfl,T3.out,?_⟩;have:=H3.out;simpa only[Qbk,List.append_assoc,List.nil_append]using this
structure Jo (w W:World) (a:Option Addr) (c:Nat) (xs:List UInt8):Prop where
  bl:Below w.heap.size w W
  own:W.ownsRow w.heap.size 5 1 (.slice a xs.length c) xs.length (flat xs)
theorem Jo.app {w W W1:World} {a a1:Option Addr} {c c1:Nat} {xs ys:List UInt8} (h:Jo w W a c xs) (g:Below W.heap.size W W1) (hy:At W1 a1 ys) (hlen:xs.length+ys.length<=1000000000):
 ∃a2 c2 W2,(Builtin.append_ #[22,22] 22 (l1SS a xs.length c a1 ys.length c1)).run Tryz.prog W1= .ok (.slice a2 (xs++ys).length c2) W2/\Jo w W2 a2 c2 (xs++ys)/\(∀k t vs,W.heap.size<=k->Blk W1 k t vs->Blk W2 k t vs):=by
 have o1:=Qas h.own g;have b1:=via0 g h.bl;obtain⟨a2,c2,W2,hr,hown,hg⟩:=Qcj (c' :=c1) b1.size o1 hy hlen;refine⟨a2,c2,W2,hr,⟨b1.grown hg b1.size (fun j e=>Nat.le_of_not_lt fun q=>Qa9 o1 q e.symm),hown⟩,fun k t vs hk hb=> ?_⟩;exact(hg.block k hb.lt (fun e=>by have:=Qcn h.own e.symm;omega)).trans hb
def enF (x:En):Bool:=CmdOk.okB x.who x.seq x.op x.a x.b x.c x.key x.text
theorem Ql8 (f:En->Bool) (l:List En) (n:Nat) (hn:n<l.length):(l.drop n).all f=(f l[n]&&(l.drop (n+1)).all f):=by
 rw[List.drop_eq_getElem_cons hn];rfl
theorem Qqn {x lo hi:Int} (h:inB x lo hi=true):lo<=x/\x<=hi:=by simpa [inB]using h
theorem Qe5 (x:Int) (w:World):Calls Tryz.prog 31 #[.int .i64 x] w fun e w' =>e= .returned (.bool (inB x 0 300))/\w' =w:=by
 go_enter Tryz.func31,Tryz.ntmps31;go_wp2_with (go_at_call 32;refine(Qc7 _ _ _ _).mono ?_;rintro e w' ⟨rfl,rfl⟩);go_ret;exact⟨rfl,rfl⟩
end Go.Proofs.YtajbldnhjpjghaaGreat.Gen
