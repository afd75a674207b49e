/-
  The specification's cursor over bytes: a number, a text, and what it is when there is none. Condition: at most 1048576 bytes.
-/
import Derived.Test.YtpippjjhelgnlaaGreatGetT
import Derived.RangeFuncNested
import Derived.RangeFuncBound
import Derived.Shelf.RegionOpen
import Derived.OwnWalkIn
import Derived.LoopNIn
import Derived.LoopIn
set_option linter.unusedVariables false
set_option linter.unusedSimpArgs false
set_option maxRecDepth 100000
set_option maxHeartbeats 8000000
namespace Go.Proofs.YtpippjjhelgnlaaGreat.Gen
open ChangeShapes WideShapes ChangeAt RowKit Joins Deep Base
def nS (l:List UInt8) (o:Option Int):Option (Nat × Nat):=o.bind (getN l)
def tS (l:List UInt8) (o:Option Int):Option (ByteArray × Nat):=o.bind (getT l)
def nV (x:Option (Nat × Nat)):Nat:=(x.map Prod.fst).getD 0
def tV (x:Option (ByteArray × Nat)):ByteArray:=(x.map Prod.fst).getD ⟨#[]⟩
def nO {α:Type} (x:Option (α × Nat)):Option Int:=x.map fun p=>(p.2:Int)
theorem Qf4 (l:List UInt8) (o:Option Int):nV (nS l o)<=2147483647:=by
 unfold nV nS;cases o with
 |none=>simp
 |some i=>
  cases h:getN l i with
  |none=>simp[h]
  |some x=>obtain⟨n,c⟩:=x;simp[h];exact(Qbk h).1
structure Cu (W:World) (r:Nat) (A:Option Addr) (cap:Nat) (l:List UInt8) (i:Int) (ok:Bool) (o:Option Int):Prop where
  box:Blk W r 99 (Qjt A l.length cap i ok)
  src:l= []∨∃b o,A=some ⟨b,o,none⟩/\b<W.heap.size/\b≠r/\In W b o l
  i64:I64 i
  st:o=if ok=true then some i else none
theorem Cu.below {W W' :World} {r:Nat} {A:Option Addr} {cap:Nat} {l:List UInt8} {i:Int} {ok:Bool} {o:Option Int} (h:Cu W r A cap l i ok o) (g:Below W.heap.size W W'):Cu W' r A cap l i ok o:=
 ⟨h.box.below g h.box.lt,h.src.imp id fun⟨b,o,e,hb,hn,hi⟩=>⟨b,o,e,Nat.lt_of_lt_of_le hb g.size,hn,hi.below hb g⟩,h.i64,h.st⟩
theorem Cu.at {W:World} {r:Nat} {A:Option Addr} {cap:Nat} {l:List UInt8} {i:Int} {ok:Bool} {o:Option Int} (h:Cu W r A cap l i ok o):At W A l:=h.src.imp id fun⟨b,o,e,hb,_,hi⟩=>⟨b,o,e,hb,hi⟩
theorem Cu.src_set {W:World} {r:Nat} {A:Option Addr} {cap:Nat} {l:List UInt8} {i:Int} {ok:Bool} {o:Option Int} (h:Cu W r A cap l i ok o) (k:Nat) (v:Value):l= []∨∃b o,A=some ⟨b,o,none⟩/\b<(W.setCell ⟨r,k,none⟩ v).heap.size/\b≠r/\In (W.setCell ⟨r,k,none⟩ v) b o l:=
 h.src.imp id fun⟨b,o,e,hb,hn,hi⟩=>⟨b,o,e,by simpa using hb,hn,hi.set _ _ (fun e=>hn e.symm)⟩
theorem Cu.goto {W:World} {r:Nat} {A:Option Addr} {cap:Nat} {l:List UInt8} {i:Int} {o:Option Int} (h:Cu W r A cap l i true o) (j:Nat) (hj:I64 (j:Int)):Cu (W.setCell ⟨r,1,none⟩ (.int .i64 (j:Int))) r A cap l (j:Int) true (some (j:Int)):=
 ⟨h.box.setAt 1 _,h.src_set 1 _,hj,rfl⟩
theorem Cu.stop {W:World} {r:Nat} {A:Option Addr} {cap:Nat} {l:List UInt8} {i:Int} {ok:Bool} {o:Option Int} (h:Cu W r A cap l i ok o):Cu (W.setCell ⟨r,2,none⟩ (.bool false)) r A cap l i false none:=
 ⟨h.box.setAt 2 _,h.src_set 2 _,h.i64,rfl⟩
theorem Cu.drewN {W:World} {r:Nat} {A:Option Addr} {cap:Nat} {l:List UInt8} {i:Int} {ok:Bool} {o:Option Int} (h:Cu W r A cap l i ok o) (n:Nat):Cu (W.drewN n) r A cap l i ok o:=h.below (below_drewN (Below.refl _ _) n)
def CuO (W:World) (r:Nat) (A:Option Addr) (cap:Nat) (l:List UInt8) (o:Option Int):Prop:=∃i ok,Cu W r A cap l i ok o
theorem Qca (r:Nat) (A:Option Addr) (cap:Nat) (l:List UInt8) (hl:l.length<=1048576) (o:Option Int) (w:World) (h:CuO w r A cap l o):
 Calls Tryz.prog 126 #[.pointer (some ⟨r,0,none⟩)] w fun e w' =>e= .returned (.int .i64 (nV (nS l o):Int))/\Only r w w' /\CuO w' r A cap l (nO (nS l o)):=by
 obtain⟨i,ok,hc⟩:=h;obtain⟨c0,c1,c2⟩:=hc.box.row3;have f1:=hc.box.thaw 1;have f2:=hc.box.thaw 2;have q0:=hc.box.lt;have hst:=hc.st;have HC:=hidP hc;have HG:=hidP (fun W (hA:At W A l)=>Qds A cap l hl i hc.i64 W hA);have HAt:=hidP hc.at;clear hc;cases hg:getN l i with
 |none=>
  have hn:Hid (nS l o=none):=by show _=_;rw[hst];unfold nS;split<;>simp[hg]
  rw[hg]at HG;simp only[numT]at HG;clear hst;go_enter Tryz.func126,Tryz.ntmps126;go_wp2_with fail
  go_quiet (first|(go_at_call 77;refine Calls.quiet_of_same (HG.out _ (HAt.out.below (below_drewN (Below.refl _ _) _)))))
  go_wp2;go_ret;rw[hn.out];exact⟨rfl,(Qby (Only.refl _ _) _).set _ _,i,false,(HC.out.drewN _).stop⟩
 |some x=>
  obtain⟨n,c⟩:=x;rw[hg]at HG;simp only[numT]at HG;have hle:=Qbk hg;cases ok with
  |false=>
   have hn:Hid (nS l o=none):=(by show _=_;rw[hst];rfl);clear hst;go_enter Tryz.func126,Tryz.ntmps126;go_wp2_with fail
   go_quiet (first|(go_at_call 77;refine Calls.quiet_of_same (HG.out _ (HAt.out.below (below_drewN (Below.refl _ _) _)))))
   go_wp2;go_ret;rw[hn.out];exact⟨rfl,(Qby (Only.refl _ _) _).set _ _,i,false,(HC.out.drewN _).stop⟩
  |true=>
   have hn:Hid (nS l o=some (n,c)):=(by show _=_;rw[hst];unfold nS;simp[hg]);have hc64:Hid (I64 (c:Int)):=hidP ⟨by omega,by omega⟩;clear hst hle;go_enter Tryz.func126,Tryz.ntmps126;go_wp2_with fail
   go_quiet (first|(go_at_call 77;refine Calls.quiet_of_same (HG.out _ (HAt.out.below (below_drewN (Below.refl _ _) _)))))
   go_wp2;go_ret;rw[hn.out];exact⟨rfl,(Qby (Only.refl _ _) _).set _ _,(c:Int),true,(HC.out.drewN _).goto c hc64.out⟩
theorem Qft (r:Nat) (A:Option Addr) (cap:Nat) (l:List UInt8) (hl:l.length<=1048576) (hcap:l.length<=cap) (hcm:cap<=9223372036854775807) (o:Option Int) (w:World) (h:CuO w r A cap l o):
 Calls Tryz.prog 130 #[.pointer (some ⟨r,0,none⟩)] w fun e w' =>e= .returned (.string (tV (tS l o)))/\Only r w w' /\CuO w' r A cap l (nO (tS l o)):=by
 obtain⟨i,ok,hc⟩:=h;obtain⟨c0,c1,c2⟩:=hc.box.row3;have f1:=hc.box.thaw 1;have f2:=hc.box.thaw 2;have q0:=hc.box.lt;have hst:=hc.st;have HC:=hidP hc;have HG:=hidP (fun W (hA:At W A l)=>Qgo A cap l hl hcap hcm i hc.i64 W hA);have HAt:=hidP hc.at;clear hc;cases hg:getT l i with
 |none=>
  have hn:Hid (tS l o=none):=by show _=_;rw[hst];unfold tS;split<;>simp[hg]
  rw[hg]at HG;simp only[txtT]at HG;clear hst;go_enter Tryz.func130,Tryz.ntmps130;go_wp2_with fail
  go_quiet (first|(go_at_call 178;refine Calls.quiet_of_same (HG.out _ (HAt.out.below (below_drewN (Below.refl _ _) _)))))
  go_wp2;go_ret;rw[hn.out];exact⟨rfl,(Qby (Only.refl _ _) _).set _ _,i,false,(HC.out.drewN _).stop⟩
 |some x=>
  obtain⟨n,c⟩:=x;rw[hg]at HG;simp only[txtT]at HG;have hle:=Qdm hg;cases ok with
  |false=>
   have hn:Hid (tS l o=none):=(by show _=_;rw[hst];rfl);clear hst;go_enter Tryz.func130,Tryz.ntmps130;go_wp2_with fail
   go_quiet (first|(go_at_call 178;refine Calls.quiet_of_same (HG.out _ (HAt.out.below (below_drewN (Below.refl _ _) _)))))
   go_wp2;go_ret;rw[hn.out];exact⟨rfl,(Qby (Only.refl _ _) _).set _ _,i,false,(HC.out.drewN _).stop⟩
  |true=>
   have hn:Hid (tS l o=some (n,c)):=(by show _=_;rw[hst];unfold tS;simp[hg]);have hc64:Hid (I64 (c:Int)):=hidP ⟨by omega,by omega⟩;clear hst hle;go_enter Tryz.func130,Tryz.ntmps130;go_wp2_with fail
   go_quiet (first|(go_at_call 178;refine Calls.quiet_of_same (HG.out _ (HAt.out.below (below_drewN (Below.refl _ _) _)))))
   go_wp2;go_ret;rw[hn.out];exact⟨rfl,(Qby (Only.refl _ _) _).set _ _,(c:Int),true,(HC.out.drewN _).goto c hc64.out⟩
end Go.Proofs.YtpippjjhelgnlaaGreat.Gen
namespace Go.Proofs.YtpippjjhelgnlaaGreat.Gen
open ChangeShapes WideShapes ChangeAt RowKit Joins Deep Base
def Qbc {α:Type} (get:Int->Option (α × Nat)):Nat->Nat->Option (List α × Nat)
  |0,c=>some ([],c)
  |n+1,c=>match get (c:Int)with
    |none=>none
    |some (x,d)=>match Qbc get n d with
      |none=>none
      |some (xs,e)=>some (x::xs,e)
def Qf8 {α:Type} (xs:List α) (o:Option (List α × Nat)):Option (List α × Nat):=o.map fun p=>(xs++p.1,p.2)
theorem Qjn {α:Type} {get:Int->Option (α × Nat)} {n c:Nat} (xs:List α) (h:get (c:Int)=none):Qf8 xs (Qbc get (n+1) c)=none:=by simp[Qbc,h,Qf8]
theorem Qjm {α:Type} {get:Int->Option (α × Nat)} {n c d:Nat} {x:α} (xs:List α) (h:get (c:Int)=some (x,d)):Qf8 xs (Qbc get (n+1) c)=Qf8 (xs++ [x]) (Qbc get n d):=by
 simp only[Qbc,h,Qf8];cases Qbc get n d with
 |none=>rfl
 |some p=>simp
theorem many_end {α:Type} (get:Int->Option (α × Nat)) (c:Nat) (xs:List α):Qf8 xs (Qbc get 0 c)=some (xs,c):=by simp[Qbc,Qf8]
def isList {α:Type} [Cel α] (t:TypeId) (B:Nat) (xs:List α) (v:Value) (W:World):Prop:=∃a c,v= .slice a xs.length c/\W.ownsRow B t (Cel.k α) (.slice a xs.length c) xs.length (flat xs)
theorem Rd.offp {S:Nat->Prop} {W W' :World} {r:Nat} {A:Option Addr} {cap:Nat} {l:List UInt8} {i:Int} (h:Rd W r A cap l i) (k:Offp S W W') (hr:¬S r) (hA:l= []∨∀c o,A=some ⟨c,o,none⟩->¬S c):Rd W' r A cap l i:=by
 refine⟨h.box.offp k hr,?_,h.i64⟩;rcases hA with e|hA
 . exact .inl e
 . exact h.src.imp id fun⟨c,o,e,hb,hn,hi⟩=>⟨c,o,e,Nat.lt_of_lt_of_le hb k.size,hn,hi.offp k hb (hA c o e)⟩
theorem Rd.far' {W:World} {r:Nat} {A:Option Addr} {cap:Nat} {l:List UInt8} {i:Int} (h:Rd W r A cap l i):r<W.heap.size/\(l= []∨∀c o,A=some ⟨c,o,none⟩->c<W.heap.size):=by
 refine⟨h.box.lt,h.src.imp id fun⟨b,o,e,hb,_⟩ c o' e' => ?_⟩;rw[e]at e';cases e';exact hb
theorem Qbm {B b:Nat} {W W' :World} {v:Value} {t:TypeId} {k n:Nat} {xs:List Value} (h:W.ownsRow B t k v n xs) (g:Only b W W') (hb:b<B):W'.ownsRow B t k v n xs:=by
 refine⟨h.1,?_⟩;rcases h.2 with hz|⟨c,c',cur,e,hB,hblk,hr⟩
 . exact .inl hz
 . subst e;exact .inr ⟨c,c',cur,rfl,hB,(g.block c (Blk.lt (show Blk W c t cur from hblk)) (by omega)).trans hblk,hr⟩
theorem Qb8 {b:Nat} {S:Nat->Prop} {w W W' :World} (h:Only b w W) (k:Offp S W W') (hS:∀x,S x->w.heap.size<=x):Only b w W' :=
 ⟨k.os.trans h.os,k.tape.trans h.tape,k.output.trans h.output,Nat.le_trans h.size k.size,fun i hi hb=>(k.block i (Nat.lt_of_lt_of_le hi h.size) (fun e=>by have:=hS i e;omega)).trans (h.block i hi hb)⟩
structure RL {α:Type} [Cel α] (t:TypeId) (w W:World) (r:Nat) (A:Option Addr) (cap:Nat) (l:List UInt8) (c:Nat) (v:Value) (xs:List α):Prop where
  rd:Rd W r A cap l (c:Int)
  only:Only r w W
  own:W.ownsRow w.heap.size t (Cel.k α) v xs.length (flat xs)
  lr:r<w.heap.size
  la:l= []∨∀c o,A=some ⟨c,o,none⟩->c<w.heap.size
theorem RL.app {α:Type} [Cel α] {P:Program} {ts t:TypeId} {z:Value} {bytes:Nat} (hu:P.underlying ts=some (.slice t)) (hinfo:(P.info? t).map (fun i=>(i.zero,i.size,i.bytes))=some (some z,Cel.k α,bytes)) (hz:z.cells.size=Cel.k α) (hk:0<Cel.k α) (hby:bytes<=1000)
 {w W W1:World} {r:Nat} {A:Option Addr} {cap:Nat} {l:List UInt8} {c d:Nat} {a:Option Addr} {cp:Nat} {xs:List α} (h:RL t w W r A cap l c (.slice a xs.length cp) xs) (o:Only r W W1) (h1:Rd W1 r A cap l (d:Int)) (x:α) (cs:Array Value) (hcs:cs.toList=Cel.cs x) (hx:xs.length<=2000000):
 ∃a2 c2 W2,(Builtin.append_ #[ts,ts] ts #[.slice a xs.length cp,.slice (some ⟨W1.heap.size,0,none⟩) 1 1]).run P (W1.alloc (.cells cs t))= .ok (.slice a2 (xs.length+1) c2) W2/\RL t w W2 r A cap l d (.slice a2 (xs.length+1) c2) (xs++ [x]):=by
 have hlr:=h.lr;have hw1:w.heap.size<=W1.heap.size:=Nat.le_trans h.only.size o.size;have own1:=Qaw (Qbm h.own o hlr) (.cells cs t);have hX:At (W1.alloc (.cells cs t)) (some ⟨W1.heap.size,0,none⟩) [x]:=by
  refine .inr ⟨_,0,rfl,by simp,fun j u hu=> ?_⟩;rw[Qdi,← hcs]at hu;rw[Nat.zero_add];exact(Blk.new W1 t cs).cell (by simpa using hu)
 obtain⟨v',W2,hr,hown,hgrow,_⟩:=Qbh (P:=P) hu hinfo hz hk hby w.heap.size (.slice a xs.length cp) xs [x] (some ⟨W1.heap.size,0,none⟩) 1 _ (by simp;omega) own1 hX (by simp;omega);simp only[List.length_cons,List.length_nil,Nat.zero_add]at hown hr;obtain⟨a2,c2,rfl,_⟩:=Qao hown;have ko:=Qce hgrow;have hS:∀y,(Value.slice a xs.length cp).ownBlock=some y->w.heap.size<=y:=fun y hy=>(own1.lt y hy).1
 refine⟨a2,c2,W2,hr,⟨?_,?_,Qfz (by simp) hown,h.lr,h.la⟩⟩
 . exact(h1.below (Qad (Below.refl _ _) _)).offp ko (fun e=>by have:=hS _ e;omega) (h.la.imp id fun f c o e e' =>by have:=f c o e;have:=hS _ e';omega)
 . exact Qb8 ((Qaq h.only o).below (Qad (Below.refl _ _) _)) ko hS
def Qbx {α:Type} (l:List UInt8) (get:Int->Option (α × Nat)) (i:Int):Option (List α × Nat):=match getN l i with|none=>none|some (n,c)=>Qbc get n c
theorem Qhy {α:Type} {l:List UInt8} {get:Int->Option (α × Nat)} (hget:∀(i:Nat) x c,get (i:Int)=some (x,c)->i<c/\c<=l.length):∀(n c:Nat) {xs:List α} {d:Nat},c<=l.length->Qbc get n c=some (xs,d)->xs.length=n/\c+n<=d/\d<=l.length
 |0,c,xs,d,hc,h=>by
  simp only[Qbc,Option.some.injEq,Prod.mk.injEq]at h;obtain⟨rfl,rfl⟩:=h;exact⟨rfl,Nat.le_refl _,hc⟩
 |n+1,c,xs,d,hc,h=>by
  simp only[Qbc]at h;cases hx:get (c:Int)with
  |none=>simp[hx]at h
  |some p=>
  obtain⟨x,e⟩:=p;have h1:=hget c x e hx;simp only[hx]at h;cases hy:Qbc get n e with
  |none=>simp[hy]at h
  |some q=>
  obtain⟨ys,f⟩:=q;have h2:=Qhy hget n e h1.2 hy;simp only[hy,Option.some.injEq,Prod.mk.injEq]at h;obtain⟨rfl,rfl⟩:=h;simp only[List.length_cons];omega
theorem Qhz {α:Type} {l:List UInt8} {get:Int->Option (α × Nat)} (hget:∀(i:Nat) x c,get (i:Int)=some (x,c)->i<c/\c<=l.length) {i:Int} {xs:List α} {d:Nat} (h:Qbx l get i=some (xs,d)):i<(d:Int)/\d<=l.length/\xs.length<=l.length:=by
 unfold Qbx at h;cases hx:getN l i with
 |none=>simp[hx]at h
 |some p=>
 obtain⟨n,c⟩:=p;have h1:=Qbk hx;simp only[hx]at h;have h2:=Qhy hget n c h1.2.2.2.1 h;omega
theorem isList.mono {α:Type} [Cel α] {t:TypeId} {B B' :Nat} {xs:List α} {v:Value} {W:World} (h:isList t B xs v W) (hB:B' <=B):isList t B' xs v W:=by
 obtain⟨a,c,rfl,ho⟩:=h;refine⟨a,c,rfl,ho.1,?_⟩;rcases ho.2 with hz|⟨b,c',cur,e,hb,hblk,hr⟩
 . exact .inl hz
 . exact .inr ⟨b,c',cur,e,Nat.le_trans hB hb,hblk,hr⟩
end Go.Proofs.YtpippjjhelgnlaaGreat.Gen
namespace Go.Proofs.YtpippjjhelgnlaaGreat.Gen.Bk
open ChangeShapes WideShapes ChangeAt RowKit Joins Deep Base Gen
theorem Qks {l p r:List UInt8} {n:Int} (h:l=p++(numI n++r)) (h0:0<=n) (h1:n<=2147483647):nS l (some (p.length:Int))=some (n.toNat,(p++numI n).length):=by
 obtain⟨m,rfl⟩:∃m:Nat,n=(m:Int):=⟨n.toNat,by omega⟩
 rw[Qcr (by omega)]at h ⊢;subst h;show getN (p++(numB m++r)) (p.length:Int)=_;rw[Qjy (by omega),List.length_append];simp
theorem tS_at {l p r:List UInt8} {s:ByteArray} (h:l=p++(txtB s++r)) (h1:s.size<=2147483647):tS l (some (p.length:Int))=some (s,(p++txtB s).length):=by
 subst h;show getT _ _=_;rw[getT_txtB h1,List.length_append]
theorem Qe0 {α:Type} (x:α) (n:Nat):nO (some (x,n))=some (n:Int):=rfl
theorem nV_some (x n:Nat):nV (some (x,n))=x:=rfl
theorem tV_some (x:ByteArray) (n:Nat):tV (some (x,n))=x:=rfl
theorem Qgz {l:List UInt8} {o:Option Int} {n c:Nat} (h:nS l o=some (n,c)):∃j:Nat,o=some (j:Int)/\n<=2147483647/\j<c/\c<=l.length/\numI (n:Int)=(l.drop j).take (c - j):=by
 cases o with
 |none=>cases h
 |some i=>
  have hg:getN l i=some (n,c):=h;obtain⟨h1,h2,h3,h4,h5⟩:=Qbk hg;refine⟨i.toNat,by rw[Int.toNat_of_nonneg h2],h1,by omega,h4,?_⟩;rw[Qcr h1];exact Qji hg
theorem tS_inv {l:List UInt8} {o:Option Int} {s:ByteArray} {c:Nat} (h:tS l o=some (s,c)):∃j:Nat,o=some (j:Int)/\j<=c/\c<=l.length/\txtB s=(l.drop j).take (c - j):=by
 cases o with
 |none=>cases h
 |some i=>
  have hg:getT l i=some (s,c):=h;obtain⟨h1,h2,h3,h4⟩:=Qdm hg;exact⟨i.toNat,by rw[Int.toNat_of_nonneg (by omega)],by omega,by omega,(txtB_getT hg).1⟩
theorem Qg0 {α:Type} {x:Option (α × Nat)} {j:Nat} (h:nO x=some (j:Int)):∃v,x=some (v,j):=by
 cases x with
 |none=>cases h
 |some p=>
  obtain⟨v,n⟩:=p;simp only[nO,Option.map_some,Option.some.injEq]at h;exact⟨v,by rw[show n=j by omega]⟩
theorem Qbg (l:List UInt8) {a b c:Nat} (h1:a<=b) (h2:b<=c):(l.drop a).take (b - a)++(l.drop b).take (c - b)=(l.drop a).take (c - a):=by
 have e:c - a=(b - a)+(c - b):=by omega
 rw[e,List.take_add,List.drop_drop];congr 3;omega
theorem Qe4 {l p r:List UInt8} {n:Int} (h:l=p++(numI n++r)) (h0:0<=n) (h1:n<=2147483647):getN l (p.length:Int)=some (n.toNat,(p++numI n).length):=Qks h h0 h1
theorem getT_at {l p r:List UInt8} {s:ByteArray} (h:l=p++(txtB s++r)) (h1:s.size<=2147483647):getT l (p.length:Int)=some (s,(p++txtB s).length):=tS_at h h1
theorem many_at {α:Type} {l:List UInt8} {get:Int->Option (α × Nat)} {f:α->List UInt8}:∀(L:List α) (p r:List UInt8),(∀x∈L,∀p r,l=p++(f x++r)->get (p.length:Int)=some (x,(p++f x).length))->l=p++(L.flatMap f++r)->Qbc get L.length p.length=some (L,(p++L.flatMap f).length)
 | [],p,r,hx,h=>by simp[Qbc]
 |x::L,p,r,hx,h=>by
  have h1:=hx x (List.mem_cons_self ..) p (L.flatMap f++r) (by rw[h];simp);have h2:=many_at L (p++f x) r (fun y hy=>hx y (List.mem_cons_of_mem _ hy)) (by rw[h];simp);show Qbc get (L.length+1) p.length=_;unfold Qbc;rw[h1];simp only[];rw[h2];simp
theorem list_at {α:Type} {l:List UInt8} {get:Int->Option (α × Nat)} {f:α->List UInt8} (L:List α) (p r:List UInt8) (hL:L.length<=2147483647) (hx:∀x∈L,∀p r,l=p++(f x++r)->get (p.length:Int)=some (x,(p++f x).length)) (h:l=p++(numI (L.length:Int)++(L.flatMap f++r))):Qbx l get (p.length:Int)=some (L,(p++(numI (L.length:Int)++L.flatMap f)).length):=by
 have h1:=Qe4 (n:=(L.length:Int)) (r:=L.flatMap f++r) h (by omega) (by omega);have h2:=many_at L (p++numI (L.length:Int)) r hx (by rw[h];simp);unfold Qbx;rw[h1];simp only[Int.toNat_natCast];rw[h2];simp
theorem many_inv {α:Type} {l:List UInt8} {get:Int->Option (α × Nat)} {f:α->List UInt8} (hg:∀(i:Nat) x c,get (i:Int)=some (x,c)->i<=c/\c<=l.length/\f x=(l.drop i).take (c - i)):∀(n c:Nat) {xs:List α} {d:Nat},c<=l.length->Qbc get n c=some (xs,d)->c<=d/\d<=l.length/\xs.length=n/\xs.flatMap f=(l.drop c).take (d - c)
 |0,c,xs,d,hc,h=>by
  simp only[Qbc,Option.some.injEq,Prod.mk.injEq]at h;obtain⟨rfl,rfl⟩:=h;simp[hc]
 |n+1,c,xs,d,hc,h=>by
  unfold Qbc at h;cases hx:get (c:Int)with
  |none=>rw[hx]at h;cases h
  |some p=>
  obtain⟨x,e⟩:=p;rw[hx]at h;simp only[]at h;cases hy:Qbc get n e with
  |none=>rw[hy]at h;cases h
  |some q=>
  obtain⟨ys,g⟩:=q;rw[hy]at h;simp only[Option.some.injEq,Prod.mk.injEq]at h;obtain⟨rfl,rfl⟩:=h;have h1:=hg _ _ _ hx;have h2:=many_inv hg n e h1.2.1 hy;refine⟨by omega,h2.2.1,by simp[h2.2.2.1],?_⟩;rw[List.flatMap_cons,h1.2.2,h2.2.2.2];exact Qbg l h1.1 h2.1
theorem Qd8 {l:List UInt8} {i n c:Nat} (h:getN l (i:Int)=some (n,c)):n<=2147483647/\i<=c/\c<=l.length/\numI (n:Int)=(l.drop i).take (c - i):=by
 obtain⟨j,h1,h2,h3,h4,h5⟩:=Qgz (show nS l (some (i:Int))=_ from h);simp only[Option.some.injEq]at h1;obtain rfl:i=j:=by omega
 exact⟨h2,by omega,h4,h5⟩
theorem getT_inv {l:List UInt8} {i c:Nat} {s:ByteArray} (h:getT l (i:Int)=some (s,c)):i<=c/\c<=l.length/\txtB s=(l.drop i).take (c - i):=by
 obtain⟨j,h1,h2,h3,h4⟩:=tS_inv (show tS l (some (i:Int))=_ from h);simp only[Option.some.injEq]at h1;obtain rfl:i=j:=by omega
 exact⟨h2,h3,h4⟩
end Go.Proofs.YtpippjjhelgnlaaGreat.Gen.Bk
namespace Go.Proofs.YtpippjjhelgnlaaGreat.Items
open ChangeShapes WideShapes ChangeAt RowKit Base
structure It where
  off:Int
  key:ByteArray
  text:ByteArray
  who:Int
  time:Int
def It.cs (x:It):List Value:= [.int .i64 x.off,.string x.key,.string x.text,.int .i64 x.who,.int .i64 x.time]
def flat (l:List It):List Value:=l.flatMap It.cs
theorem It.cs_length (x:It):x.cs.length=5:=rfl
theorem Qck (l:List It):(flat l).length=l.length*5:=by
 induction l with
 |nil=>rfl
 |cons a l ih=>simp only[flat,List.flatMap_cons,List.length_append,List.length_cons]at ih ⊢;rw[ih,It.cs_length];omega
theorem Qda (l m:List It):flat (l++m)=flat l++flat m:=by simp[flat]
theorem Qdi (x:It):flat [x]=x.cs:=by simp[flat]
theorem Qcq (x:It) (l:List It):flat (x::l)=x.cs++flat l:=by simp[flat]
theorem Qeq (l:List It):∀(i:Nat) (h:i<l.length) (f:Nat),f<5->(flat l)[i*5+f]? =(l[i].cs)[f]? :=by
 induction l with
 |nil=>intro i h;simp at h
 |cons a l ih=>
  intro i h f hf;rw[Qcq];cases i with
  |zero=>rw[List.getElem?_append_left (by rw[It.cs_length];omega)];simp
  |succ i=>
   rw[List.getElem?_append_right (by rw[It.cs_length];omega),It.cs_length];have e:(i+1) *5+f - 5=i*5+f:=(by omega);rw[e,ih i (by simpa using h) f hf];simp
def In (w:World) (b o:Nat) (l:List It):Prop:=w.rangeAt b o (flat l)
theorem In.get {w:World} {b o:Nat} {l:List It} (h:In w b o l) (i:Nat) (hi:i<l.length):
 w.cell? ⟨b,o+i*5,none⟩=some (.int .i64 l[i].off)/\w.cell? ⟨b,o+i*5+1,none⟩=some (.string l[i].key)/\w.cell? ⟨b,o+i*5+2,none⟩=some (.string l[i].text)/\
 w.cell? ⟨b,o+i*5+3,none⟩=some (.int .i64 l[i].who)/\w.cell? ⟨b,o+i*5+4,none⟩=some (.int .i64 l[i].time):=by
 have g:∀f v,f<5->(l[i].cs)[f]? =some v->w.cell? ⟨b,o+(i*5+f),none⟩=some v:=fun f v hf hv=>h (i*5+f) v (by rw[Qeq l i hi f hf];exact hv)
 exact⟨g 0 _ (by omega) rfl,g 1 _ (by omega) rfl,g 2 _ (by omega) rfl,g 3 _ (by omega) rfl,g 4 _ (by omega) rfl⟩
theorem In.below {w w' :World} {b o:Nat} {l:List It} (h:In w b o l) (hb:b<w.heap.size) (hw:Below w.heap.size w w'):In w' b o l:=
 fun j v hv=>(hw.cell (p:=⟨b,o+j,none⟩) hb).trans (h j v hv)
end Go.Proofs.YtpippjjhelgnlaaGreat.Items
namespace Go.Proofs.YtpippjjhelgnlaaGreat.Items
open ChangeShapes WideShapes ChangeAt RowKit Base
theorem via0 {a b c:World} (k:Below b.heap.size b c) (h:Below a.heap.size a b):Below a.heap.size a c:=h.trans (k.mono h.size)
theorem Qad {a b:World} (h:Below a.heap.size a b) (o:Obj):Below a.heap.size a (b.alloc o):=h.alloc h.size o
end Go.Proofs.YtpippjjhelgnlaaGreat.Items
namespace Go.Proofs.YtpippjjhelgnlaaGreat.Items
open ChangeShapes WideShapes ChangeAt RowKit Base
def It.zero:It:=⟨0,⟨#[]⟩,⟨#[]⟩,0,0⟩
def It.v (x:It):Value:= .agg (Qbi x.off x.key x.text x.who x.time)
end Go.Proofs.YtpippjjhelgnlaaGreat.Items
namespace Go.Proofs.YtpippjjhelgnlaaGreat.Items
open ChangeShapes WideShapes ChangeAt RowKit Shelf Base
attribute [local go_sem] Oper.semAt_some
abbrev Of (its:List It):Type:={x:It // x∈its}
def Blk (W:World) (B:Nat) (t:TypeId) (vs:Array Value):Prop:=W.heap[B]? =some (.cells vs t (0,0))
theorem Blk.lt {W:World} {B:Nat} {t:TypeId} {vs:Array Value} (h:Blk W B t vs):B<W.heap.size:=(Array.getElem?_eq_some_iff.1 h).1
theorem Blk.cell {W:World} {B:Nat} {t:TypeId} {vs:Array Value} (h:Blk W B t vs) {i:Nat} {v:Value} (hv:vs[i]? =some v):W.cell? ⟨B,i,none⟩=some v:=by simp[World.cell?,show W.heap[B]? =_ from h,hv]
theorem Blk.new (W:World) (t:TypeId) (vs:Array Value):Blk (W.alloc (.cells vs t)) W.heap.size t vs:=World.alloc_heap_new W _
theorem Blk.kept {W W' :World} {row:Option Nat} {B:Nat} {t:TypeId} {vs:Array Value} (h:Blk W B t vs) (hg:W.grownBy W' row) (hne:some B≠row):Blk W' B t vs:=(hg.block B h.lt hne).trans h
theorem Blk.alloc {W:World} {B:Nat} {t:TypeId} {vs:Array Value} (h:Blk W B t vs) (o:Obj):Blk (W.alloc o) B t vs:=h.kept (World.grownBy_alloc W o none) (by simp)
theorem Blk.other {W:World} {B B' :Nat} {t:TypeId} {vs:Array Value} (h:Blk W B t vs) (hne:B≠B') (i:Nat) (u:Value):Blk (W.setCell ⟨B',i,none⟩ u) B t vs:=by
 show(W.heap.modify B' _)[B]? =_;rw[Array.getElem?_modify,if_neg (Ne.symm hne)];exact h
theorem Blk.below {W W' :World} {n:Nat} {B:Nat} {t:TypeId} {vs:Array Value} (h:Blk W B t vs) (hb:Below n W W') (hn:B<n):Blk W' B t vs:=(hb.block B hn).trans h
end Go.Proofs.YtpippjjhelgnlaaGreat.Items
namespace Go.Proofs.YtpippjjhelgnlaaGreat.Items
open ChangeShapes WideShapes ChangeAt RowKit Base
def partB (k t:ByteArray) (who time:Int):Bool:=textB k&&textB t&&inB who 0 3&&inB time 0 100000
def itemB (x:It):Bool:=partB x.key x.text x.who x.time
theorem four (p q r s:Bool):p=false∨(p=true/\q=false)∨(p=true/\q=true/\r=false)∨(p=true/\q=true/\r=true/\s=false)∨(p=true/\q=true/\r=true/\s=true):=by
 cases p<;>cases q<;>cases r<;>cases s<;>simp
theorem Qiw (off who time:Int) (k t:ByteArray) (hk:k.size<=9223372036854775807) (ht:t.size<=9223372036854775807) (w:World):
 Calls Tryz.prog 162 #[.agg (Qbi off k t who time)] w fun e w' =>e= .returned (.bool (partB k t who time))/\Below w.heap.size w w' :=by
 rcases four (textB k) (textB t) (inB who 0 3) (inB time 0 100000)with h1|⟨h1,h2⟩|⟨h1,h2,h3⟩|⟨h1,h2,h3,h4⟩|⟨h1,h2,h3,h4⟩
 all_goals
  go_enter Tryz.func162,Tryz.ntmps162;have q1:w.heap.size<w.heap.size+1:=Nat.lt_succ_self _;go_wp2_with (first
   |(go_at_call 71;refine(Qcb _ _ _ _).mono ?_;rintro e w' ⟨rfl,rfl⟩)
   |(go_at_call_of 163 (Value.string k);refine(Qdc k hk _).mono ?_;rintro e w1 ⟨rfl,g1⟩;obtain⟨c1,f1⟩:=Qcd g1;have s1:=g1.size;try simp at s1;have q1:w.heap.size<w1.heap.size:=by omega)
   |(go_at_call_of 163 (Value.string t);refine(Qdc t ht _).mono ?_;rintro e w1 ⟨rfl,g1⟩;obtain⟨c1,f1⟩:=Qcd g1;have s1:=g1.size;try simp at s1;have q1:w.heap.size<w1.heap.size:=by omega))
  go_ret;refine⟨by simp[partB, *],?_⟩
  repeat(first|exact Below.refl _ _|refine via0 (by assumption) ?_|refine Below.drew ?_|refine Qad ?_ _)
def Qfw (start nb:Int):Option Int->List It->Bool
  |_,[]=>true
  |p,x::l=>itemB x&&inB x.off start nb&&(match p with|none=>true|some o=>decide (o<x.off))&&Qfw start nb (some x.off) l
def Qkp (l:List It) (n:Nat):Option Int:=match n with
  |0=>none
  |p+1=>(l[p]?).map (·.off)
def Qa4 (start nb:Int) (l:List It) (n:Nat):Bool:=Qfw start nb (Qkp l n) (l.drop n)
theorem Qik {start nb:Int} {l:List It} {n:Nat} (h:l.length<=n):Qa4 start nb l n=true:=by
 unfold Qa4;rw[List.drop_eq_nil_of_le h];rfl
def ordB (l:List It) (n:Nat) (x:Int):Bool:=match Qkp l n with
  |none=>true
  |some o=>decide (o<x)
theorem Qhn {start nb:Int} {l:List It} {n:Nat} (h:n<l.length):
 Qa4 start nb l n=(itemB l[n]&&inB l[n].off start nb&&ordB l n l[n].off&&Qa4 start nb l (n+1)):=by
 have e2:Qkp l (n+1)=some l[n].off:=by simp[Qkp,List.getElem?_eq_getElem h]
 unfold Qa4 ordB;rw[e2,List.drop_eq_getElem_cons h];cases Qkp l n<;>rfl
theorem ordB_zero (l:List It) (x:Int):ordB l 0 x=true:=rfl
theorem ordB_succ {l:List It} {p:Nat} (h:p<l.length) (x:Int):ordB l (p+1) x=decide (l[p].off<x):=by
 simp[ordB,Qkp,List.getElem?_eq_getElem h]
def rowB (start next:Int) (l:List It):Bool:=Qa4 start (next - 1) l 0&&inB start 0 next&&decide (next<=100000)&&decide (l.length<=80)
theorem Qdl (v:Bool) (off who time:Int) (k t:ByteArray) (hk:k.size<=9223372036854775807) (ht:t.size<=9223372036854775807) (h:Hid (partB k t who time=v)) (w:World):
 Calls Tryz.prog 162 #[.agg (Qbi off k t who time)] w fun e w' =>e= .returned (.bool v)/\Below w.heap.size w w' :=by
 have:=Qiw off who time k t hk ht w;rw[h.out]at this;exact this
theorem in_is (v:Bool) (x lo hi:Int) (h:Hid (inB x lo hi=v)) (w:World):
 Calls Tryz.prog 71 (Qc4 x lo hi) w fun e w' =>e= .returned (.bool v)/\w' =w:=by
 have:=Qcb x lo hi w;rw[h.out]at this;exact this
end Go.Proofs.YtpippjjhelgnlaaGreat.Items
