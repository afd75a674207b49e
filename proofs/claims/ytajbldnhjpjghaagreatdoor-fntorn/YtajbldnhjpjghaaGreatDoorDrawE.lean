/-
  Entries that are drawn, one behind the other (spec.l8DrawEntries): so many at most, their texts of at most 30 bytes. No condition.
-/
import Derived.Test.YtajbldnhjpjghaaGreatDoorDrawKR
set_option linter.unusedVariables false
set_option linter.unusedSimpArgs false
set_option maxRecDepth 100000
set_option maxHeartbeats 8000000
set_option maxRecDepth 100000
set_option maxHeartbeats 8000000
namespace Go.Proofs.YtajbldnhjpjghaaGreatDoor.Gen
open ChangeShapes WideShapes ChangeAt RowKit Joins Deep Base
open Items (It)
theorem Qhh (C:Nat) (A:Option Addr) (cap:Nat) (l:List By) (term0:Int) (ht0:0<=term0/\term0<=1000) (most:Nat) (hm:most<=200) (w:World) (hD:Drawn w C A cap l):
 Calls Tryz.prog 56 #[.pointer (some ⟨C,0,none⟩),.int .i64 term0,.int .i64 (most:Int)] w fun e w' =>∃(a:Option Addr) (c:Nat) (L:List En),e= .returned (.slice a L.length c)/\L.length<=most/\(∀x∈L,x.key.size<=30/\x.text.size<=30)/\DL 93 w w' C cap A l a c L:=by
 have hC:=hD.lt;have I0:DL (α:=En) 93 w (w.alloc (.cells #[] 93)) C cap A l (some ⟨w.heap.size,0,none⟩) 0 []:=⟨Only.of_below (Qad (Below.refl _ _) _),hD.below (Qad (Below.refl _ _) _),Qem (α:=En) (Nat.le_refl _) rfl,hC⟩
 have HI:=hidP I0;clear hD I0;go_enter Tryz.func56,Tryz.ntmps56;go_wp2_with fail;refine(Qbc C A cap l ((most:Int)+1) (by omega) (by omega) _ HI.out.dr).mono ?_;rintro e w1 ⟨n,rfl,hn0,hn1,k1,d1⟩;have I1:=HI.out.only k1 d1;clear HI k1 d1;go_wp2
 go_loopw [1,7,9] (fun tv ov iv wx=>∃(i:Nat) (term:Int) (a:Option Addr) (c:Nat) (L:List En),tv= .int .i64 term/\ov= .slice a L.length c/\iv= .int .i64 (i:Int)/\(i:Int)<=n/\(0<=term/\term<=1000+(i:Int))/\Hid (L.length=i)/\Hid (∀x∈L,x.key.size<=30/\x.text.size<=30)/\DL 93 w wx C cap A l a c L) (fun _ _ iv _=>(n - intOf iv).toNat)
 case atStart=>exact⟨0,term0,_,_,[],rfl,rfl,rfl,by omega,by omega,rfl,by show ∀x∈_,_;simp,I1⟩
 case round=>
  clear I1;obtain⟨i,term,la,lc,L,rfl,rfl,rfl,hi,ht,hl,hs,P⟩:=hrel;by_cases hlt:(i:Int)<n
  . have HP:=hidP P;clear P;go_wp2_with fail;refine(Qbc C A cap l 2 (by omega) (by omega) _ HP.out.dr).mono ?_;rintro e w2 ⟨q,rfl,hq0,hq1,k2,d2⟩;have P2:=hidP (HP.out.only k2 d2);clear HP k2 d2;go_wp2_with fail;refine(Qfi C A cap l _ P2.out.dr).mono ?_;rintro e w3 ⟨who,seq,op,a,b,c,k,t,rfl,hdc,k3,d3⟩;have Hsz:=hidP hdc.size;have P:=P2.out.only k3 d3;clear P2 k3 d3 hdc;obtain⟨a9,c9,W9,hr,P9⟩:=P.app Tryz.underlying29 infoEn rfl (by decide) (by decide) (⟨term+q,who,seq,op,a,b,c,k,t⟩:En) (Qbq (term+q) who seq op a b c k t) rfl (by have:=hl.out;omega);go_wp2_with (at_builtin;refine Qac rfl _ _ _ rfl _ _ _ rfl rfl hr ?_);exact⟨⟨i+1,term+q,a9,c9,L++ [(⟨term+q,who,seq,op,a,b,c,k,t⟩:En)],rfl,by rw[List.length_append];rfl,by go_num,by omega,by omega,by show _=_;rw[List.length_append,hl.out];rfl,by show ∀x∈_,_;intro x hx;rcases List.mem_append.1 hx with h|h;exact hs.out x h;rw[List.mem_singleton]at h;subst h;exact Hsz.out,P9⟩,by simp[intOf];omega⟩
  . go_wp2;go_ret;exact⟨la,lc,L,rfl,by have:=hl.out;omega,hs.out,P⟩
theorem Qih {s:ByteArray} (h:s.size<=30):(txtB s).length<=35:=by rw[Qb5];have:=Qcs (n:=s.size) (by omega);omega
theorem Qdl {α:Type} (f:α->List UInt8) (k:Nat) (l:List α) (h:∀x∈l,(f x).length<=k):(l.flatMap f).length<=k*l.length:=by
 induction l with
 |nil=>simp
 |cons x l ih=>
  rw[List.flatMap_cons,List.length_append,List.length_cons,Nat.mul_add];have:=h x (by simp);have:=ih (fun y hy=>h y (by simp[hy]));omega
theorem Qkh {α:Type} (f:α->List UInt8) {l:List α} {n:Nat} (h:n<l.length):(l.take (n+1)).flatMap f=(l.take n).flatMap f++f l[n]:=by
 rw[List.take_succ_eq_append_getElem h,List.flatMap_append];simp
theorem Qf2 {α:Type} (f:α->List UInt8) (l:List α) (n:Nat):((l.take n).flatMap f).length<=(l.flatMap f).length:=by
 conv=>rhs;rw[← List.take_append_drop n l]
 rw[List.flatMap_append,List.length_append];omega
def Pt {α:Type} [Cel α] (P:Nat->Prop) (w:World) (A:Option Addr) (L:List α):Prop:=At w A L/\(L= []∨∀k o,A=some ⟨k,o,none⟩->P k)
theorem Pt.turn {α:Type} [Cel α] {P:Nat->Prop} {w w' :World} {A:Option Addr} {L:List α} (h:Pt P w A L) (g:Turn P w w'):Pt P w' A L:=by
 refine⟨?_,h.2⟩;rcases h.2 with e|hP
 . exact .inl e
 . exact h.1.turn g hP
theorem Pt.mono {α:Type} [Cel α] {P Q:Nat->Prop} {w:World} {A:Option Addr} {L:List α} (h:Pt P w A L) (hn:∀k,P k->Q k):Pt Q w A L:=⟨h.1,h.2.imp id fun f k o e=>hn k (f k o e)⟩
theorem Wr.lt {P:Nat->Prop} {b:Nat} {W:World} {xs:List UInt8} (h:Wr P b W xs):∀k,P k->k<W.heap.size:=by obtain⟨_,_,_,_,_,_,h⟩:=h;exact h
theorem Qg2 (P:Nat->Prop) (b:Nat) (n:Int) (h0:0<=n/\n<=2147483647) (xs:List UInt8) (hx:xs.length<=599999000) (w:World) (hW:Wr P b w xs):
 Calls Tryz.prog 75 #[.pointer (some ⟨b,0,none⟩),.int .i64 n] w fun e w' =>e= .returned (.tuple #[])/\Turn P w w' /\Wr P b w' (xs++numI n):=by
 obtain⟨m,rfl⟩:∃m:Nat,n=(m:Int):=⟨n.toNat,by omega⟩
 rw[Qcp (show m<=2147483647 by omega)];exact Qfq P b m (by omega) xs hx w hW
def itB (x:It):List UInt8:=numI x.off++(txtB x.key++(txtB x.text++Qbj [x.who,x.time]))
def mkB (x:Mk):List UInt8:=Qbj [x.seq,x.off]
def itsB (l:List It):List UInt8:=numI (l.length:Int)++l.flatMap itB
def mksB (l:List Mk):List UInt8:=numI (l.length:Int)++l.flatMap mkB
def rcB (x:RC):List UInt8:=Qbj [x.start,x.next]++itsB x.its
def mcB (x:MC):List UInt8:=Qbj [x.row,x.who,x.epoch,x.last+1]++mksB x.ms
def memB (m b:List Int):List UInt8:=(List.zip m b).flatMap fun p=>Qbj [p.1,p.2]
def gcB (x:GC):List UInt8:=Qbj [x.gen,(x.m.length:Int)]++(memB x.m x.b++Qbj x.o)
def anB (x:An):List UInt8:=Qbj [x.code,x.n+1]++(txtB x.key++txtB x.text)
def rcsB (l:List RC):List UInt8:=numI (l.length:Int)++l.flatMap rcB
def mcsB (l:List MC):List UInt8:=numI (l.length:Int)++l.flatMap mcB
def gcsB (l:List GC):List UInt8:=numI (l.length:Int)++l.flatMap gcB
def Qhr (d:List Int) (a:List An):List UInt8:=(List.zip d a).flatMap fun p=>numI p.1++anB p.2
def kB (x:KC):List UInt8:=rcsB x.rs++(mcsB x.ms++(gcsB x.gs++(numI x.time++Qhr x.ds x.ls)))
structure ItR (x:It):Prop where
  off:0<=x.off/\x.off<=2147483647
  key:x.key.size<=30
  text:x.text.size<=30
  who:0<=x.who/\x.who<=2147483647
  time:0<=x.time/\x.time<=2147483647
structure MkR (x:Mk):Prop where
  seq:0<=x.seq/\x.seq<=2147483647
  off:0<=x.off/\x.off<=2147483647
structure RcR (x:RC):Prop where
  start:0<=x.start/\x.start<=2147483647
  next:0<=x.next/\x.next<=2147483647
  its:∀y∈x.its,ItR y
  len:x.its.length<=80
structure McR (x:MC):Prop where
  row:0<=x.row/\x.row<=2147483647
  who:0<=x.who/\x.who<=2147483647
  epoch:0<=x.epoch/\x.epoch<=2147483647
  last: -1<=x.last/\x.last<=2147483646
  ms:∀y∈x.ms,MkR y
  len:x.ms.length<=5
structure GcR (x:GC):Prop where
  gen:0<=x.gen/\x.gen<=2147483647
  m:∀y∈x.m,0<=y/\y<=2147483647
  b:∀y∈x.b,0<=y/\y<=2147483647
  o:∀y∈x.o,0<=y/\y<=2147483647
  same:x.b.length=x.m.length
  len:x.m.length<=300000
  leo:x.o.length<=300000
structure AnR (x:An):Prop where
  code:0<=x.code/\x.code<=2147483647
  n: -1<=x.n/\x.n<=2147483646
  key:x.key.size<=30
  text:x.text.size<=30
theorem itB_le {x:It} (h:ItR x):(itB x).length<=100:=by
 have h1:=Qbl x.off;have h2:=Qih h.key;have h3:=Qih h.text;have h4:=Qb6 [x.who,x.time];simp only[itB,List.length_append,List.length_cons,List.length_nil]at h4 ⊢;omega
theorem mkB_le (x:Mk):(mkB x).length<=10:=by have:=Qb6 [x.seq,x.off];simpa [mkB]using this
structure KcR (x:KC):Prop where
  rs:∀y∈x.rs,RcR y
  ms:∀y∈x.ms,McR y
  gs:∀y∈x.gs,GcR y
  time:0<=x.time/\x.time<=2147483647
  ds:∀y∈x.ds,0<=y/\y<=2147483647
  ls:∀y∈x.ls,AnR y
  rl:x.rs.length<=1048576
  ml:x.ms.length<=1048576
  gl:x.gs.length<=1048576
  dl:x.ds.length<=1048576
  same:x.ls.length=x.ds.length
def offAt (l:List Mk) (j:Nat):Int:=(l.getD j ⟨0,0⟩).off
def seqAt (last:Int) (l:List Mk) (j:Nat):Int:=IntKind.i64.wrap (last - IntKind.i64.wrap (IntKind.i64.wrap ((l.length:Int) - 1) - (j:Int)))
def rightAt (last:Int) (l:List Mk) (j:Nat):Bool:=inB (offAt l j) 0 100000&&decide ((l.getD j ⟨0,0⟩).seq=seqAt last l j)&&(decide (j=0)||decide (offAt l (j - 1)<offAt l j))
def rightTo (last:Int) (l:List Mk) (n:Nat):Bool:=(List.range n).all (rightAt last l)
def okB (row who epoch last window:Int) (l:List Mk):Bool:=
  inB row 0 3&&inB who 0 3&&inB epoch 0 100000&&inB last (-1) 100000&&decide ((l.length:Int)<=window)&&decide ((l.length:Int)<=last+1)&&(decide ((l.length:Int)=0)==decide (last= -1))&&rightTo last l l.length
theorem rcB_le {y:RC} (h:RcR y):(rcB y).length<=8100:=by
 have h1:=Qb6 [y.start,y.next];have h2:=Qdl itB 100 y.its (fun z hz=>itB_le (h.its z hz));have h3:=Qbl (y.its.length:Int);have:=h.len;simp only[rcB,itsB,List.length_append,List.length_cons,List.length_nil]at h1 ⊢;omega
theorem mcB_le {y:MC} (h:McR y):(mcB y).length<=80:=by
 have h1:=Qb6 [y.row,y.who,y.epoch,y.last+1];have h2:=Qdl mkB 10 y.ms (fun z _=>mkB_le z);have h3:=Qbl (y.ms.length:Int);have:=h.len;simp only[mcB,mksB,List.length_append,List.length_cons,List.length_nil]at h1 ⊢;omega
theorem anB_le {y:An} (h:AnR y):(anB y).length<=80:=by
 have a1:=Qb6 [y.code,y.n+1];have a2:=Qih h.key;have a3:=Qih h.text;simp only[anB,List.length_append,List.length_cons,List.length_nil]at a1 ⊢;omega
theorem gcB_leN {y:GC} {N:Nat} (h1:y.m.length<=N) (h2:y.o.length<=4):(gcB y).length<=40+10*N:=by
 have a1:=Qb6 [y.gen,(y.m.length:Int)];have a2:=Qb6 y.o;have a3:=Qdl (fun p:Int × Int=>Qbj [p.1,p.2]) 10 (List.zip y.m y.b) (fun p _=>by have:=Qb6 [p.1,p.2];simpa using this);have a4:(List.zip y.m y.b).length<=N:=by rw[List.length_zip];omega
 have a5:10* (List.zip y.m y.b).length<=10*N:=by omega
 simp only[gcB,memB,List.length_append,List.length_cons,List.length_nil]at a1 ⊢;omega
theorem Kin.kcr {R N:Nat} (hN:N<=1000) (hR:1<=R/\R<=4) {x:KC} (h:Kin R N x.p):KcR x/\(kB x).length<=200000:=by
 have hrl:x.rs.length=R:=by have:=h.rl;simpa [KC.p]using this
 have hml:x.ms.length<=N:=by have:=h.ml;simpa [KC.p]using this
 have hgl:x.gs.length=2:=by have:=h.gl;simpa [KC.p]using this
 have hdl:x.ds.length=4:=h.dl;have hll:x.ls.length=4:=h.ll;have ht:In2 x.time 100000:=h.t;have hrow:∀y∈x.rs,RcR y:=fun y hy=>by
  obtain⟨g1,g2,g3,g4⟩:=Qdh (h.ri y.p (List.mem_map_of_mem hy));unfold In2 at g1 g2;have e1:y.p.start=y.start:=rfl;have e2:y.p.next=y.next:=rfl;have e3:y.p.its=y.its:=rfl;rw[e1]at g1;rw[e2]at g2;rw[e3]at g3 g4;refine⟨by omega,by omega,fun z hz=> ?_,g3⟩;obtain⟨k1,k2,k3,k4,k5⟩:=g4 z hz;unfold In2 at k1 k2 k3;exact⟨by omega,k4,k5,by omega,by omega⟩
 have hmak:∀y∈x.ms,McR y:=fun y hy=>by
  have g:=h.mi y.p (List.mem_map_of_mem hy);have g1:In2 y.row 100000:=g.row;have g2:In2 y.who 3:=g.who;have g3:In2 y.epoch 100000:=g.epoch;have g4: -1<=y.last/\y.last<=100000:=g.last;have g5:∀z∈y.ms,In2 z.seq 100000/\In2 z.off 100000:=g.ms;unfold In2 at g1 g2 g3;refine⟨by omega,by omega,by omega,by omega,fun z hz=> ?_,g.len⟩;obtain⟨k1,k2⟩:=g5 z hz;unfold In2 at k1 k2;exact⟨by omega,by omega⟩
 have hgrp:∀y∈x.gs,GcR y/\y.m.length<=N/\y.o.length<=4:=fun y hy=>by
  have g:=h.gi y.p (List.mem_map_of_mem hy);have g1:In2 y.gen 100000:=g.gen;have g2:∀z∈y.m,In2 z 3:=g.m;have g3:∀z∈y.b,In2 z 100000:=g.b;have g4:∀z∈y.o,In2 z 100000:=g.o;have g5:y.b.length=y.m.length:=g.same;have g6:y.m.length<=N:=g.len;have g7:y.o.length=R:=g.ol;unfold In2 at g1 g2 g3 g4;exact⟨⟨by omega,fun z hz=>by have:=g2 z hz;omega,fun z hz=>by have:=g3 z hz;omega,fun z hz=>by have:=g4 z hz;omega,g5,by omega,by omega⟩,g6,by omega⟩
 have hans:∀y∈x.ls,AnR y:=fun y hy=>by
  have g:=h.li y hy;have g1:=g.code;have g2:=g.n;unfold In2 at g1;exact⟨by omega,by omega,g.key,g.text⟩
 have hds:∀y∈x.ds,0<=y/\y<=2147483647:=fun y hy=>by have g:=h.di y hy;unfold In2 at g;omega
 unfold In2 at ht;refine⟨⟨hrow,hmak,fun y hy=>(hgrp y hy).1,by omega,hds,hans,by omega,by omega,by omega,by omega,by omega⟩,?_⟩;have b1:=Qdl rcB 8100 x.rs (fun y hy=>rcB_le (hrow y hy));have b2:=Qdl mcB 80 x.ms (fun y hy=>mcB_le (hmak y hy));have b3:=Qdl gcB (40+10*N) x.gs (fun y hy=>gcB_leN (hgrp y hy).2.1 (hgrp y hy).2.2);have b4:=Qdl (fun p:Int × An=>numI p.1++anB p.2) 90 (List.zip x.ds x.ls) (fun p hp=>by
  have:=anB_le (hans p.2 (List.of_mem_zip hp).2);have:=Qbl p.1;rw[List.length_append];omega)
 have b5:(List.zip x.ds x.ls).length<=4:=by rw[List.length_zip];omega
 have c1:=Qbl (x.rs.length:Int);have c2:=Qbl (x.ms.length:Int);have c3:=Qbl (x.gs.length:Int);have c4:=Qbl x.time;rw[hgl]at b3;simp only[kB,rcsB,mcsB,gcsB,Qhr,List.length_append];omega
theorem kB_pos {x:KC} (hx:x.rs.length<=1000):0<(kB x).length:=by
 have h:0<(numI (x.rs.length:Int)).length:=by
  rw[Qcp (by omega)];unfold numB;split<;>simp
 simp only[kB,rcsB,List.length_append];omega
structure KW (w W:World) (kx:Array Value) (v:Value) (xs R K:List UInt8):Prop where
  bl:Below w.heap.size w W
  bx:Blk W w.heap.size 114 kx
  own:W.ownsRow (w.heap.size+1) 5 1 v xs.length (flat xs)
  eq:xs++R=K
theorem KW.below {w W W' :World} {kx:Array Value} {v:Value} {xs R K:List UInt8} (h:KW w W kx v xs R K) (g:Below W.heap.size W W'):KW w W' kx v xs R K:=
 ⟨via0 g h.bl,h.bx.below g h.bx.lt,Qar h.own g,h.eq⟩
theorem KW.rest {w W:World} {kx:Array Value} {v:Value} {xs R R' K:List UInt8} (h:KW w W kx v xs R K) (e:R=R'):KW w W kx v xs R' K:=e▸h
theorem own_neB {B n k b:Nat} {W:World} {v:Value} {xs:List Value} {t:TypeId} {vs:Array Value} (h:W.ownsRow B 5 k v n xs) (hb:Blk W b t vs) (ht:t≠5):some b≠v.ownBlock:=by
 rcases h.2 with⟨rfl,_⟩|⟨g,c,cur,rfl,_,hg,_⟩
 . simp[Value.ownBlock]
 . intro e;have e' :b=g:=(by simpa [Value.ownBlock]using e);subst e';have:=(show W.heap[b]? =_ from hb).symm.trans hg;simp at this;exact ht this.2
theorem KW.add {w W W1:World} {kx:Array Value} {a a1:Option Addr} {c c1:Nat} {xs R K ys R' :List UInt8} (h:KW w W kx (.slice a xs.length c) xs R K) (hK:K.length<=400000000) (hR:R=ys++R') (g:Below W.heap.size W W1) {B:Nat} (o:W1.ownsRow B 5 1 (.slice a1 ys.length c1) ys.length (flat ys)):
 ∃a2 c2 zs W2,(Builtin.append_ #[22,22] 22 #[.slice a xs.length c,.slice a1 ys.length c1]).run Tryz.prog W1= .ok (.slice a2 (List.length zs) c2) W2/\KW w W2 kx (.slice a2 zs.length c2) zs R' K/\(∀b t vs,Blk W b t vs->t≠5->Blk W2 b t vs):=by
 have h1:=h.below g;have hl:xs.length+ys.length<=1000000000:=by
  have:=congrArg List.length h.eq;rw[hR]at this;simp at this;omega
 obtain⟨a2,c2,W2,hr,hown,hg⟩:=Qcr (c' :=c1) (B:=w.heap.size+1) (by have:=h1.bx.lt;omega) h1.own (Qa0 o).at hl;have ko:=Qb3 hg;refine⟨a2,c2,xs++ys,W2,hr,⟨h1.bl.trans (ko.toBelow (fun x hx=>by have:=(h1.own.lt x hx).1;omega) h1.bl.size),h1.bx.offp ko (fun e=>own_neB h1.own h1.bx (by decide) e.symm),hown,?_⟩,?_⟩
 . rw[← h.eq,hR,List.append_assoc]
 . intro b t vs hb ht;exact(hb.below g hb.lt).offp ko (fun e=>own_neB h1.own (hb.below g hb.lt) ht e.symm)
theorem Qhg {α:Type} (f:α->List UInt8) {l:List α} {n:Nat} (h:n<l.length):(l.drop n).flatMap f=f l[n]++(l.drop (n+1)).flatMap f:=by
 rw[List.drop_eq_getElem_cons h,List.flatMap_cons]
theorem Qkg {α:Type} (f:α->List UInt8) {l:List α} {n:Nat} (h:l.length<=n):(l.drop n).flatMap f= []:=by
 rw[List.drop_eq_nil_of_le h];rfl
theorem rc_split (y:RC) (T:List UInt8):rcB y++T=Qbj [y.start,y.next,(y.its.length:Int)]++(y.its.flatMap itB++T):=by
 simp[rcB,itsB,Qbj,List.append_assoc]
theorem it_split (z:It) (T:List UInt8):itB z++T=numI z.off++(txtB z.key++(txtB z.text++(Qbj [z.who,z.time]++T))):=by simp[itB,List.append_assoc]
theorem mc_split (y:MC) (T:List UInt8):mcB y++T=Qbj [y.row,y.who,y.epoch,y.last+1,(y.ms.length:Int)]++(y.ms.flatMap mkB++T):=by
 simp[mcB,mksB,Qbj,List.append_assoc]
theorem gc_split (y:GC) (T:List UInt8):gcB y++T=Qbj [y.gen,(y.m.length:Int)]++(memB y.m y.b++(Qbj y.o++T)):=by simp[gcB,List.append_assoc]
theorem an_split (d:Int) (y:An) (T:List UInt8):(numI d++anB y)++T=Qbj [d,y.code,y.n+1]++(txtB y.key++(txtB y.text++T)):=by simp[anB,Qbj,List.append_assoc]
theorem In.getItG {w:World} {b o:Nat} {l:List It} (h:In w b o l) (i:Nat) (hi:i<l.length):
 w.cell? ⟨b,o+i*5,none⟩=some (.int .i64 l[i].off)/\w.cell? ⟨b,o+i*5+1,none⟩=some (.string l[i].key)/\w.cell? ⟨b,o+i*5+2,none⟩=some (.string l[i].text)/\w.cell? ⟨b,o+i*5+3,none⟩=some (.int .i64 l[i].who)/\w.cell? ⟨b,o+i*5+4,none⟩=some (.int .i64 l[i].time):=
 ⟨h.cell i hi (f:=0) rfl,h.cell i hi (f:=1) rfl,h.cell i hi (f:=2) rfl,h.cell i hi (f:=3) rfl,h.cell i hi (f:=4) rfl⟩
theorem newN (W:World) (L:List Int) (cs:Array Value) {z:Nat} (hz:z=W.heap.size) (h:cs.toList=flat L):At (W.alloc (.cells cs 3)) (some ⟨z,0,none⟩) L:=by subst hz;exact newL W L cs 3 h
end Go.Proofs.YtajbldnhjpjghaaGreatDoor.Gen
