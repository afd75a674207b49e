/-
  MakerOk of the specification and of the program at this seat: they answer alike. No condition but that there are at most 1048576 marks.
-/
import Derived.Test.YtpippjjhelgnlaaGreatDrawKR
set_option linter.unusedVariables false
set_option linter.unusedSimpArgs false
set_option maxRecDepth 100000
set_option maxHeartbeats 8000000
namespace Go.Proofs.YtpippjjhelgnlaaGreat.Gen
open ChangeShapes WideShapes ChangeAt RowKit Joins Deep Base
def offAt (l:List Mk) (j:Nat):Int:=(l.getD j ⟨0,0⟩).off
def seqAt (last:Int) (l:List Mk) (j:Nat):Int:=IntKind.i64.wrap (last - IntKind.i64.wrap (IntKind.i64.wrap ((l.length:Int) - 1) - (j:Int)))
def rightAt (last:Int) (l:List Mk) (j:Nat):Bool:=inB (offAt l j) 0 100000&&decide ((l.getD j ⟨0,0⟩).seq=seqAt last l j)&&(decide (j=0)||decide (offAt l (j - 1)<offAt l j))
def rightTo (last:Int) (l:List Mk) (n:Nat):Bool:=(List.range n).all (rightAt last l)
def okB (row who epoch last window:Int) (l:List Mk):Bool:=
  inB row 0 3&&inB who 0 3&&inB epoch 0 100000&&inB last (-1) 100000&&decide ((l.length:Int)<=window)&&decide ((l.length:Int)<=last+1)&&(decide ((l.length:Int)=0)==decide (last= -1))&&rightTo last l l.length
end Go.Proofs.YtpippjjhelgnlaaGreat.Gen
namespace Go.Proofs.YtpippjjhelgnlaaGreat.Gen
open ChangeShapes WideShapes ChangeAt RowKit Joins Deep Base
open Items (It)
theorem rcB_le {y:RC} (h:RcR y):(rcB y).length<=8100:=by
 have h1:=Qb5 [y.start,y.next];have h2:=Qdn itB 100 y.its (fun z hz=>itB_le (h.its z hz));have h3:=Qbn (y.its.length:Int);have:=h.len;simp only[rcB,itsB,List.length_append,List.length_cons,List.length_nil]at h1 ⊢;omega
theorem mcB_le {y:MC} (h:McR y):(mcB y).length<=80:=by
 have h1:=Qb5 [y.row,y.who,y.epoch,y.last+1];have h2:=Qdn mkB 10 y.ms (fun z _=>mkB_le z);have h3:=Qbn (y.ms.length:Int);have:=h.len;simp only[mcB,mksB,List.length_append,List.length_cons,List.length_nil]at h1 ⊢;omega
theorem anB_le {y:An} (h:AnR y):(anB y).length<=80:=by
 have a1:=Qb5 [y.code,y.n+1];have a2:=Qh3 h.key;have a3:=Qh3 h.text;simp only[anB,List.length_append,List.length_cons,List.length_nil]at a1 ⊢;omega
end Go.Proofs.YtpippjjhelgnlaaGreat.Gen
namespace Go.Proofs.YtpippjjhelgnlaaGreat.Gen
open ChangeShapes WideShapes ChangeAt RowKit Joins Deep Base
open Items (It)
theorem gcB_leN {y:GC} {N:Nat} (h1:y.m.length<=N) (h2:y.o.length<=4):(gcB y).length<=40+10*N:=by
 have a1:=Qb5 [y.gen,(y.m.length:Int)];have a2:=Qb5 y.o;have a3:=Qdn (fun p:Int × Int=>Qbj [p.1,p.2]) 10 (List.zip y.m y.b) (fun p _=>by have:=Qb5 [p.1,p.2];simpa using this);have a4:(List.zip y.m y.b).length<=N:=by rw[List.length_zip];omega
 have a5:10* (List.zip y.m y.b).length<=10*N:=by omega
 simp only[gcB,memB,List.length_append,List.length_cons,List.length_nil]at a1 ⊢;omega
theorem Kin.kcr {R N:Nat} (hN:N<=1000) (hR:1<=R/\R<=4) {x:KC} (h:Kin R N x.p):KcR x/\(kB x).length<=200000:=by
 have hrl:x.rs.length=R:=by have:=h.rl;simpa [KC.p]using this
 have hml:x.ms.length<=N:=by have:=h.ml;simpa [KC.p]using this
 have hgl:x.gs.length=2:=by have:=h.gl;simpa [KC.p]using this
 have hdl:x.ds.length=4:=h.dl;have hll:x.ls.length=4:=h.ll;have ht:In2 x.time 100000:=h.t;have hrow:∀y∈x.rs,RcR y:=fun y hy=>by
  obtain⟨g1,g2,g3,g4⟩:=Qdj (h.ri y.p (List.mem_map_of_mem hy));unfold In2 at g1 g2;have e1:y.p.start=y.start:=rfl;have e2:y.p.next=y.next:=rfl;have e3:y.p.its=y.its:=rfl;rw[e1]at g1;rw[e2]at g2;rw[e3]at g3 g4;refine⟨by omega,by omega,fun z hz=> ?_,g3⟩;obtain⟨k1,k2,k3,k4,k5⟩:=g4 z hz;unfold In2 at k1 k2 k3;exact⟨by omega,k4,k5,by omega,by omega⟩
 have hmak:∀y∈x.ms,McR y:=fun y hy=>by
  have g:=h.mi y.p (List.mem_map_of_mem hy);have g1:In2 y.row 100000:=g.row;have g2:In2 y.who 3:=g.who;have g3:In2 y.epoch 100000:=g.epoch;have g4: -1<=y.last/\y.last<=100000:=g.last;have g5:∀z∈y.ms,In2 z.seq 100000/\In2 z.off 100000:=g.ms;unfold In2 at g1 g2 g3;refine⟨by omega,by omega,by omega,by omega,fun z hz=> ?_,g.len⟩;obtain⟨k1,k2⟩:=g5 z hz;unfold In2 at k1 k2;exact⟨by omega,by omega⟩
 have hgrp:∀y∈x.gs,GcR y/\y.m.length<=N/\y.o.length<=4:=fun y hy=>by
  have g:=h.gi y.p (List.mem_map_of_mem hy);have g1:In2 y.gen 100000:=g.gen;have g2:∀z∈y.m,In2 z 3:=g.m;have g3:∀z∈y.b,In2 z 100000:=g.b;have g4:∀z∈y.o,In2 z 100000:=g.o;have g5:y.b.length=y.m.length:=g.same;have g6:y.m.length<=N:=g.len;have g7:y.o.length=R:=g.ol;unfold In2 at g1 g2 g3 g4;exact⟨⟨by omega,fun z hz=>by have:=g2 z hz;omega,fun z hz=>by have:=g3 z hz;omega,fun z hz=>by have:=g4 z hz;omega,g5,by omega,by omega⟩,g6,by omega⟩
 have hans:∀y∈x.ls,AnR y:=fun y hy=>by
  have g:=h.li y hy;have g1:=g.code;have g2:=g.n;unfold In2 at g1;exact⟨by omega,by omega,g.key,g.text⟩
 have hds:∀y∈x.ds,0<=y/\y<=2147483647:=fun y hy=>by have g:=h.di y hy;unfold In2 at g;omega
 unfold In2 at ht;refine⟨⟨hrow,hmak,fun y hy=>(hgrp y hy).1,by omega,hds,hans,by omega,by omega,by omega,by omega,by omega⟩,?_⟩;have b1:=Qdn rcB 8100 x.rs (fun y hy=>rcB_le (hrow y hy));have b2:=Qdn mcB 80 x.ms (fun y hy=>mcB_le (hmak y hy));have b3:=Qdn gcB (40+10*N) x.gs (fun y hy=>gcB_leN (hgrp y hy).2.1 (hgrp y hy).2.2);have b4:=Qdn (fun p:Int × An=>numI p.1++anB p.2) 90 (List.zip x.ds x.ls) (fun p hp=>by
  have:=anB_le (hans p.2 (List.of_mem_zip hp).2);have:=Qbn p.1;rw[List.length_append];omega)
 have b5:(List.zip x.ds x.ls).length<=4:=by rw[List.length_zip];omega
 have c1:=Qbn (x.rs.length:Int);have c2:=Qbn (x.ms.length:Int);have c3:=Qbn (x.gs.length:Int);have c4:=Qbn x.time;rw[hgl]at b3;simp only[kB,rcsB,mcsB,gcsB,Qhj,List.length_append];omega
theorem kB_pos {x:KC} (hx:x.rs.length<=1000):0<(kB x).length:=by
 have h:0<(numI (x.rs.length:Int)).length:=by
  rw[Qcr (by omega)];unfold numB;split<;>simp
 simp only[kB,rcsB,List.length_append];omega
end Go.Proofs.YtpippjjhelgnlaaGreat.Gen
namespace Go.Proofs.YtpippjjhelgnlaaGreat.Gen
open ChangeShapes WideShapes ChangeAt RowKit Joins Deep Base
open Items (It)
structure KW (w W:World) (kx:Array Value) (v:Value) (xs R K:List UInt8):Prop where
  bl:Below w.heap.size w W
  bx:Blk W w.heap.size 32 kx
  own:W.ownsRow (w.heap.size+1) 5 1 v xs.length (flat xs)
  eq:xs++R=K
theorem KW.below {w W W' :World} {kx:Array Value} {v:Value} {xs R K:List UInt8} (h:KW w W kx v xs R K) (g:Below W.heap.size W W'):KW w W' kx v xs R K:=
 ⟨via0 g h.bl,h.bx.below g h.bx.lt,Qav h.own g,h.eq⟩
theorem KW.rest {w W:World} {kx:Array Value} {v:Value} {xs R R' K:List UInt8} (h:KW w W kx v xs R K) (e:R=R'):KW w W kx v xs R' K:=e▸h
theorem own_neB {B n k b:Nat} {W:World} {v:Value} {xs:List Value} {t:TypeId} {vs:Array Value} (h:W.ownsRow B 5 k v n xs) (hb:Blk W b t vs) (ht:t≠5):some b≠v.ownBlock:=by
 rcases h.2 with⟨rfl,_⟩|⟨g,c,cur,rfl,_,hg,_⟩
 . simp[Value.ownBlock]
 . intro e;have e' :b=g:=(by simpa [Value.ownBlock]using e);subst e';have:=(show W.heap[b]? =_ from hb).symm.trans hg;simp at this;exact ht this.2
theorem KW.add {w W W1:World} {kx:Array Value} {a a1:Option Addr} {c c1:Nat} {xs R K ys R' :List UInt8} (h:KW w W kx (.slice a xs.length c) xs R K) (hK:K.length<=400000000) (hR:R=ys++R') (g:Below W.heap.size W W1) {B:Nat} (o:W1.ownsRow B 5 1 (.slice a1 ys.length c1) ys.length (flat ys)):
 ∃a2 c2 zs W2,(Builtin.append_ #[22,22] 22 #[.slice a xs.length c,.slice a1 ys.length c1]).run Tryz.prog W1= .ok (.slice a2 (List.length zs) c2) W2/\KW w W2 kx (.slice a2 zs.length c2) zs R' K/\(∀b t vs,Blk W b t vs->t≠5->Blk W2 b t vs):=by
 have h1:=h.below g;have hl:xs.length+ys.length<=1000000000:=by
  have:=congrArg List.length h.eq;rw[hR]at this;simp at this;omega
 obtain⟨a2,c2,W2,hr,hown,hg⟩:=Qcn (c' :=c1) (B:=w.heap.size+1) (by have:=h1.bx.lt;omega) h1.own (Qa0 o).at hl;have ko:=Qce hg;refine⟨a2,c2,xs++ys,W2,hr,⟨h1.bl.trans (ko.toBelow (fun x hx=>by have:=(h1.own.lt x hx).1;omega) h1.bl.size),h1.bx.offp ko (fun e=>own_neB h1.own h1.bx (by decide) e.symm),hown,?_⟩,?_⟩
 . rw[← h.eq,hR,List.append_assoc]
 . intro b t vs hb ht;exact(hb.below g hb.lt).offp ko (fun e=>own_neB h1.own (hb.below g hb.lt) ht e.symm)
theorem Qha {α:Type} (f:α->List UInt8) {l:List α} {n:Nat} (h:n<l.length):(l.drop n).flatMap f=f l[n]++(l.drop (n+1)).flatMap f:=by
 rw[List.drop_eq_getElem_cons h,List.flatMap_cons]
theorem Qj1 {α:Type} (f:α->List UInt8) {l:List α} {n:Nat} (h:l.length<=n):(l.drop n).flatMap f= []:=by
 rw[List.drop_eq_nil_of_le h];rfl
theorem rc_split (y:RC) (T:List UInt8):rcB y++T=Qbj [y.start,y.next,(y.its.length:Int)]++(y.its.flatMap itB++T):=by
 simp[rcB,itsB,Qbj,List.append_assoc]
theorem it_split (z:It) (T:List UInt8):itB z++T=numI z.off++(txtB z.key++(txtB z.text++(Qbj [z.who,z.time]++T))):=by simp[itB,List.append_assoc]
theorem mc_split (y:MC) (T:List UInt8):mcB y++T=Qbj [y.row,y.who,y.epoch,y.last+1,(y.ms.length:Int)]++(y.ms.flatMap mkB++T):=by
 simp[mcB,mksB,Qbj,List.append_assoc]
theorem gc_split (y:GC) (T:List UInt8):gcB y++T=Qbj [y.gen,(y.m.length:Int)]++(memB y.m y.b++(Qbj y.o++T)):=by simp[gcB,List.append_assoc]
theorem an_split (d:Int) (y:An) (T:List UInt8):(numI d++anB y)++T=Qbj [d,y.code,y.n+1]++(txtB y.key++(txtB y.text++T)):=by simp[anB,Qbj,List.append_assoc]
theorem In.getItG {w:World} {b o:Nat} {l:List It} (h:In w b o l) (i:Nat) (hi:i<l.length):
 w.cell? ⟨b,o+i*5,none⟩=some (.int .i64 l[i].off)/\w.cell? ⟨b,o+i*5+1,none⟩=some (.string l[i].key)/\w.cell? ⟨b,o+i*5+2,none⟩=some (.string l[i].text)/\w.cell? ⟨b,o+i*5+3,none⟩=some (.int .i64 l[i].who)/\w.cell? ⟨b,o+i*5+4,none⟩=some (.int .i64 l[i].time):=
 ⟨h.cell i hi (f:=0) rfl,h.cell i hi (f:=1) rfl,h.cell i hi (f:=2) rfl,h.cell i hi (f:=3) rfl,h.cell i hi (f:=4) rfl⟩
theorem newN (W:World) (L:List Int) (cs:Array Value) {z:Nat} (hz:z=W.heap.size) (h:cs.toList=flat L):At (W.alloc (.cells cs 3)) (some ⟨z,0,none⟩) L:=by subst hz;exact newL W L cs 3 h
end Go.Proofs.YtpippjjhelgnlaaGreat.Gen
