/-
  Setups at this seat: which are right by the specification and by the program; the laws' toSetup. No condition.
-/
import Derived.Test.YtajbldnhjpjghaaGreatKEp
set_option linter.unusedVariables false
set_option linter.unusedSimpArgs false
set_option maxRecDepth 100000
set_option maxHeartbeats 8000000
set_option maxRecDepth 100000
set_option maxHeartbeats 8000000
namespace Go.Proofs.YtajbldnhjpjghaaGreat.Gen
open ChangeShapes WideShapes ChangeAt RowKit Joins Deep Base
def setB (ro wi le ke:Int):Bool:=inB ro 1 4&&inB wi 1 5&&inB le 1 8&&inB ke 0 60
theorem Qi5 {ro wi le ke:Int} (h:setB ro wi le ke=true):1<=ro/\ro<=4:=by
 simp only[setB,inB,Bool.and_eq_true,decide_eq_true_eq]at h;exact h.1.1.1
theorem Qpb (p q r s:Bool):p=false∨(p=true/\q=false)∨(p=true/\q=true/\r=false)∨(p=true/\q=true/\r=true/\s=false)∨(p=true/\q=true/\r=true/\s=true):=by
 cases p<;>cases q<;>cases r<;>cases s<;>simp
theorem Qd8 (ro wi le ke:Int) (w:World):
 Calls Tryz.prog 98 #[.agg (Qaj ro wi le ke)] w fun e w' =>e= .returned (.bool (setB ro wi le ke))/\Below w.heap.size w w' :=by
 rcases Qpb (inB ro 1 4) (inB wi 1 5) (inB le 1 8) (inB ke 0 60)with h1|⟨h1,h2⟩|⟨h1,h2,h3⟩|⟨h1,h2,h3,h4⟩|⟨h1,h2,h3,h4⟩
 all_goals
  go_enter Tryz.func98,Tryz.ntmps98;go_wp2_with (go_at_call 35;refine(Qcf _ _ _ _).mono ?_;rintro e w' ⟨rfl,rfl⟩);go_ret;exact⟨by simp[setB, *],by repeat(first|exact Below.refl _ _|refine Below.drew ?_|refine Below.alloc ?_ (by simp<;>omega) _)⟩
def newO (rows:Int):List Int:=if inB rows 1 4 then List.replicate rows.toNat 0 else []
theorem Qr5 (w:World) (n:Nat) (t:TypeId):In (w.alloc (.cells (madeCells #[Value.int .i64 0] n) t)) w.heap.size 0 (List.replicate n (0:Int)):=by
 intro j v hv;have hj:j<n:=by
  have:=(List.getElem?_eq_some_iff.1 hv).1;rw[Qcp,List.length_replicate]at this;have e:n*Cel.k Int=n:=Nat.mul_one n;omega
 have hv' :v= .int .i64 0:=by
  have h2:=Qev (List.replicate n (0:Int)) j (by simpa using hj) 0 (by show 0<1;omega);have e:j*Cel.k Int+0=j:=by show j*1+0=j;omega
  rw[e,hv]at h2;simpa [Cel.cs]using h2
 subst hv';rw[Nat.zero_add];have:j<(madeCells #[Value.int .i64 0] n).size:=by rw[size_madeCells];exact hj
 simp[this,madeCells];exact⟨j,by simp[hj],by simp[Nat.mod_one]⟩
theorem Qkp (rows:Int) (w:World):Calls Tryz.prog 103 #[.int .i64 rows] w fun e w' =>∃(a:Option Addr) (c:Nat) (F:List Nat),e= .returned (.agg (Qak 0 none 0 0 none 0 0 a (newO rows).length c))/\Below w.heap.size w w' /\Gp w' none none a [] [] (newO rows) F/\∀x∈F,w.heap.size<=x:=by
 cases hx:inB rows 1 4
 . have hF:Hid (newO rows= []):=(by show _=_;simp[newO,hx]);go_enter Tryz.func103,Tryz.ntmps103;go_wp2_with (go_at_call 35;refine(Qcf _ _ _ _).mono ?_;rw[hx];rintro e w1 ⟨rfl,rfl⟩);refine bodyPost_ret (v:= .agg Qcu) (by simp[results,Tryz.results103,go_sem]) rfl ?_;rw[hF.out];exact⟨none,0,[],rfl,by repeat(first|exact Below.refl _ _|assumption|refine via0 (by assumption) ?_|refine Below.drew ?_|refine Qad ?_ _),⟨[],[],[],rfl,Sl.nil _ _,Sl.nil _ _,Sl.nil _ _,by simp⟩,by simp⟩
 . obtain⟨h1,h4⟩:1<=rows/\rows<=4:=(by simpa [inB]using hx);obtain⟨n,rfl⟩:∃n:Nat,rows=n:=⟨rows.toNat,by omega⟩
   have hF:Hid (newO (n:Int)=List.replicate n 0):=(by show _=_;simp[newO,hx]);have hmk:=Qga (P:=Tryz.prog) Tryz.underlying63 Qec (by omega) n (by omega);go_enter Tryz.func103,Tryz.ntmps103;go_wp2_with (go_at_call 35;refine(Qcf _ _ _ _).mono ?_;rw[hx];rintro e w1 ⟨rfl,rfl⟩);refine bodyPost_ret (v:= .agg (Qak 0 none 0 0 none 0 0 (some ⟨w.heap.size+1,0,none⟩) n n)) (by simp[results,Tryz.results103,go_sem]) rfl ?_;rw[hF.out];refine⟨some ⟨w.heap.size+1,0,none⟩,n,[w.heap.size+1],by simp,by repeat(first|exact Below.refl _ _|assumption|refine via0 (by assumption) ?_|refine Below.drew ?_|refine Qad ?_ _),⟨[],[],[w.heap.size+1],rfl,Sl.nil _ _,Sl.nil _ _,.inr ⟨w.heap.size+1,0,rfl,rfl,by simp,?_,?_⟩,by simp⟩,by simp⟩
   . have:=Qr5 (w.alloc (.cells (Qak 0 none 0 0 none 0 0 (some ⟨w.heap.size+1,0,none⟩) n n) 143)) n 3;rwa [World.size_alloc]at this
   . have:=Qfr (w.alloc (.cells (Qak 0 none 0 0 none 0 0 (some ⟨w.heap.size+1,0,none⟩) n n) 143)) #[Value.int .i64 0] n 1 3;rw[World.size_alloc,Nat.mul_one]at this;rw[List.length_replicate];show World.there _ _ _ (n*1);rw[Nat.mul_one];exact this
section
variable {α:Type} [Cel α]
structure Md (W:World) (b:Nat) (l:List α):Prop where
  lt:b<W.heap.size
  lst:In W b 0 l
  th:W.there b 0 (l.length*Cel.k α)
theorem Md.offp {S:Nat->Prop} {W W' :World} {b:Nat} {l:List α} (h:Md W b l) (k:Offp S W W') (hb:¬S b):Md W' b l:=⟨Nat.lt_of_lt_of_le h.lt k.size,h.lst.offp k h.lt hb,Qer h.th k h.lt hb⟩
theorem Md.below {W W' :World} {b:Nat} {l:List α} (h:Md W b l) (g:Below W.heap.size W W'):Md W' b l:=h.offp (Offp.of_below (S:=fun _=>False) g) (fun e=>e)
theorem Qg3 (hk:0<Cel.k α) (W:World) (z:α) (cs:Array Value) (hcs:cs.toList=Cel.cs z) (n:Nat) (t:TypeId):Md (W.alloc (.cells (madeCells cs (n*Cel.k α)) t)) W.heap.size (List.replicate n z):=by
 have hsz:cs.size=Cel.k α:=by rw[← Array.length_toList,hcs,Cel.len]
 refine⟨by simp,?_,?_⟩
 . intro j v hv;have hj:j<n*Cel.k α:=(by have:=(List.getElem?_eq_some_iff.1 hv).1;rwa [Qcp,List.length_replicate]at this);have hd:j / Cel.k α*Cel.k α+j % Cel.k α=j:=(by rw[Nat.mul_comm];exact Nat.div_add_mod j _);have hq:j / Cel.k α<n:=(Nat.div_lt_iff_lt_mul hk).2 hj;have hr:j % Cel.k α<Cel.k α:=Nat.mod_lt _ hk;have h2:=Qev (List.replicate n z) (j / Cel.k α) (by simpa using hq) (j % Cel.k α) hr;rw[hd,hv]at h2;simp only[List.getElem_replicate]at h2;rw[← hcs,Array.getElem?_toList]at h2;rw[Nat.zero_add];refine(Blk.new W t (madeCells cs (n*Cel.k α))).cell ?_;simp only[madeCells,Array.getElem?_map,Array.getElem?_range,hj,if_true,Option.map_some,hsz];rw[getElem!_def,← h2]
 . rw[List.length_replicate];exact Qfr W cs n _ t
end
def zRC:RC:=⟨0,0,none,0,[]⟩
def zAn:An:=⟨0,0,⟨#[]⟩,⟨#[]⟩⟩
def upd (o:Nat->Option Nat) (i b:Nat):Nat->Option Nat:=fun j=>if j=i then some b else o j
structure KR (w W:World) (ro wi le ke:Int) (n:Nat) (V:Array Value) (o:Nat->Option Nat):Prop where
  bl:Below w.heap.size w W
  b1:Blk W w.heap.size 96 (Qaj ro wi le ke)
  b2:Blk W (w.heap.size+1) 102 Qae
  at' :∀i b,o i=some b->w.heap.size+2<=b/\b<W.heap.size
  ne:∀i j b,o i=some b->o j=some b->i=j
  r:∀b,o 0=some b->Md W b (List.replicate n zRC)
  d:∀b,o 1=some b->Md W b (List.replicate 4 (0:Int))
  l:∀b,o 2=some b->Md W b (List.replicate 4 zAn)
  g:∀b,o 3=some b->Blk W b 102 V
section
variable {w W:World} {ro wi le ke:Int} {n:Nat} {V:Array Value} {o:Nat->Option Nat}
theorem KR.new (h:KR w W ro wi le ke n V o) (i:Nat) (ob:Obj)
 (hr:i=0->Md (W.alloc ob) W.heap.size (List.replicate n zRC)) (hd:i=1->Md (W.alloc ob) W.heap.size (List.replicate 4 (0:Int))) (hl:i=2->Md (W.alloc ob) W.heap.size (List.replicate 4 zAn)) (hg:i=3->Blk (W.alloc ob) W.heap.size 102 V):
 KR w (W.alloc ob) ro wi le ke n V (upd o i W.heap.size):=by
 have g:Below W.heap.size W (W.alloc ob):=Qad (Below.refl _ _) ob;have hs:w.heap.size+2<=W.heap.size:=h.b2.lt;have hcase:∀j b,upd o i W.heap.size j=some b->(j=i/\b=W.heap.size)∨(j≠i/\o j=some b):=fun j b e=>by
  unfold upd at e;split at e
  . next h1=>cases e;exact .inl ⟨h1,rfl⟩
  . next h1=>exact .inr ⟨h1,e⟩
 refine⟨Qad h.bl _,h.b1.alloc _,h.b2.alloc _,?_,?_,?_,?_,?_,?_⟩
 . intro j b e;rcases hcase j b e with⟨_,rfl⟩|⟨_,e⟩
   . exact⟨hs,by simp⟩
   . have:=h.at' j b e;exact⟨this.1,by simp;omega⟩
 . intro j k b e1 e2;rcases hcase j b e1 with⟨h1,h2⟩|⟨h1,e1⟩<;>rcases hcase k b e2 with⟨h3,h4⟩|⟨h3,e2⟩
   . omega
   . have:=(h.at' k b e2).2;omega
   . have:=(h.at' j b e1).2;omega
   . exact h.ne j k b e1 e2
 . intro b e;rcases hcase 0 b e with⟨h1,rfl⟩|⟨_,e⟩
   . exact hr h1.symm
   . exact(h.r b e).below g
 . intro b e;rcases hcase 1 b e with⟨h1,rfl⟩|⟨_,e⟩
   . exact hd h1.symm
   . exact(h.d b e).below g
 . intro b e;rcases hcase 2 b e with⟨h1,rfl⟩|⟨_,e⟩
   . exact hl h1.symm
   . exact(h.l b e).below g
 . intro b e;rcases hcase 3 b e with⟨h1,rfl⟩|⟨_,e⟩
   . exact hg h1.symm
   . exact(h.g b e).alloc _
theorem KR.new0 (h:KR w W ro wi le ke n V o) (b:Nat) (hb:W.heap.size=b):KR w (W.alloc (.cells (madeCells Qco (n*3)) 134)) ro wi le ke n V (upd o 0 b):=by
 subst hb;exact h.new 0 _ (fun _=>Qg3 (α:=RC) (by decide) W zRC Qco rfl n _) (fun e=>by cases e) (fun e=>by cases e) (fun e=>by cases e)
theorem KR.new1 (h:KR w W ro wi le ke n V o) (b:Nat) (hb:W.heap.size=b):KR w (W.alloc (.cells (madeCells #[.int .i64 0] 4) 3)) ro wi le ke n V (upd o 1 b):=by
 subst hb;exact h.new 1 _ (fun e=>by cases e) (fun _=>Qg3 (α:=Int) (by decide) W 0 #[.int .i64 0] rfl 4 _) (fun e=>by cases e) (fun e=>by cases e)
theorem KR.new2 (h:KR w W ro wi le ke n V o) (b:Nat) (hb:W.heap.size=b):KR w (W.alloc (.cells (madeCells Qaq 16) 145)) ro wi le ke n V (upd o 2 b):=by
 subst hb;exact h.new 2 _ (fun e=>by cases e) (fun e=>by cases e) (fun _=>Qg3 (α:=An) (by decide) W zAn Qaq rfl 4 _) (fun e=>by cases e)
theorem KR.new3 (h:KR w W ro wi le ke n V o) (b:Nat) (hb:W.heap.size=b):KR w (W.alloc (.cells V 102)) ro wi le ke n V (upd o 3 b):=by
 subst hb;exact h.new 3 _ (fun e=>by cases e) (fun e=>by cases e) (fun e=>by cases e) (fun _=>Blk.new W _ _)
theorem KR.drew (h:KR w W ro wi le ke n V o):KR w W.drew ro wi le ke n V o:=⟨h.bl.drew,h.b1,h.b2,h.at',h.ne,fun b e=>(h.r b e).below (Below.drew (Below.refl _ _)),fun b e=>(h.d b e).below (Below.drew (Below.refl _ _)),fun b e=>(h.l b e).below (Below.drew (Below.refl _ _)),h.g⟩
end
structure KN (w W:World) (ro wi le ke:Int) (n g bR bD bL Q:Nat) (gv:Value):Prop where
  bl:Below w.heap.size w W
  b1:Blk W w.heap.size 96 (Qaj ro wi le ke)
  b2:Blk W (w.heap.size+1) 102 Qae
  bg:Blk W g 102 #[.slice (some ⟨bR,0,none⟩) n n,.slice none 0 0,gv,.int .i64 0,.slice (some ⟨bD,0,none⟩) 4 4,.slice (some ⟨bL,0,none⟩) 4 4]
  g0:w.heap.size+2<=g/\g<Q
  r0:w.heap.size+2<=bR/\bR<Q
  d0:w.heap.size+2<=bD/\bD<Q
  l0:w.heap.size+2<=bL/\bL<Q
  nes:g≠bR/\g≠bD/\g≠bL/\bR≠bD/\bR≠bL/\bD≠bL
  r:Md W bR (List.replicate n zRC)
  d:Md W bD (List.replicate 4 (0:Int))
  l:Md W bL (List.replicate 4 zAn)
section
variable {w W W' :World} {ro wi le ke:Int} {n g bR bD bL Q:Nat} {gv:Value}
theorem KN.offp (h:KN w W ro wi le ke n g bR bD bL Q gv) {S:Nat->Prop} (k:Offp S W W') (hS:∀x,S x->Q<=x):KN w W' ro wi le ke n g bR bD bL Q gv:=by
 have h0:=h.g0;have h1:=h.r0;have h2:=h.d0;have h3:=h.l0;have hb:∀x,x<Q->¬S x:=fun x hx e=>by have:=hS x e;omega
 exact⟨h.bl.trans (k.toBelow (fun x hx=>by have:=hS x hx;omega) h.bl.size),h.b1.offp k (hb _ (by omega)),h.b2.offp k (hb _ (by omega)),h.bg.offp k (hb _ (by omega)),h0,h1,h2,h3,h.nes,h.r.offp k (hb _ (by omega)),h.d.offp k (hb _ (by omega)),h.l.offp k (hb _ (by omega))⟩
theorem KN.below (h:KN w W ro wi le ke n g bR bD bL Q gv) (k:Below W.heap.size W W'):KN w W' ro wi le ke n g bR bD bL Q gv:=h.offp (Offp.of_below (S:=fun _=>False) k) (fun x e=>e.elim)
theorem KN.set (h:KN w W ro wi le ke n g bR bD bL Q gv) (v:Value):KN w (W.setCell ⟨g,2,none⟩ v) ro wi le ke n g bR bD bL Q v:=by
 have h0:=h.g0;have h1:=h.r0;have h2:=h.d0;have h3:=h.l0;obtain⟨n1,n2,n3,n4,n5,n6⟩:=h.nes;have k:Offp (fun x=>x=g) W (W.setCell ⟨g,2,none⟩ v):=Offp.of_only ((Only.refl g W).set 2 v);exact⟨h.bl.trans (k.toBelow (fun x hx=>by omega) h.bl.size),h.b1.offp k (by omega),h.b2.offp k (by omega),h.bg.setAt 2 v,h0,h1,h2,h3,⟨n1,n2,n3,n4,n5,n6⟩,h.r.offp k (fun e=>n1 e.symm),h.d.offp k (fun e=>n2 e.symm),h.l.offp k (fun e=>n3 e.symm)⟩
theorem KR.done {o:Nat->Option Nat} (h:KR w W ro wi le ke n #[.slice (some ⟨bR,0,none⟩) n n,.slice none 0 0,gv,.int .i64 0,.slice (some ⟨bD,0,none⟩) 4 4,.slice (some ⟨bL,0,none⟩) 4 4] o) (e0:o 0=some bR) (e1:o 1=some bD) (e2:o 2=some bL) (e3:o 3=some g):KN w W ro wi le ke n g bR bD bL W.heap.size gv:=by
 have nR:bR≠g:=fun e=>by subst e;have:=h.ne 0 3 _ e0 e3;omega
 have nD:bD≠g:=fun e=>by subst e;have:=h.ne 1 3 _ e1 e3;omega
 have nL:bL≠g:=fun e=>by subst e;have:=h.ne 2 3 _ e2 e3;omega
 exact⟨h.bl,h.b1,h.b2,h.g g e3,h.at' 3 g e3,h.at' 0 bR e0,h.at' 1 bD e1,h.at' 2 bL e2,
  ⟨nR.symm,nD.symm,nL.symm,fun e=>by subst e;have:=h.ne 0 1 _ e0 e1;omega,fun e=>by subst e;have:=h.ne 0 2 _ e0 e2;omega,fun e=>by subst e;have:=h.ne 1 2 _ e1 e2;omega⟩,
  h.r bR e0,h.d bD e1,h.l bL e2⟩
end
structure GL (W:World) (ro:Int) (Q:Nat) (gv:Value) (gs:List GC) (fp:Nat->Nat->Prop):Prop where
  own:W.ownsRow Q 143 4 gv gs.length (flat gs)
  sub:∀(i:Nat) (h:i<gs.length),grpP W gs[i] (fp i)
  is:∀x∈gs,x.p=⟨0,[],[],newO ro⟩
  lo:∀i x,fp i x->i<gs.length/\Q<=x/\x<W.heap.size/\gv.ownBlock≠some x
  dis:∀i j,i≠j->∀x,fp i x->¬fp j x
  q:Q<=W.heap.size
theorem GL.nil (W:World) (ro:Int) (Q:Nat) (hq:Q<=W.heap.size):GL W ro Q (.slice none 0 0) [] (fun _ _=>False):=
 ⟨World.ownsRow_nil _ _ _ _,fun i h=>by simp at h,by simp,fun _ _ h=>h.elim,fun _ _ _ _ h=>h.elim,hq⟩
theorem GL.offp {W W' :World} {ro:Int} {Q:Nat} {gv:Value} {gs:List GC} {fp:Nat->Nat->Prop} {S:Nat->Prop} (h:GL W ro Q gv gs fp) (k:Offp S W W') (hd:∀x,Q<=x->¬S x):GL W' ro Q gv gs fp:=
 ⟨Qbc h.own k (fun x hx=>hd x (h.own.lt x hx).1),fun i hi=>Qdj _ _ _ _ _ (h.sub i hi) k (fun x hx=>hd x (h.lo i x hx).2.1),h.is,fun i x hx=>by have:=h.lo i x hx;have:=k.size;exact⟨by omega,by omega,by omega,(h.lo i x hx).2.2.2⟩,h.dis,Nat.le_trans h.q k.size⟩
theorem GL.below {W W' :World} {ro:Int} {Q:Nat} {gv:Value} {gs:List GC} {fp:Nat->Nat->Prop} (h:GL W ro Q gv gs fp) (k:Below W.heap.size W W'):GL W' ro Q gv gs fp:=h.offp (Offp.of_below (S:=fun _=>False) k) (fun _ _ e=>e)
theorem GL.snoc {W0 W1 W2:World} {ro:Int} {Q:Nat} {gv:Value} {gs:List GC} {fp:Nat->Nat->Prop} (h:GL W0 ro Q gv gs fp) (k:Below W0.heap.size W0 W1) {x:GC} {S:Nat->Prop} (hx:grpP W1 x S) (hp:x.p=⟨0,[],[],newO ro⟩) (hS:∀b,S b->W0.heap.size<=b/\b<W1.heap.size)
 {gv' :Value} (ho:W2.ownsRow Q 143 4 gv' (gs.length+1) (flat (gs++ [x]))) (hg:W1.grownBy W2 gv.ownBlock) (hat:gv'.ownBlock=gv.ownBlock∨gv'.ownBlock=some W1.heap.size):
 GL W2 ro Q gv' (gs++ [x]) (fun i=>if i=gs.length then S else fp i):=by
 have kp:=Qb8 hg;have hk:=k.size;have hlt:∀b,gv.ownBlock=some b->b<W0.heap.size:=fun b hb=>(h.own.lt b hb).2
 refine⟨by rw[List.length_append];exact ho,?_,?_,?_,?_,by have:=h.q;have:=hg.size;omega⟩
 . intro i hi;by_cases e:i=gs.length
   . subst e;simp only[if_true];rw[List.getElem_append_right (Nat.le_refl _)];simp only[Nat.sub_self,List.getElem_cons_zero];exact Qdj _ _ _ _ _ hx kp (fun b hb e=>by have:=hlt b e;have:=(hS b hb).1;omega)
   . have hi' :i<gs.length:=(by simp at hi;omega);simp only[if_neg e];rw[List.getElem_append_left hi'];exact Qdj _ _ _ _ _ (Qdj _ _ _ _ (fun _=>False) (h.sub i hi') (Offp.of_below k) (fun _ _ e=>e)) kp (fun b hb e=>(h.lo i b hb).2.2.2 e)
 . intro y hy;rcases List.mem_append.1 hy with hy|hy
   . exact h.is y hy
   . simp only[List.mem_singleton]at hy;subst hy;exact hp
 . intro i b hb;have hs:=hg.size;by_cases e:i=gs.length
   . simp only[if_pos e]at hb;have h1:=hS b hb;have h2:=h.q;refine⟨by simp;omega,by omega,by omega,fun e2=> ?_⟩;rcases hat with h3|h3
     . have:=hlt b (h3▸e2);omega
     . rw[h3]at e2;cases e2;omega
   . simp only[if_neg e]at hb;have h1:=h.lo i b hb;refine⟨by simp;omega,by omega,by omega,fun e2=> ?_⟩;rcases hat with h3|h3
     . exact h1.2.2.2 (h3▸e2)
     . rw[h3]at e2;cases e2;omega
 . intro i j hij b hb hb';by_cases e1:i=gs.length
   . have e2:j≠gs.length:=(by omega);simp only[if_pos e1]at hb;simp only[if_neg e2]at hb';have:=(hS b hb).1;have:=(h.lo j b hb').2.2.1;omega
   . by_cases e2:j=gs.length
     . simp only[if_neg e1]at hb;simp only[if_pos e2]at hb';have:=(hS b hb').1;have:=(h.lo i b hb).2.2.1;omega
     . simp only[if_neg e1]at hb;simp only[if_neg e2]at hb';exact h.dis i j hij b hb hb'
def newK (ok:Bool) (ro:Int):PK:=if ok then⟨List.replicate ro.toNat ⟨0,0,[]⟩,[],List.replicate 2 ⟨0,[],[],newO ro⟩,0,List.replicate 4 0,List.replicate 4 zAn⟩else⟨[],[],[],0,[],[]⟩
def Qq8 (w w' :World) (e:Ending) (c:PK):Prop:=∃y:KC,e= .returned (.agg y.cells)/\y.p=c/\KOwn w' y (fun b=>w.heap.size<=b/\b<w'.heap.size)/\Below w.heap.size w w'
theorem Qmc {w w' :World} {ro:Int} (g:Below w.heap.size w w'):Qq8 w w' (.returned (.agg Qae)) (newK false ro):=
 ⟨⟨none,0,[],none,0,[],none,0,[],0,none,0,[],none,0,[]⟩,rfl,rfl,⟨fun _=>0,.inl rfl,.inl rfl,.inl rfl,.inl rfl,.inl rfl⟩,g⟩
theorem Qnc {w W W' :World} {ro wi le ke:Int} {n g bR bD bL Q:Nat} {a:Option Addr} {c:Nat} {gs:List GC} {fp:Nat->Nat->Prop} (hn:ro=n) (h:KN w W ro wi le ke n g bR bD bL Q (.slice a 2 c)) (hG:GL W ro Q (.slice a 2 c) gs fp) (hl:gs.length=2) (k:Offp (fun x=>x=w.heap.size+1) W W'):
 Qq8 w W' (.returned (.agg (Qaa (some ⟨bR,0,none⟩) n n none 0 0 a 2 c 0 (some ⟨bD,0,none⟩) 4 4 (some ⟨bL,0,none⟩) 4 4))) (newK true ro):=by
 have h0:=h.g0;have h1:=h.r0;have h2:=h.d0;have h3:=h.l0;obtain⟨n1,n2,n3,n4,n5,n6⟩:=h.nes;have hB:Below w.heap.size w W' :=h.bl.trans (k.toBelow (fun x hx=>by omega) h.bl.size);have hG' :=hG.offp k (fun x hx e=>by omega);have hR:=h.r.offp k (by omega);have hD:=h.d.offp k (by omega);have hL:=h.l.offp k (by omega);have hf:Fresh Q W' (.slice a 2 c) gs:=Qcy hl.symm (by have:=hG'.own;rw[hl]at this;exact this);obtain⟨a',c',e,hc,hfr⟩:=hf;rw[hl]at e;cases e;have hrl:(List.replicate n zRC).length=n:=by simp
 refine⟨⟨some ⟨bR,0,none⟩,n,List.replicate n zRC,none,0,[],a,c,gs,0,some ⟨bD,0,none⟩,4,List.replicate 4 0,some ⟨bL,0,none⟩,4,List.replicate 4 zAn⟩,?_,?_,?_,hB⟩
 . simp[KC.cells,hl]
 . simp only[KC.p,newK,if_true];subst hn;congr 1
   . simp[zRC,RC.p]
   . refine List.eq_replicate_iff.2 ⟨by simpa using hl,fun y hy=> ?_⟩;obtain⟨x,hx,rfl⟩:=List.mem_map.1 hy;exact hG.is x hx
 . refine⟨fun b=>if b=bR then 1 else if b=bD then 4 else if b=bL then 5 else 3,?_,.inl rfl,?_,?_,?_⟩
   . refine .inr ⟨bR,0,fun _ _=>False,rfl,⟨⟨by omega,hR.lt⟩,by simp⟩,fun _ _ h=>h.elim,⟨hR.lt,hR.lst,hR.th,fun i hi=> ?_,fun _ _ _ _ h=>h.elim,fun _ h=>h⟩⟩;simp only[List.getElem_replicate];exact .inl rfl
   . rcases hfr with rfl|⟨b,o,rfl,hQb,hbl,hin,hth⟩
     . simp at hl
     . refine .inr ⟨b,o,fp,rfl,⟨⟨by omega,hbl⟩,by rw[if_neg (by omega),if_neg (by omega),if_neg (by omega)]⟩,fun i x hx=> ?_,⟨hbl,hin,hth,hG'.sub,hG'.dis,fun i hx=>(hG'.lo i b hx).2.2.2 rfl⟩⟩;have:=hG'.lo i x hx;exact⟨⟨by omega,this.2.2.1⟩,by rw[if_neg (by omega),if_neg (by omega),if_neg (by omega)]⟩
   . exact .inr ⟨bD,0,rfl,⟨⟨by omega,hD.lt⟩,by simp only[if_neg (Ne.symm n4),if_true]⟩,hD.lt,hD.lst,hD.th⟩
   . exact .inr ⟨bL,0,rfl,⟨⟨by omega,hL.lt⟩,by simp only[if_neg (Ne.symm n5),if_neg (Ne.symm n6),if_true]⟩,hL.lt,hL.lst,hL.th⟩
theorem KR.store {w W:World} {ro wi le ke:Int} {n:Nat} {V:Array Value} {o:Nat->Option Nat} (h:KR w W ro wi le ke n V o) {g:Nat} (hg:o 3=some g) (V' :Array Value):KR w (W.setRow g V') ro wi le ke n V' o:=by
 have k:Offp (fun x=>x=g) W (W.setRow g V'):=(Offp.refl (fun x=>x=g) W).row rfl V';have h0:=(h.at' 3 g hg).1;refine⟨Qtt h.bl (by omega) _,h.b1.offp k (by omega),h.b2.offp k (by omega),fun i b e=>by have:=h.at' i b e;rw[setRow_size];exact this,h.ne,fun b e=>(h.r b e).offp k (fun x=>by have:=h.ne 0 3 b e (x▸hg);omega),fun b e=>(h.d b e).offp k (fun x=>by have:=h.ne 1 3 b e (x▸hg);omega),fun b e=>(h.l b e).offp k (fun x=>by have:=h.ne 2 3 b e (x▸hg);omega),fun b e=> ?_⟩;have:b=g:=by rw[hg]at e;cases e;rfl
 subst this;exact(h.g b hg).row V'
def StK (w:World) (n:Nat) (wi le ke:Int) (A:(Nat->Bool)->(Nat->Value)->Array Value) (m:Nat->Bool) (a:Act) (W:World):Prop:=∃(v:Nat->Value) (o:Nat->Option Nat),a={tmps:=A m v,defers:= []}/\KR w W (n:Int) wi le ke n Qae o/\(m 2=true->∃b,o 0=some b/\v 2= .slice (some ⟨b,0,none⟩) n n)/\(m 3=true->∃b,o 1=some b/\v 3= .slice (some ⟨b,0,none⟩) 4 4)/\(m 4=true->∃b,o 2=some b/\v 4= .slice (some ⟨b,0,none⟩) 4 4)/\(m 5=true->v 5= .agg #[v 2,.slice none 0 0,.slice none 0 0,.int .i64 0,v 3,v 4])/\(m 6=true->∃b,o 3=some b/\v 6= .pointer (some ⟨b,0,none⟩))
def lstK (m:Nat->Bool):Array Bool:= #[true,true,m 2,m 3,m 4,m 5,m 6,false]
def preK (i:Nat) (m:Nat->Bool):Bool:=if i=5 then m 2&&m 3&&m 4 else if i=6 then true else !m 5
theorem Qtp {w:World} {a:Option Addr} {c:Nat} {l:List Int} {F:List Nat} (h:Gp w none none a [] [] l F):grpP w ⟨0,none,0,[],none,0,[],a,c,l⟩ (fun x=>x∈F):=by
 obtain⟨F1,F2,F3,rfl,s1,s2,s3,nd⟩:=h;refine⟨fun _=>False,fun _=>False,fun x=>x∈F3,fun _ h=>h.elim,fun _ h=>h.elim,fun x hx=>by simp[hx],fun _ h=>h.elim,fun _ h=>h.elim,fun _ h=>h.elim,.inl rfl,.inl rfl,?_⟩;rcases s3 with⟨h,_⟩|⟨b,o,rfl,rfl,hb,hi,ht⟩
 . exact .inl h
 . exact .inr ⟨b,o,rfl,by simp,hb,hi,ht⟩
theorem Qs1 (w:World) (x:GC) (t:TypeId):In (w.alloc (.cells (Cel.cs x).toArray t)) w.heap.size 0 [x]:=by
 intro j v hv;rw[Qdg]at hv;rw[Nat.zero_add];exact(Blk.new w t _).cell (by simpa using hv)
open Items (It)
structure Ds (w W:World) (pk pc p1 p2:Nat) (kc cc sc:Array Value):Prop where
  bx:Bx (fun _=>False) w W pk pc p1 p2 kc cc
  sb:Blk W w.heap.size 96 sc
  bl:Below w.heap.size w W
section
variable {w W W' :World} {pk pc p1 p2:Nat} {kc cc sc:Array Value} {T:Nat->Prop}
theorem Ds.below (h:Ds w W pk pc p1 p2 kc cc sc) (g:Below W.heap.size W W'):Ds w W' pk pc p1 p2 kc cc sc:=⟨h.bx.below g,h.sb.below g h.sb.lt,via0 g h.bl⟩
theorem Ds.drew (h:Ds w W pk pc p1 p2 kc cc sc):Ds w W.drew pk pc p1 p2 kc cc sc:=h.below (Below.refl _ _).drew
theorem Ds.offp (h:Ds w W pk pc p1 p2 kc cc sc) (k:Offp T W W') (hT:∀q,T q->w.heap.size<q/\q≠pk/\q≠pc/\q≠p1/\q≠p2):Ds w W' pk pc p1 p2 kc cc sc:=
 ⟨h.bx.turn k (fun b e=> .inr (by have:=hT b e;omega)),h.sb.offp k (fun e=>by have:=hT _ e;omega),h.bl.trans (k.toBelow (fun b e=>by have:=hT b e;omega) h.bl.size)⟩
theorem Ds.only {q:Nat} (h:Ds w W pk pc p1 p2 kc cc sc) (k:Only q W W') (hq:w.heap.size<q/\q≠pk/\q≠pc/\q≠p1/\q≠p2):Ds w W' pk pc p1 p2 kc cc sc:=h.offp (Offp.of_only k) (fun b e=>by subst e;exact hq)
end
theorem Qsl (rA:Option Addr) (rc:Nat) (rs:List RC) (mA:Option Addr) (mc:Nat) (ms:List MC) (gA:Option Addr) (gc:Nat) (gs:List GC) (time:Int) (dA:Option Addr) (dc:Nat) (ds:List Int) (lA:Option Addr) (lc:Nat) (ls:List An) (hlen:KLen (⟨rA,rc,rs,mA,mc,ms,gA,gc,gs,time,dA,dc,ds,lA,lc,ls⟩:KC)) (w:World) (hx:KAt w (⟨rA,rc,rs,mA,mc,ms,gA,gc,gs,time,dA,dc,ds,lA,lc,ls⟩:KC)):
 Calls Tryz.prog 104 #[.agg (Qaa rA rs.length rc mA ms.length mc gA gs.length gc time dA ds.length dc lA ls.length lc)] w fun e w' =>∃(rA9:Option Addr) (rc9:Nat) (rs9:List RC) (mA9:Option Addr) (mc9:Nat) (ms9:List MC) (gA9:Option Addr) (gc9:Nat) (gs9:List GC) (time9:Int) (dA9:Option Addr) (dc9:Nat) (ds9:List Int) (lA9:Option Addr) (lc9:Nat) (ls9:List An) (br bg bd bl:Nat),e= .returned (.agg (Qaa rA9 rs9.length rc9 mA9 ms9.length mc9 gA9 gs9.length gc9 time9 dA9 ds9.length dc9 lA9 ls9.length lc9))/\KC.p (⟨rA9,rc9,rs9,mA9,mc9,ms9,gA9,gc9,gs9,time9,dA9,dc9,ds9,lA9,lc9,ls9⟩:KC)=KC.p (⟨rA,rc,rs,mA,mc,ms,gA,gc,gs,time,dA,dc,ds,lA,lc,ls⟩:KC)/\KQ w' (⟨rA9,rc9,rs9,mA9,mc9,ms9,gA9,gc9,gs9,time9,dA9,dc9,ds9,lA9,lc9,ls9⟩:KC) (fun b=>w.heap.size<=b/\b<w'.heap.size) br bg bd bl/\(∀g∈gs9,(g.m.length<=g.c1/\g.c1<=9223372036854775807)/\(g.b.length<=g.c2/\g.c2<=9223372036854775807))/\Below w.heap.size w w' :=by
 refine(Qmu rA rc rs mA mc ms gA gc gs time dA dc ds lA lc ls (by have:=hlen.rl;simp only at this;omega) (by have:=hlen.ml;simp only at this;omega) (by have:=hlen.gl;simp only at this;omega) (by have:=hlen.dl;simp only at this;omega) (by have:=hlen.ll;simp only at this;omega)
  (fun y hy=>by have:=hlen.ri y hy;omega) (fun y hy=>by have:=hlen.mi y hy;omega) (fun y hy=>by have:=hlen.gi y hy;omega) hlen.rl.1 (by have:=hlen.gl;simp only at this;omega) (by have:=hlen.dl;simp only at this;omega) (by have:=hlen.ll;simp only at this;omega) w hx).mono ?_
 rintro e w' ⟨y,br,bg,bd,bl,he,hp,hq,hc,g⟩;obtain(⟨rA9,rc9,rs9,mA9,mc9,ms9,gA9,gc9,gs9,time9,dA9,dc9,ds9,lA9,lc9,ls9⟩:KC):=y;exact⟨_,_,_,_,_,_,_,_,_,_,_,_,_,_,_,_,br,bg,bd,bl,he,hp,hq,hc,g⟩
theorem Qor (ro wi le ke:Int) (rA:Option Addr) (rc:Nat) (rs:List RC) (mA:Option Addr) (mc:Nat) (ms:List MC) (gA:Option Addr) (gc:Nat) (gs:List GC) (time:Int) (dA:Option Addr) (dc:Nat) (ds:List Int) (lA:Option Addr) (lc:Nat) (ls:List An) (who seq op ca cb cc:Int) (key text:ByteArray) (hlen:KLen (⟨rA,rc,rs,mA,mc,ms,gA,gc,gs,time,dA,dc,ds,lA,lc,ls⟩:KC)) (w:World) (hx:KAt w (⟨rA,rc,rs,mA,mc,ms,gA,gc,gs,time,dA,dc,ds,lA,lc,ls⟩:KC)) (hw:who<0):
 Calls Tryz.prog 99 #[.agg (Qaj ro wi le ke),.agg (Qaa rA rs.length rc mA ms.length mc gA gs.length gc time dA ds.length dc lA ls.length lc),.agg (Qab who seq op ca cb cc key text)] w fun e w' =>Qci (fun _=>False) w w' e (KC.p (⟨rA,rc,rs,mA,mc,ms,gA,gc,gs,time,dA,dc,ds,lA,lc,ls⟩:KC)) ⟨0,0,⟨#[]⟩,⟨#[]⟩⟩:=by
 have HCP:Hid (∀W:World,Below w.heap.size w W->Calls Tryz.prog 104 #[.agg (Qaa rA rs.length rc mA ms.length mc gA gs.length gc time dA ds.length dc lA ls.length lc)] W fun e w' =>∃(rA9:Option Addr) (rc9:Nat) (rs9:List RC) (mA9:Option Addr) (mc9:Nat) (ms9:List MC) (gA9:Option Addr) (gc9:Nat) (gs9:List GC) (time9:Int) (dA9:Option Addr) (dc9:Nat) (ds9:List Int) (lA9:Option Addr) (lc9:Nat) (ls9:List An) (br bg bd bl:Nat),e= .returned (.agg (Qaa rA9 rs9.length rc9 mA9 ms9.length mc9 gA9 gs9.length gc9 time9 dA9 ds9.length dc9 lA9 ls9.length lc9))/\KC.p (⟨rA9,rc9,rs9,mA9,mc9,ms9,gA9,gc9,gs9,time9,dA9,dc9,ds9,lA9,lc9,ls9⟩:KC)=KC.p (⟨rA,rc,rs,mA,mc,ms,gA,gc,gs,time,dA,dc,ds,lA,lc,ls⟩:KC)/\KQ w' (⟨rA9,rc9,rs9,mA9,mc9,ms9,gA9,gc9,gs9,time9,dA9,dc9,ds9,lA9,lc9,ls9⟩:KC) (fun b=>W.heap.size<=b/\b<w'.heap.size) br bg bd bl/\(∀g∈gs9,(g.m.length<=g.c1/\g.c1<=9223372036854775807)/\(g.b.length<=g.c2/\g.c2<=9223372036854775807))/\Below W.heap.size W w'):=fun W g=>Qsl rA rc rs mA mc ms gA gc gs time dA dc ds lA lc ls hlen W (hx.below g)
 clear hlen hx;obtain⟨I0,S0,B0⟩:=Qba ro wi le ke rA rc rs mA mc ms gA gc gs time dA dc ds lA lc ls who seq op ca cb cc key text (fun _=>False) w (fun _ h=>h.elim);go_enter Tryz.func99,Tryz.ntmps99;go_upto_region 1 with fail;generalize ((((w.alloc (.cells (Qaj ro wi le ke) 96)).alloc (.cells (Qaa rA rs.length rc mA ms.length mc gA gs.length gc time dA ds.length dc lA ls.length lc) 102)).alloc (.cells (Qab who seq op ca cb cc key text) 55)).alloc (.cells Qae 102)).alloc (.cells Qaq 145)=X0 at I0 S0 B0 ⊢;have l0:w.heap.size+1+1+1+1<X0.heap.size:=I0.r2.lt;obtain⟨k0,k1,k2,k3,k4,k5⟩:=I0.k.row6;obtain⟨c0,c1,c2,c3,c4,c5,c6,c7⟩:=I0.c.row8c;go_wp2_with fail;clear k0 k1 k2 k3 k4 k5 c0 c1 c2 c3 c4 c5 c6 c7;refine(HCP.out _ B0).mono ?_;rintro e w1 ⟨rA9,rc9,rs9,mA9,mc9,ms9,gA9,gc9,gs9,time9,dA9,dc9,ds9,lA9,lc9,ls9,br,bg,bd,bl,rfl,hp,hq,_,g1⟩;have I1:=I0.below g1;have Q1:=hidP (hq.mono (S' :=fun b=>False∨(w.heap.size<=b/\b≠(w.heap.size+1+1+1)/\b≠(w.heap.size+1+1+1+1))) (fun b _ hb=> .inr (by omega)));have Hp:=hidP hp;clear I0 S0 B0 HCP hp hq g1;have TT:=hidP (Bx.told I1 (y:=(⟨rA9,rc9,rs9,mA9,mc9,ms9,gA9,gc9,gs9,time9,dA9,dc9,ds9,lA9,lc9,ls9⟩:KC)) (br:=br) (bg:=bg) (bd:=bd) (bl:=bl) (Q1.out) (⟨(0),(0),(⟨#[]⟩),(⟨#[]⟩)⟩:An) (hv:=rfl));obtain⟨z0,z1,z2,z3,z4,z5⟩:=I1.r1.row6;have f0:=I1.r1.thaw 0;have f1:=I1.r1.thaw 1;have f2:=I1.r1.thaw 2;have f3:=I1.r1.thaw 3;have f4:=I1.r1.thaw 4;have f5:=I1.r1.thaw 5;obtain⟨k0,k1,k2,k3,k4,k5⟩:=I1.k.row6;have R2:=I1.r2.only (Qaw _ (w.heap.size+1+1+1) (.slice rA9 rs9.length rc9) (.slice mA9 ms9.length mc9) (.slice gA9 gs9.length gc9) (.int .i64 time9) (.slice dA9 ds9.length dc9) (.slice lA9 ls9.length lc9)) (fun e=>I1.ne.2.2.2.2.2 e.symm);obtain⟨y0,y1,y2,y3⟩:=R2.row4;have ee0:=R2.thaw 0;have ee1:=R2.thaw 1;have ee2:=R2.thaw 2;have ee3:=R2.thaw 3
 have C1:=Qbh I1.r1 (.slice rA9 rs9.length rc9) (.slice mA9 ms9.length mc9) (.slice gA9 gs9.length gc9) (.int .i64 time9) (.slice dA9 ds9.length dc9) (.slice lA9 ls9.length lc9);have B1:=(Qbv I1.r1 (.slice rA9 rs9.length rc9) (.slice mA9 ms9.length mc9) (.slice gA9 gs9.length gc9) (.int .i64 time9) (.slice dA9 ds9.length dc9) (.slice lA9 ls9.length lc9)).only (Qa1 _ (w.heap.size+1+1+1+1) (.int .i64 (0)) (.int .i64 (0)) (.string ⟨#[]⟩) (.string ⟨#[]⟩)) (fun e=>I1.ne.2.2.2.2.2 e);have C2:=Qbt R2 (.int .i64 (0)) (.int .i64 (0)) (.string ⟨#[]⟩) (.string ⟨#[]⟩);obtain⟨s0,s1,s2,s3,s4,s5⟩:=C1;obtain⟨t0,t1,t2,t3⟩:=C2;obtain⟨q0,q1,q2,q3,q4,q5⟩:=B1.row6;have hne12:(w.heap.size+1+1+1)≠(w.heap.size+1+1+1+1):=I1.ne.2.2.2.2.2;have hne21:(w.heap.size+1+1+1+1)≠(w.heap.size+1+1+1):=fun e=>I1.ne.2.2.2.2.2 e.symm
 go_wp2;exact bodyPost_ret (v:= .tuple #[.agg (Qaa rA9 rs9.length rc9 mA9 ms9.length mc9 gA9 gs9.length gc9 time9 dA9 ds9.length dc9 lA9 ls9.length lc9),.agg (Qax (0) (0) ⟨#[]⟩ ⟨#[]⟩)]) (by simp[results,Tryz.results99,go_sem,s0,s1,s2,s3,s4,s5,t0,t1,t2,t3,q0,q1,q2,q3,q4,q5]) rfl (Hp.out▸TT.out)
theorem Qqg (ro wi le ke:Int) (rA:Option Addr) (rc:Nat) (rs:List RC) (mA:Option Addr) (mc:Nat) (ms:List MC) (gA:Option Addr) (gc:Nat) (gs:List GC) (time:Int) (dA:Option Addr) (dc:Nat) (ds:List Int) (lA:Option Addr) (lc:Nat) (ls:List An) (q:Nat) (hq:q<4) (seq op ca cb cc:Int) (key text:ByteArray) (hlen:KLen (⟨rA,rc,rs,mA,mc,ms,gA,gc,gs,time,dA,dc,ds,lA,lc,ls⟩:KC)) (w:World) (hx:KAt w (⟨rA,rc,rs,mA,mc,ms,gA,gc,gs,time,dA,dc,ds,lA,lc,ls⟩:KC)) (hs:seq<=ds.getD q 0):
 Calls Tryz.prog 99 #[.agg (Qaj ro wi le ke),.agg (Qaa rA rs.length rc mA ms.length mc gA gs.length gc time dA ds.length dc lA ls.length lc),.agg (Qab (q:Int) seq op ca cb cc key text)] w fun e w' =>Qci (fun _=>False) w w' e (KC.p (⟨rA,rc,rs,mA,mc,ms,gA,gc,gs,time,dA,dc,ds,lA,lc,ls⟩:KC)) (ls.getD q zAn):=by
 have HCP:Hid (∀W:World,Below w.heap.size w W->Calls Tryz.prog 104 #[.agg (Qaa rA rs.length rc mA ms.length mc gA gs.length gc time dA ds.length dc lA ls.length lc)] W fun e w' =>∃(rA9:Option Addr) (rc9:Nat) (rs9:List RC) (mA9:Option Addr) (mc9:Nat) (ms9:List MC) (gA9:Option Addr) (gc9:Nat) (gs9:List GC) (time9:Int) (dA9:Option Addr) (dc9:Nat) (ds9:List Int) (lA9:Option Addr) (lc9:Nat) (ls9:List An) (br bg bd bl:Nat),e= .returned (.agg (Qaa rA9 rs9.length rc9 mA9 ms9.length mc9 gA9 gs9.length gc9 time9 dA9 ds9.length dc9 lA9 ls9.length lc9))/\KC.p (⟨rA9,rc9,rs9,mA9,mc9,ms9,gA9,gc9,gs9,time9,dA9,dc9,ds9,lA9,lc9,ls9⟩:KC)=KC.p (⟨rA,rc,rs,mA,mc,ms,gA,gc,gs,time,dA,dc,ds,lA,lc,ls⟩:KC)/\KQ w' (⟨rA9,rc9,rs9,mA9,mc9,ms9,gA9,gc9,gs9,time9,dA9,dc9,ds9,lA9,lc9,ls9⟩:KC) (fun b=>W.heap.size<=b/\b<w'.heap.size) br bg bd bl/\(∀g∈gs9,(g.m.length<=g.c1/\g.c1<=9223372036854775807)/\(g.b.length<=g.c2/\g.c2<=9223372036854775807))/\Below W.heap.size W w'):=fun W g=>Qsl rA rc rs mA mc ms gA gc gs time dA dc ds lA lc ls hlen W (hx.below g)
 have hqd:q<ds.length:=by have:=hlen.dl;simp only at this;omega
 have hql:q<ls.length:=by have:=hlen.ll;simp only at this;omega
 obtain⟨b7,o7,hdA,hb7,hi7⟩:∃b o,dA=some ⟨b,o,none⟩/\b<w.heap.size/\In w b o ds:=by
  rcases hx.da with h|h
  . simp only at h;subst h;simp at hqd
  . exact h
 obtain⟨b9,o9,hlA,hb9,hi9⟩:∃b o,lA=some ⟨b,o,none⟩/\b<w.heap.size/\In w b o ls:=by
  rcases hx.la with h|h
  . simp only at h;subst h;simp at hql
  . exact h
 have hqz7:(q:Int)<(ds.length:Int):=by omega
 have hqz9:(q:Int)<(ls.length:Int):=by omega
 subst hdA;subst hlA;have HD:Hid (∀W:World,Below w.heap.size w W->W.cell? ⟨b7,o7+q,none⟩=some (.int .i64 (ds.getD q 0))):=fun W g=>by
  have h:=(hi7.below hb7 g).cell q hqd (f:=0) (v:= .int .i64 ds[q]) (by simp[Cel.cs]);simpa [Cel.k,hqd]using h
 generalize ds.getD q 0=dq at HD hs;have HL:Hid (∀W:World,Below w.heap.size w W->W.cell? ⟨b9,o9+q*4,none⟩=some (.int .i64 (ls.getD q zAn).code)/\W.cell? ⟨b9,o9+q*4+1,none⟩=some (.int .i64 (ls.getD q zAn).n)/\W.cell? ⟨b9,o9+q*4+2,none⟩=some (.string (ls.getD q zAn).key)/\W.cell? ⟨b9,o9+q*4+3,none⟩=some (.string (ls.getD q zAn).text)):=fun W g=>by
  have e:ls.getD q zAn=ls[q]:=by simp[hql]
  rw[e];have h:=(hi9.below hb9 g)
  exact⟨h.cell q hql (f:=0) rfl,h.cell q hql (f:=1) rfl,h.cell q hql (f:=2) rfl,h.cell q hql (f:=3) rfl⟩
 generalize ls.getD q zAn=la at HL ⊢;obtain⟨ac,aN,ak,ax⟩:=la;simp only at HL;clear hlen hx;obtain⟨I0,S0,B0⟩:=Qba ro wi le ke rA rc rs mA mc ms gA gc gs time (some ⟨b7,o7,none⟩) dc ds (some ⟨b9,o9,none⟩) lc ls (q:Int) seq op ca cb cc key text (fun _=>False) w (fun _ h=>h.elim);go_enter Tryz.func99,Tryz.ntmps99;go_upto_region 1 with fail;generalize ((((w.alloc (.cells (Qaj ro wi le ke) 96)).alloc (.cells (Qaa rA rs.length rc mA ms.length mc gA gs.length gc time (some ⟨b7,o7,none⟩) ds.length dc (some ⟨b9,o9,none⟩) ls.length lc) 102)).alloc (.cells (Qab (q:Int) seq op ca cb cc key text) 55)).alloc (.cells Qae 102)).alloc (.cells Qaq 145)=X0 at I0 S0 B0 ⊢;have l0:w.heap.size+1+1+1+1<X0.heap.size:=I0.r2.lt;obtain⟨k0,k1,k2,k3,k4,k5⟩:=I0.k.row6;obtain⟨c0,c1,c2,c3,c4,c5,c6,c7⟩:=I0.c.row8c;have hq0:(0:Int)<=(q:Int):=by omega
 have hq4:(q:Int)<4:=by omega
 have nq0:¬(q:Int)<0:=by omega
 go_upto_region 3 with fail;have d7:X0.drew.cell? ⟨b7,o7+q,none⟩=some (.int .i64 dq):=HD.out _ B0.drew;refine wp_region_noPanic ?_;refine wp_region_held_drew (S:=(fun(V:World)=>V.cell? ⟨(w.heap.size+1+1),1,none⟩=some (.int .i64 seq)/\V.cell? ⟨(w.heap.size+1),4,none⟩=some (.slice (some ⟨b7,o7,none⟩) ds.length dc)/\V.cell? ⟨(w.heap.size+1+1),0,none⟩=some (.int .i64 (q:Int))/\V.cell? ⟨b7,o7+q,none⟩=some (.int .i64 dq))) (by kernel_rfl) ?_ (fun hH=> ?_)
 . exact⟨c1,k4,c0,d7⟩
 refine ztk [0,1,2,3,4,5,6,7,8] ?_;repeat(refine ztn (h:= ?_);try simp only[zX,zY])
 refine zte ?_;refine zdn ?_;go_upto_region 4 with fail;clear k0 k1 k2 k3 k4 k5 c0 c1 c2 c3 c4 c5 c6 c7 d7;have P:Ds w X0.drew.drew (w.heap.size+1) (w.heap.size+1+1) (w.heap.size+1+1+1) (w.heap.size+1+1+1+1) (Qaa rA rs.length rc mA ms.length mc gA gs.length gc time (some ⟨b7,o7,none⟩) ds.length dc (some ⟨b9,o9,none⟩) ls.length lc) (Qab (q:Int) seq op ca cb cc key text) (Qaj ro wi le ke):=Ds.drew (Ds.drew ⟨I0,S0,B0⟩);have mkS:∀V:World,Ds w V (w.heap.size+1) (w.heap.size+1+1) (w.heap.size+1+1+1) (w.heap.size+1+1+1+1) (Qaa rA rs.length rc mA ms.length mc gA gs.length gc time (some ⟨b7,o7,none⟩) ds.length dc (some ⟨b9,o9,none⟩) ls.length lc) (Qab (q:Int) seq op ca cb cc key text) (Qaj ro wi le ke)->(fun(V:World)=>V.cell? ⟨(w.heap.size+1),0,none⟩=some (.slice rA rs.length rc)/\V.cell? ⟨(w.heap.size+1),1,none⟩=some (.slice mA ms.length mc)/\V.cell? ⟨(w.heap.size+1),2,none⟩=some (.slice gA gs.length gc)/\V.cell? ⟨(w.heap.size+1),3,none⟩=some (.int .i64 time)/\V.cell? ⟨(w.heap.size+1),4,none⟩=some (.slice (some ⟨b7,o7,none⟩) ds.length dc)/\V.cell? ⟨(w.heap.size+1),5,none⟩=some (.slice (some ⟨b9,o9,none⟩) ls.length lc)/\V.cell? ⟨(w.heap.size+1+1),0,none⟩=some (.int .i64 (q:Int))/\V.cell? ⟨b9,o9+q*4,none⟩=some (.int .i64 ac)/\V.cell? ⟨b9,o9+q*4+1,none⟩=some (.int .i64 aN)/\V.cell? ⟨b9,o9+q*4+2,none⟩=some (.string ak)/\V.cell? ⟨b9,o9+q*4+3,none⟩=some (.string ax)) V:=fun V p=>by
  obtain⟨a0,a1,a2,a3,a4,a5⟩:=p.bx.k.row6;obtain⟨d0,d1,d2,d3,d4,d5,d6,d7⟩:=p.bx.c.row8c;obtain⟨n0,n1,n2,n3⟩:=HL.out V p.bl;exact⟨a0,a1,a2,a3,a4,a5,d0,n0,n1,n2,n3⟩
 clear I0 S0 B0;refine wp_region_noPanic ?_;refine wp_region_held_drew (S:=(fun(V:World)=>V.cell? ⟨(w.heap.size+1),0,none⟩=some (.slice rA rs.length rc)/\V.cell? ⟨(w.heap.size+1),1,none⟩=some (.slice mA ms.length mc)/\V.cell? ⟨(w.heap.size+1),2,none⟩=some (.slice gA gs.length gc)/\V.cell? ⟨(w.heap.size+1),3,none⟩=some (.int .i64 time)/\V.cell? ⟨(w.heap.size+1),4,none⟩=some (.slice (some ⟨b7,o7,none⟩) ds.length dc)/\V.cell? ⟨(w.heap.size+1),5,none⟩=some (.slice (some ⟨b9,o9,none⟩) ls.length lc)/\V.cell? ⟨(w.heap.size+1+1),0,none⟩=some (.int .i64 (q:Int))/\V.cell? ⟨b9,o9+q*4,none⟩=some (.int .i64 ac)/\V.cell? ⟨b9,o9+q*4+1,none⟩=some (.int .i64 aN)/\V.cell? ⟨b9,o9+q*4+2,none⟩=some (.string ak)/\V.cell? ⟨b9,o9+q*4+3,none⟩=some (.string ax))) (by kernel_rfl) ?_ (fun hH=> ?_)
 . exact mkS _ P
 refine ztk [0,2,3,4,5,6,7] ?_;repeat(refine ztn (hS:=hH) (h:= ?_);try simp only[zX,zY])
 refine zte ?_;refine zR1 1 (fun K hK=> ?_);simp only[zG];go_simp;refine(HCP.out _ P.bl).mono ?_;rintro e w1 ⟨rA9,rc9,rs9,mA9,mc9,ms9,gA9,gc9,gs9,time9,dA9,dc9,ds9,lA9,lc9,ls9,br,bg,bd,bl,rfl,hp,hq9,_,g1⟩;have J:Bx (fun _=>False) w w1 (w.heap.size+1) (w.heap.size+1+1) (w.heap.size+1+1+1) (w.heap.size+1+1+1+1) (Qaa rA rs.length rc mA ms.length mc gA gs.length gc time (some ⟨b7,o7,none⟩) ds.length dc (some ⟨b9,o9,none⟩) ls.length lc) (Qab (q:Int) seq op ca cb cc key text):=P.bx.below g1;have P1' :=P.below g1;have Q1:=hidP (hq9.mono (S' :=fun b=>False∨(w.heap.size<=b/\b≠(w.heap.size+1+1+1)/\b≠(w.heap.size+1+1+1+1))) (fun b _ hb=> .inr (by have h9:X0.heap.size<=b:=hb.1;omega)));have Hp:=hidP hp;clear hp hq9;refine hK.out _ _ (mkS _ P1') fun hH=> ?_;clear hK K;try simp only[zX,zY]
 have TT:=hidP (Bx.told J (y:=(⟨rA9,rc9,rs9,mA9,mc9,ms9,gA9,gc9,gs9,time9,dA9,dc9,ds9,lA9,lc9,ls9⟩:KC)) (br:=br) (bg:=bg) (bd:=bd) (bl:=bl) (Q1.out) (⟨(ac),(aN),(ak),(ax)⟩:An) (hv:=rfl));obtain⟨z0,z1,z2,z3,z4,z5⟩:=J.r1.row6;have f0:=J.r1.thaw 0;have f1:=J.r1.thaw 1;have f2:=J.r1.thaw 2;have f3:=J.r1.thaw 3;have f4:=J.r1.thaw 4;have f5:=J.r1.thaw 5;obtain⟨k0,k1,k2,k3,k4,k5⟩:=J.k.row6;have R2:=J.r2.only (Qaw _ (w.heap.size+1+1+1) (.slice rA9 rs9.length rc9) (.slice mA9 ms9.length mc9) (.slice gA9 gs9.length gc9) (.int .i64 time9) (.slice dA9 ds9.length dc9) (.slice lA9 ls9.length lc9)) (fun e=>J.ne.2.2.2.2.2 e.symm);obtain⟨y0,y1,y2,y3⟩:=R2.row4;have ee0:=R2.thaw 0;have ee1:=R2.thaw 1;have ee2:=R2.thaw 2;have ee3:=R2.thaw 3;have C1:=Qbh J.r1 (.slice rA9 rs9.length rc9) (.slice mA9 ms9.length mc9) (.slice gA9 gs9.length gc9) (.int .i64 time9) (.slice dA9 ds9.length dc9) (.slice lA9 ls9.length lc9);have B1:=(Qbv J.r1 (.slice rA9 rs9.length rc9) (.slice mA9 ms9.length mc9) (.slice gA9 gs9.length gc9) (.int .i64 time9) (.slice dA9 ds9.length dc9) (.slice lA9 ls9.length lc9)).only (Qa1 _ (w.heap.size+1+1+1+1) (.int .i64 (ac)) (.int .i64 (aN)) (.string ak) (.string ax)) (fun e=>J.ne.2.2.2.2.2 e);have C2:=Qbt R2 (.int .i64 (ac)) (.int .i64 (aN)) (.string ak) (.string ax);obtain⟨s0,s1,s2,s3,s4,s5⟩:=C1;obtain⟨t0,t1,t2,t3⟩:=C2;obtain⟨q0,q1,q2,q3,q4,q5⟩:=B1.row6;have hne12:(w.heap.size+1+1+1)≠(w.heap.size+1+1+1+1):=J.ne.2.2.2.2.2;have hne21:(w.heap.size+1+1+1+1)≠(w.heap.size+1+1+1):=fun e=>J.ne.2.2.2.2.2 e.symm
 have SK:Hid ((fun(V:World)=>V.cell? ⟨(w.heap.size+1),0,none⟩=some (.slice rA rs.length rc)/\V.cell? ⟨(w.heap.size+1),1,none⟩=some (.slice mA ms.length mc)/\V.cell? ⟨(w.heap.size+1),2,none⟩=some (.slice gA gs.length gc)/\V.cell? ⟨(w.heap.size+1),3,none⟩=some (.int .i64 time)/\V.cell? ⟨(w.heap.size+1),4,none⟩=some (.slice (some ⟨b7,o7,none⟩) ds.length dc)/\V.cell? ⟨(w.heap.size+1),5,none⟩=some (.slice (some ⟨b9,o9,none⟩) ls.length lc)/\V.cell? ⟨(w.heap.size+1+1),0,none⟩=some (.int .i64 (q:Int))/\V.cell? ⟨b9,o9+q*4,none⟩=some (.int .i64 ac)/\V.cell? ⟨b9,o9+q*4+1,none⟩=some (.int .i64 aN)/\V.cell? ⟨b9,o9+q*4+2,none⟩=some (.string ak)/\V.cell? ⟨b9,o9+q*4+3,none⟩=some (.string ax)) (putK w1 (w.heap.size+1+1+1) (.slice rA9 rs9.length rc9) (.slice mA9 ms9.length mc9) (.slice gA9 gs9.length gc9) (.int .i64 time9) (.slice dA9 ds9.length dc9) (.slice lA9 ls9.length lc9))):=(by obtain⟨a0,a1,a2,a3,a4,a5⟩:=(J.k.only (Qaw w1 (w.heap.size+1+1+1) (.slice rA9 rs9.length rc9) (.slice mA9 ms9.length mc9) (.slice gA9 gs9.length gc9) (.int .i64 time9) (.slice dA9 ds9.length dc9) (.slice lA9 ls9.length lc9)) J.ne.2.1).row6;obtain⟨d0,d1,d2,d3,d4,d5,d6,d7⟩:=(J.c.only (Qaw w1 (w.heap.size+1+1+1) (.slice rA9 rs9.length rc9) (.slice mA9 ms9.length mc9) (.slice gA9 gs9.length gc9) (.int .i64 time9) (.slice dA9 ds9.length dc9) (.slice lA9 ls9.length lc9)) J.ne.2.2.2.1).row8c;obtain⟨n0,n1,n2,n3⟩:=HL.out w1 P1'.bl;have hb1:b9<w1.heap.size:=Nat.lt_of_lt_of_le hb9 P1'.bl.size;have hbn:b9≠(w.heap.size+1+1+1):=(by omega);have kk:=Qaw w1 (w.heap.size+1+1+1) (.slice rA9 rs9.length rc9) (.slice mA9 ms9.length mc9) (.slice gA9 gs9.length gc9) (.int .i64 time9) (.slice dA9 ds9.length dc9) (.slice lA9 ls9.length lc9);exact⟨a0,a1,a2,a3,a4,a5,d0,(kk.cell (p:=⟨b9,o9+q*4,none⟩) hb1 hbn).trans n0,(kk.cell (p:=⟨b9,o9+q*4+1,none⟩) hb1 hbn).trans n1,(kk.cell (p:=⟨b9,o9+q*4+2,none⟩) hb1 hbn).trans n2,(kk.cell (p:=⟨b9,o9+q*4+3,none⟩) hb1 hbn).trans n3⟩)
 have SN:Hid ((fun(V:World)=>V.cell? ⟨(w.heap.size+1),0,none⟩=some (.slice rA rs.length rc)/\V.cell? ⟨(w.heap.size+1),1,none⟩=some (.slice mA ms.length mc)/\V.cell? ⟨(w.heap.size+1),2,none⟩=some (.slice gA gs.length gc)/\V.cell? ⟨(w.heap.size+1),3,none⟩=some (.int .i64 time)/\V.cell? ⟨(w.heap.size+1),4,none⟩=some (.slice (some ⟨b7,o7,none⟩) ds.length dc)/\V.cell? ⟨(w.heap.size+1),5,none⟩=some (.slice (some ⟨b9,o9,none⟩) ls.length lc)/\V.cell? ⟨(w.heap.size+1+1),0,none⟩=some (.int .i64 (q:Int))/\V.cell? ⟨b9,o9+q*4,none⟩=some (.int .i64 ac)/\V.cell? ⟨b9,o9+q*4+1,none⟩=some (.int .i64 aN)/\V.cell? ⟨b9,o9+q*4+2,none⟩=some (.string ak)/\V.cell? ⟨b9,o9+q*4+3,none⟩=some (.string ax)) (putN (putK w1 (w.heap.size+1+1+1) (.slice rA9 rs9.length rc9) (.slice mA9 ms9.length mc9) (.slice gA9 gs9.length gc9) (.int .i64 time9) (.slice dA9 ds9.length dc9) (.slice lA9 ls9.length lc9)) (w.heap.size+1+1+1+1) (.int .i64 (ac)) (.int .i64 (aN)) (.string ak) (.string ax))):=(by obtain⟨a0,a1,a2,a3,a4,a5⟩:=((J.k.only (Qaw w1 (w.heap.size+1+1+1) (.slice rA9 rs9.length rc9) (.slice mA9 ms9.length mc9) (.slice gA9 gs9.length gc9) (.int .i64 time9) (.slice dA9 ds9.length dc9) (.slice lA9 ls9.length lc9)) J.ne.2.1).only (Qa1 _ (w.heap.size+1+1+1+1) (.int .i64 (ac)) (.int .i64 (aN)) (.string ak) (.string ax)) J.ne.2.2.1).row6;obtain⟨d0,d1,d2,d3,d4,d5,d6,d7⟩:=((J.c.only (Qaw w1 (w.heap.size+1+1+1) (.slice rA9 rs9.length rc9) (.slice mA9 ms9.length mc9) (.slice gA9 gs9.length gc9) (.int .i64 time9) (.slice dA9 ds9.length dc9) (.slice lA9 ls9.length lc9)) J.ne.2.2.2.1).only (Qa1 _ (w.heap.size+1+1+1+1) (.int .i64 (ac)) (.int .i64 (aN)) (.string ak) (.string ax)) J.ne.2.2.2.2.1).row8c;obtain⟨n0,n1,n2,n3⟩:=HL.out w1 P1'.bl;have hb1:b9<w1.heap.size:=Nat.lt_of_lt_of_le hb9 P1'.bl.size;have hbn:b9≠(w.heap.size+1+1+1):=(by omega);have hbm:b9≠(w.heap.size+1+1+1+1):=(by omega);have kk:=Qaw w1 (w.heap.size+1+1+1) (.slice rA9 rs9.length rc9) (.slice mA9 ms9.length mc9) (.slice gA9 gs9.length gc9) (.int .i64 time9) (.slice dA9 ds9.length dc9) (.slice lA9 ls9.length lc9);have k2:=Qa1 (putK w1 (w.heap.size+1+1+1) (.slice rA9 rs9.length rc9) (.slice mA9 ms9.length mc9) (.slice gA9 gs9.length gc9) (.int .i64 time9) (.slice dA9 ds9.length dc9) (.slice lA9 ls9.length lc9)) (w.heap.size+1+1+1+1) (.int .i64 (ac)) (.int .i64 (aN)) (.string ak) (.string ax);have hb2:=Nat.lt_of_lt_of_le hb1 kk.size;exact⟨a0,a1,a2,a3,a4,a5,d0,(k2.cell (p:=⟨b9,o9+q*4,none⟩) hb2 hbm).trans ((kk.cell (p:=⟨b9,o9+q*4,none⟩) hb1 hbn).trans n0),(k2.cell (p:=⟨b9,o9+q*4+1,none⟩) hb2 hbm).trans ((kk.cell (p:=⟨b9,o9+q*4+1,none⟩) hb1 hbn).trans n1),(k2.cell (p:=⟨b9,o9+q*4+2,none⟩) hb2 hbm).trans ((kk.cell (p:=⟨b9,o9+q*4+2,none⟩) hb1 hbn).trans n2),(k2.cell (p:=⟨b9,o9+q*4+3,none⟩) hb2 hbm).trans ((kk.cell (p:=⟨b9,o9+q*4+3,none⟩) hb1 hbn).trans n3)⟩)
 clear mkS Q1;refine zR1 8 (fun K hK=> ?_);simp only[zG];go_simp
 skip
 refine hK.out _ _ SK.out fun hH=> ?_;clear hK K;try simp only[zX,zY]
 refine zR1 9 (fun K hK=> ?_);simp only[zG];go_simp
 skip
 refine hK.out _ _ SN.out fun hH=> ?_;clear hK K;try simp only[zX,zY]
 refine zdn ?_;go_wp2;exact bodyPost_ret (v:= .tuple #[.agg (Qaa rA9 rs9.length rc9 mA9 ms9.length mc9 gA9 gs9.length gc9 time9 dA9 ds9.length dc9 lA9 ls9.length lc9),.agg (Qax ac aN ak ax)]) (by simp[results,Tryz.results99,go_sem,s0,s1,s2,s3,s4,s5,t0,t1,t2,t3,q0,q1,q2,q3,q4,q5]) rfl (Hp.out▸TT.out)
end Go.Proofs.YtajbldnhjpjghaaGreat.Gen
