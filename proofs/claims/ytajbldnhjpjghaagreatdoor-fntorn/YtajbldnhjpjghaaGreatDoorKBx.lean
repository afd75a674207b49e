/-
  For what the specification does with a keeper of its own: its boxes, and what is told. No condition.
-/
import Derived.Test.YtajbldnhjpjghaaGreatDoorKCp2
set_option linter.unusedVariables false
set_option linter.unusedSimpArgs false
set_option maxRecDepth 100000
set_option maxHeartbeats 8000000
set_option maxRecDepth 100000
set_option maxHeartbeats 8000000
namespace Go.Proofs.YtajbldnhjpjghaaGreatDoor.Gen
open ChangeShapes WideShapes ChangeAt RowKit Joins Deep Base
theorem Blk.row8c {W:World} {B:Nat} {t:TypeId} {a b c d e f g h:Value} (x:Blk W B t #[a,b,c,d,e,f,g,h]):W.cell? ⟨B,0,none⟩=some a/\W.cell? ⟨B,1,none⟩=some b/\W.cell? ⟨B,2,none⟩=some c/\W.cell? ⟨B,3,none⟩=some d/\W.cell? ⟨B,4,none⟩=some e/\W.cell? ⟨B,5,none⟩=some f/\W.cell? ⟨B,6,none⟩=some g/\W.cell? ⟨B,7,none⟩=some h:=⟨x.cell (by rfl),x.cell (by rfl),x.cell (by rfl),x.cell (by rfl),x.cell (by rfl),x.cell (by rfl),x.cell (by rfl),x.cell (by rfl)⟩
def Qcc (S:Nat->Prop) (w w' :World) (e:Ending) (p:PK) (a:An):Prop:=∃y br bg bd bl,e= .returned (.tuple #[.agg y.cells,.agg (Qaw a.code a.n a.key a.text)])/\y.p=p/\KQ w' y (fun b=>S b∨w.heap.size<=b/\b<w'.heap.size) br bg bd bl/\Offp S w w'
structure Bx (S:Nat->Prop) (w W:World) (pk pc p1 p2:Nat) (kc cc:Array Value):Prop where
  off:Offp S w W
  k:Blk W pk 114 kc
  c:Blk W pc 91 cc
  r1:Blk W p1 114 Qae
  r2:Blk W p2 169 Qap
  lo:w.heap.size<=pk/\w.heap.size<=pc/\w.heap.size<=p1/\w.heap.size<=p2
  ne:pk≠pc/\pk≠p1/\pk≠p2/\pc≠p1/\pc≠p2/\p1≠p2
  s:∀b,S b->b<w.heap.size
section
variable {S T:Nat->Prop} {w W W' :World} {pk pc p1 p2:Nat} {kc cc:Array Value}
theorem Bx.below (h:Bx S w W pk pc p1 p2 kc cc) (g:Below W.heap.size W W'):Bx S w W' pk pc p1 p2 kc cc:=
 ⟨h.off.below g,h.k.below g h.k.lt,h.c.below g h.c.lt,h.r1.below g h.r1.lt,h.r2.below g h.r2.lt,h.lo,h.ne,h.s⟩
theorem Bx.alloc (h:Bx S w W pk pc p1 p2 kc cc) (ob:Obj):Bx S w (W.alloc ob) pk pc p1 p2 kc cc:=h.below (Qad (Below.refl _ _) _)
theorem Bx.drew (h:Bx S w W pk pc p1 p2 kc cc):Bx S w W.drew pk pc p1 p2 kc cc:=h.below (Below.refl _ _).drew
theorem Bx.turn (h:Bx S w W pk pc p1 p2 kc cc) (k:Offp T W W') (hT:∀b,T b->S b∨(w.heap.size<=b/\b≠pk/\b≠pc/\b≠p1/\b≠p2)):Bx S w W' pk pc p1 p2 kc cc:=by
 have nk:∀p,w.heap.size<=p->(p=pk∨p=pc∨p=p1∨p=p2)->¬T p:=fun p hp he t=>by
  rcases hT p t with e|e
  . have:=h.s p e;omega
  . omega
 refine⟨?_,h.k.offp k (nk _ h.lo.1 (by simp)),h.c.offp k (nk _ h.lo.2.1 (by simp)),h.r1.offp k (nk _ h.lo.2.2.1 (by simp)),h.r2.offp k (nk _ h.lo.2.2.2 (by simp)),h.lo,h.ne,h.s⟩;exact⟨k.os.trans h.off.os,k.tape.trans h.off.tape,k.output.trans h.off.output,Nat.le_trans h.off.size k.size,fun i hi hn=>(k.block i (Nat.lt_of_lt_of_le hi h.off.size) (fun t=>(hT i t).elim hn (fun e=>by omega))).trans (h.off.block i hi hn)⟩
theorem Bx.setK (h:Bx S w W pk pc p1 p2 kc cc) (i:Nat) (v:Value):Bx S w (W.setCell ⟨pk,i,none⟩ v) pk pc p1 p2 (kc.setIfInBounds i v) cc:=by
 have k:=Offp.of_only ((Only.refl pk W).set i v);refine⟨?_,h.k.setAt i v,h.c.offp k (fun e=>h.ne.1 e.symm),h.r1.offp k (fun e=>h.ne.2.1 e.symm),h.r2.offp k (fun e=>h.ne.2.2.1 e.symm),h.lo,h.ne,h.s⟩;exact⟨k.os.trans h.off.os,k.tape.trans h.off.tape,k.output.trans h.off.output,Nat.le_trans h.off.size k.size,fun j hj hn=>(k.block j (Nat.lt_of_lt_of_le hj h.off.size) (fun t=>by have:=h.lo.1;omega)).trans (h.off.block j hj hn)⟩
end
abbrev putN (Y:World) (p:Nat) (v0 v1 v2 v3:Value):World:=(((Y.setCell ⟨p,0,none⟩ v0).setCell ⟨p,1,none⟩ v1).setCell ⟨p,2,none⟩ v2).setCell ⟨p,3,none⟩ v3
theorem Qa1 (Y:World) (p:Nat) (v0 v1 v2 v3:Value):Only p Y (putN Y p v0 v1 v2 v3):=((((Only.refl p Y).set 0 v0).set 1 v1).set 2 v2).set 3 v3
theorem Qgk {Y:World} {p:Nat} {t:TypeId} {x0 x1 x2 x3:Value} (h:Blk Y p t #[x0,x1,x2,x3]) (v0 v1 v2 v3:Value):Blk (putN Y p v0 v1 v2 v3) p t #[v0,v1,v2,v3]:=(((h.setAt 0 v0).setAt 1 v1).setAt 2 v2).setAt 3 v3
theorem Qbo {W:World} {p:Nat} {t:TypeId} {x0 x1 x2 x3:Value} (h:Blk W p t #[x0,x1,x2,x3]) (v0 v1 v2 v3:Value):
 (W.setCell ⟨p,0,none⟩ v0).cell? ⟨p,0,none⟩=some v0/\((W.setCell ⟨p,0,none⟩ v0).setCell ⟨p,1,none⟩ v1).cell? ⟨p,1,none⟩=some v1/\(((W.setCell ⟨p,0,none⟩ v0).setCell ⟨p,1,none⟩ v1).setCell ⟨p,2,none⟩ v2).cell? ⟨p,2,none⟩=some v2/\(putN W p v0 v1 v2 v3).cell? ⟨p,3,none⟩=some v3:=
 ⟨(h.setAt 0 v0).cell (by rfl),((h.setAt 0 v0).setAt 1 v1).cell (by rfl),(((h.setAt 0 v0).setAt 1 v1).setAt 2 v2).cell (by rfl),(Qgk h v0 v1 v2 v3).cell (by rfl)⟩
theorem Bx.told {S:Nat->Prop} {w W:World} {pk pc p1 p2:Nat} {kc cc:Array Value} (h:Bx S w W pk pc p1 p2 kc cc) {y:KC} {br bg bd bl:Nat} (hq:KQ W y (fun b=>S b∨(w.heap.size<=b/\b≠p1/\b≠p2)) br bg bd bl) (a:An) {v0 v1 v2 v3 v4 v5:Value} (hv:y.cells= #[v0,v1,v2,v3,v4,v5]):
 Qcc S w (putN (putK W p1 v0 v1 v2 v3 v4 v5) p2 (.int .i64 a.code) (.int .i64 a.n) (.string a.key) (.string a.text)) (.returned (.tuple #[.agg #[v0,v1,v2,v3,v4,v5],.agg (Qaw a.code a.n a.key a.text)])) y.p a:=by
 have k1:=Offp.of_only (Qat W p1 v0 v1 v2 v3 v4 v5);have k2:=Offp.of_only (Qa1 (putK W p1 v0 v1 v2 v3 v4 v5) p2 (.int .i64 a.code) (.int .i64 a.n) (.string a.key) (.string a.text));have hs:=h.s;have hlo:=h.lo;refine⟨y,br,bg,bd,bl,by rw[hv],rfl,((hq.offp k1 (fun b hb e=> ?_)).offp k2 (fun b hb e=> ?_)).mono (fun b hb hb' =>hb'.imp id (fun e=>⟨e.1,hb⟩)),?_⟩
 . subst e;rcases hb with e|e
   . have:=hs _ e;omega
   . omega
 . subst e;rcases hb with e|e
   . have:=hs _ e;omega
   . omega
 . exact⟨k2.os.trans (k1.os.trans h.off.os),k2.tape.trans (k1.tape.trans h.off.tape),k2.output.trans (k1.output.trans h.off.output),Nat.le_trans h.off.size (Nat.le_trans k1.size k2.size),fun i hi hn=>(k2.block i (Nat.lt_of_lt_of_le hi (Nat.le_trans h.off.size k1.size)) (fun e=>by omega)).trans ((k1.block i (Nat.lt_of_lt_of_le hi h.off.size) (fun e=>by omega)).trans (h.off.block i hi hn))⟩
structure KLen (x:KC):Prop where
  rl:0<x.rs.length/\x.rs.length<=1000
  ml:x.ms.length<=100000
  gl:x.gs.length=2
  dl:x.ds.length=4
  ll:x.ls.length=4
  ri:∀y∈x.rs,y.its.length<=1000/\(∀z∈y.its,z.key.size<=30/\z.text.size<=30)/\I64 y.next
  mi:∀y∈x.ms,y.ms.length<=1000
  gi:∀y∈x.gs,y.m.length<=100000/\y.b.length=y.m.length/\y.o.length<=1000/\I64 y.gen/\(∀z∈y.m,I64 z)/\(∀z∈y.b,I64 z)/\(∀z∈y.o,I64 z)
  t:I64 x.time
theorem Qam {V:World} {b o B:Nat} {v:Value} (h:V.cell? ⟨b,o,none⟩=some v) (hne:b≠B) (cs:Array Value):(V.setRow B cs).cell? ⟨b,o,none⟩=some v:=by
 have hb:(V.setRow B cs).heap[b]? =V.heap[b]? :=setRow_other V B b cs hne;rw[← h];exact World.cell?_of_block (a:=⟨b,o,none⟩) hb
theorem end2 {P:Program} {md:Region.Mode} {ops:Array Oper} {Q:Go.Exit->Act->World->Prop} {S:World->Prop} {fuel:Nat} {listed:Array Bool} {a:Act} {w:World} (i j:Nat) {oi oj:Oper} {ty1 ty2:TypeId} {x1 y1 x2 y2:Operand} {p1 p2:Nat} {t1 t2:TypeId} {o1 o2 c1 c2:Array Value}
 (b1:Blk w p1 t1 o1) (b2:Blk w p2 t2 o2) (hne:p2≠p1) (s1:S (w.setRow p1 c1)) (s2:S ((w.setRow p1 c1).setRow p2 c2))
 (h:Q .normal a ((w.setRow p1 c1).setRow p2 c2))
 (hi:ops[i]? =some oi:=by rfl) (hj:ops[j]? =some oj:=by rfl) (ho1:oi.op= .store ty1 x1 y1:=by rfl) (ho2:oj.op= .store ty2 x2 y2:=by rfl) (hd1:oi.dst=none:=by rfl) (hd2:oj.dst=none:=by rfl)
 (hw1:Region.wanted oi (yielded ops a.tmps)=true:=by rfl) (hw2:Region.wanted oj (yielded ops a.tmps)=true:=by rfl)
 (hx1:a.eval x1= .pointer (some ⟨p1,0,none⟩):=by rfl) (hy1:a.eval y1= .agg c1:=by rfl) (hx2:a.eval x2= .pointer (some ⟨p2,0,none⟩):=by rfl) (hy2:a.eval y2= .agg c2:=by rfl)
 (i1:(P.info? ty1).map (·.size)=some c1.size:=by kernel_rfl) (i2:(P.info? ty2).map (·.size)=some c2.size:=by kernel_rfl) (z1:o1.size=c1.size:=by rfl) (z2:o2.size=c2.size:=by rfl) (n1:c1.all (·.oneCell')=true:=by simp[Value.oneCell']) (n2:c2.all (·.oneCell')=true:=by simp[Value.oneCell'])
 (r1:Region.ready md ops listed= [i]:=by kernel_rfl) (r2:Region.ready md ops (listed.setIfInBounds i true)= [j]:=by kernel_rfl) (r3:Region.ready md ops ((listed.setIfInBounds i true).setIfInBounds j true)= []:=by kernel_rfl):
 wpAnyH P md ops (NoPanic Q) S (fuel+1+1) listed a w:=by
 refine zR1 i (ho:=hi) (hr:=r1) (fun K hK=> ?_);rw[if_pos hw1];refine wp_store_row ty1 x1 y1 ho1 p1 c1 hx1 hy1 t1 o1 b1 i1 z1 n1 ?_;rw[hd1];refine hK.out _ _ s1 (fun _=> ?_);refine zR1 j (ho:=hj) (hr:=r2) (fun K2 hK2=> ?_);rw[if_pos (by exact hw2)];refine wp_store_row ty2 x2 y2 ho2 p2 c2 (by exact hx2) (by exact hy2) t2 o2 (b2.otherRow hne c1) i2 z2 n2 ?_;rw[hd2];refine hK2.out _ _ s2 (fun _=> ?_);exact zdn (by exact h) (hr:=r3)
theorem Qbr {P:Program} {fn:Func} {p q:Tmp} {ty tz:TypeId} (h:fn.results= #[.cell p ty,.cell q tz]) {tmps:Array Value} {w:World} {b c:Nat} (ht:tmps.getD p undef= .pointer (some ⟨b,0,none⟩)) (hq:tmps.getD q undef= .pointer (some ⟨c,0,none⟩)) {t u:TypeId} {vs us:Array Value} (r:Blk w b t vs) (s:Blk w c u us) {fs gs:Array Field} (hu:P.underlying ty=some (.struct fs)) (hv:P.underlying tz=some (.struct gs)) (hi:(P.info? ty).map (·.size)=some vs.size) (hj:(P.info? tz).map (·.size)=some us.size):(results fn tmps).run P w= .ok (.tuple #[.agg vs,.agg us]) w:=by
 have ht2:tmps[p]?.getD undef= .pointer (some ⟨b,0,none⟩):=by rw[← Array.getD_eq_getD_getElem?];exact ht
 have hq2:tmps[q]?.getD undef= .pointer (some ⟨c,0,none⟩):=by rw[← Array.getD_eq_getD_getElem?];exact hq
 have hl:=run_loadVar_row (P:=P) w b t ty vs (0,0) (.struct fs) r hu rfl hi;have hm:=run_loadVar_row (P:=P) w c u tz us (0,0) (.struct gs) s hv rfl hj;simp only[results,h];simp[ht2,hq2,asAddr,hl,hm]
theorem Bx.tell {S:Nat->Prop} {w W:World} {pk pc p1 p2:Nat} {kc cc:Array Value} (h:Bx S w W pk pc p1 p2 kc cc) {y:KC} {br bg bd bl:Nat} (hq:KQ W y (fun b=>S b∨(w.heap.size<=b/\b≠p1/\b≠p2)) br bg bd bl) (a:An) {cs ds:Array Value} (hv:y.cells=cs) (hd:(Qaw a.code a.n a.key a.text)=ds):
 Qcc S w ((W.setRow p1 cs).setRow p2 ds) (.returned (.tuple #[.agg cs,.agg ds])) y.p a:=by
 have k1:Offp (fun b=>b=p1) W (W.setRow p1 cs):=(Offp.refl (fun b=>b=p1) W).row (b:=p1) rfl cs;have k2:Offp (fun b=>b=p2) (W.setRow p1 cs) ((W.setRow p1 cs).setRow p2 ds):=(Offp.refl (fun b=>b=p2) _).row (b:=p2) rfl ds;have hs:=h.s;have hlo:=h.lo;refine⟨y,br,bg,bd,bl,by rw[hv,hd],rfl,((hq.offp k1 (fun b hb e=> ?_)).offp k2 (fun b hb e=> ?_)).mono (fun b hb hb' =>hb'.imp id (fun e=>⟨e.1,hb⟩)),?_⟩
 . subst e;rcases hb with e|e
   . have:=hs _ e;omega
   . omega
 . subst e;rcases hb with e|e
   . have:=hs _ e;omega
   . omega
 . exact⟨k2.os.trans (k1.os.trans h.off.os),k2.tape.trans (k1.tape.trans h.off.tape),k2.output.trans (k1.output.trans h.off.output),Nat.le_trans h.off.size (Nat.le_trans k1.size k2.size),fun i hi hn=>(k2.block i (Nat.lt_of_lt_of_le hi (Nat.le_trans h.off.size k1.size)) (fun e=>by omega)).trans ((k1.block i (Nat.lt_of_lt_of_le hi h.off.size) (fun e=>by omega)).trans (h.off.block i hi hn))⟩
open Go.Maps (Keyed)
open Go.ChangeMaps (setBlock heap_setBlock_same heap_setBlock_other)
def seen (l:List MC) (n:Nat) (row who:Int):Prop:=∃i,∃h:i<l.length,i<n/\l[i].row=row/\l[i].who=who
def seenB (l:List MC) (n:Nat) (row who:Int):Bool:=(l.take n).any fun x=>x.row==row&&x.who==who
theorem seen_iff (l:List MC) (n:Nat) (row who:Int):seen l n row who↔seenB l n row who=true:=by
 simp only[seenB,List.any_eq_true,Bool.and_eq_true,beq_iff_eq]
 constructor
 . rintro ⟨i,h,hi,h1,h2⟩;exact⟨l[i],List.mem_take_iff_getElem.2 ⟨i,by omega,rfl⟩,h1,h2⟩
 . rintro ⟨x,hx,h1,h2⟩;obtain⟨i,hi,rfl⟩:=List.mem_take_iff_getElem.1 hx;exact⟨i,by omega,by omega,h1,h2⟩
instance (l:List MC) (n:Nat) (row who:Int):Decidable (seen l n row who):=decidable_of_iff _ (seen_iff l n row who).symm
def mofP (l:List MC) (row who:Int):PM:=match l.find? (fun x=>x.row==row&&x.who==who)with
  |some x=>x.p
  |none=>⟨row,who,0, -1,[]⟩
theorem mofP_at {l:List MC} {row who:Int} {j:Nat} (hj:j<l.length) (h1:l[j].row=row) (h2:l[j].who=who) (h3:¬seen l j row who):mofP l row who=l[j].p:=by
 have:l.find? (fun x=>x.row==row&&x.who==who)=some l[j]:=by
  refine List.find?_eq_some_iff_getElem.2 ⟨by simp[h1,h2],j,hj,rfl,fun i hi=> ?_⟩;have:¬(l[i].row=row/\l[i].who=who):=fun h=>h3 ⟨i,by omega,hi,h.1,h.2⟩
  simp;by_cases e1:l[i].row=row
  . exact .inr fun e2=>this ⟨e1,e2⟩
  . exact .inl e1
 unfold mofP;rw[this]
theorem mofP_none {l:List MC} {row who:Int} (h:¬seen l l.length row who):mofP l row who=⟨row,who,0, -1,[]⟩:=by
 have:l.find? (fun x=>x.row==row&&x.who==who)=none:=by
  refine List.find?_eq_none.2 fun x hx=> ?_
  obtain⟨i,hi,rfl⟩:=List.getElem_of_mem hx;simp;intro e1 e2;exact h ⟨i,hi,hi,e1,e2⟩
 unfold mofP;rw[this]
theorem Qbu (A:Option Addr) (cap:Nat) (l:List MC) (row who:Int) (hl:l.length<=1048576) (hs:∀x∈l,x.ms.length<=1048576) (w:World) (hA:At w A l) (hE:Each w l):
 Calls Tryz.prog 125 (Qf7 A l.length cap row who) w fun e w' =>∃v,e= .returned (.agg #[.int .i64 (mofP l row who).row,.int .i64 (mofP l row who).who,.int .i64 (mofP l row who).epoch,.int .i64 (mofP l row who).last,v])/\w'.ownsRow w.heap.size 165 2 v (mofP l row who).ms.length (flat (mofP l row who).ms)/\Below w.heap.size w w' :=by
 have HA:=hidP hA;have HE:=hidP hE;have Hs:=hidP hs;clear hA hE hs;go_enter Tryz.func125,Tryz.ntmps125;go_wp2
 go_loopw [7] (fun i w' =>∃(n:Nat),i= .int .i64 (n:Int)/\n<=l.length/\Below w.heap.size w w' /\Hid (Blk w' w.heap.size 163 Qds)/\Hid (¬seen l n row who)) (fun i _=>l.length - (intOf i).toNat)
 case atStart=>exact⟨0,rfl,by omega,Qad (Below.refl _ _) _,Blk.new _ _ _,by rintro ⟨i,h,hi,_⟩;omega⟩
 case round=>
  obtain⟨n,rfl,hn,B1,P1,hns⟩:=hrel;have p1:=P1.out;obtain⟨u0,u1,u2,u3,u4⟩:=p1.row5;have f0:=p1.thaw 0;have f1:=p1.thaw 1;have f2:=p1.thaw 2;have f3:=p1.thaw 3;have f4:=p1.thaw 4;have q1:=p1.lt;by_cases hlt:n<l.length
  . obtain⟨b,o,rfl,hbs,hIn⟩:∃b o,A=some ⟨b,o,none⟩/\b<w.heap.size/\In w b o l:=by
     rcases HA.out with h|h
     . subst h;simp at hlt
     . exact h
    obtain⟨c0,c1,c2,c3,c4⟩:=(hIn.below hbs B1).getMC n hlt;have hat:=hidP ((HE.out _ (List.getElem_mem hlt)).below B1);have hms:=Hs.out _ (List.getElem_mem hlt);have hi0:(0:Int)<=(n:Int):=(by omega);have hi1:(n:Int)<(l.length:Int):=(by omega);have hstep:¬(l[n].row=row/\l[n].who=who)->¬seen l (n+1) row who:=fun h=>by
     rintro ⟨i,hi,hin,h1,h2⟩;by_cases e:i=n
     . subst e;exact h ⟨h1,h2⟩
     . exact hns.out ⟨i,hi,by omega,h1,h2⟩
    by_cases hm:l[n].row=row/\l[n].who=who
    . have hF:=hidP (mofP_at hlt hm.1 hm.2 hns.out);have hd1:=decide_eq_true hm.1;have hd2:=decide_eq_true hm.2;have hd3:(l[n].row==row)=true:=(by simp[hm.1]);have hd4:(l[n].who==who)=true:=(by simp[hm.2]);clear hstep hm;generalize l[n]=y at c0 c1 c2 c3 c4 hat hms hd1 hd2 hd3 hd4 hF;obtain⟨yr,yw,ye,yl,yA,yc,ys⟩:=y;simp only at c0 c1 c2 c3 c4 hat hms hd1 hd2 hd3 hd4;go_wp2_with fail;refine(Qa8 yr yw ye yl yA yc ys hms _ hat.out).mono ?_;rintro e w2 ⟨v,rfl,hown,g2⟩;obtain⟨a,c,rfl,hc⟩:=Qan hown;have B2:Below w.heap.size w w2:=via0 g2 B1;have p2:=p1.below g2 p1.lt;have hfar:=hidP (Qa6 hown (C:=w.heap.size) q1);have Hown:=hidP (Qax hown (C:=w.heap.size) (by omega));clear u0 u1 u2 u3 u4 f0 f1 f2 f3 f4 hown;obtain⟨u0,u1,u2,u3,u4⟩:=p2.row5;have f0:=p2.thaw 0;have f1:=p2.thaw 1;have f2:=p2.thaw 2;have f3:=p2.thaw 3;have f4:=p2.thaw 4;go_wp2;have e1:Blk _ w.heap.size 163 (Qak yr yw ye yl a ys.length c):=((((p2.setAt 0 (.int .i64 yr)).setAt 1 (.int .i64 yw)).setAt 2 (.int .i64 ye)).setAt 3 (.int .i64 yl)).setAt 4 (.slice a ys.length c);obtain⟨x0,x1,x2,x3,x4⟩:=e1.row5;rw[hF.out];exact bodyPost_ret (v:= .agg (Qak yr yw ye yl a ys.length c)) (by simp[results,Tryz.results125,go_sem,x0,x1,x2,x3,x4]) rfl
       ⟨_,rfl,Qal (Qal (Qal (Qal (Qal Hown.out hfar.out) hfar.out) hfar.out) hfar.out) hfar.out,
        Qas (Qas (Qas (Qas (Qas B2 (Nat.le_refl _) _) (Nat.le_refl _) _) (Nat.le_refl _) _) (Nat.le_refl _) _) (Nat.le_refl _) _⟩
    . have Hst:=hidP (hstep hm);clear hstep;by_cases h1:l[n].row=row
      . have hd1:=decide_eq_true h1;have hd2:decide (l[n].who=who)=false:=decide_eq_false (fun h=>hm ⟨h1,h⟩);have hd3:(l[n].row==row)=true:=(by simp[h1]);have hd4:(l[n].who==who)=false:=by simp;exact fun h=>hm ⟨h1,h⟩
        clear hm h1;go_wp2;exact⟨⟨n+1,by go_num,by omega,B1,P1,Hst⟩,by simp[intOf];omega⟩
      . have hd1:=decide_eq_false h1;have hd3:(l[n].row==row)=false:=(by simp[h1]);clear hm h1;go_wp2;exact⟨⟨n+1,by go_num,by omega,B1,P1,Hst⟩,by simp[intOf];omega⟩
  . obtain rfl:n=l.length:=(by omega);have hF:=hidP (mofP_none hns.out);go_wp2;have e1:Blk _ w.heap.size 163 (Qak row who 0 (-1) none 0 0):=((((p1.setAt 0 (.int .i64 row)).setAt 1 (.int .i64 who)).setAt 2 (.int .i64 0)).setAt 3 (.int .i64 (-1))).setAt 4 (.slice none 0 0);obtain⟨x0,x1,x2,x3,x4⟩:=e1.row5;rw[hF.out];exact bodyPost_ret (v:= .agg (Qak row who 0 (-1) none 0 0)) (by simp[results,Tryz.results125,go_sem,x0,x1,x2,x3,x4]) rfl
     ⟨_,rfl,World.ownsRow_nil _ _ _ _,Qas (Qas (Qas (Qas (Qas B1 (Nat.le_refl _) _) (Nat.le_refl _) _) (Nat.le_refl _) _) (Nat.le_refl _) _) (Nat.le_refl _) _⟩
def behK (r1 w1 r2 w2:Int):Bool:=decide (r2<r1)||(decide (r1=r2)&&decide (w2<w1))
def Qea (m:PM) (s:List PM × Bool) (x:PM):List PM × Bool:=
  if x.row=m.row/\x.who=m.who then(if s.2 then s else(s.1++ [m],true))
  else if s.2=false/\behK x.row x.who m.row m.who=true then(s.1++ [m]++ [x],true)else(s.1++ [x],s.2)
def Qer (m:PM) (l:List PM):List PM × Bool:=l.foldl (Qea m) ([],false)
def setS (l:List PM) (m:PM):List PM:=if(Qer m l).2 then(Qer m l).1 else(Qer m l).1++ [m]
theorem Qcv (m:PM) (l:List PM) (n:Nat) (h:n<l.length):Qer m (l.take (n+1))=Qea m (Qer m (l.take n)) l[n]:=by
 unfold Qer;rw[List.take_succ_eq_append_getElem h,List.foldl_append];rfl
structure Out (B:Nat) (W:World) (v:Value) (O:List MC):Prop where
  own:W.ownsRow B 163 5 v O.length (flat O)
  each:∀x∈O,W.ownsRow B 165 2 (.slice x.A x.ms.length x.cap) x.ms.length (flat x.ms)
theorem Out.below {B:Nat} {W W' :World} {v:Value} {O:List MC} (h:Out B W v O) (k:Below W.heap.size W W'):Out B W' v O:=
 ⟨Qbb h.own (Offp.of_below (S:=fun _=>False) k) (fun _ _ e=>e),fun x hx=>Qbb (h.each x hx) (Offp.of_below (S:=fun _=>False) k) (fun _ _ e=>e)⟩
theorem owns_two {B B' :Nat} {W:World} {v u:Value} {t t' :TypeId} {k k' n n' :Nat} {xs ys:List Value} (h:W.ownsRow B t k v n xs) (h' :W.ownsRow B' t' k' u n' ys) (ht:t≠t'):∀x,v.ownBlock=some x->u.ownBlock≠some x:=by
 intro x hx hx';rcases h.2 with⟨rfl,_⟩|⟨g,c,cur,rfl,_,hg,_⟩
 . cases hx
 rcases h'.2 with⟨rfl,_⟩|⟨g',c',cur',rfl,_,hg',_⟩
 . cases hx'
 simp[Value.ownBlock]at hx hx';subst hx hx';rw[hg]at hg';cases hg';exact ht rfl
theorem Qjq {B:Nat} {W:World} {v:Value} {t:TypeId} {k n:Nat} {xs:List Value} (h:W.ownsRow B t k v n xs):∀x,v.ownBlock=some x->B<=x/\x<W.heap.size:=fun x hx=>h.lt x hx
structure MS (w W:World) (xc:Array Value) (v:Value) (O:List MC):Prop where
  bl:Below w.heap.size w W
  box:Blk W w.heap.size 163 xc
  out:Out (w.heap.size+1) W v O
theorem MS.below {w W W' :World} {xc:Array Value} {v:Value} {O:List MC} (h:MS w W xc v O) (k:Below W.heap.size W W'):MS w W' xc v O:=⟨via0 k h.bl,h.box.below k h.box.lt,h.out.below k⟩
theorem MS.app {w W w1:World} {xs:Array Value} {v:Value} {O:List MC} (h:MS w W xs v O) (k:Below W.heap.size W w1) {row who epoch last:Int} {xa:Option Addr} {xcc:Nat} {ms:List Mk} (hm:w1.ownsRow W.heap.size 165 2 (.slice xa ms.length xcc) ms.length (flat ms)) (hO:O.length<=2000000):
 ∃g c w2,(Builtin.append_ #[110,110] 110 #[v,.slice (some ⟨w1.heap.size,0,none⟩) 1 1]).run Tryz.prog (w1.alloc (.cells (Qak row who epoch last xa ms.length xcc) 163))= .ok (.slice (some ⟨g,0,none⟩) (O.length+1) c) w2/\
  MS w w2 xs (.slice (some ⟨g,0,none⟩) (O.length+1) c) (O++ [⟨row,who,epoch,last,xa,xcc,ms⟩])/\(∀b ys,Blk W b 163 ys->v.ownBlock≠some b->Blk w2 b 163 ys/\g≠b):=by
 have k2:Below W.heap.size W (w1.alloc (.cells (Qak row who epoch last xa ms.length xcc) 163)):=Qad k _;have h2:=h.below k2;have hX:At (w1.alloc (.cells (Qak row who epoch last xa ms.length xcc) 163)) (some ⟨w1.heap.size,0,none⟩) [(⟨row,who,epoch,last,xa,xcc,ms⟩:MC)]:=by
  refine .inr ⟨_,0,rfl,by simp,fun j u hu=> ?_⟩;rw[Qda]at hu;rw[Nat.zero_add];exact(Blk.new w1 163 _).cell (by simpa [Cel.cs]using hu)
 have hm2:=Qbb hm (Offp.of_below (S:=fun _=>False) (Qad (Below.refl _ w1) (.cells (Qak row who epoch last xa ms.length xcc) 163))) (fun _ _ e=>e);have hwB:w.heap.size+1<=W.heap.size:=h.box.lt;obtain⟨v',w2,hr,hown,hgrow,hat⟩:=Qbh (P:=Tryz.prog) Tryz.underlying110 infoMC rfl (by decide) (by decide) (w.heap.size+1) v O [(⟨row,who,epoch,last,xa,xcc,ms⟩:MC)] (some ⟨w1.heap.size,0,none⟩) 1 _ (by have:=k2.size;simp at this ⊢;omega) h2.out.own hX (by simp;omega);simp only[List.length_cons,List.length_nil,Nat.zero_add]at hown hr;obtain⟨g,c,rfl,hB,hlt⟩:=hown.form (by omega);have ko:=Qb3 hgrow;have hbase:=Qjq h2.out.own;refine⟨g,c,w2,hr,⟨h2.bl.trans (ko.toBelow (fun x hx=>by have:=hbase x hx;omega) h2.bl.size),h2.box.offp ko (fun e=>by have:=hbase _ e;omega),⟨Qgx (by simp) hown,?_⟩⟩,?_⟩
 . intro x hx;rcases List.mem_append.1 hx with hx|hx
   . exact Qbb (h2.out.each x hx) ko (owns_two (h2.out.each x hx) h2.out.own (by decide))
   . simp only[List.mem_singleton]at hx;subst hx;exact Qax (Qbb hm2 ko (owns_two hm2 h2.out.own (by decide))) hwB
 . intro b ys hb hne;refine⟨((hb.below k hb.lt).alloc _).offp ko hne,fun e=> ?_⟩;subst e;rcases hat with e|e
   . exact hne (e▸rfl)
   . have e2:g=w1.heap.size+1:=(by simpa [Value.ownBlock]using e);have:=hb.lt;have:=k.size;omega
end Go.Proofs.YtajbldnhjpjghaaGreatDoor.Gen
