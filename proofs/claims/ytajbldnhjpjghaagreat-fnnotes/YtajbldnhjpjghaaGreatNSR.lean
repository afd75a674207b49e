/-
  The specification's reader of a note's body: what it tells is what the program's reader tells, or its cursor is not right any more. Condition: at most 1048576 bytes.
-/
import Derived.Test.YtajbldnhjpjghaaGreatRAtN
set_option linter.unusedVariables false
set_option linter.unusedSimpArgs false
set_option maxRecDepth 100000
set_option maxHeartbeats 8000000
set_option maxRecDepth 100000
set_option maxHeartbeats 8000000
namespace Go.Proofs.YtajbldnhjpjghaaGreat.Gen
open ChangeShapes WideShapes ChangeAt RowKit Joins Deep Base
def Q1 (L:List UInt8) (i:Int):=nS L (some i)
def Q2 (L:List UInt8) (i:Int):=nS L (nO (Q1 L i))
def Q3 (L:List UInt8) (i:Int):=nS L (nO (Q2 L i))
def Q4 (L:List UInt8) (i:Int):=nS L (nO (Q3 L i))
def Q5 (L:List UInt8) (i:Int):=nS L (nO (Q4 L i))
def GLr (L:List UInt8) (i:Int):Option (List En × Nat):=match Q4 L i with|none=>none|some p=>Qb0 L (Qbq L) (p.2:Int)
def LkE (L:List UInt8) (g:Option (List En × Nat)) (n k:Nat) (xs:List En) (o:Option Int):Prop:=
  (∃c:Nat,o=some (c:Int)/\g=Qf6 xs (Qbf (Qbq L) (n - k) c)/\k<=c/\c<=L.length)∨(o=none/\g=none/\k<=L.length+1)
theorem LkE.start (L:List UInt8) (i:Int):LkE L (GLr L i) (nV (Q5 L i)) 0 [] (nO (Q5 L i)):=by
 cases h4:Q4 L i with
 |none=>
  right
  have h5:Q5 L i=none:=by unfold Q5;rw[h4];rfl
  exact⟨by rw[h5];rfl,by unfold GLr;rw[h4],by omega⟩
 |some p=>
  have e5:Q5 L i=getN L (p.2:Int):=by unfold Q5;rw[h4];rfl
  cases h5:getN L (p.2:Int)with
  |none=>
   right
   exact⟨by rw[e5,h5];rfl,by unfold GLr;rw[h4];show Qb0 L (Qbq L) (p.2:Int)=none;unfold Qb0;rw[h5],by omega⟩
  |some q=>
   obtain⟨n,c⟩:=q
   left
   refine⟨c,by rw[e5,h5];rfl,?_,by omega,(Qbp h5).2.2.2.1⟩;unfold GLr;rw[h4,e5,h5];show Qb0 L (Qbq L) (p.2:Int)=_;unfold Qb0;rw[h5];show Qbf (Qbq L) n c=Qf6 [] (Qbf (Qbq L) (n - 0) c);rw[Nat.sub_zero];cases Qbf (Qbq L) n c<;>simp[Qf6]
def enOf (L:List UInt8) (o:Option Int):En:=⟨(nV (nS L o):Int),(cmOf L (nO (nS L o))).who,(cmOf L (nO (nS L o))).seq,(cmOf L (nO (nS L o))).op,(cmOf L (nO (nS L o))).a,(cmOf L (nO (nS L o))).b,(cmOf L (nO (nS L o))).c,(cmOf L (nO (nS L o))).k,(cmOf L (nO (nS L o))).t⟩
def enO (L:List UInt8) (o:Option Int):Option Int:=nO (q8 L (nO (nS L o)))
theorem Qqx (L:List UInt8) (c:Nat):(Qbq L (c:Int)=none/\enO L (some (c:Int))=none)∨(∃d:Nat,Qbq L (c:Int)=some (enOf L (some (c:Int)),d)/\enO L (some (c:Int))=some (d:Int)):=by
 have e:nS L (some (c:Int))=getN L (c:Int):=rfl;unfold enO enOf;rw[e];cases h1:getN L (c:Int)with
 |none=>left;exact⟨by unfold Qbq;rw[h1],rfl⟩
 |some p=>
  obtain⟨t,c1⟩:=p;show(_/\nO (q8 L (some (c1:Int)))=none)∨_;cases h8:q8 L (some (c1:Int))with
  |none=>
   left
   have hc:getC L (c1:Int)=none:=(by unfold getC;rw[h8];rfl);exact⟨by unfold Qbq;rw[h1];simp[hc],rfl⟩
  |some q=>
   right
   have hc:getC L (c1:Int)=some (cmOf L (some (c1:Int)),q.2):=(by unfold getC;rw[h8];rfl);refine⟨q.2,by unfold Qbq;rw[h1];simp only[hc];rfl,?_⟩;show nO (q8 L (some (c1:Int)))=_;rw[h8];rfl
theorem LkE.step {L:List UInt8} {g:Option (List En × Nat)} {n k c:Nat} {xs:List En} (h:LkE L g n k xs (some (c:Int))) (hk:k<n):LkE L g n (k+1) (xs++ [enOf L (some (c:Int))]) (enO L (some (c:Int))):=by
 rcases h with⟨c',e,h,h1,h2⟩|⟨e,_⟩
 . simp only[Option.some.injEq]at e;obtain rfl:c=c' :=(by omega);obtain⟨m,hm⟩:∃m,n - k=m+1:=⟨n - k - 1,by omega⟩
   have hm' :n - (k+1)=m:=(by omega);rcases Qqx L c with⟨e1,e2⟩|⟨d,e1,e2⟩
   . right
     exact⟨e2,by rw[h,hm];exact Qjq xs e1,by omega⟩
   . left
     have:=Qfm e1;exact⟨d,e2,by rw[h,hm,hm'];exact Qjp xs e1,by omega,this.2⟩
 . cases e
theorem LkE.end {L:List UInt8} {g:Option (List En × Nat)} {n:Nat} {xs:List En} {o:Option Int} (h:LkE L g n n xs o):g=o.map fun c=>(xs,c.toNat):=by
 rcases h with⟨c,rfl,h,_⟩|⟨rfl,h,_⟩
 . rw[h,Nat.sub_self,Qlp];simp
 . rw[h];rfl
theorem LkE.stop {L:List UInt8} {g:Option (List En × Nat)} {n k:Nat} {xs:List En} (h:LkE L g n k xs none):g=none:=by
 rcases h with⟨c,e,_⟩|⟨_,h,_⟩
 . cases e
 . exact h
theorem LkE.le {L:List UInt8} {g:Option (List En × Nat)} {n k:Nat} {xs:List En} {o:Option Int} (h:LkE L g n k xs o):k<=L.length+1:=by
 rcases h with⟨c,_,_,h1,h2⟩|⟨_,_,h⟩
 . omega
 . exact h
theorem Qr1 (L:List UInt8) (i:Int):Qct L i=match GLr L i with|none=>none|some p=>(getT L (p.2:Int)).map fun t=>(⟨(nV (Q1 L i):Int),(nV (Q2 L i):Int),(nV (Q3 L i):Int) - 1,(nV (Q4 L i):Int),p.1,t.1⟩,t.2):=by
 unfold Qct GLr;cases h1:getN L i with
 |none=>
  have e1:Q1 L i=none:=h1;have e2:Q2 L i=none:=by unfold Q2;rw[e1];rfl
  have e3:Q3 L i=none:=by unfold Q3;rw[e2];rfl
  have e4:Q4 L i=none:=by unfold Q4;rw[e3];rfl
  rw[e4]
 |some p1=>
 obtain⟨n1,c1⟩:=p1;have e1:Q1 L i=some (n1,c1):=h1;cases h2:getN L (c1:Int)with
 |none=>
  have e2:Q2 L i=none:=by unfold Q2;rw[e1];exact h2
  have e3:Q3 L i=none:=by unfold Q3;rw[e2];rfl
  have e4:Q4 L i=none:=by unfold Q4;rw[e3];rfl
  simp[e4,h2]
 |some p2=>
 obtain⟨n2,c2⟩:=p2;have e2:Q2 L i=some (n2,c2):=by unfold Q2;rw[e1];exact h2
 cases h3:getN L (c2:Int)with
 |none=>
  have e3:Q3 L i=none:=by unfold Q3;rw[e2];exact h3
  have e4:Q4 L i=none:=by unfold Q4;rw[e3];rfl
  simp[e4,h2,h3]
 |some p3=>
 obtain⟨n3,c3⟩:=p3;have e3:Q3 L i=some (n3,c3):=by unfold Q3;rw[e2];exact h3
 cases h4:getN L (c3:Int)with
 |none=>
  have e4:Q4 L i=none:=by unfold Q4;rw[e3];exact h4
  simp[e4,h2,h3,h4]
 |some p4=>
 obtain⟨n4,c4⟩:=p4;have e4:Q4 L i=some (n4,c4):=by unfold Q4;rw[e3];exact h4
 simp only[e4,h2,h3,h4];cases h5:Qb0 L (Qbq L) (c4:Int)with
 |none=>simp
 |some p5=>
 obtain⟨s5,c5⟩:=p5;simp only;cases h6:getT L (c5:Int)with
 |none=>simp
 |some p6=>simp[e1,e2,e3,nV]
theorem Qs3 (L:List UInt8) (i:Int) (xs:List En) (o:Option Int) (h:GLr L i=o.map fun c=>(xs,c.toNat)) (ho:∀c,o=some c->0<=c):Qct L i=(tS L o).map fun t=>(⟨(nV (Q1 L i):Int),(nV (Q2 L i):Int),(nV (Q3 L i):Int) - 1,(nV (Q4 L i):Int),xs,tV (tS L o)⟩,t.2):=by
 rw[Qr1,h];cases o with
 |none=>rfl
 |some c=>
  have e:((c.toNat:Nat):Int)=c:=by have:=ho c rfl;omega
  show(getT L ((c.toNat:Nat):Int)).map _=(getT L c).map _;rw[e];cases hq:getT L c with
  |none=>rfl
  |some t=>
   have:tV (tS L (some c))=t.1:=(by show tV (getT L c)=_;rw[hq];rfl);simp[this]
theorem Qtb {L:List UInt8} {g:Option (List En × Nat)} {n k:Nat} {xs:List En} {o:Option Int} (h:LkE L g n k xs o):∀c,o=some c->0<=c:=by
 rcases h with⟨c',rfl,_⟩|⟨rfl,_⟩
 . intro c e;simp at e;omega
 . intro c e;cases e
theorem Qtv {B:Nat} {W:World} {a:Option Addr} {cp:Nat} {xs:List En} (own:W.ownsRow B 57 9 (.slice a xs.length cp) xs.length (flat xs)) (hB:B<=W.heap.size) (x:En) (cs:Array Value) (hcs:cs.toList=Cel.cs x) (hx:xs.length<=2000000):
 ∃a2 c2 W2,(Builtin.append_ #[24,24] 24 (l1SS a xs.length cp (some ⟨W.heap.size,0,none⟩) 1 1)).run Tryz.prog (W.alloc (.cells cs 57))= .ok (.slice a2 (xs.length+1) c2) W2/\W2.ownsRow B 57 9 (.slice a2 (xs++ [x]).length c2) (xs++ [x]).length (flat (xs++ [x]))/\
  Offp (fun y=>(Value.slice a xs.length cp).ownBlock=some y) (W.alloc (.cells cs 57)) W2/\(∀y,(Value.slice a xs.length cp).ownBlock=some y->B<=y/\y<W.heap.size):=by
 have own1:=Qau own (.cells cs 57);have hX:At (W.alloc (.cells cs 57)) (some ⟨W.heap.size,0,none⟩) [x]:=by
  refine .inr ⟨_,0,rfl,by simp,fun j u hu=> ?_⟩;rw[Qdg,← hcs]at hu;rw[Nat.zero_add];exact(Blk.new W 57 cs).cell (by simpa using hu)
 obtain⟨v',W2,hr,hown,hgrow,_⟩:=Qbj (P:=Tryz.prog) (z:= .agg Qbe) Tryz.underlying24 Qlu rfl (by decide) (by decide) B (.slice a xs.length cp) xs [x] (some ⟨W.heap.size,0,none⟩) 1 _ (by simp;omega) own1 hX (by simp;omega);simp only[List.length_cons,List.length_nil,Nat.zero_add]at hown hr;obtain⟨a2,c2,rfl,_⟩:=Qao hown;exact⟨a2,c2,W2,hr,by rw[List.length_append];exact hown,Qb8 hgrow,fun y hy=>own.lt y hy⟩
theorem Qmn (r:Nat) (A:Option Addr) (cap:Nat) (L:List UInt8) (hl:L.length<=1048576) (hcap:L.length<=cap) (hcm:cap<=9223372036854775807) (i:Int) (w:World) (h:CuO w r A cap L (some i)):
 Calls Tryz.prog 43 #[.pointer (some ⟨r,0,none⟩)] w fun e w' =>∃(x:Nt) (aa:Option Addr) (cc:Nat) (t:Option (ByteArray × Nat)),e= .returned (.agg (Qag x.kind x.term x.vote x.prev aa (List.length x.l) cc x.snap))/\Only r w w' /\w'.ownsRow w.heap.size 57 9 (.slice aa (List.length x.l) cc) (List.length x.l) (flat x.l)/\CuO w' r A cap L (nO t)/\Qct L i=t.map fun p=>(x,p.2):=by
 have hr:=h.far.1;have px0:=Blk.new (w.alloc (.cells Qah 26)) 26 Qah;have pr0:=(Blk.new w 26 Qah).alloc (.cells Qah 26);simp only[World.size_alloc]at px0;have HC0:=hidP ((CB.start h).below (Qad (Qad (Below.refl _ w) (.cells Qah 26)) (.cells Qah 26)));have Hpx0:=hidP px0;have Hpr0:=hidP pr0;clear px0 pr0 h;go_enter Tryz.func43,Tryz.ntmps43;go_wp2_with fail;refine(Qce r A cap L hl (some i) _ HC0.out.cu).mono ?_;rintro e w1 ⟨rfl,o1,h1⟩;have hn1:nV (Q1 L i)<=2147483647:=Qf2 L _;have hv1:nV (nS L (some i))=nV (Q1 L i):=rfl;rw[hv1];clear hv1;have p1:Blk w1 (w.heap.size+1) 26 Qah:=Hpx0.out.only o1 (by omega);have g1:=Hpr0.out.only o1 (by omega);have d1:w1.cell? ⟨w.heap.size+1,0,none⟩=some (.int .i64 0):=p1.cell (i:=0) rfl;have f1:=p1.thaw 0;have q1' :=p1.lt;have Hpx1:Hid (Blk (w1.setCell ⟨w.heap.size+1,0,none⟩ (Value.int .i64 (nV (Q1 L i):Int))) (w.heap.size+1) 26 #[Value.int .i64 (nV (Q1 L i):Int),.int .i64 0,.int .i64 0,.int .i64 0,.slice none 0 0,.string ⟨#[]⟩]):=hidP (p1.setAt 0 (Value.int .i64 (nV (Q1 L i):Int)));have Hpr1:=hidP (g1.other (show w.heap.size≠w.heap.size+1 by omega) 0 (Value.int .i64 (nV (Q1 L i):Int)));have HC1:=hidP ((HC0.out.call o1 (show CuO w1 r A cap L (nO (Q1 L i))from h1)).offp (Offp.of_only ((Only.refl (w.heap.size+1) w1).set 0 (Value.int .i64 (nV (Q1 L i):Int)))) (fun x e=>by subst e;omega));clear o1 h1 p1 g1 HC0 Hpx0 Hpr0;go_wp2_with fail;refine(Qce r A cap L hl (nO (Q1 L i)) _ HC1.out.cu).mono ?_;rintro e w2 ⟨rfl,o2,h2⟩;have hn2:nV (Q2 L i)<=2147483647:=Qf2 L _;have hv2:nV (nS L (nO (Q1 L i)))=nV (Q2 L i):=rfl;rw[hv2];clear hv2;have p2:Blk w2 (w.heap.size+1) 26 #[Value.int .i64 (nV (Q1 L i):Int),.int .i64 0,.int .i64 0,.int .i64 0,.slice none 0 0,.string ⟨#[]⟩]:=Hpx1.out.only o2 (by omega);have g2:=Hpr1.out.only o2 (by omega)
 have d2:w2.cell? ⟨w.heap.size+1,1,none⟩=some (.int .i64 0):=p2.cell (i:=1) rfl;have f2:=p2.thaw 1;have q2' :=p2.lt;have Hpx2:Hid (Blk (w2.setCell ⟨w.heap.size+1,1,none⟩ (Value.int .i64 (nV (Q2 L i):Int))) (w.heap.size+1) 26 #[Value.int .i64 (nV (Q1 L i):Int),Value.int .i64 (nV (Q2 L i):Int),.int .i64 0,.int .i64 0,.slice none 0 0,.string ⟨#[]⟩]):=hidP (p2.setAt 1 (Value.int .i64 (nV (Q2 L i):Int)));have Hpr2:=hidP (g2.other (show w.heap.size≠w.heap.size+1 by omega) 1 (Value.int .i64 (nV (Q2 L i):Int)));have HC2:=hidP ((HC1.out.call o2 (show CuO w2 r A cap L (nO (Q2 L i))from h2)).offp (Offp.of_only ((Only.refl (w.heap.size+1) w2).set 1 (Value.int .i64 (nV (Q2 L i):Int)))) (fun x e=>by subst e;omega));clear o2 h2 p2 g2 HC1 Hpx1 Hpr1 d1 f1 q1';go_wp2_with fail;refine(Qce r A cap L hl (nO (Q2 L i)) _ HC2.out.cu).mono ?_;rintro e w3 ⟨rfl,o3,h3⟩;have hn3:nV (Q3 L i)<=2147483647:=Qf2 L _;have hv3:nV (nS L (nO (Q2 L i)))=nV (Q3 L i):=rfl;rw[hv3];clear hv3;have p3:Blk w3 (w.heap.size+1) 26 #[Value.int .i64 (nV (Q1 L i):Int),Value.int .i64 (nV (Q2 L i):Int),.int .i64 0,.int .i64 0,.slice none 0 0,.string ⟨#[]⟩]:=Hpx2.out.only o3 (by omega);have g3:=Hpr2.out.only o3 (by omega);have d3:w3.cell? ⟨w.heap.size+1,2,none⟩=some (.int .i64 0):=p3.cell (i:=2) rfl;have f3:=p3.thaw 2;have q3' :=p3.lt;have Hpx3:Hid (Blk (w3.setCell ⟨w.heap.size+1,2,none⟩ (Value.int .i64 ((nV (Q3 L i):Int) - 1))) (w.heap.size+1) 26 #[Value.int .i64 (nV (Q1 L i):Int),Value.int .i64 (nV (Q2 L i):Int),Value.int .i64 ((nV (Q3 L i):Int) - 1),.int .i64 0,.slice none 0 0,.string ⟨#[]⟩]):=hidP (p3.setAt 2 (Value.int .i64 ((nV (Q3 L i):Int) - 1)));have Hpr3:=hidP (g3.other (show w.heap.size≠w.heap.size+1 by omega) 2 (Value.int .i64 ((nV (Q3 L i):Int) - 1)))
 have HC3:=hidP ((HC2.out.call o3 (show CuO w3 r A cap L (nO (Q3 L i))from h3)).offp (Offp.of_only ((Only.refl (w.heap.size+1) w3).set 2 (Value.int .i64 ((nV (Q3 L i):Int) - 1)))) (fun x e=>by subst e;omega));clear o3 h3 p3 g3 HC2 Hpx2 Hpr2 d2 f2 q2';go_wp2_with fail;refine(Qce r A cap L hl (nO (Q3 L i)) _ HC3.out.cu).mono ?_;rintro e w4 ⟨rfl,o4,h4⟩;have hn4:nV (Q4 L i)<=2147483647:=Qf2 L _;have hv4:nV (nS L (nO (Q3 L i)))=nV (Q4 L i):=rfl;rw[hv4];clear hv4;have p4:Blk w4 (w.heap.size+1) 26 #[Value.int .i64 (nV (Q1 L i):Int),Value.int .i64 (nV (Q2 L i):Int),Value.int .i64 ((nV (Q3 L i):Int) - 1),.int .i64 0,.slice none 0 0,.string ⟨#[]⟩]:=Hpx3.out.only o4 (by omega);have g4:=Hpr3.out.only o4 (by omega);have d4:w4.cell? ⟨w.heap.size+1,3,none⟩=some (.int .i64 0):=p4.cell (i:=3) rfl;have f4:=p4.thaw 3;have q4' :=p4.lt;have Hpx4:Hid (Blk (w4.setCell ⟨w.heap.size+1,3,none⟩ (Value.int .i64 (nV (Q4 L i):Int))) (w.heap.size+1) 26 #[Value.int .i64 (nV (Q1 L i):Int),Value.int .i64 (nV (Q2 L i):Int),Value.int .i64 ((nV (Q3 L i):Int) - 1),Value.int .i64 (nV (Q4 L i):Int),.slice none 0 0,.string ⟨#[]⟩]):=hidP (p4.setAt 3 (Value.int .i64 (nV (Q4 L i):Int)));have Hpr4:=hidP (g4.other (show w.heap.size≠w.heap.size+1 by omega) 3 (Value.int .i64 (nV (Q4 L i):Int)));have HC4:=hidP ((HC3.out.call o4 (show CuO w4 r A cap L (nO (Q4 L i))from h4)).offp (Offp.of_only ((Only.refl (w.heap.size+1) w4).set 3 (Value.int .i64 (nV (Q4 L i):Int)))) (fun x e=>by subst e;omega));clear o4 h4 p4 g4 HC3 Hpx3 Hpr3 d3 f3 q3';go_wp2_with fail;refine(Qce r A cap L hl (nO (Q4 L i)) _ HC4.out.cu).mono ?_;rintro e w5 ⟨rfl,o5,h5⟩;have hn5:nV (Q5 L i)<=2147483647:=Qf2 L _;have hv5:nV (nS L (nO (Q4 L i)))=nV (Q5 L i):=rfl;rw[hv5];clear hv5;have Hpx5:=hidP (Hpx4.out.only o5 (by omega))
 have Hpr5:=hidP (Hpr4.out.only o5 (by omega));have HC5:=hidP (HC4.out.call o5 (show CuO w5 r A cap L (nO (Q5 L i))from h5));have HL0:=hidP (LkE.start L i);have HO0:Hid (w5.ownsRow (w.heap.size+2) 57 9 (.slice none ([]:List En).length 0) ([]:List En).length (flat ([]:List En))):=hidP (World.ownsRow_nil _ _ _ _);clear o5 h5 HC4 Hpx4 Hpr4 d4 f4 q4';generalize nV (Q5 L i)=n at*;generalize nO (Q5 L i)=o5 at*;go_wp2
 go_loopw [5] (fun v4 W=>∃(k:Nat) (cp:Nat) (a:Option Addr) (xs:List En) (o:Option Int),v4= .int .i64 (k:Int)/\k<=n/\Hid (xs.length=k)/\Hid (CB w W r A cap L o)/\Hid (W.ownsRow (w.heap.size+2) 57 9 (.slice a xs.length cp) xs.length (flat xs))/\Hid (Blk W w.heap.size 26 Qah)/\Hid (Blk W (w.heap.size+1) 26 #[Value.int .i64 (nV (Q1 L i):Int),Value.int .i64 (nV (Q2 L i):Int),Value.int .i64 ((nV (Q3 L i):Int) - 1),Value.int .i64 (nV (Q4 L i):Int),.slice a xs.length cp,.string ⟨#[]⟩])/\Hid (LkE L (GLr L i) n k xs o)) (fun v4 _=>n - (intOf v4).toNat)
 case atStart=>exact⟨0,0,none,[],o5,rfl,by omega,rfl,HC5,HO0,Hpr5,Hpx5,HL0⟩
 case round=>
  clear HC5 HO0 Hpr5 Hpx5 HL0;obtain⟨k,cp,a,xs,o,rfl,hk,hxk,HC,HO,Hpr,Hpx,HLk⟩:=hrel;have hklen:=HLk.out.le;have hxl:Hid (xs.length<=2000000):=by show _<=_;have:=hxk.out;omega
  obtain⟨cok,crl⟩:=HC.out.ok;by_cases hent:k<n/\o.isSome=true
  . obtain⟨hkn,hos⟩:=hent;have hkn' :(k:Int)<(n:Int):=(by omega);obtain⟨c,rfl⟩:∃c:Nat,o=some (c:Int):=by
     rcases HLk.out with⟨c,e,_⟩|⟨e,_⟩
     . exact⟨c,e⟩
     . rw[e]at hos;cases hos
    have HLk' :=hidP (HLk.out.step hkn);have HCa:=hidP (HC.out.below (Qad (Below.refl _ wr) (.cells Qbe 57)));have pe0:=Blk.new wr 57 Qbe;have Hpe0:=hidP pe0;have HOa:=hidP (Qau HO.out (.cells Qbe 57));have Hpra:=hidP (Hpr.out.alloc (.cells Qbe 57));have Hpxa:=hidP (Hpx.out.alloc (.cells Qbe 57));have hob:Hid (∀y,(Value.slice a xs.length cp).ownBlock=some y->w.heap.size+2<=y/\y<wr.heap.size):=hidP (fun y hy=>HO.out.lt y hy);have hbw:w.heap.size+2<=wr.heap.size:=Hpx.out.lt;obtain⟨eb,heb⟩:∃eb,wr.heap.size=eb:=⟨_,rfl⟩
    clear pe0 hklen HLk HC HO Hpr Hpx;have cok' :wr.cell? ⟨r,2,none⟩=some (.bool true):=cok;clear cok;go_wp2_with fail;refine(Qce r A cap L hl (some (c:Int)) _ HCa.out.cu).mono ?_;rintro e w1 ⟨rfl,o1,h1⟩;rw[heb]at Hpe0 hob hbw;have ne1:eb≠r:=(by omega);have pe1:=Hpe0.out.only o1 ne1;have x0:nV (nS L (some (c:Int)))=((enOf L (some (c:Int))).term).toNat:=rfl;have HC1:=hidP (HCa.out.call o1 h1);have HO1:=hidP (Qbr HOa.out o1 (by omega));have Hpr1:=hidP (Hpra.out.only o1 (by omega));have Hpx1:=hidP (Hpxa.out.only o1 (by omega));have hnv:=Qf2 L (some (c:Int));have hd0:w1.cell? ⟨eb,0,none⟩=some (.int .i64 0):=pe1.cell (i:=0) rfl;have hf0:=pe1.thaw 0;have hq1:=pe1.lt;have xt:(enOf L (some (c:Int))).term=(nV (nS L (some (c:Int))):Int):=rfl;rw[← xt];have oz:=(Only.refl eb w1).set 0 (.int .i64 (enOf L (some (c:Int))).term);have kz:=Offp.of_only oz;have HC2:=hidP (HC1.out.offp kz (fun x e=>by subst e;omega));have HO2:=hidP (Qbc HO1.out kz (fun y hy e=>by have:=hob.out y hy;omega));have Hpr2:=hidP (Hpr1.out.offp kz (by show ¬_=_;omega));have Hpx2:=hidP (Hpx1.out.offp kz (by show ¬_=_;omega));have Hpe2:=hidP (pe1.setAt 0 (.int .i64 (enOf L (some (c:Int))).term));clear o1 h1 pe1 HC1 HO1 Hpr1 Hpx1 HCa HOa Hpra Hpxa Hpe0 oz kz x0 hnv;go_wp2_with fail;refine(Qok r A cap L hl hcap hcm (nO (nS L (some (c:Int)))) _ HC2.out.cu).mono ?_;rintro e w2 ⟨rfl,o2,h2⟩;have pe2:=Hpe2.out.only o2 ne1;have HC3:=hidP (HC2.out.call o2 (show CuO w2 r A cap L (enO L (some (c:Int)))from h2));have HO3:=hidP (Qbr HO2.out o2 (by omega));have Hpr3:=hidP (Hpr2.out.only o2 (by omega));have Hpx3:=hidP (Hpx2.out.only o2 (by omega))
    have xv:(cmOf L (nO (nS L (some (c:Int))))).v= .agg (Qab (enOf L (some (c:Int))).who (enOf L (some (c:Int))).seq (enOf L (some (c:Int))).op (enOf L (some (c:Int))).a (enOf L (some (c:Int))).b (enOf L (some (c:Int))).c (enOf L (some (c:Int))).key (enOf L (some (c:Int))).text):=rfl;rw[xv];clear xv xt;generalize enOf L (some (c:Int))=x at*;replace pe2:Blk w2 eb 57 (Qbg x.term 0 0 0 0 0 0 ⟨#[]⟩ ⟨#[]⟩):=pe2;have d1:w2.cell? ⟨eb,1,none⟩=some (.int .i64 0):=pe2.cell (i:=1) rfl;have f1:=pe2.thaw 1;have d2:w2.cell? ⟨eb,2,none⟩=some (.int .i64 0):=pe2.cell (i:=2) rfl;have f2:=pe2.thaw 2;have d3:w2.cell? ⟨eb,3,none⟩=some (.int .i64 0):=pe2.cell (i:=3) rfl;have f3:=pe2.thaw 3;have d4:w2.cell? ⟨eb,4,none⟩=some (.int .i64 0):=pe2.cell (i:=4) rfl;have f4:=pe2.thaw 4;have d5:w2.cell? ⟨eb,5,none⟩=some (.int .i64 0):=pe2.cell (i:=5) rfl;have f5:=pe2.thaw 5;have d6:w2.cell? ⟨eb,6,none⟩=some (.int .i64 0):=pe2.cell (i:=6) rfl;have f6:=pe2.thaw 6;have d7:w2.cell? ⟨eb,7,none⟩=some (.string ⟨#[]⟩):=pe2.cell (i:=7) rfl;have f7:=pe2.thaw 7;have d8:w2.cell? ⟨eb,8,none⟩=some (.string ⟨#[]⟩):=pe2.cell (i:=8) rfl;have f8:=pe2.thaw 8;have e0:w2.cell? ⟨eb,0,none⟩=some (.int .i64 x.term):=pe2.cell (i:=0) rfl;have hq2:=pe2.lt;have o8:=(((((((((Only.refl eb w2).set 1 (Value.int .i64 x.who)).set 2 (Value.int .i64 x.seq)).set 3 (Value.int .i64 x.op)).set 4 (Value.int .i64 x.a)).set 5 (Value.int .i64 x.b)).set 6 (Value.int .i64 x.c)).set 7 (Value.string x.key)).set 8 (Value.string x.text))
    have k8:=Offp.of_only o8;have HC4:=hidP (HC3.out.offp k8 (fun x e=>by subst e;omega));have HO4:=hidP (Qbc HO3.out k8 (fun y hy e=>by have:=hob.out y hy;omega));have Hpr4:=hidP (Hpr3.out.offp k8 (by show ¬_=_;omega));have Hpx4:=hidP (Hpx3.out.offp k8 (by show ¬_=_;omega));have Hpe4:Hid (Blk _ eb 57 #[Value.int .i64 x.term,Value.int .i64 x.who,Value.int .i64 x.seq,Value.int .i64 x.op,Value.int .i64 x.a,Value.int .i64 x.b,Value.int .i64 x.c,Value.string x.key,Value.string x.text]):=hidP ((((((((pe2.setAt 1 (Value.int .i64 x.who)).setAt 2 (Value.int .i64 x.seq)).setAt 3 (Value.int .i64 x.op)).setAt 4 (Value.int .i64 x.a)).setAt 5 (Value.int .i64 x.b)).setAt 6 (Value.int .i64 x.c)).setAt 7 (Value.string x.key)).setAt 8 (Value.string x.text));have hs8:((((((((w2.setCell ⟨eb,1,none⟩ (Value.int .i64 x.who)).setCell ⟨eb,2,none⟩ (Value.int .i64 x.seq)).setCell ⟨eb,3,none⟩ (Value.int .i64 x.op)).setCell ⟨eb,4,none⟩ (Value.int .i64 x.a)).setCell ⟨eb,5,none⟩ (Value.int .i64 x.b)).setCell ⟨eb,6,none⟩ (Value.int .i64 x.c)).setCell ⟨eb,7,none⟩ (Value.string x.key)).setCell ⟨eb,8,none⟩ (Value.string x.text)).heap.size=w2.heap.size:=(by simp);obtain⟨a2,c2,W9,hr,own9,k9,hby⟩:=Qtv HO4.out (by rw[hs8];have:=hq2;omega) x #[Value.int .i64 x.term,Value.int .i64 x.who,Value.int .i64 x.seq,Value.int .i64 x.op,Value.int .i64 x.a,Value.int .i64 x.b,Value.int .i64 x.c,Value.string x.key,Value.string x.text] rfl hxl.out;rw[hs8]at hr;have hne1:eb≠w.heap.size+1:=(by omega);have hne2:w.heap.size+1≠eb:=(by omega);have b4:w2.cell? ⟨w.heap.size+1,4,none⟩=some (.slice a (List.length xs) cp):=Hpx3.out.cell (i:=4) rfl;have qx:=Hpx3.out.lt
    have p9:=(Hpx4.out.alloc (.cells #[Value.int .i64 x.term,Value.int .i64 x.who,Value.int .i64 x.seq,Value.int .i64 x.op,Value.int .i64 x.a,Value.int .i64 x.b,Value.int .i64 x.c,Value.string x.key,Value.string x.text] 57)).offp k9 (fun e=>by have:=hby _ e;omega);have d9:W9.cell? ⟨w.heap.size+1,4,none⟩=some (.slice a (List.length xs) cp):=p9.cell (i:=4) rfl;have f9:=p9.thaw 4;have q9:=p9.lt;have kX:=Offp.of_only ((Only.refl (w.heap.size+1) W9).set 4 (.slice a2 (xs.length+1) c2));have HC10:=hidP (((HC4.out.below (Qad (Below.refl _ _) (.cells #[Value.int .i64 x.term,Value.int .i64 x.who,Value.int .i64 x.seq,Value.int .i64 x.op,Value.int .i64 x.a,Value.int .i64 x.b,Value.int .i64 x.c,Value.string x.key,Value.string x.text] 57))).offp k9 (fun y e=>by have:=hby y e;omega)).offp kX (fun y e=>by subst e;omega));have HO10:=hidP (Qbc own9 kX (fun y hy e=>by have:=own9.lt y hy;omega));have Hpr10:=hidP (((Hpr4.out.alloc (.cells #[Value.int .i64 x.term,Value.int .i64 x.who,Value.int .i64 x.seq,Value.int .i64 x.op,Value.int .i64 x.a,Value.int .i64 x.b,Value.int .i64 x.c,Value.string x.key,Value.string x.text] 57)).offp k9 (fun e=>by have:=hby _ e;omega)).offp kX (by show ¬_=_;omega));have Hpx10:=hidP (p9.setAt 4 (.slice a2 (xs.length+1) c2));have hxk2:Hid ((xs++ [x]).length=k+1):=(by show _=_;have:=hxk.out;simp;omega);have hln:(xs++ [x]).length=xs.length+1:=(by simp);rw[hln]at HO10;clear hs8 own9 k9 hby p9 kX HC4 HO4 Hpr4 Hpx4 Hpe4 HC3 HO3 Hpr3 Hpx3 HC2 HO2 Hpr2 Hpx2 Hpe2 o8 k8 pe2 o2 h2 heb hxl hxk cok' crl hob;go_wp2_with (at_builtin;refine Qac rfl _ _ _ rfl _ _ _ rfl rfl hr ?_);exact⟨⟨k+1,c2,a2,xs++ [x],enO L (some (c:Int)),by go_num,by omega,hxk2,HC10,by rw[hln];exact HO10,Hpr10,by rw[hln];exact Hpx10,HLk'⟩,by simp[intOf];omega⟩
  . have hG:Hid (GLr L i=o.map fun c=>(xs,c.toNat)):=by
     show _=_;by_cases hkn:k<n
     . have hos:o=none:=by
        cases o with
        |none=>rfl
        |some c=>exact absurd ⟨hkn,rfl⟩ hent
       subst hos;rw[HLk.out.stop];rfl
     . obtain rfl:k=n:=(by omega);exact HLk.out.end
    have hP:=hidP (Qtb HLk.out);have hor:(¬(k:Int)<(n:Int))∨((k:Int)<(n:Int)/\o.isSome=false):=by
     by_cases hkn:k<n
     . right
       refine⟨by omega,?_⟩;cases hos:o.isSome with
       |false=>rfl
       |true=>exact absurd ⟨hkn,hos⟩ hent
     . left;omega
    have HN:=hidP (Qs3 L i xs o hG.out hP.out);clear hent HLk hklen hxl hG hP;rcases hor with hkn|⟨hkn,hos⟩
    focus
     clear cok
    rotate_left
    focus
     rw[hos]at cok
    all_goals
     go_wp2_with fail;refine(Qfs r A cap L hl hcap hcm o _ HC.out.cu).mono ?_;rintro e w1 ⟨rfl,o1,h1⟩;have px1:=Hpx.out.only o1 (by omega);have pr1:=Hpr.out.only o1 (by omega);have own1:=Qbr HO.out o1 (by omega);have hc1:=HC.out.call o1 h1;have oB:=(Only.refl (w.heap.size+1) w1).set 5 (.string (tV (tS L o)));have e0:w1.cell? ⟨w.heap.size+1,0,none⟩=some (Value.int .i64 (nV (Q1 L i):Int)):=px1.cell (i:=0) rfl;have e1:w1.cell? ⟨w.heap.size+1,1,none⟩=some (Value.int .i64 (nV (Q2 L i):Int)):=px1.cell (i:=1) rfl;have e2:w1.cell? ⟨w.heap.size+1,2,none⟩=some (Value.int .i64 ((nV (Q3 L i):Int) - 1)):=px1.cell (i:=2) rfl;have e3:w1.cell? ⟨w.heap.size+1,3,none⟩=some (Value.int .i64 (nV (Q4 L i):Int)):=px1.cell (i:=3) rfl;have e4:w1.cell? ⟨w.heap.size+1,4,none⟩=some (Value.slice a (List.length xs) cp):=px1.cell (i:=4) rfl;have d5:w1.cell? ⟨w.heap.size+1,5,none⟩=some (.string ⟨#[]⟩):=px1.cell (i:=5) rfl;have f5:=px1.thaw 5;have qx:=px1.lt;have r0:w1.cell? ⟨w.heap.size,0,none⟩=some (.int .i64 0):=pr1.cell (i:=0) rfl;have z0:=pr1.thaw 0;have r1:w1.cell? ⟨w.heap.size,1,none⟩=some (.int .i64 0):=pr1.cell (i:=1) rfl;have z1:=pr1.thaw 1;have r2:w1.cell? ⟨w.heap.size,2,none⟩=some (.int .i64 0):=pr1.cell (i:=2) rfl;have z2:=pr1.thaw 2;have r3:w1.cell? ⟨w.heap.size,3,none⟩=some (.int .i64 0):=pr1.cell (i:=3) rfl;have z3:=pr1.thaw 3;have r4:w1.cell? ⟨w.heap.size,4,none⟩=some (.slice none 0 0):=pr1.cell (i:=4) rfl;have z4:=pr1.thaw 4;have r5:w1.cell? ⟨w.heap.size,5,none⟩=some (.string ⟨#[]⟩):=pr1.cell (i:=5) rfl;have z5:=pr1.thaw 5;have qr:=pr1.lt
     have oA:=(((((((Only.refl w.heap.size (w1.setCell ⟨w.heap.size+1,5,none⟩ (.string (tV (tS L o))))).set 0 (Value.int .i64 (nV (Q1 L i):Int))).set 1 (Value.int .i64 (nV (Q2 L i):Int))).set 2 (Value.int .i64 ((nV (Q3 L i):Int) - 1))).set 3 (Value.int .i64 (nV (Q4 L i):Int))).set 4 (Value.slice a (List.length xs) cp)).set 5 (Value.string (tV (tS L o))))
     have HCz:=hidP ((hc1.offp (Offp.of_only oB) (fun x e=>by subst e;omega)).offp (Offp.of_only oA) (fun x e=>by subst e;exact Nat.le_refl _));have HOz:=hidP (Qbr (Qbr own1 oB (by omega)) oA (by omega));clear px1 pr1 own1 hc1 oB oA o1 h1 HC HO Hpr Hpx;go_wp2;refine bodyPost_ret (v:= .agg #[Value.int .i64 (nV (Q1 L i):Int),Value.int .i64 (nV (Q2 L i):Int),Value.int .i64 ((nV (Q3 L i):Int) - 1),Value.int .i64 (nV (Q4 L i):Int),Value.slice a (List.length xs) cp,Value.string (tV (tS L o))]) (by simp[results,Tryz.results43,go_sem,r0,r1,r2,r3,r4,r5]) rfl ?_;exact⟨⟨(nV (Q1 L i):Int),(nV (Q2 L i):Int),(nV (Q3 L i):Int) - 1,(nV (Q4 L i):Int),xs,tV (tS L o)⟩,a,cp,tS L o,rfl,HCz.out.only,Qat HOz.out (by omega),HCz.out.cu,HN.out⟩
end Go.Proofs.YtajbldnhjpjghaaGreat.Gen
