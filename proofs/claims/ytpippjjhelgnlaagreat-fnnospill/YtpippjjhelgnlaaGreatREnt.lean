/-
  Entries read by the program's reader: one, many, a list with its count ahead. Condition: at most 1048576 bytes.
-/
import Derived.Test.YtpippjjhelgnlaaGreatDrawKR
set_option linter.unusedVariables false
set_option linter.unusedSimpArgs false
set_option maxRecDepth 100000
set_option maxHeartbeats 8000000
namespace Go.Proofs.YtpippjjhelgnlaaGreat.Gen
open ChangeShapes WideShapes ChangeAt RowKit Joins Deep Base
theorem Qgy {α:Type} {l:List UInt8} {q:Option (α × Nat)} {n c:Nat} (h:nS l (nO q)=some (n,c)):∃y d,q=some (y,d)/\getN l (d:Int)=some (n,c):=by
 cases q with
 |none=>cases h
 |some p=>exact⟨p.1,p.2,rfl,h⟩
theorem tS_some {α:Type} {l:List UInt8} {q:Option (α × Nat)} {n:ByteArray} {c:Nat} (h:tS l (nO q)=some (n,c)):∃y d,q=some (y,d)/\getT l (d:Int)=some (n,c):=by
 cases q with
 |none=>cases h
 |some p=>exact⟨p.1,p.2,rfl,h⟩
theorem getC_le' {l:List UInt8} {i:Int} {x:Cm} {c:Nat} (h:getC l i=some (x,c)):i<(c:Int)/\c<=l.length:=by
 unfold getC at h;cases e8:q8 l (some i)with
 |none=>rw[e8]at h;cases h
 |some p=>
 obtain⟨t8,c8⟩:=p;rw[e8]at h;simp only[Option.map_some,Option.some.injEq,Prod.mk.injEq]at h;obtain⟨_,rfl⟩:=h;obtain⟨y7,c7,e7,g8⟩:=tS_some e8;obtain⟨y6,c6,e6,g7⟩:=tS_some e7;obtain⟨y5,c5,e5,g6⟩:=Qgy e6;obtain⟨y4,c4,e4,g5⟩:=Qgy e5;obtain⟨y3,c3,e3,g4⟩:=Qgy e4;obtain⟨y2,c2,e2,g3⟩:=Qgy e3;obtain⟨y1,c1,e1,g2⟩:=Qgy e2;have g1:getN l i=some (y1,c1):=e1;have:=Qbk g1;have:=Qbk g2;have:=Qbk g3;have:=Qbk g4;have:=Qbk g5;have:=Qbk g6;have:=Qdm g7;have:=Qdm g8;omega
def Qbl (l:List UInt8) (i:Int):Option (En × Nat):=match getN l i with|none=>none|some (n1,c1)=>match getC l (c1:Int)with|none=>none|some (x2,c2)=>some (⟨(n1:Int),x2.who,x2.seq,x2.op,x2.a,x2.b,x2.c,x2.k,x2.t⟩,c2)
def isEnt (x:En) (v:Value) (_:World):Prop:=v= .agg (Qbr x.term x.who x.seq x.op x.a x.b x.c x.key x.text)
theorem Qfj {l:List UInt8} {i:Nat} {x:En} {c:Nat} (h:Qbl l (i:Int)=some (x,c)):i<c/\c<=l.length:=by
 unfold Qbl at h;cases hx1:getN l (i:Int)with
 |none=>simp[hx1]at h
 |some p1=>
 obtain⟨n1,c1⟩:=p1;have hl1:=Qbk hx1;cases hx2:getC l (c1:Int)with
 |none=>simp[hx1,hx2]at h
 |some p2=>
 obtain⟨x2,c2⟩:=p2;have hl2:=getC_le' hx2;simp[hx1,hx2]at h;omega
theorem Qkn (r:Nat) (A:Option Addr) (cap:Nat) (l:List UInt8) (i:Int) (hl:l.length<=1048576) (hcap:l.length<=cap) (hcm:cap<=9223372036854775807) (w:World) (h:Rd w r A cap l i):
 Calls Tryz.prog 186 #[.pointer (some ⟨r,0,none⟩)] w fun e w' =>Qfn isEnt r A cap l w e w' (Qbl l i):=by
 obtain⟨hr,hfar⟩:=h.far';have Hfar:Hid (l= []∨∀c o,A=some ⟨c,o,none⟩->c≠w.heap.size+1):=hidP (hfar.imp id fun h c o e=>by have:=h c o e;omega);have Hfar0:Hid (l= []∨∀c o,A=some ⟨c,o,none⟩->c≠w.heap.size):=hidP (hfar.imp id fun h c o e=>by have:=h c o e;omega);have px0:=Blk.new (w.alloc (.cells Qbb 112)) 112 Qbb;have pr0:=(Blk.new w 112 Qbb).alloc (.cells Qbb 112);simp only[World.size_alloc]at px0;have HC0:=hidP (h.below (Qad (Qad (Below.refl _ w) (.cells Qbb 112)) (.cells Qbb 112)));have HO0:Hid (Only r w ((w.alloc (.cells Qbb 112)).alloc (.cells Qbb 112))):=(Only.refl r w).below (Qad (Qad (Below.refl _ w) _) _);have Hpx0:=hidP px0;have Hpr0:=hidP pr0;clear px0 pr0 h hfar;go_enter Tryz.func186,Tryz.ntmps186;go_wp2_with fail;refine(Qbp r A cap l (i) hl _ HC0.out).mono ?_;intro e w1 h1;cases hx1:getN l (i)with
 |none=>
  have hN:Qbl l i=none:=by simp[Qbl,hx1]
  rw[hx1]at h1;obtain⟨o1,t,v,rfl⟩:=h1;refine⟨rfl,?_⟩;rw[hN];exact⟨Qaq HO0.out o1,t,v,rfl⟩
 |some x=>
 obtain⟨n1,c1⟩:=x;rw[hx1]at h1;obtain⟨o1,h1,v,rfl,rfl⟩:=h1;have hle1:=Qbk hx1;have p1:Blk w1 (w.heap.size+1) 112 Qbb:=Hpx0.out.only o1 (by omega);have g1:=Hpr0.out.only o1 (by omega);have d0:w1.cell? ⟨w.heap.size+1,0,none⟩=some (.int .i64 0):=p1.cell (i:=0) rfl;have f0:=p1.thaw 0;have q1' :=p1.lt;have Hpx1:Hid (Blk (w1.setCell ⟨w.heap.size+1,0,none⟩ (Value.int .i64 (n1:Int))) (w.heap.size+1) 112 #[Value.int .i64 (n1:Int),.int .i64 0,.int .i64 0,.int .i64 0,.int .i64 0,.int .i64 0,.int .i64 0,.string ⟨#[]⟩,.string ⟨#[]⟩]):=hidP (p1.setAt 0 (Value.int .i64 (n1:Int)));have Hpr1:=hidP (g1.other (show w.heap.size≠w.heap.size+1 by omega) 0 (Value.int .i64 (n1:Int)));have HC1:=hidP (h1.offp (Offp.of_only ((Only.refl (w.heap.size+1) w1).set 0 (Value.int .i64 (n1:Int)))) (by show r≠_;omega) Hfar.out);have HO1:=hidP (Qb8 (Qaq HO0.out o1) (Offp.of_only ((Only.refl (w.heap.size+1) w1).set 0 (Value.int .i64 (n1:Int)))) (fun x e=>by subst e;omega));clear o1 h1 p1 g1 HC0 HO0 Hpx0 Hpr0;go_wp2_with fail;refine(Qko r A cap l ((c1:Int)) hl hcap hcm _ HC1.out).mono ?_;intro e w2 h2;cases hx2:getC l ((c1:Int))with
 |none=>
  have hN:Qbl l i=none:=by simp[Qbl,hx1,hx2]
  rw[hx2]at h2;obtain⟨o2,t,v,rfl⟩:=h2;refine⟨rfl,?_⟩;rw[hN];exact⟨Qaq HO1.out o2,t,v,rfl⟩
 |some x=>
 obtain⟨x2,c2⟩:=x;rw[hx2]at h2;obtain⟨o2,h2,v,rfl,rfl⟩:=h2;have hle2:=getC_le' hx2;have p2:Blk w2 (w.heap.size+1) 112 #[Value.int .i64 (n1:Int),.int .i64 0,.int .i64 0,.int .i64 0,.int .i64 0,.int .i64 0,.int .i64 0,.string ⟨#[]⟩,.string ⟨#[]⟩]:=Hpx1.out.only o2 (by omega);have g2:=Hpr1.out.only o2 (by omega);have d1:w2.cell? ⟨w.heap.size+1,1,none⟩=some (.int .i64 0):=p2.cell (i:=1) rfl;have f1:=p2.thaw 1;have d2:w2.cell? ⟨w.heap.size+1,2,none⟩=some (.int .i64 0):=p2.cell (i:=2) rfl;have f2:=p2.thaw 2;have d3:w2.cell? ⟨w.heap.size+1,3,none⟩=some (.int .i64 0):=p2.cell (i:=3) rfl;have f3:=p2.thaw 3;have d4:w2.cell? ⟨w.heap.size+1,4,none⟩=some (.int .i64 0):=p2.cell (i:=4) rfl;have f4:=p2.thaw 4;have d5:w2.cell? ⟨w.heap.size+1,5,none⟩=some (.int .i64 0):=p2.cell (i:=5) rfl;have f5:=p2.thaw 5;have d6:w2.cell? ⟨w.heap.size+1,6,none⟩=some (.int .i64 0):=p2.cell (i:=6) rfl;have f6:=p2.thaw 6;have d7:w2.cell? ⟨w.heap.size+1,7,none⟩=some (.string ⟨#[]⟩):=p2.cell (i:=7) rfl;have f7:=p2.thaw 7;have d8:w2.cell? ⟨w.heap.size+1,8,none⟩=some (.string ⟨#[]⟩):=p2.cell (i:=8) rfl;have f8:=p2.thaw 8;have q2' :=p2.lt;have e0:w2.cell? ⟨w.heap.size+1,0,none⟩=some (Value.int .i64 (n1:Int)):=p2.cell (i:=0) rfl;have r0:w2.cell? ⟨w.heap.size,0,none⟩=some (.int .i64 0):=g2.cell (i:=0) rfl;have z0:=g2.thaw 0;have r1:w2.cell? ⟨w.heap.size,1,none⟩=some (.int .i64 0):=g2.cell (i:=1) rfl;have z1:=g2.thaw 1;have r2:w2.cell? ⟨w.heap.size,2,none⟩=some (.int .i64 0):=g2.cell (i:=2) rfl;have z2:=g2.thaw 2;have r3:w2.cell? ⟨w.heap.size,3,none⟩=some (.int .i64 0):=g2.cell (i:=3) rfl;have z3:=g2.thaw 3;have r4:w2.cell? ⟨w.heap.size,4,none⟩=some (.int .i64 0):=g2.cell (i:=4) rfl;have z4:=g2.thaw 4;have r5:w2.cell? ⟨w.heap.size,5,none⟩=some (.int .i64 0):=g2.cell (i:=5) rfl;have z5:=g2.thaw 5
 have r6:w2.cell? ⟨w.heap.size,6,none⟩=some (.int .i64 0):=g2.cell (i:=6) rfl;have z6:=g2.thaw 6;have r7:w2.cell? ⟨w.heap.size,7,none⟩=some (.string ⟨#[]⟩):=g2.cell (i:=7) rfl;have z7:=g2.thaw 7;have r8:w2.cell? ⟨w.heap.size,8,none⟩=some (.string ⟨#[]⟩):=g2.cell (i:=8) rfl;have z8:=g2.thaw 8;have qr:=g2.lt;have Hpx2:Hid (Blk ((((((((w2.setCell ⟨w.heap.size+1,1,none⟩ (Value.int .i64 x2.who)).setCell ⟨w.heap.size+1,2,none⟩ (Value.int .i64 x2.seq)).setCell ⟨w.heap.size+1,3,none⟩ (Value.int .i64 x2.op)).setCell ⟨w.heap.size+1,4,none⟩ (Value.int .i64 x2.a)).setCell ⟨w.heap.size+1,5,none⟩ (Value.int .i64 x2.b)).setCell ⟨w.heap.size+1,6,none⟩ (Value.int .i64 x2.c)).setCell ⟨w.heap.size+1,7,none⟩ (Value.string x2.k)).setCell ⟨w.heap.size+1,8,none⟩ (Value.string x2.t)) (w.heap.size+1) 112 #[Value.int .i64 (n1:Int),Value.int .i64 x2.who,Value.int .i64 x2.seq,Value.int .i64 x2.op,Value.int .i64 x2.a,Value.int .i64 x2.b,Value.int .i64 x2.c,Value.string x2.k,Value.string x2.t]):=hidP ((((((((p2.setAt 1 (Value.int .i64 x2.who)).setAt 2 (Value.int .i64 x2.seq)).setAt 3 (Value.int .i64 x2.op)).setAt 4 (Value.int .i64 x2.a)).setAt 5 (Value.int .i64 x2.b)).setAt 6 (Value.int .i64 x2.c)).setAt 7 (Value.string x2.k)).setAt 8 (Value.string x2.t))
 have Hpr2:=hidP ((((((((g2.other (show w.heap.size≠w.heap.size+1 by omega) 1 (Value.int .i64 x2.who)).other (show w.heap.size≠w.heap.size+1 by omega) 2 (Value.int .i64 x2.seq)).other (show w.heap.size≠w.heap.size+1 by omega) 3 (Value.int .i64 x2.op)).other (show w.heap.size≠w.heap.size+1 by omega) 4 (Value.int .i64 x2.a)).other (show w.heap.size≠w.heap.size+1 by omega) 5 (Value.int .i64 x2.b)).other (show w.heap.size≠w.heap.size+1 by omega) 6 (Value.int .i64 x2.c)).other (show w.heap.size≠w.heap.size+1 by omega) 7 (Value.string x2.k)).other (show w.heap.size≠w.heap.size+1 by omega) 8 (Value.string x2.t));have HC2:=hidP (h2.offp (Offp.of_only (((((((((Only.refl (w.heap.size+1) w2).set 1 (Value.int .i64 x2.who)).set 2 (Value.int .i64 x2.seq)).set 3 (Value.int .i64 x2.op)).set 4 (Value.int .i64 x2.a)).set 5 (Value.int .i64 x2.b)).set 6 (Value.int .i64 x2.c)).set 7 (Value.string x2.k)).set 8 (Value.string x2.t))) (by show r≠_;omega) Hfar.out);have HO2:=hidP (Qb8 (Qaq HO1.out o2) (Offp.of_only (((((((((Only.refl (w.heap.size+1) w2).set 1 (Value.int .i64 x2.who)).set 2 (Value.int .i64 x2.seq)).set 3 (Value.int .i64 x2.op)).set 4 (Value.int .i64 x2.a)).set 5 (Value.int .i64 x2.b)).set 6 (Value.int .i64 x2.c)).set 7 (Value.string x2.k)).set 8 (Value.string x2.t))) (fun x e=>by subst e;omega));clear o2 h2 p2 g2 HC1 HO1 Hpx1 Hpr1 d0 f0 q1';unfold Cm.v;have HOz:=hidP (Qb8 (HO2.out) (Offp.of_only ((((((((((Only.refl w.heap.size _).set 0 (Value.int .i64 (n1:Int))).set 1 (Value.int .i64 x2.who)).set 2 (Value.int .i64 x2.seq)).set 3 (Value.int .i64 x2.op)).set 4 (Value.int .i64 x2.a)).set 5 (Value.int .i64 x2.b)).set 6 (Value.int .i64 x2.c)).set 7 (Value.string x2.k)).set 8 (Value.string x2.t))) (fun x e=>by subst e;exact Nat.le_refl _))
 have HCz:=hidP (Rd.offp (HC2.out) (Offp.of_only ((((((((((Only.refl w.heap.size _).set 0 (Value.int .i64 (n1:Int))).set 1 (Value.int .i64 x2.who)).set 2 (Value.int .i64 x2.seq)).set 3 (Value.int .i64 x2.op)).set 4 (Value.int .i64 x2.a)).set 5 (Value.int .i64 x2.b)).set 6 (Value.int .i64 x2.c)).set 7 (Value.string x2.k)).set 8 (Value.string x2.t))) (by show r≠_;omega) Hfar0.out);have hN:Hid (Qbl l i=some (⟨(n1:Int),x2.who,x2.seq,x2.op,x2.a,x2.b,x2.c,x2.k,x2.t⟩,c2)):=hidP (by simp[Qbl,hx1,hx2]);clear HO2 HC2 Hpx2 Hpr2;go_wp2;refine bodyPost_ret (v:= .agg #[Value.int .i64 (n1:Int),Value.int .i64 x2.who,Value.int .i64 x2.seq,Value.int .i64 x2.op,Value.int .i64 x2.a,Value.int .i64 x2.b,Value.int .i64 x2.c,Value.string x2.k,Value.string x2.t]) (by simp[results,Tryz.results186,go_sem,r0,r1,r2,r3,r4,r5,r6,r7,r8]) rfl ?_;rw[hN.out];exact⟨HOz.out,HCz.out,_,rfl,rfl⟩
theorem Qhh (get:Int->Option (En × Nat)) (r:Nat) (A:Option Addr) (cap:Nat) (l:List UInt8) (hl:l.length<=1048576) (hget:∀(i:Nat) x c,get (i:Int)=some (x,c)->i<c/\c<=l.length)
 (HF:∀(i:Nat) (W:World),Rd W r A cap l (i:Int)->Calls Tryz.prog 186 #[.pointer (some ⟨r,0,none⟩)] W fun e w' =>Qfn isEnt r A cap l W e w' (get (i:Int))) (n:Nat) (hn:n<=2147483647) (c0:Nat) (w:World) (h:Rd w r A cap l (c0:Int)):
 Calls Tryz.prog 204 #[.pointer (some ⟨r,0,none⟩),.int .i64 (n:Int),.func (.func 186) #[] #[]] w fun e w' =>Qfn (isList 112 w.heap.size) r A cap l w e w' (Qbc get n c0):=by
 have Hget:=hidP hget;have HF' :=hidP HF;obtain⟨hr,hfar⟩:=h.far';have K0:Hid (RL (α:=En) 112 w w r A cap l c0 (.slice none 0 0) []):=⟨h,Only.refl _ _,World.ownsRow_nil _ _ _ _,hr,hfar⟩
 clear h hget HF hr hfar;go_enter Tryz.func204,Tryz.ntmps204;go_wp2
 go_loopw [7,9] (fun v i W=>∃(k c cp:Nat) (a:Option Addr) (xs:List En),i= .int .i64 (k:Int)/\v= .slice a (List.length xs) cp/\k<=n/\Hid (xs.length=k/\(k=0∨k<=c/\c<=l.length))/\Hid (RL 112 w W r A cap l c (.slice a xs.length cp) xs)/\Hid (Qbc get n c0=Qf8 xs (Qbc get (n - k) c))) (fun _ i _=>n - (intOf i).toNat)
 case atStart=>exact⟨0,c0,0,none,[],rfl,rfl,by omega,⟨rfl,.inl rfl⟩,K0,by show _=_;simp[Qf8]⟩
 case round=>
  clear K0;obtain⟨k,c,cp,a,xs,rfl,rfl,hk,hkc,KK,hm⟩:=hrel;by_cases hlt:k<n
  . have hlt' :(k:Int)<(n:Int):=(by omega);obtain⟨m,hm1⟩:∃m,n - k=m+1:=⟨n - k - 1,by omega⟩
    have hm2:Hid (n - (k+1)=m):=(by show _=_;omega);rw[hm1]at hm;clear hm1;go_wp2_with fail;refine(HF'.out c _ KK.out.rd).mono ?_;intro e w1 h1;cases hx:get (c:Int)with
    |none=>
     rw[hx]at h1;obtain⟨o1,t,v,rfl⟩:=h1;refine⟨rfl,?_⟩;rw[hm.out,Qjn xs hx];exact⟨Qaq KK.out.only o1,t,v,rfl⟩
    |some p=>
     obtain⟨x,d⟩:=p;rw[hx]at h1;obtain⟨o1,r1,v,rfl,rfl⟩:=h1;have hgd:=Hget.out c x d hx;have hxl:xs.length<=2000000:=(by have:=hkc.out;omega);obtain⟨a2,c2,W2,hr,K2⟩:=RL.app (P:=Tryz.prog) (z:= .agg Qbb) Tryz.underlying42 infoEn rfl (by decide) (by decide) KK.out o1 r1 x (Qbr x.term x.who x.seq x.op x.a x.b x.c x.key x.text) rfl hxl;have hm' :=hidP (hm.out.trans (Qjm xs hx));have hkc' :Hid ((xs++ [x]).length=k+1/\(k+1=0∨k+1<=d/\d<=l.length)):=by
      show _/\_;have:=hkc.out;exact⟨by simp;omega,.inr (by omega)⟩
     have K2' :Hid (RL 112 w W2 r A cap l d (.slice a2 (xs++ [x]).length c2) (xs++ [x])):=(by show RL _ _ _ _ _ _ _ _ _ _;rw[List.length_append];exact K2);clear KK K2 hm hkc o1 r1 hx hgd hxl;go_wp2_with (at_builtin;refine Qac rfl _ _ _ rfl _ _ _ rfl rfl hr ?_);exact⟨⟨k+1,d,c2,a2,xs++ [x],by go_num,by rw[List.length_append];rfl,by omega,hkc',K2',by show _=_;rw[hm2.out];exact hm'.out⟩,by simp[intOf];omega⟩
  . obtain rfl:k=n:=(by omega);go_wp2;go_ret;rw[hm.out,Nat.sub_self,many_end];exact⟨KK.out.only,KK.out.rd,_,rfl,a,cp,rfl,KK.out.own⟩
theorem Qhi (r:Nat) (A:Option Addr) (cap:Nat) (l:List UInt8) (i:Int) (hl:l.length<=1048576) (hcap:l.length<=cap) (hcm:cap<=9223372036854775807) (w:World) (h:Rd w r A cap l i):
 Calls Tryz.prog 185 #[.pointer (some ⟨r,0,none⟩),.func (.func 186) #[] #[]] w fun e w' =>Qfn (isList 112 w.heap.size) r A cap l w e w' (Qbx l (Qbl l) i):=by
 have HC:=hidP h;clear h;go_enter Tryz.func185,Tryz.ntmps185;go_wp2_with fail;refine(Qbp r A cap l i hl _ HC.out).mono ?_;intro e w1 h1;cases hx1:getN l i with
 |none=>
  have hN:Qbx l (Qbl l) i=none:=by simp[Qbx,hx1]
  rw[hx1]at h1;obtain⟨o1,t,v,rfl⟩:=h1;refine⟨rfl,?_⟩;rw[hN];exact⟨o1,t,v,rfl⟩
 |some x=>
 obtain⟨n1,c1⟩:=x;rw[hx1]at h1;obtain⟨o1,h1,v,rfl,rfl⟩:=h1;have hle1:=Qbk hx1;have hN:Hid (Qbx l (Qbl l) i=Qbc (Qbl l) n1 c1):=hidP (by simp[Qbx,hx1]);have HC1:=hidP h1;have HO1:=hidP o1;clear h1 o1 HC hx1;go_wp2_with fail;refine(Qhh (Qbl l) r A cap l hl (fun i x c h=>Qfj h) (fun j W hW=>Qkn r A cap l (j:Int) hl hcap hcm W hW) n1 hle1.1 c1 _ HC1.out).mono ?_;intro e w2 h2;cases hx2:Qbc (Qbl l) n1 c1 with
 |none=>
  rw[hx2]at h2;obtain⟨o2,t,v,rfl⟩:=h2;refine⟨rfl,?_⟩;rw[hN.out,hx2];exact⟨Qaq HO1.out o2,t,v,rfl⟩
 |some x=>
 obtain⟨xs,c2⟩:=x;rw[hx2]at h2;obtain⟨o2,h2,v,rfl,hv⟩:=h2;have HC2:=hidP h2;have HO2:=hidP (Qaq HO1.out o2);have hv' :=hidP (hv.mono HO1.out.size);clear o2 h2 hv;go_wp2;refine bodyPost_ret (v:=v) (by simp[results,Tryz.results185,go_sem]) rfl ?_;rw[hN.out,hx2];exact⟨HO2.out,HC2.out,_,rfl,hv'.out⟩
end Go.Proofs.YtpippjjhelgnlaaGreat.Gen
