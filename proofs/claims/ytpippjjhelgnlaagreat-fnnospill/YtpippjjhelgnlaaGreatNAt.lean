/-
  The note that begins at a place, as the program tells it. Condition: at most 1048576 bytes.
-/
import Derived.Test.YtpippjjhelgnlaaGreatNS2
import Derived.Test.YtpippjjhelgnlaaGreatRNt
set_option linter.unusedVariables false
set_option linter.unusedSimpArgs false
set_option maxRecDepth 100000
set_option maxHeartbeats 8000000
namespace Go.Proofs.YtpippjjhelgnlaaGreat.Gen
open ChangeShapes WideShapes ChangeAt RowKit Joins Deep Base
def Nt.ok (x:Nt):Bool:=Qeg x.kind x.term x.vote x.prev x.l x.snap
def ofN (l:List UInt8) (i:Int):Option (Nt × Nat):=match Qd9 l i with
  |none=>none
  |some (L,c)=>match Qco L 0 with
    |none=>none
    |some (x,d)=>if d=L.length/\x.ok=true then some (x,c)else none
theorem Qg9 {α:Type} {get:Int->Option (α × Nat)} {P:α->Prop} (hget:∀(i:Nat) x c,get (i:Int)=some (x,c)->P x):∀(n c:Nat) {xs:List α} {d:Nat},Qbc get n c=some (xs,d)->∀x∈xs,P x
 |0,c,xs,d,h=>by
  simp only[Qbc,Option.some.injEq,Prod.mk.injEq]at h;obtain⟨rfl,rfl⟩:=h;simp
 |n+1,c,xs,d,h=>by
  simp only[Qbc]at h;cases hx:get (c:Int)with
  |none=>simp[hx]at h
  |some p=>
  obtain⟨x,e⟩:=p;simp only[hx]at h;cases hy:Qbc get n e with
  |none=>simp[hy]at h
  |some q=>
  obtain⟨ys,f⟩:=q;simp only[hy,Option.some.injEq,Prod.mk.injEq]at h;obtain⟨rfl,rfl⟩:=h;intro y hy';rcases List.mem_cons.1 hy' with e' |e'
  . subst e';exact hget _ _ _ hx
  . exact Qg9 hget n e hy y e'
theorem getEnt_fit {l:List UInt8} (hl:l.length<=1048576) {i:Nat} {x:En} {c:Nat} (h:Qbl l (i:Int)=some (x,c)):x.fit:=by
 unfold Qbl at h;cases hx1:getN l (i:Int)with
 |none=>simp[hx1]at h
 |some p1=>
 obtain⟨n1,c1⟩:=p1;cases hx2:getC l (c1:Int)with
 |none=>simp[hx1,hx2]at h
 |some p2=>
 obtain⟨x2,c2⟩:=p2;simp only[hx1,hx2,Option.some.injEq,Prod.mk.injEq]at h;obtain⟨rfl,_⟩:=h;unfold getC at hx2;cases hq:q8 l (some (c1:Int))with
 |none=>rw[hq]at hx2;cases hx2
 |some p=>
  rw[hq]at hx2;simp only[Option.map_some,Option.some.injEq,Prod.mk.injEq]at hx2;obtain⟨rfl,_⟩:=hx2;have h1:=tV_le l (nO (q6 l (some (c1:Int))));have h2:=tV_le l (nO (q7 l (some (c1:Int))));exact⟨Nat.le_trans h1 (by omega),Nat.le_trans h2 (by omega)⟩
theorem Qjx {l:List UInt8} (hl:l.length<=1048576) {i:Int} {x:Nt} {c:Nat} (h:Qco l i=some (x,c)):x.l.length<=1048576/\(∀y∈x.l,y.fit)/\x.snap.size<=1048576/\c<=l.length:=by
 unfold Qco at h;cases hx1:getN l i with
 |none=>simp[hx1]at h
 |some p1=>
 obtain⟨n1,c1⟩:=p1;cases hx2:getN l (c1:Int)with
 |none=>simp[hx1,hx2]at h
 |some p2=>
 obtain⟨n2,c2⟩:=p2;cases hx3:getN l (c2:Int)with
 |none=>simp[hx1,hx2,hx3]at h
 |some p3=>
 obtain⟨n3,c3⟩:=p3;cases hx4:getN l (c3:Int)with
 |none=>simp[hx1,hx2,hx3,hx4]at h
 |some p4=>
 obtain⟨n4,c4⟩:=p4;cases hx5:Qbx l (Qbl l) (c4:Int)with
 |none=>simp[hx1,hx2,hx3,hx4,hx5]at h
 |some p5=>
 obtain⟨s5,c5⟩:=p5;cases hx6:getT l (c5:Int)with
 |none=>simp[hx1,hx2,hx3,hx4,hx5,hx6]at h
 |some p6=>
 obtain⟨s6,c6⟩:=p6;simp only[hx1,hx2,hx3,hx4,hx5,hx6,Option.some.injEq,Prod.mk.injEq]at h;obtain⟨rfl,rfl⟩:=h;have h5:=Qhz (fun i x c h=>Qfj h) hx5;have h6:=Qdm hx6;refine⟨by show s5.length<=_;omega,?_,by show s6.size<=_;omega,h6.2.2.1⟩;unfold Qbx at hx5;cases hn:getN l (c4:Int)with
 |none=>simp[hn]at hx5
 |some p=>
 obtain⟨n,c⟩:=p;simp only[hn]at hx5;exact Qg9 (fun i x c h=>getEnt_fit hl h) n c hx5
theorem getNt_nil:Qco [] 0=none:=by
 unfold Qco;rw[getN_past (by simp)]
theorem noteAt_any (A:Option Addr) (cap:Nat) (l:List UInt8) (hl:l.length<=1048576) (hcap:l.length<=cap) (hcm:cap<=9223372036854775807) (i:Int) (hi:I64 i) (w:World) (hA:At w A l):
 Calls Tryz.prog 76 #[.slice A l.length cap,.int .i64 i] w fun e w' =>Below w.heap.size w w' /\
  ((∃x c aa cc,ofN l i=some (x,c)/\w'.ownsRow w.heap.size 112 (Cel.k En) (.slice aa (List.length x.l) cc) (List.length x.l) (flat x.l)/\e= .returned (.tuple #[.agg (Qah x.kind x.term x.vote x.prev aa (List.length x.l) cc x.snap),.int .i64 (c:Int),.nilIface]))∨(ofN l i=none/\e= .returned (.tuple #[.agg Qai,.int .i64 0,.iface 207 (.agg #[.int .i64 i])]))):=by
 have hbl:=Qad (Below.refl _ w) (.cells Qai 44);have p0:=Blk.new w 44 Qai;have hR:=hidP (Qi3 (Qd9 l i) 144 #[] A cap l i hi (w.alloc (.cells Qai 44)) (hA.below hbl) (fun p W=>by simp[go_sem]) (fun W r _ _ _ hrd=>Qkl r A cap l i hl hcap hcm W hrd));have Hp0:=hidP p0;have Hbl:=hidP hbl;clear hA p0 hbl;go_enter Tryz.func76,Tryz.ntmps76;go_wp2_with fail;refine hR.out.mono ?_;rintro e w1 ⟨g1,h1⟩;have P1:=hidP (Hp0.out.below g1 Hp0.out.lt);have B1:=hidP (via0 g1 Hbl.out);clear g1 hR Hp0 Hbl;rcases h1 with⟨L,c,bb,cc,hg,hby,rfl⟩|⟨hg,rfl⟩
 . obtain⟨b',c',e',hb1,hb2,hb3,hb4,hb5⟩:=hby;simp only[Value.slice.injEq,Option.some.injEq,Addr.mk.injEq,and_true]at e';obtain⟨rfl,_,rfl⟩:=e';have hfl:=getFr_le hg;have hatL:At w1 (some ⟨bb,0,none⟩) L:= .inr ⟨_,_,rfl,hb2,hb3⟩;have hR2:=hidP (Qgp (Qco L 0) 146 #[] (some ⟨bb,0,none⟩) cc L 0 ⟨by omega,by omega⟩ w1 hatL (fun p W=>by simp[go_sem]) (fun W r hrd=>Qht r (some ⟨bb,0,none⟩) cc L 0 (by omega) hb4 hb5 W hrd));have Hg:=hidP hg;clear hb1 hb2 hb3 hb4 hb5 hatL hg;go_wp2_with fail;refine hR2.out.mono ?_;rintro e w2 ⟨g2,h2⟩;have p:=P1.out.below g2 P1.out.lt;have HB:=hidP (via0 g2 B1.out);clear hR2;rcases h2 with⟨x,d,aa,cc2,hx,hown,rfl⟩|⟨hx,rfl⟩
   . obtain⟨f1,f2,f3,f4⟩:=Qjx (by omega) hx;have hat2:=(Qa0 (α:=En) hown).at;have HP:=hidP p;have q2:=p.lt;have hO:Hid (ofN l i=if d=L.length/\x.ok=true then some (x,c)else none):=(by show _=_;simp[ofN,Hg.out,hx]);have HOw:=hidP (Qaz (C:=w.heap.size+1) hown P1.out.lt);have Hat:=hidP hat2;have Hf2:=hidP f2;clear hown hat2 p g2 hx f2;by_cases hd:d=L.length
     . subst hd;have hO1:Hid (ofN l i=if x.ok=true then some (x,c)else none):=(by show _=_;rw[hO.out];simp);have hI:=hidP (fun W (h:At W aa x.l)=>Qex x.kind x.term x.vote x.prev x.snap (by omega) aa cc2 x.l (by omega) Hf2.out W h);clear hO;go_wp2_with fail;refine(hI.out _ (Hat.out.below (Qad (Below.refl _ _) _))).mono ?_;rintro e w3 ⟨rfl,g3⟩;have g23:Below w2.heap.size w2 w3:=via0 g3 (Qad (Below.refl _ _) _);have p:=HP.out.below g23 HP.out.lt;have x3:=(Blk.new w2 44 (Qah x.kind x.term x.vote x.prev aa (List.length x.l) cc2 x.snap)).below g3 (by simp);replace HB:=hidP (via0 g23 HB.out);replace HOw:=hidP (Qav HOw.out g23);have hsx:w.heap.size<w2.heap.size:=HP.out.lt;clear g3 g23 HP Hat hI;have hbx:Qeg x.kind x.term x.vote x.prev x.l x.snap=x.ok:=rfl;rw[hbx];have rr0:w3.cell? ⟨w.heap.size,0,none⟩=some (.int .i64 0):=p.cell (i:=0) rfl;have zz0:=p.thaw 0;have rr1:w3.cell? ⟨w.heap.size,1,none⟩=some (.int .i64 0):=p.cell (i:=1) rfl;have zz1:=p.thaw 1;have rr2:w3.cell? ⟨w.heap.size,2,none⟩=some (.int .i64 0):=p.cell (i:=2) rfl;have zz2:=p.thaw 2;have rr3:w3.cell? ⟨w.heap.size,3,none⟩=some (.int .i64 0):=p.cell (i:=3) rfl;have zz3:=p.thaw 3;have rr4:w3.cell? ⟨w.heap.size,4,none⟩=some (.slice none 0 0):=p.cell (i:=4) rfl;have zz4:=p.thaw 4;have rr5:w3.cell? ⟨w.heap.size,5,none⟩=some (.string ⟨#[]⟩):=p.cell (i:=5) rfl;have zz5:=p.thaw 5;have qs:=p.lt;cases hok:x.ok with
       |true=>
        have HN:Hid (ofN l i=some (x,c)):=(by show _=_;rw[hO1.out,hok];rfl);have k0:w3.cell? ⟨w2.heap.size,0,none⟩=some (.int .i64 x.kind):=x3.cell (i:=0) rfl;have k1:w3.cell? ⟨w2.heap.size,1,none⟩=some (.int .i64 x.term):=x3.cell (i:=1) rfl;have k2:w3.cell? ⟨w2.heap.size,2,none⟩=some (.int .i64 x.vote):=x3.cell (i:=2) rfl;have k3:w3.cell? ⟨w2.heap.size,3,none⟩=some (.int .i64 x.prev):=x3.cell (i:=3) rfl;have k4:w3.cell? ⟨w2.heap.size,4,none⟩=some (.slice aa (List.length x.l) cc2):=x3.cell (i:=4) rfl;have k5:w3.cell? ⟨w2.heap.size,5,none⟩=some (.string x.snap):=x3.cell (i:=5) rfl;have qx:=x3.lt;have oo:=(((((((Only.refl (w.heap.size) w3).set 0 (.int .i64 x.kind)).set 1 (.int .i64 x.term)).set 2 (.int .i64 x.vote)).set 3 (.int .i64 x.prev)).set 4 (.slice aa (List.length x.l) cc2)).set 5 (.string x.snap))
        have HBz:=hidP (HB.out.trans (oo.toBelow (Nat.le_refl _) HB.out.size));have HOz:=hidP (Qbm (B:=w.heap.size+1) (HOw.out) oo (by omega));clear oo;go_wp2;refine bodyPost_ret (v:= .tuple #[.agg (Qah x.kind x.term x.vote x.prev aa (List.length x.l) cc2 x.snap),.int .i64 (c:Int),.nilIface]) (by simp[results,Tryz.results76,go_sem,rr0,rr1,rr2,rr3,rr4,rr5]) rfl ⟨HBz.out,.inl ⟨x,c,aa,cc2,HN.out,Qaz HOz.out (by omega),rfl⟩⟩
       |false=>
        have HN:Hid (ofN l i=none):=(by show _=_;rw[hO1.out,hok];rfl);go_wp2;refine bodyPost_ret (v:= .tuple #[.agg Qai,.int .i64 0,.iface 207 (.agg #[.int .i64 i])]) (by simp[results,Tryz.results76,go_sem,rr0,rr1,rr2,rr3,rr4,rr5]) rfl ⟨HB.out.trans ((((((((Only.refl (w.heap.size) w3).set 0 (.int .i64 0)).set 1 (.int .i64 0)).set 2 (.int .i64 0)).set 3 (.int .i64 0)).set 4 (.slice none 0 0)).set 5 (.string ⟨#[]⟩)).toBelow (Nat.le_refl _) HB.out.size),.inr ⟨HN.out,rfl⟩⟩
     . have HN:Hid (ofN l i=none):=(by show _=_;rw[hO.out,if_neg (fun h=>hd h.1)]);have hd' :¬((d:Int)=(L.length:Int)):=(by omega);have p:=HP.out.alloc (.cells (Qah x.kind x.term x.vote x.prev aa (List.length x.l) cc2 x.snap) 44);have HB2:Hid (Below w.heap.size w (w2.alloc (.cells (Qah x.kind x.term x.vote x.prev aa (List.length x.l) cc2 x.snap) 44))):=hidP (Qad HB.out _);clear HB;have HB:=HB2;have rr0:(w2.alloc (.cells (Qah x.kind x.term x.vote x.prev aa (List.length x.l) cc2 x.snap) 44)).cell? ⟨w.heap.size,0,none⟩=some (.int .i64 0):=p.cell (i:=0) rfl;have zz0:=p.thaw 0;have rr1:(w2.alloc (.cells (Qah x.kind x.term x.vote x.prev aa (List.length x.l) cc2 x.snap) 44)).cell? ⟨w.heap.size,1,none⟩=some (.int .i64 0):=p.cell (i:=1) rfl;have zz1:=p.thaw 1;have rr2:(w2.alloc (.cells (Qah x.kind x.term x.vote x.prev aa (List.length x.l) cc2 x.snap) 44)).cell? ⟨w.heap.size,2,none⟩=some (.int .i64 0):=p.cell (i:=2) rfl;have zz2:=p.thaw 2;have rr3:(w2.alloc (.cells (Qah x.kind x.term x.vote x.prev aa (List.length x.l) cc2 x.snap) 44)).cell? ⟨w.heap.size,3,none⟩=some (.int .i64 0):=p.cell (i:=3) rfl;have zz3:=p.thaw 3;have rr4:(w2.alloc (.cells (Qah x.kind x.term x.vote x.prev aa (List.length x.l) cc2 x.snap) 44)).cell? ⟨w.heap.size,4,none⟩=some (.slice none 0 0):=p.cell (i:=4) rfl;have zz4:=p.thaw 4;have rr5:(w2.alloc (.cells (Qah x.kind x.term x.vote x.prev aa (List.length x.l) cc2 x.snap) 44)).cell? ⟨w.heap.size,5,none⟩=some (.string ⟨#[]⟩):=p.cell (i:=5) rfl;have zz5:=p.thaw 5;have qs:=p.lt;clear hO HOw Hat Hf2 HP HB2 q2;go_wp2;refine bodyPost_ret (v:= .tuple #[.agg Qai,.int .i64 0,.iface 207 (.agg #[.int .i64 i])]) (by simp[results,Tryz.results76,go_sem,rr0,rr1,rr2,rr3,rr4,rr5]) rfl ⟨?_,.inr ⟨HN.out,rfl⟩⟩
       exact HB.out.trans ((((((((Only.refl (w.heap.size) _).set 0 (.int .i64 0)).set 1 (.int .i64 0)).set 2 (.int .i64 0)).set 3 (.int .i64 0)).set 4 (.slice none 0 0)).set 5 (.string ⟨#[]⟩)).toBelow (Nat.le_refl _) HB.out.size)
   . have HN:Hid (ofN l i=none):=(by show _=_;simp[ofN,Hg.out,hx]);have p:=(P1.out.below g2 P1.out.lt).alloc (.cells Qai 44);have HB2:Hid (Below w.heap.size w (w2.alloc (.cells Qai 44))):=hidP (Qad HB.out _);clear HB;have HB:=HB2;have rr0:(w2.alloc (.cells Qai 44)).cell? ⟨w.heap.size,0,none⟩=some (.int .i64 0):=p.cell (i:=0) rfl;have zz0:=p.thaw 0;have rr1:(w2.alloc (.cells Qai 44)).cell? ⟨w.heap.size,1,none⟩=some (.int .i64 0):=p.cell (i:=1) rfl;have zz1:=p.thaw 1;have rr2:(w2.alloc (.cells Qai 44)).cell? ⟨w.heap.size,2,none⟩=some (.int .i64 0):=p.cell (i:=2) rfl;have zz2:=p.thaw 2;have rr3:(w2.alloc (.cells Qai 44)).cell? ⟨w.heap.size,3,none⟩=some (.int .i64 0):=p.cell (i:=3) rfl;have zz3:=p.thaw 3;have rr4:(w2.alloc (.cells Qai 44)).cell? ⟨w.heap.size,4,none⟩=some (.slice none 0 0):=p.cell (i:=4) rfl;have zz4:=p.thaw 4;have rr5:(w2.alloc (.cells Qai 44)).cell? ⟨w.heap.size,5,none⟩=some (.string ⟨#[]⟩):=p.cell (i:=5) rfl;have zz5:=p.thaw 5;have qs:=p.lt;clear HB2 g2 hx;go_wp2;refine bodyPost_ret (v:= .tuple #[.agg Qai,.int .i64 0,.iface 207 (.agg #[.int .i64 i])]) (by simp[results,Tryz.results76,go_sem,rr0,rr1,rr2,rr3,rr4,rr5]) rfl ⟨?_,.inr ⟨HN.out,rfl⟩⟩;exact HB.out.trans ((((((((Only.refl (w.heap.size) _).set 0 (.int .i64 0)).set 1 (.int .i64 0)).set 2 (.int .i64 0)).set 3 (.int .i64 0)).set 4 (.slice none 0 0)).set 5 (.string ⟨#[]⟩)).toBelow (Nat.le_refl _) HB.out.size)
 . have HN:Hid (ofN l i=none):=(by show _=_;simp[ofN,hg]);have hR2:=hidP (Qgp (Qco [] 0) 146 #[] none 0 [] 0 ⟨by omega,by omega⟩ w1 (.inl rfl) (fun p W=>by simp[go_sem]) (fun W r hrd=>Qht r none 0 [] 0 (by simp) (by simp) (by omega) W hrd));clear hg;go_wp2_with fail;refine hR2.out.mono ?_;rintro e w2 ⟨g2,h2⟩;rcases h2 with⟨x,d,aa,cc2,hx,hown,rfl⟩|⟨hx,rfl⟩
   . rw[getNt_nil]at hx;cases hx
   have p:=(P1.out.below g2 P1.out.lt).alloc (.cells Qai 44);have HB2:Hid (Below w.heap.size w (w2.alloc (.cells Qai 44))):=hidP (Qad (via0 g2 B1.out) _);have HB:=HB2;have rr0:(w2.alloc (.cells Qai 44)).cell? ⟨w.heap.size,0,none⟩=some (.int .i64 0):=p.cell (i:=0) rfl;have zz0:=p.thaw 0;have rr1:(w2.alloc (.cells Qai 44)).cell? ⟨w.heap.size,1,none⟩=some (.int .i64 0):=p.cell (i:=1) rfl;have zz1:=p.thaw 1;have rr2:(w2.alloc (.cells Qai 44)).cell? ⟨w.heap.size,2,none⟩=some (.int .i64 0):=p.cell (i:=2) rfl;have zz2:=p.thaw 2;have rr3:(w2.alloc (.cells Qai 44)).cell? ⟨w.heap.size,3,none⟩=some (.int .i64 0):=p.cell (i:=3) rfl;have zz3:=p.thaw 3;have rr4:(w2.alloc (.cells Qai 44)).cell? ⟨w.heap.size,4,none⟩=some (.slice none 0 0):=p.cell (i:=4) rfl;have zz4:=p.thaw 4;have rr5:(w2.alloc (.cells Qai 44)).cell? ⟨w.heap.size,5,none⟩=some (.string ⟨#[]⟩):=p.cell (i:=5) rfl;have zz5:=p.thaw 5;have qs:=p.lt;clear HB2 g2 hx hR2;go_wp2;refine bodyPost_ret (v:= .tuple #[.agg Qai,.int .i64 0,.iface 207 (.agg #[.int .i64 i])]) (by simp[results,Tryz.results76,go_sem,rr0,rr1,rr2,rr3,rr4,rr5]) rfl ⟨?_,.inr ⟨HN.out,rfl⟩⟩;exact HB.out.trans ((((((((Only.refl (w.heap.size) _).set 0 (.int .i64 0)).set 1 (.int .i64 0)).set 2 (.int .i64 0)).set 3 (.int .i64 0)).set 4 (.slice none 0 0)).set 5 (.string ⟨#[]⟩)).toBelow (Nat.le_refl _) HB.out.size)
end Go.Proofs.YtpippjjhelgnlaaGreat.Gen
namespace Go.Proofs.YtpippjjhelgnlaaGreat.Gen
open ChangeShapes WideShapes ChangeAt RowKit Joins Deep Base
theorem Qey (A:Option Addr) (cap:Nat) (l:List UInt8) (hl:l.length<=1048576) (hcap:l.length<=cap) (hcm:cap<=9223372036854775807) (i:Int) (hi:I64 i) (w:World) (hA:At w A l):
 Calls Tryz.prog 25 #[.slice A l.length cap,.int .i64 i] w fun e w' =>Below w.heap.size w w' /\
  ((∃x c aa cc,ofN l i=some (x,c)/\w'.ownsRow w.heap.size 112 (Cel.k En) (.slice aa (List.length x.l) cc) (List.length x.l) (flat x.l)/\e= .returned (.tuple #[.agg (Qah x.kind x.term x.vote x.prev aa (List.length x.l) cc x.snap),.int .i64 (c:Int),.bool true]))∨(ofN l i=none/\e= .returned (.tuple #[.agg Qai,.int .i64 0,.bool false]))):=by
 have hbl:=Qad (Below.refl _ w) (.cells Qai 44);have p0:=Blk.new w 44 Qai;have hR:=hidP (noteAt_any A cap l hl hcap hcm i hi (w.alloc (.cells Qai 44)) (hA.below hbl));have Hp0:=hidP p0;have Hbl:=hidP hbl;clear hA p0 hbl;go_enter Tryz.func25,Tryz.ntmps25;go_wp2_with fail;refine hR.out.mono ?_;rintro e w1 ⟨g1,h1⟩;have P1:=hidP (Hp0.out.below g1 Hp0.out.lt);have B1:=hidP (via0 g1 Hbl.out);clear g1 hR Hbl;rcases h1 with⟨x,c,aa,cc,hg,hown,rfl⟩|⟨hg,rfl⟩
 . have HN:=hidP hg;have HOw0:=hidP (Qaz (C:=w.heap.size+1) hown (by simp));clear hown hg;have hlt1:w.heap.size<w1.heap.size:=P1.out.lt;have oo:=(((((((Only.refl (w.heap.size) w1).set 0 (.int .i64 x.kind)).set 1 (.int .i64 x.term)).set 2 (.int .i64 x.vote)).set 3 (.int .i64 x.prev)).set 4 (.slice aa (List.length x.l) cc)).set 5 (.string x.snap))
   have HBz:=hidP (Below.drew (Qad (B1.out.trans (oo.toBelow (Nat.le_refl _) B1.out.size)) (.cells (Qah x.kind x.term x.vote x.prev aa (List.length x.l) cc x.snap) 44)));have HOz:=hidP (Qav (Qaw (Qbm HOw0.out oo (by omega)) (.cells (Qah x.kind x.term x.vote x.prev aa (List.length x.l) cc x.snap) 44)) (Below.drew (Below.refl _ _)));clear HOw0;have rr0:w1.cell? ⟨w.heap.size,0,none⟩=some (.int .i64 0):=P1.out.cell (i:=0) rfl;have zz0:=P1.out.thaw 0;have rr1:w1.cell? ⟨w.heap.size,1,none⟩=some (.int .i64 0):=P1.out.cell (i:=1) rfl;have zz1:=P1.out.thaw 1;have rr2:w1.cell? ⟨w.heap.size,2,none⟩=some (.int .i64 0):=P1.out.cell (i:=2) rfl;have zz2:=P1.out.thaw 2;have rr3:w1.cell? ⟨w.heap.size,3,none⟩=some (.int .i64 0):=P1.out.cell (i:=3) rfl;have zz3:=P1.out.thaw 3;have rr4:w1.cell? ⟨w.heap.size,4,none⟩=some (.slice none 0 0):=P1.out.cell (i:=4) rfl;have zz4:=P1.out.thaw 4;have rr5:w1.cell? ⟨w.heap.size,5,none⟩=some (.string ⟨#[]⟩):=P1.out.cell (i:=5) rfl;have zz5:=P1.out.thaw 5;clear P1 B1 oo;go_wp2_with fail
   go_region
   go_wp2;exact bodyPost_ret (v:= .tuple #[.agg (Qah x.kind x.term x.vote x.prev aa (List.length x.l) cc x.snap),.int .i64 (c:Int),.bool true]) (by simp[results,Tryz.results25,go_sem,rr0,rr1,rr2,rr3,rr4,rr5,hlt1,Nat.ne_of_lt hlt1,Nat.ne_of_gt hlt1]) rfl ⟨HBz.out,.inl ⟨x,c,aa,cc,HN.out,Qaz HOz.out (by omega),rfl⟩⟩
 . have HN:=hidP hg;clear hg;have hlt1:w.heap.size<w1.heap.size:=P1.out.lt;have oo:=(((((((Only.refl (w.heap.size) w1).set 0 (.int .i64 0)).set 1 (.int .i64 0)).set 2 (.int .i64 0)).set 3 (.int .i64 0)).set 4 (.slice none 0 0)).set 5 (.string ⟨#[]⟩))
   have HBz:=hidP (Below.drew (Qad (B1.out.trans (oo.toBelow (Nat.le_refl _) B1.out.size)) (.cells Qai 44)));have rr0:w1.cell? ⟨w.heap.size,0,none⟩=some (.int .i64 0):=P1.out.cell (i:=0) rfl;have zz0:=P1.out.thaw 0;have rr1:w1.cell? ⟨w.heap.size,1,none⟩=some (.int .i64 0):=P1.out.cell (i:=1) rfl;have zz1:=P1.out.thaw 1;have rr2:w1.cell? ⟨w.heap.size,2,none⟩=some (.int .i64 0):=P1.out.cell (i:=2) rfl;have zz2:=P1.out.thaw 2;have rr3:w1.cell? ⟨w.heap.size,3,none⟩=some (.int .i64 0):=P1.out.cell (i:=3) rfl;have zz3:=P1.out.thaw 3;have rr4:w1.cell? ⟨w.heap.size,4,none⟩=some (.slice none 0 0):=P1.out.cell (i:=4) rfl;have zz4:=P1.out.thaw 4;have rr5:w1.cell? ⟨w.heap.size,5,none⟩=some (.string ⟨#[]⟩):=P1.out.cell (i:=5) rfl;have zz5:=P1.out.thaw 5;clear P1 B1 oo;go_wp2_with fail
   go_region
   go_wp2;exact bodyPost_ret (v:= .tuple #[.agg Qai,.int .i64 0,.bool false]) (by simp[results,Tryz.results25,go_sem,rr0,rr1,rr2,rr3,rr4,rr5,hlt1,Nat.ne_of_lt hlt1,Nat.ne_of_gt hlt1]) rfl ⟨HBz.out,.inr ⟨HN.out,rfl⟩⟩
end Go.Proofs.YtpippjjhelgnlaaGreat.Gen
