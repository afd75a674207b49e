/-
  A note's body read at a place: the note, the place behind it and true; zero, 0 and false where the reader panics. Condition: at most 1048576 bytes.
-/
import Derived.Test.YtajbldnhjpjghaaGreatDoorRFr
import Derived.Test.YtajbldnhjpjghaaGreatDoorNOk
set_option linter.unusedVariables false
set_option linter.unusedSimpArgs false
set_option maxRecDepth 100000
set_option maxHeartbeats 8000000
set_option maxRecDepth 100000
set_option maxHeartbeats 8000000
namespace Go.Proofs.YtajbldnhjpjghaaGreatDoor.Gen
open ChangeShapes WideShapes ChangeAt RowKit Joins Deep Base
theorem Qjn (o:Option (Nt × Nat)) (f:FuncId) (cp:Array Value) (z y g r:Nat) (A:Option Addr) (cap:Nat) (l:List UInt8) (i:Int) (W:World)
 (hcf:∀(p:Value) (W:World),(callFunc f (#[p]++cp)).run Tryz.prog W= .ok (.enter f (#[p]++cp)) W)
 (pz:Blk W z 65 #[.func (.func f) #[] cp]) (py:Blk W y 63 #[.pointer (some ⟨r,0,none⟩)]) (pg:Blk W g 31 Qaf) (hgr:g≠r)
 (h:Calls Tryz.prog f (#[.pointer (some ⟨r,0,none⟩)]++cp) W fun e W' =>Qfl (isNt W.heap.size) r A cap l W e W' o):
 Calls Tryz.prog 60 #[.pointer (some ⟨z,0,none⟩),.pointer (some ⟨y,0,none⟩),.pointer (some ⟨g,0,none⟩)] W fun e W' =>
  (∃x c aa cc W0,o=some (x,c)/\W0.ownsRow (W.heap.size) 93 (Cel.k En) (.slice aa (List.length x.l) cc) (List.length x.l) (flat x.l)/\e= .returned (.tuple #[])/\Only r W W0/\Rd W0 r A cap l (c:Int)/\W' =((((((W0.setCell ⟨g,0,none⟩ (.int .i64 x.kind)).setCell ⟨g,1,none⟩ (.int .i64 x.term)).setCell ⟨g,2,none⟩ (.int .i64 x.vote)).setCell ⟨g,3,none⟩ (.int .i64 x.prev)).setCell ⟨g,4,none⟩ (.slice aa (List.length x.l) cc)).setCell ⟨g,5,none⟩ (.string x.snap)))∨(o=none/\Only r W W' /\∃t v,e= .panicked [{v:= .iface t v,recovered:=false}]):=by
 have HH:=hidP h;have c0:=pz.row1;have c1:=py.row1;have HG:=hidP pg;clear h pz py pg;go_enter Tryz.func60,Tryz.ntmps60;go_wp2_with fail;refine HH.out.mono ?_;intro e W1 h1;cases o with
 |none=>
  obtain⟨o1,t,v,rfl⟩:=h1;exact⟨rfl,.inr ⟨rfl,o1,t,v,rfl⟩⟩
 |some x=>
  obtain⟨x,c⟩:=x;obtain⟨o1,r1,v,rfl,u,rfl,aa,cc,rfl,hown⟩:=h1;have HOw:=hidP hown;clear hown;have p1:=HG.out.only o1 hgr;have d0:W1.cell? ⟨g,0,none⟩=some (.int .i64 0):=p1.cell (i:=0) rfl;have f0:=p1.thaw 0;have d1:W1.cell? ⟨g,1,none⟩=some (.int .i64 0):=p1.cell (i:=1) rfl;have f1:=p1.thaw 1;have d2:W1.cell? ⟨g,2,none⟩=some (.int .i64 0):=p1.cell (i:=2) rfl;have f2:=p1.thaw 2;have d3:W1.cell? ⟨g,3,none⟩=some (.int .i64 0):=p1.cell (i:=3) rfl;have f3:=p1.thaw 3;have d4:W1.cell? ⟨g,4,none⟩=some (.slice none 0 0):=p1.cell (i:=4) rfl;have f4:=p1.thaw 4;have d5:W1.cell? ⟨g,5,none⟩=some (.string ⟨#[]⟩):=p1.cell (i:=5) rfl;have f5:=p1.thaw 5;have q0:=p1.lt;have HO1:=hidP o1;have HR1:=hidP r1;clear o1 r1 p1 c0 c1;go_wp2
  go_end0
  exact .inl ⟨x,c,aa,cc,W1,rfl,HOw.out,rfl,HO1.out,HR1.out,rfl⟩
theorem Qgt (o:Option (Nt × Nat)) (f:FuncId) (cp:Array Value) (A:Option Addr) (cap:Nat) (l:List UInt8) (i:Int) (hi:I64 i) (w:World) (hA:At w A l)
 (hcf:∀(p:Value) (W:World),(callFunc f (#[p]++cp)).run Tryz.prog W= .ok (.enter f (#[p]++cp)) W)
 (h:∀W r,Rd W r A cap l i->Calls Tryz.prog f (#[.pointer (some ⟨r,0,none⟩)]++cp) W fun e W' =>Qfl (isNt W.heap.size) r A cap l W e W' o):
 Calls Tryz.prog 28 #[.slice A l.length cap,.int .i64 i,.func (.func f) #[] cp] w fun e w' =>Below w.heap.size w w' /\
  ((∃x c aa cc,o=some (x,c)/\w'.ownsRow (w.heap.size) 93 (Cel.k En) (.slice aa (List.length x.l) cc) (List.length x.l) (flat x.l)/\e= .returned (.tuple #[.agg (Qai x.kind x.term x.vote x.prev aa (List.length x.l) cc x.snap),.int .i64 (c:Int),.bool true]))∨(o=none/\e= .returned (.tuple #[.agg Qaf,.int .i64 0,.bool false]))):=by
 have hmf:∀(fn:Fn) (first cap:Array Value) (w:World),(Instr.makeFunc fn first cap).run Tryz.prog w= .ok (.func fn first cap) w:=fun _ _ _ _=>rfl
 have hbl:Below w.heap.size w (((((((w.alloc (.cells #[.func (.func f) #[] cp] 65)).alloc (.cells Qaf 31)).alloc (.cells Qaf 31)).alloc (.cells Qaf 31)).alloc (.cells #[.slice A l.length cap,.int .i64 i] 120)).alloc (.cells #[.pointer (some ⟨w.heap.size+1+1+1+1,0,none⟩)] 63)).alloc (.cells #[.bool false] 4)):=Qad (Qad (Qad (Qad (Qad (Qad (Qad (Below.refl _ w) _) _) _) _) _) _) _;have hA' :=hA.below hbl;have hAlt:∀c o,A=some ⟨c,o,none⟩->l= []∨c<w.heap.size:=fun c o e=>hA.imp id fun⟨b,o',e',hb,_⟩=>by rw[e]at e';cases e';exact hb
 have hcf1:∀W:World,(callFunc 60 #[.pointer (some ⟨w.heap.size,0,none⟩),.pointer (some ⟨w.heap.size+1+1+1+1+1,0,none⟩),.pointer (some ⟨w.heap.size+1+1,0,none⟩)]).run Tryz.prog W= .ok (.enter 60 #[.pointer (some ⟨w.heap.size,0,none⟩),.pointer (some ⟨w.heap.size+1+1+1+1+1,0,none⟩),.pointer (some ⟨w.heap.size+1+1,0,none⟩)]) W:=fun W=>by simp[go_sem]
 have pz:=((((((Blk.new w 65 #[.func (.func f) #[] cp]).alloc (.cells Qaf 31)).alloc (.cells Qaf 31)).alloc (.cells Qaf 31)).alloc (.cells #[.slice A l.length cap,.int .i64 i] 120)).alloc (.cells #[.pointer (some ⟨w.heap.size+1+1+1+1,0,none⟩)] 63)).alloc (.cells #[.bool false] 4);have ps:=(((((Blk.new (w.alloc (.cells #[.func (.func f) #[] cp] 65)) 31 Qaf).alloc (.cells Qaf 31)).alloc (.cells Qaf 31)).alloc (.cells #[.slice A l.length cap,.int .i64 i] 120)).alloc (.cells #[.pointer (some ⟨w.heap.size+1+1+1+1,0,none⟩)] 63)).alloc (.cells #[.bool false] 4);have pg:=((((Blk.new ((w.alloc (.cells #[.func (.func f) #[] cp] 65)).alloc (.cells Qaf 31)) 31 Qaf).alloc (.cells Qaf 31)).alloc (.cells #[.slice A l.length cap,.int .i64 i] 120)).alloc (.cells #[.pointer (some ⟨w.heap.size+1+1+1+1,0,none⟩)] 63)).alloc (.cells #[.bool false] 4);have pn:=(((Blk.new (((w.alloc (.cells #[.func (.func f) #[] cp] 65)).alloc (.cells Qaf 31)).alloc (.cells Qaf 31)) 31 Qaf).alloc (.cells #[.slice A l.length cap,.int .i64 i] 120)).alloc (.cells #[.pointer (some ⟨w.heap.size+1+1+1+1,0,none⟩)] 63)).alloc (.cells #[.bool false] 4);have pr:=((Blk.new ((((w.alloc (.cells #[.func (.func f) #[] cp] 65)).alloc (.cells Qaf 31)).alloc (.cells Qaf 31)).alloc (.cells Qaf 31)) 120 #[.slice A l.length cap,.int .i64 i]).alloc (.cells #[.pointer (some ⟨w.heap.size+1+1+1+1,0,none⟩)] 63)).alloc (.cells #[.bool false] 4);have py:=(Blk.new (((((w.alloc (.cells #[.func (.func f) #[] cp] 65)).alloc (.cells Qaf 31)).alloc (.cells Qaf 31)).alloc (.cells Qaf 31)).alloc (.cells #[.slice A l.length cap,.int .i64 i] 120)) 63 #[.pointer (some ⟨w.heap.size+1+1+1+1,0,none⟩)]).alloc (.cells #[.bool false] 4)
 have pd:=Blk.new ((((((w.alloc (.cells #[.func (.func f) #[] cp] 65)).alloc (.cells Qaf 31)).alloc (.cells Qaf 31)).alloc (.cells Qaf 31)).alloc (.cells #[.slice A l.length cap,.int .i64 i] 120)).alloc (.cells #[.pointer (some ⟨w.heap.size+1+1+1+1,0,none⟩)] 63)) 4 #[.bool false];simp only[World.size_alloc]at ps pg pn pr py pd;generalize hW5:(((((((w.alloc (.cells #[.func (.func f) #[] cp] 65)).alloc (.cells Qaf 31)).alloc (.cells Qaf 31)).alloc (.cells Qaf 31)).alloc (.cells #[.slice A l.length cap,.int .i64 i] 120)).alloc (.cells #[.pointer (some ⟨w.heap.size+1+1+1+1,0,none⟩)] 63)).alloc (.cells #[.bool false] 4))=W5 at*;have s5:W5.heap.size=w.heap.size+7:=by rw[← hW5];simp
 have hrd:Rd W5 (w.heap.size+1+1+1+1) A cap l i:=⟨pr,by
  rcases hA' with h|⟨b,o,e,hb,hi⟩
  . exact .inl h
  . rcases hAlt b o e with h|h
    . exact .inl h
    . exact .inr ⟨b,o,e,hb,by omega,hi⟩,hi⟩
 have hdo:=Qjn o f cp w.heap.size (w.heap.size+1+1+1+1+1) (w.heap.size+1+1) (w.heap.size+1+1+1+1) A cap l i W5 hcf pz py pg (by omega) (h W5 _ hrd);have htr:=Qgn 60 #[.pointer (some ⟨w.heap.size,0,none⟩),.pointer (some ⟨w.heap.size+1+1+1+1+1,0,none⟩),.pointer (some ⟨w.heap.size+1+1,0,none⟩)] ((((((w.alloc (.cells #[.func (.func f) #[] cp] 65)).alloc (.cells Qaf 31)).alloc (.cells Qaf 31)).alloc (.cells Qaf 31)).alloc (.cells #[.slice A l.length cap,.int .i64 i] 120)).alloc (.cells #[.pointer (some ⟨w.heap.size+1+1+1+1,0,none⟩)] 63))
  (fun W' =>∃x c aa cc W0,o=some (x,c)/\W0.ownsRow (W5.heap.size) 93 (Cel.k En) (.slice aa (List.length x.l) cc) (List.length x.l) (flat x.l)/\Only (w.heap.size+1+1+1+1) W5 W0/\Rd W0 (w.heap.size+1+1+1+1) A cap l (c:Int)/\W' =((((((W0.setCell ⟨w.heap.size+1+1,0,none⟩ (.int .i64 x.kind)).setCell ⟨w.heap.size+1+1,1,none⟩ (.int .i64 x.term)).setCell ⟨w.heap.size+1+1,2,none⟩ (.int .i64 x.vote)).setCell ⟨w.heap.size+1+1,3,none⟩ (.int .i64 x.prev)).setCell ⟨w.heap.size+1+1,4,none⟩ (.slice aa (List.length x.l) cc)).setCell ⟨w.heap.size+1+1,5,none⟩ (.string x.snap))) (fun W' =>o=none/\Only (w.heap.size+1+1+1+1) W5 W') hcf1 (by
   rw[hW5];refine hdo.mono fun e W' h1=> ?_
   rcases h1 with⟨x,c,aa,cc,W0,h1,hb,h2,h3,h4,rfl⟩|⟨h1,h2,t,v,rfl⟩
   . exact⟨by simpa using (((((((pd.only h3 (by omega)).other (by omega) 0 (.int .i64 x.kind)).other (by omega) 1 (.int .i64 x.term)).other (by omega) 2 (.int .i64 x.vote)).other (by omega) 3 (.int .i64 x.prev)).other (by omega) 4 (.slice aa (List.length x.l) cc)).other (by omega) 5 (.string x.snap)),.inl ⟨h2,x,c,aa,cc,W0,h1,hb,h3,h4,rfl⟩⟩
   . exact⟨by simpa using pd.only h2 (by omega),.inr ⟨t,v,rfl,h1,h2⟩⟩)
 have HT:=hidP htr;have Hps:=hidP ps;have Hpn:=hidP pn;have Hpy:=hidP py;have Hpg:=hidP pg;have Hbl:=hidP hbl;have Hs5:=hidP s5;clear htr hdo hrd pz ps pn pr pg pd h hcf hcf1 py hbl s5 hW5 hA';go_enter Tryz.func28,Tryz.ntmps28;go_wp2_with fail;refine HT.out.mono ?_;rintro e W' ⟨W0,ho,hh⟩;simp only[World.size_alloc]at ho;rcases hh with⟨rfl,x,c,aa,cc,W1,rfl,hb,o1,r1,rfl⟩|⟨rfl,rfl,o1⟩
 . have og:Only (w.heap.size+1+1) W1 ((((((W1.setCell ⟨w.heap.size+1+1,0,none⟩ (.int .i64 x.kind)).setCell ⟨w.heap.size+1+1,1,none⟩ (.int .i64 x.term)).setCell ⟨w.heap.size+1+1,2,none⟩ (.int .i64 x.vote)).setCell ⟨w.heap.size+1+1,3,none⟩ (.int .i64 x.prev)).setCell ⟨w.heap.size+1+1,4,none⟩ (.slice aa (List.length x.l) cc)).setCell ⟨w.heap.size+1+1,5,none⟩ (.string x.snap)):=((((((Only.refl _ _).set 0 (.int .i64 x.kind)).set 1 (.int .i64 x.term)).set 2 (.int .i64 x.vote)).set 3 (.int .i64 x.prev)).set 4 (.slice aa (List.length x.l) cc)).set 5 (.string x.snap);have hfin:Below w.heap.size w W' :=Hbl.out.trans ((o1.toBelow (by omega) (by have:=Hs5.out;omega)).trans ((og.toBelow (by omega) (by have:=o1.size;have:=Hs5.out;omega)).trans (ho.toBelow (by omega) (by have:=o1.size;have:=og.size;have:=Hs5.out;omega))));have g1:Blk ((((((W1.setCell ⟨w.heap.size+1+1,0,none⟩ (.int .i64 x.kind)).setCell ⟨w.heap.size+1+1,1,none⟩ (.int .i64 x.term)).setCell ⟨w.heap.size+1+1,2,none⟩ (.int .i64 x.vote)).setCell ⟨w.heap.size+1+1,3,none⟩ (.int .i64 x.prev)).setCell ⟨w.heap.size+1+1,4,none⟩ (.slice aa (List.length x.l) cc)).setCell ⟨w.heap.size+1+1,5,none⟩ (.string x.snap)) (w.heap.size+1+1) 31 (Qai x.kind x.term x.vote x.prev aa (List.length x.l) cc x.snap):=(((((((Hpg.out.only o1 (by omega)).setAt 0 (.int .i64 x.kind)).setAt 1 (.int .i64 x.term)).setAt 2 (.int .i64 x.vote)).setAt 3 (.int .i64 x.prev)).setAt 4 (.slice aa (List.length x.l) cc)).setAt 5 (.string x.snap))
   have g' :=g1.only ho (by omega);have y' :=((Hpy.out.only o1 (by omega)).only og (by omega)).only ho (by omega);have s' :=((Hps.out.only o1 (by omega)).only og (by omega)).only ho (by omega);have r' :=(r1.box.only og (show w.heap.size+1+1+1+1≠w.heap.size+1+1 by omega)).only ho (by omega);have k0:W'.cell? ⟨w.heap.size+1+1,0,none⟩=some (.int .i64 x.kind):=g'.cell (i:=0) rfl;have k1:W'.cell? ⟨w.heap.size+1+1,1,none⟩=some (.int .i64 x.term):=g'.cell (i:=1) rfl;have k2:W'.cell? ⟨w.heap.size+1+1,2,none⟩=some (.int .i64 x.vote):=g'.cell (i:=2) rfl;have k3:W'.cell? ⟨w.heap.size+1+1,3,none⟩=some (.int .i64 x.prev):=g'.cell (i:=3) rfl;have k4:W'.cell? ⟨w.heap.size+1+1,4,none⟩=some (.slice aa (List.length x.l) cc):=g'.cell (i:=4) rfl;have k5:W'.cell? ⟨w.heap.size+1+1,5,none⟩=some (.string x.snap):=g'.cell (i:=5) rfl;have rr0:W'.cell? ⟨w.heap.size+1,0,none⟩=some (.int .i64 0):=s'.cell (i:=0) rfl;have zz0:=s'.thaw 0;have rr1:W'.cell? ⟨w.heap.size+1,1,none⟩=some (.int .i64 0):=s'.cell (i:=1) rfl;have zz1:=s'.thaw 1;have rr2:W'.cell? ⟨w.heap.size+1,2,none⟩=some (.int .i64 0):=s'.cell (i:=2) rfl;have zz2:=s'.thaw 2;have rr3:W'.cell? ⟨w.heap.size+1,3,none⟩=some (.int .i64 0):=s'.cell (i:=3) rfl;have zz3:=s'.thaw 3;have rr4:W'.cell? ⟨w.heap.size+1,4,none⟩=some (.slice none 0 0):=s'.cell (i:=4) rfl;have zz4:=s'.thaw 4;have rr5:W'.cell? ⟨w.heap.size+1,5,none⟩=some (.string ⟨#[]⟩):=s'.cell (i:=5) rfl;have zz5:=s'.thaw 5;have c1:=y'.row1;obtain⟨c2,c3⟩:=r'.row2;have qg:=g'.lt;have qy:=y'.lt;have qr:=r'.lt;have qs:=s'.lt
   have HOw:=hidP (Qbp (Qbp (Qbp hb og (by have:=Hs5.out;omega)) ho (by have:=Hs5.out;omega)) (((((((Only.refl (w.heap.size+1) W').set 0 (.int .i64 x.kind)).set 1 (.int .i64 x.term)).set 2 (.int .i64 x.vote)).set 3 (.int .i64 x.prev)).set 4 (.slice aa (List.length x.l) cc)).set 5 (.string x.snap)) (by have:=Hs5.out;omega));have Hf:=hidP hfin;clear hb;clear ho g' y' r' s' g1 o1 r1 hmf og hfin HT Hps Hpn Hpy Hpg Hbl hAlt hA;go_wp2_with fail
   go_region
   go_wp2;have oz:Below w.heap.size w ((((((W'.setCell ⟨w.heap.size+1,0,none⟩ (.int .i64 x.kind)).setCell ⟨w.heap.size+1,1,none⟩ (.int .i64 x.term)).setCell ⟨w.heap.size+1,2,none⟩ (.int .i64 x.vote)).setCell ⟨w.heap.size+1,3,none⟩ (.int .i64 x.prev)).setCell ⟨w.heap.size+1,4,none⟩ (.slice aa (List.length x.l) cc)).setCell ⟨w.heap.size+1,5,none⟩ (.string x.snap)):=Hf.out.trans (Only.toBelow (b:=w.heap.size+1) (((((((Only.refl _ _).set 0 (.int .i64 x.kind)).set 1 (.int .i64 x.term)).set 2 (.int .i64 x.vote)).set 3 (.int .i64 x.prev)).set 4 (.slice aa (List.length x.l) cc)).set 5 (.string x.snap)) (by omega) Hf.out.size);exact bodyPost_ret (v:= .tuple #[.agg (Qai x.kind x.term x.vote x.prev aa (List.length x.l) cc x.snap),.int .i64 (c:Int),.bool true]) (by simp[results,Tryz.results28,go_sem,rr0,rr1,rr2,rr3,rr4,rr5]) rfl ⟨oz.drew,.inl ⟨x,c,aa,cc,rfl,Qax (C:=w.heap.size) (Qar HOw.out (Below.drew (Below.refl _ _))) (by have:=Hs5.out;omega),rfl⟩⟩
 . have hfin:Below w.heap.size w W' :=Hbl.out.trans ((o1.toBelow (by omega) (by have:=Hs5.out;omega)).trans (ho.toBelow (by omega) (by have:=o1.size;have:=Hs5.out;omega)));have s' :=(Hps.out.only o1 (by omega)).only ho (by omega);have n' :=(Hpn.out.only o1 (by omega)).only ho (by omega);have k0:W'.cell? ⟨w.heap.size+1+1+1,0,none⟩=some (.int .i64 0):=n'.cell (i:=0) rfl;have k1:W'.cell? ⟨w.heap.size+1+1+1,1,none⟩=some (.int .i64 0):=n'.cell (i:=1) rfl;have k2:W'.cell? ⟨w.heap.size+1+1+1,2,none⟩=some (.int .i64 0):=n'.cell (i:=2) rfl;have k3:W'.cell? ⟨w.heap.size+1+1+1,3,none⟩=some (.int .i64 0):=n'.cell (i:=3) rfl;have k4:W'.cell? ⟨w.heap.size+1+1+1,4,none⟩=some (.slice none 0 0):=n'.cell (i:=4) rfl;have k5:W'.cell? ⟨w.heap.size+1+1+1,5,none⟩=some (.string ⟨#[]⟩):=n'.cell (i:=5) rfl;have rr0:W'.cell? ⟨w.heap.size+1,0,none⟩=some (.int .i64 0):=s'.cell (i:=0) rfl;have zz0:=s'.thaw 0;have rr1:W'.cell? ⟨w.heap.size+1,1,none⟩=some (.int .i64 0):=s'.cell (i:=1) rfl;have zz1:=s'.thaw 1;have rr2:W'.cell? ⟨w.heap.size+1,2,none⟩=some (.int .i64 0):=s'.cell (i:=2) rfl;have zz2:=s'.thaw 2;have rr3:W'.cell? ⟨w.heap.size+1,3,none⟩=some (.int .i64 0):=s'.cell (i:=3) rfl;have zz3:=s'.thaw 3;have rr4:W'.cell? ⟨w.heap.size+1,4,none⟩=some (.slice none 0 0):=s'.cell (i:=4) rfl;have zz4:=s'.thaw 4;have rr5:W'.cell? ⟨w.heap.size+1,5,none⟩=some (.string ⟨#[]⟩):=s'.cell (i:=5) rfl;have zz5:=s'.thaw 5;have qs:=s'.lt;have qn:=n'.lt;have Hf:=hidP hfin;clear ho s' n' o1 hmf hfin HT Hps Hpn Hpy Hpg Hbl hAlt hA;go_wp2
   have oz:Below w.heap.size w ((((((W'.setCell ⟨w.heap.size+1,0,none⟩ (.int .i64 0)).setCell ⟨w.heap.size+1,1,none⟩ (.int .i64 0)).setCell ⟨w.heap.size+1,2,none⟩ (.int .i64 0)).setCell ⟨w.heap.size+1,3,none⟩ (.int .i64 0)).setCell ⟨w.heap.size+1,4,none⟩ (.slice none 0 0)).setCell ⟨w.heap.size+1,5,none⟩ (.string ⟨#[]⟩)):=Hf.out.trans (Only.toBelow (b:=w.heap.size+1) (((((((Only.refl _ _).set 0 (.int .i64 0)).set 1 (.int .i64 0)).set 2 (.int .i64 0)).set 3 (.int .i64 0)).set 4 (.slice none 0 0)).set 5 (.string ⟨#[]⟩)) (by omega) Hf.out.size);exact bodyPost_ret (v:= .tuple #[.agg Qaf,.int .i64 0,.bool false]) (by simp[results,Tryz.results28,go_sem,rr0,rr1,rr2,rr3,rr4,rr5]) rfl ⟨oz,rfl⟩
def Nt.ok (x:Nt):Bool:=Qee x.kind x.term x.vote x.prev x.l x.snap
def ofN (l:List UInt8) (i:Int):Option (Nt × Nat):=match Qdo l i with
  |none=>none
  |some (L,c)=>match Qck L 0 with
    |none=>none
    |some (x,d)=>if d=L.length/\x.ok=true then some (x,c)else none
theorem Qhf {α:Type} {get:Int->Option (α × Nat)} {P:α->Prop} (hget:∀(i:Nat) x c,get (i:Int)=some (x,c)->P x):∀(n c:Nat) {xs:List α} {d:Nat},Qba get n c=some (xs,d)->∀x∈xs,P x
 |0,c,xs,d,h=>by
  simp only[Qba,Option.some.injEq,Prod.mk.injEq]at h;obtain⟨rfl,rfl⟩:=h;simp
 |n+1,c,xs,d,h=>by
  simp only[Qba]at h;cases hx:get (c:Int)with
  |none=>simp[hx]at h
  |some p=>
  obtain⟨x,e⟩:=p;simp only[hx]at h;cases hy:Qba get n e with
  |none=>simp[hy]at h
  |some q=>
  obtain⟨ys,f⟩:=q;simp only[hy,Option.some.injEq,Prod.mk.injEq]at h;obtain⟨rfl,rfl⟩:=h;intro y hy';rcases List.mem_cons.1 hy' with e' |e'
  . subst e';exact hget _ _ _ hx
  . exact Qhf hget n e hy y e'
theorem getEnt_fit {l:List UInt8} (hl:l.length<=1048576) {i:Nat} {x:En} {c:Nat} (h:Qbk l (i:Int)=some (x,c)):x.fit:=by
 unfold Qbk at h;cases hx1:getN l (i:Int)with
 |none=>simp[hx1]at h
 |some p1=>
 obtain⟨n1,c1⟩:=p1;cases hx2:getC l (c1:Int)with
 |none=>simp[hx1,hx2]at h
 |some p2=>
 obtain⟨x2,c2⟩:=p2;simp only[hx1,hx2,Option.some.injEq,Prod.mk.injEq]at h;obtain⟨rfl,_⟩:=h;unfold getC at hx2;cases hq:q8 l (some (c1:Int))with
 |none=>rw[hq]at hx2;cases hx2
 |some p=>
  rw[hq]at hx2;simp only[Option.map_some,Option.some.injEq,Prod.mk.injEq]at hx2;obtain⟨rfl,_⟩:=hx2;have h1:=tV_le l (nO (q6 l (some (c1:Int))));have h2:=tV_le l (nO (q7 l (some (c1:Int))));exact⟨Nat.le_trans h1 (by omega),Nat.le_trans h2 (by omega)⟩
theorem Qkb {l:List UInt8} (hl:l.length<=1048576) {i:Int} {x:Nt} {c:Nat} (h:Qck l i=some (x,c)):x.l.length<=1048576/\(∀y∈x.l,y.fit)/\x.snap.size<=1048576/\c<=l.length:=by
 unfold Qck at h;cases hx1:getN l i with
 |none=>simp[hx1]at h
 |some p1=>
 obtain⟨n1,c1⟩:=p1;cases hx2:getN l (c1:Int)with
 |none=>simp[hx1,hx2]at h
 |some p2=>
 obtain⟨n2,c2⟩:=p2;cases hx3:getN l (c2:Int)with
 |none=>simp[hx1,hx2,hx3]at h
 |some p3=>
 obtain⟨n3,c3⟩:=p3;cases hx4:getN l (c3:Int)with
 |none=>simp[hx1,hx2,hx3,hx4]at h
 |some p4=>
 obtain⟨n4,c4⟩:=p4;cases hx5:Qbx l (Qbk l) (c4:Int)with
 |none=>simp[hx1,hx2,hx3,hx4,hx5]at h
 |some p5=>
 obtain⟨s5,c5⟩:=p5;cases hx6:getT l (c5:Int)with
 |none=>simp[hx1,hx2,hx3,hx4,hx5,hx6]at h
 |some p6=>
 obtain⟨s6,c6⟩:=p6;simp only[hx1,hx2,hx3,hx4,hx5,hx6,Option.some.injEq,Prod.mk.injEq]at h;obtain⟨rfl,rfl⟩:=h;have h5:=Qfu (fun i x c h=>Qeh h) hx5;have h6:=Qdk hx6;refine⟨by show s5.length<=_;omega,?_,by show s6.size<=_;omega,h6.2.2.1⟩;unfold Qbx at hx5;cases hn:getN l (c4:Int)with
 |none=>simp[hn]at hx5
 |some p=>
 obtain⟨n,c⟩:=p;simp only[hn]at hx5;exact Qhf (fun i x c h=>getEnt_fit hl h) n c hx5
theorem getNt_nil:Qck [] 0=none:=by
 unfold Qck;rw[Qkc (by simp)]
theorem noteAt_any (A:Option Addr) (cap:Nat) (l:List UInt8) (hl:l.length<=1048576) (hcap:l.length<=cap) (hcm:cap<=9223372036854775807) (i:Int) (hi:I64 i) (w:World) (hA:At w A l):
 Calls Tryz.prog 13 #[.slice A l.length cap,.int .i64 i] w fun e w' =>Below w.heap.size w w' /\
  ((∃x c aa cc,ofN l i=some (x,c)/\w'.ownsRow w.heap.size 93 (Cel.k En) (.slice aa (List.length x.l) cc) (List.length x.l) (flat x.l)/\e= .returned (.tuple #[.agg (Qai x.kind x.term x.vote x.prev aa (List.length x.l) cc x.snap),.int .i64 (c:Int),.nilIface]))∨(ofN l i=none/\e= .returned (.tuple #[.agg Qaf,.int .i64 0,.iface 38 (.agg #[.int .i64 i])]))):=by
 have hbl:=Qad (Below.refl _ w) (.cells Qaf 31);have p0:=Blk.new w 31 Qaf;have hR:=hidP (Qjm (Qdo l i) 27 #[] A cap l i hi (w.alloc (.cells Qaf 31)) (hA.below hbl) (fun p W=>by simp[go_sem]) (fun W r _ _ _ hrd=>Qk4 r A cap l i hl hcap hcm W hrd));have Hp0:=hidP p0;have Hbl:=hidP hbl;clear hA p0 hbl;go_enter Tryz.func13,Tryz.ntmps13;go_wp2_with fail;refine hR.out.mono ?_;rintro e w1 ⟨g1,h1⟩;have P1:=hidP (Hp0.out.below g1 Hp0.out.lt);have B1:=hidP (via0 g1 Hbl.out);clear g1 hR Hp0 Hbl;rcases h1 with⟨L,c,bb,cc,hg,hby,rfl⟩|⟨hg,rfl⟩
 . obtain⟨b',c',e',hb1,hb2,hb3,hb4,hb5⟩:=hby;simp only[Value.slice.injEq,Option.some.injEq,Addr.mk.injEq,and_true]at e';obtain⟨rfl,_,rfl⟩:=e';have hfl:=getFr_le hg;have hatL:At w1 (some ⟨bb,0,none⟩) L:= .inr ⟨_,_,rfl,hb2,hb3⟩;have hR2:=hidP (Qgt (Qck L 0) 29 #[] (some ⟨bb,0,none⟩) cc L 0 ⟨by omega,by omega⟩ w1 hatL (fun p W=>by simp[go_sem]) (fun W r hrd=>Qh2 r (some ⟨bb,0,none⟩) cc L 0 (by omega) hb4 hb5 W hrd));have Hg:=hidP hg;clear hb1 hb2 hb3 hb4 hb5 hatL hg;go_wp2_with fail;refine hR2.out.mono ?_;rintro e w2 ⟨g2,h2⟩;have p:=P1.out.below g2 P1.out.lt;have HB:=hidP (via0 g2 B1.out);clear hR2;rcases h2 with⟨x,d,aa,cc2,hx,hown,rfl⟩|⟨hx,rfl⟩
   . obtain⟨f1,f2,f3,f4⟩:=Qkb (by omega) hx;have hat2:=(Qa0 (α:=En) hown).at;have HP:=hidP p;have q2:=p.lt;have hO:Hid (ofN l i=if d=L.length/\x.ok=true then some (x,c)else none):=(by show _=_;simp[ofN,Hg.out,hx]);have HOw:=hidP (Qax (C:=w.heap.size+1) hown P1.out.lt);have Hat:=hidP hat2;have Hf2:=hidP f2;clear hown hat2 p g2 hx f2;by_cases hd:d=L.length
     . subst hd;have hO1:Hid (ofN l i=if x.ok=true then some (x,c)else none):=(by show _=_;rw[hO.out];simp);have hI:=hidP (fun W (h:At W aa x.l)=>Qev x.kind x.term x.vote x.prev x.snap (by omega) aa cc2 x.l (by omega) Hf2.out W h);clear hO;go_wp2_with fail;refine(hI.out _ (Hat.out.below (Qad (Below.refl _ _) _))).mono ?_;rintro e w3 ⟨rfl,g3⟩;have g23:Below w2.heap.size w2 w3:=via0 g3 (Qad (Below.refl _ _) _);have p:=HP.out.below g23 HP.out.lt;have x3:=(Blk.new w2 31 (Qai x.kind x.term x.vote x.prev aa (List.length x.l) cc2 x.snap)).below g3 (by simp);replace HB:=hidP (via0 g23 HB.out);replace HOw:=hidP (Qar HOw.out g23);have hsx:w.heap.size<w2.heap.size:=HP.out.lt;clear g3 g23 HP Hat hI;have hbx:Qee x.kind x.term x.vote x.prev x.l x.snap=x.ok:=rfl;rw[hbx];have rr0:w3.cell? ⟨w.heap.size,0,none⟩=some (.int .i64 0):=p.cell (i:=0) rfl;have zz0:=p.thaw 0;have rr1:w3.cell? ⟨w.heap.size,1,none⟩=some (.int .i64 0):=p.cell (i:=1) rfl;have zz1:=p.thaw 1;have rr2:w3.cell? ⟨w.heap.size,2,none⟩=some (.int .i64 0):=p.cell (i:=2) rfl;have zz2:=p.thaw 2;have rr3:w3.cell? ⟨w.heap.size,3,none⟩=some (.int .i64 0):=p.cell (i:=3) rfl;have zz3:=p.thaw 3;have rr4:w3.cell? ⟨w.heap.size,4,none⟩=some (.slice none 0 0):=p.cell (i:=4) rfl;have zz4:=p.thaw 4;have rr5:w3.cell? ⟨w.heap.size,5,none⟩=some (.string ⟨#[]⟩):=p.cell (i:=5) rfl;have zz5:=p.thaw 5;have qs:=p.lt;cases hok:x.ok with
       |true=>
        have HN:Hid (ofN l i=some (x,c)):=(by show _=_;rw[hO1.out,hok];rfl);have k0:w3.cell? ⟨w2.heap.size,0,none⟩=some (.int .i64 x.kind):=x3.cell (i:=0) rfl;have k1:w3.cell? ⟨w2.heap.size,1,none⟩=some (.int .i64 x.term):=x3.cell (i:=1) rfl;have k2:w3.cell? ⟨w2.heap.size,2,none⟩=some (.int .i64 x.vote):=x3.cell (i:=2) rfl;have k3:w3.cell? ⟨w2.heap.size,3,none⟩=some (.int .i64 x.prev):=x3.cell (i:=3) rfl;have k4:w3.cell? ⟨w2.heap.size,4,none⟩=some (.slice aa (List.length x.l) cc2):=x3.cell (i:=4) rfl;have k5:w3.cell? ⟨w2.heap.size,5,none⟩=some (.string x.snap):=x3.cell (i:=5) rfl;have qx:=x3.lt;have oo:=(((((((Only.refl (w.heap.size) w3).set 0 (.int .i64 x.kind)).set 1 (.int .i64 x.term)).set 2 (.int .i64 x.vote)).set 3 (.int .i64 x.prev)).set 4 (.slice aa (List.length x.l) cc2)).set 5 (.string x.snap))
        have HBz:=hidP (HB.out.trans (oo.toBelow (Nat.le_refl _) HB.out.size));have HOz:=hidP (Qbp (B:=w.heap.size+1) (HOw.out) oo (by omega));clear oo;go_wp2;refine bodyPost_ret (v:= .tuple #[.agg (Qai x.kind x.term x.vote x.prev aa (List.length x.l) cc2 x.snap),.int .i64 (c:Int),.nilIface]) (by simp[results,Tryz.results13,go_sem,rr0,rr1,rr2,rr3,rr4,rr5]) rfl ⟨HBz.out,.inl ⟨x,c,aa,cc2,HN.out,Qax HOz.out (by omega),rfl⟩⟩
       |false=>
        have HN:Hid (ofN l i=none):=(by show _=_;rw[hO1.out,hok];rfl);go_wp2;refine bodyPost_ret (v:= .tuple #[.agg Qaf,.int .i64 0,.iface 38 (.agg #[.int .i64 i])]) (by simp[results,Tryz.results13,go_sem,rr0,rr1,rr2,rr3,rr4,rr5]) rfl ⟨HB.out.trans ((((((((Only.refl (w.heap.size) w3).set 0 (.int .i64 0)).set 1 (.int .i64 0)).set 2 (.int .i64 0)).set 3 (.int .i64 0)).set 4 (.slice none 0 0)).set 5 (.string ⟨#[]⟩)).toBelow (Nat.le_refl _) HB.out.size),.inr ⟨HN.out,rfl⟩⟩
     . have HN:Hid (ofN l i=none):=(by show _=_;rw[hO.out,if_neg (fun h=>hd h.1)]);have hd' :¬((d:Int)=(L.length:Int)):=(by omega);have p:=HP.out.alloc (.cells (Qai x.kind x.term x.vote x.prev aa (List.length x.l) cc2 x.snap) 31);have HB2:Hid (Below w.heap.size w (w2.alloc (.cells (Qai x.kind x.term x.vote x.prev aa (List.length x.l) cc2 x.snap) 31))):=hidP (Qad HB.out _);clear HB;have HB:=HB2;have rr0:(w2.alloc (.cells (Qai x.kind x.term x.vote x.prev aa (List.length x.l) cc2 x.snap) 31)).cell? ⟨w.heap.size,0,none⟩=some (.int .i64 0):=p.cell (i:=0) rfl;have zz0:=p.thaw 0;have rr1:(w2.alloc (.cells (Qai x.kind x.term x.vote x.prev aa (List.length x.l) cc2 x.snap) 31)).cell? ⟨w.heap.size,1,none⟩=some (.int .i64 0):=p.cell (i:=1) rfl;have zz1:=p.thaw 1;have rr2:(w2.alloc (.cells (Qai x.kind x.term x.vote x.prev aa (List.length x.l) cc2 x.snap) 31)).cell? ⟨w.heap.size,2,none⟩=some (.int .i64 0):=p.cell (i:=2) rfl;have zz2:=p.thaw 2;have rr3:(w2.alloc (.cells (Qai x.kind x.term x.vote x.prev aa (List.length x.l) cc2 x.snap) 31)).cell? ⟨w.heap.size,3,none⟩=some (.int .i64 0):=p.cell (i:=3) rfl;have zz3:=p.thaw 3;have rr4:(w2.alloc (.cells (Qai x.kind x.term x.vote x.prev aa (List.length x.l) cc2 x.snap) 31)).cell? ⟨w.heap.size,4,none⟩=some (.slice none 0 0):=p.cell (i:=4) rfl;have zz4:=p.thaw 4;have rr5:(w2.alloc (.cells (Qai x.kind x.term x.vote x.prev aa (List.length x.l) cc2 x.snap) 31)).cell? ⟨w.heap.size,5,none⟩=some (.string ⟨#[]⟩):=p.cell (i:=5) rfl;have zz5:=p.thaw 5;have qs:=p.lt;clear hO HOw Hat Hf2 HP HB2 q2;go_wp2;refine bodyPost_ret (v:= .tuple #[.agg Qaf,.int .i64 0,.iface 38 (.agg #[.int .i64 i])]) (by simp[results,Tryz.results13,go_sem,rr0,rr1,rr2,rr3,rr4,rr5]) rfl ⟨?_,.inr ⟨HN.out,rfl⟩⟩
       exact HB.out.trans ((((((((Only.refl (w.heap.size) _).set 0 (.int .i64 0)).set 1 (.int .i64 0)).set 2 (.int .i64 0)).set 3 (.int .i64 0)).set 4 (.slice none 0 0)).set 5 (.string ⟨#[]⟩)).toBelow (Nat.le_refl _) HB.out.size)
   . have HN:Hid (ofN l i=none):=(by show _=_;simp[ofN,Hg.out,hx]);have p:=(P1.out.below g2 P1.out.lt).alloc (.cells Qaf 31);have HB2:Hid (Below w.heap.size w (w2.alloc (.cells Qaf 31))):=hidP (Qad HB.out _);clear HB;have HB:=HB2;have rr0:(w2.alloc (.cells Qaf 31)).cell? ⟨w.heap.size,0,none⟩=some (.int .i64 0):=p.cell (i:=0) rfl;have zz0:=p.thaw 0;have rr1:(w2.alloc (.cells Qaf 31)).cell? ⟨w.heap.size,1,none⟩=some (.int .i64 0):=p.cell (i:=1) rfl;have zz1:=p.thaw 1;have rr2:(w2.alloc (.cells Qaf 31)).cell? ⟨w.heap.size,2,none⟩=some (.int .i64 0):=p.cell (i:=2) rfl;have zz2:=p.thaw 2;have rr3:(w2.alloc (.cells Qaf 31)).cell? ⟨w.heap.size,3,none⟩=some (.int .i64 0):=p.cell (i:=3) rfl;have zz3:=p.thaw 3;have rr4:(w2.alloc (.cells Qaf 31)).cell? ⟨w.heap.size,4,none⟩=some (.slice none 0 0):=p.cell (i:=4) rfl;have zz4:=p.thaw 4;have rr5:(w2.alloc (.cells Qaf 31)).cell? ⟨w.heap.size,5,none⟩=some (.string ⟨#[]⟩):=p.cell (i:=5) rfl;have zz5:=p.thaw 5;have qs:=p.lt;clear HB2 g2 hx;go_wp2;refine bodyPost_ret (v:= .tuple #[.agg Qaf,.int .i64 0,.iface 38 (.agg #[.int .i64 i])]) (by simp[results,Tryz.results13,go_sem,rr0,rr1,rr2,rr3,rr4,rr5]) rfl ⟨?_,.inr ⟨HN.out,rfl⟩⟩;exact HB.out.trans ((((((((Only.refl (w.heap.size) _).set 0 (.int .i64 0)).set 1 (.int .i64 0)).set 2 (.int .i64 0)).set 3 (.int .i64 0)).set 4 (.slice none 0 0)).set 5 (.string ⟨#[]⟩)).toBelow (Nat.le_refl _) HB.out.size)
 . have HN:Hid (ofN l i=none):=(by show _=_;simp[ofN,hg]);have hR2:=hidP (Qgt (Qck [] 0) 29 #[] none 0 [] 0 ⟨by omega,by omega⟩ w1 (.inl rfl) (fun p W=>by simp[go_sem]) (fun W r hrd=>Qh2 r none 0 [] 0 (by simp) (by simp) (by omega) W hrd));clear hg;go_wp2_with fail;refine hR2.out.mono ?_;rintro e w2 ⟨g2,h2⟩;rcases h2 with⟨x,d,aa,cc2,hx,hown,rfl⟩|⟨hx,rfl⟩
   . rw[getNt_nil]at hx;cases hx
   have p:=(P1.out.below g2 P1.out.lt).alloc (.cells Qaf 31);have HB2:Hid (Below w.heap.size w (w2.alloc (.cells Qaf 31))):=hidP (Qad (via0 g2 B1.out) _);have HB:=HB2;have rr0:(w2.alloc (.cells Qaf 31)).cell? ⟨w.heap.size,0,none⟩=some (.int .i64 0):=p.cell (i:=0) rfl;have zz0:=p.thaw 0;have rr1:(w2.alloc (.cells Qaf 31)).cell? ⟨w.heap.size,1,none⟩=some (.int .i64 0):=p.cell (i:=1) rfl;have zz1:=p.thaw 1;have rr2:(w2.alloc (.cells Qaf 31)).cell? ⟨w.heap.size,2,none⟩=some (.int .i64 0):=p.cell (i:=2) rfl;have zz2:=p.thaw 2;have rr3:(w2.alloc (.cells Qaf 31)).cell? ⟨w.heap.size,3,none⟩=some (.int .i64 0):=p.cell (i:=3) rfl;have zz3:=p.thaw 3;have rr4:(w2.alloc (.cells Qaf 31)).cell? ⟨w.heap.size,4,none⟩=some (.slice none 0 0):=p.cell (i:=4) rfl;have zz4:=p.thaw 4;have rr5:(w2.alloc (.cells Qaf 31)).cell? ⟨w.heap.size,5,none⟩=some (.string ⟨#[]⟩):=p.cell (i:=5) rfl;have zz5:=p.thaw 5;have qs:=p.lt;clear HB2 g2 hx hR2;go_wp2;refine bodyPost_ret (v:= .tuple #[.agg Qaf,.int .i64 0,.iface 38 (.agg #[.int .i64 i])]) (by simp[results,Tryz.results13,go_sem,rr0,rr1,rr2,rr3,rr4,rr5]) rfl ⟨?_,.inr ⟨HN.out,rfl⟩⟩;exact HB.out.trans ((((((((Only.refl (w.heap.size) _).set 0 (.int .i64 0)).set 1 (.int .i64 0)).set 2 (.int .i64 0)).set 3 (.int .i64 0)).set 4 (.slice none 0 0)).set 5 (.string ⟨#[]⟩)).toBelow (Nat.le_refl _) HB.out.size)
structure GO {α:Type} [Cel α] (P:World->α->(Nat->Prop)->Prop) (t:TypeId) (w W:World) (v:Value) (xs:List α):Prop where
  bl:Below w.heap.size w W
  own:W.ownsRow w.heap.size t (Cel.k α) v xs.length (flat xs)
  fps:∃fp:Nat->Nat->Prop,(∀(i:Nat) (h:i<xs.length),P W xs[i] (fp i))/\(∀i j,i≠j->∀x,fp i x->¬fp j x)/\∀i x,fp i x->i<xs.length/\w.heap.size<=x/\x<W.heap.size/\v.ownBlock≠some x
theorem GO.start {α:Type} [Cel α] {P:World->α->(Nat->Prop)->Prop} {t:TypeId} {w W:World} {v:Value} (h:Below w.heap.size w W) (ho:W.ownsRow w.heap.size t (Cel.k α) v 0 []):GO (α:=α) P t w W v []:=
 ⟨h,ho,fun _ _=>False,fun i h=>by simp at h,fun _ _ _ _ h=>h.elim,fun _ _ h=>h.elim⟩
theorem GO.below {α:Type} [Cel α] {P:World->α->(Nat->Prop)->Prop} (hP:Firm P) {t:TypeId} {w W W1:World} {v:Value} {xs:List α} (h:GO P t w W v xs) (g:Below W.heap.size W W1):GO P t w W1 v xs:=by
 obtain⟨h1,h2,fp,f1,f2,f3⟩:=h;exact⟨via0 g h1,Qar h2 g,fp,fun i hi=>hP _ _ _ _ _ (f1 i hi) (Offp.of_below (S:=fun _=>False) g) (fun _ _ e=>e),f2,fun i x hx=>⟨(f3 i x hx).1,(f3 i x hx).2.1,Nat.lt_of_lt_of_le (f3 i x hx).2.2.1 g.size,(f3 i x hx).2.2.2⟩⟩
theorem GO.app {α:Type} [Cel α] {P:World->α->(Nat->Prop)->Prop} (hP:Firm P) {pg:Program} {ts t:TypeId} {z:Value} {bytes:Nat} (hu:pg.underlying ts=some (.slice t)) (hinfo:(pg.info? t).map (fun i=>(i.zero,i.size,i.bytes))=some (some z,Cel.k α,bytes)) (hz:z.cells.size=Cel.k α) (hk:0<Cel.k α) (hby:bytes<=1000)
 {w W W1:World} {a:Option Addr} {cp:Nat} {xs:List α} (h:GO P t w W (.slice a xs.length cp) xs) (g:Below W.heap.size W W1) (x:α) {S:Nat->Prop} (hy:P W1 x S) (hS:∀y,S y->W.heap.size<=y/\y<W1.heap.size) (cs:Array Value) (hcs:cs.toList=Cel.cs x) (hx:xs.length<=2000000):
 ∃a2 c2 W2,(Builtin.append_ #[ts,ts] ts #[.slice a xs.length cp,.slice (some ⟨W1.heap.size,0,none⟩) 1 1]).run pg (W1.alloc (.cells cs t))= .ok (.slice a2 (xs.length+1) c2) W2/\GO P t w W2 (.slice a2 (xs.length+1) c2) (xs++ [x])/\(∀k t' vs,W.heap.size<=k->Blk W1 k t' vs->Blk W2 k t' vs):=by
 obtain⟨hbl,own0,fp,f1,f2,f3⟩:=h;have hw1:w.heap.size<=W1.heap.size:=Nat.le_trans hbl.size g.size;have own1:=Qav (Qar own0 g) (.cells cs t);have hX:At (W1.alloc (.cells cs t)) (some ⟨W1.heap.size,0,none⟩) [x]:=by
  refine .inr ⟨_,0,rfl,by simp,fun j u hu=> ?_⟩;rw[Qda,← hcs]at hu;rw[Nat.zero_add];exact(Blk.new W1 t cs).cell (by simpa using hu)
 obtain⟨v',W2,hr,hown,hgrow,hob⟩:=Qbh (P:=pg) hu hinfo hz hk hby w.heap.size (.slice a xs.length cp) xs [x] (some ⟨W1.heap.size,0,none⟩) 1 _ (by simp;omega) own1 hX (by simp;omega);simp only[List.length_cons,List.length_nil,Nat.zero_add]at hown hr;obtain⟨a2,c2,rfl,_⟩:=Qan hown;have ko:=Qb3 hgrow;have hs2:W1.heap.size+1<=W2.heap.size:=by have:=ko.size;simpa using this
 have os:=g.size;have hS' :∀y,(Value.slice a xs.length cp).ownBlock=some y->w.heap.size<=y/\y<W.heap.size:=fun y hy=>own0.lt y hy
 have kb:Offp (fun _=>False) W1 (W1.alloc (.cells cs t)):=Offp.of_below (Qad (Below.refl _ _) _);have kg:Offp (fun _=>False) W W1:=Offp.of_below g;have bA:Below w.heap.size w (W1.alloc (.cells cs t)):=Qad (via0 g hbl) _;refine⟨a2,c2,W2,hr,⟨bA.trans (ko.toBelow (fun y e=>(hS' y e).1) bA.size),Qgx (by simp) hown,fun i=>if i=xs.length then S else fp i,?_,?_,?_⟩,?_⟩
 . intro i hi;by_cases e:i=xs.length
   . subst e;simp only[if_true];rw[List.getElem_append_right (Nat.le_refl _)];simp only[Nat.sub_self,List.getElem_cons_zero];exact hP _ _ _ _ _ (hP _ _ _ _ _ hy kb (fun _ _ e=>e)) ko (fun y hy e=>by have:=(hS y hy).1;have:=(hS' y e).2;omega)
   . have hi' :i<xs.length:=(by simp at hi;omega);simp only[if_neg e];rw[List.getElem_append_left hi'];exact hP _ _ _ _ _ (hP _ _ _ _ _ (hP _ _ _ _ _ (f1 i hi') kg (fun _ _ e=>e)) kb (fun _ _ e=>e)) ko (fun y hy e=>(f3 i y hy).2.2.2 e)
 . intro i j hij y hy' hy2;by_cases e1:i=xs.length
   . by_cases e2:j=xs.length
     . omega
     . simp only[if_pos e1]at hy';simp only[if_neg e2]at hy2;have:=(hS y hy').1;have:=(f3 j y hy2).2.2.1;omega
   . by_cases e2:j=xs.length
     . simp only[if_neg e1]at hy';simp only[if_pos e2]at hy2;have:=(hS y hy2).1;have:=(f3 i y hy').2.2.1;omega
     . simp only[if_neg e1]at hy';simp only[if_neg e2]at hy2;exact f2 i j hij y hy' hy2
 . intro i y hy';have hob' :∀y,(Value.slice a xs.length cp).ownBlock≠some y->y<W1.heap.size->(Value.slice a2 (xs.length+1) c2).ownBlock≠some y:=by
    intro y hn hlt e;rcases hob with h' |h'
    . exact hn (h'▸e)
    . rw[h']at e;simp only[World.size_alloc,Option.some.injEq]at e;omega
   by_cases e1:i=xs.length
   . simp only[if_pos e1]at hy';have hh:=hS y hy';have hws:=hbl.size;exact⟨by simp;omega,by omega,by omega,hob' y (fun e=>by have:=(hS' y e).2;omega) hh.2⟩
   . simp only[if_neg e1]at hy';have hh:=f3 i y hy';exact⟨by simp;omega,hh.2.1,by omega,hob' y hh.2.2.2 (by omega)⟩
 . intro k t' vs hk hb;have hb2:Blk (W1.alloc (.cells cs t)) k t' vs:=hb.alloc _;exact hb2.offp ko (fun e=>by have:=(hS' k e).2;omega)
theorem GO.toOwn {α:Type} [Cel α] {P:World->α->(Nat->Prop)->Prop} {t:TypeId} {w W:World} {a:Option Addr} {cp:Nat} {xs:List α} (h:GO P t w W (.slice a xs.length cp) xs):Own P W a xs (fun b=>w.heap.size<=b/\b<W.heap.size):=by
 obtain⟨_,hown,fp,f1,f2,f3⟩:=h;rcases Qek hown with e|⟨b,o,e,hb,hlt,hi,ht⟩
 . exact .inl e
 . refine .inr ⟨b,o,fp,e,hb,fun i x hx=>⟨(f3 i x hx).2.1,(f3 i x hx).2.2.1⟩,⟨hlt,hi,ht,f1,f2,fun i hx=>(f3 i b hx).2.2.2 ?_⟩⟩;rw[e];rfl
structure NC where
  kind:Int
  term:Int
  vote:Int
  prev:Int
  A:Option Addr
  cap:Nat
  l:List En
  snap:ByteArray
instance:Inhabited NC:=⟨⟨0,0,0,0,none,0,[],⟨#[]⟩⟩⟩
instance:Cel NC where
  k:=6
  cs x:= [Value.int .i64 x.kind,Value.int .i64 x.term,Value.int .i64 x.vote,Value.int .i64 x.prev,Value.slice x.A x.l.length x.cap,Value.string x.snap]
  len _:=rfl
  one x u hu:=by simp at hu;rcases hu with rfl|rfl|rfl|rfl|rfl|rfl<;>rfl
def NC.p (x:NC):Nt:=⟨x.kind,x.term,x.vote,x.prev,x.l,x.snap⟩
def EachN (w:World) (l:List NC):Prop:=∀x∈l,At w x.A x.l
theorem EachN.below {w w' :World} {l:List NC} (h:EachN w l) (hw:Below w.heap.size w w'):EachN w' l:=fun x hx=>(h x hx).below hw
def Qg3 (w:World) (x:NC) (S:Nat->Prop):Prop:=Sub w x.A x.l S
theorem Qct:Firm Qg3:=fun w w' x S T h k hd=>Sub.offp h k hd
theorem Qh9 {S:Nat->Prop} {w:World} {a:Option Addr} {l:List NC} (h:Own Qg3 w a l S):EachN w l:=h.each (fun x S hx=>Sub.at hx)
theorem In.getNC {w:World} {b o:Nat} {l:List NC} (h:In w b o l) (i:Nat) (hi:i<l.length):
 w.cell? ⟨b,o+i*6,none⟩=some (Value.int .i64 l[i].kind)/\w.cell? ⟨b,o+i*6+1,none⟩=some (Value.int .i64 l[i].term)/\w.cell? ⟨b,o+i*6+2,none⟩=some (Value.int .i64 l[i].vote)/\w.cell? ⟨b,o+i*6+3,none⟩=some (Value.int .i64 l[i].prev)/\w.cell? ⟨b,o+i*6+4,none⟩=some (Value.slice l[i].A l[i].l.length l[i].cap)/\w.cell? ⟨b,o+i*6+5,none⟩=some (Value.string l[i].snap):=
 ⟨h.cell i hi (f:=0) rfl,h.cell i hi (f:=1) rfl,h.cell i hi (f:=2) rfl,h.cell i hi (f:=3) rfl,h.cell i hi (f:=4) rfl,h.cell i hi (f:=5) rfl⟩
theorem infoNC:(Tryz.prog.info? 31).map (fun i=>(i.zero,i.size,i.bytes))=some (some (.agg Qaf),6,72):=by kernel_rfl
end Go.Proofs.YtajbldnhjpjghaaGreatDoor.Gen
