/-
  Bytes of notes that are drawn, and a place in them. Condition: at most 1048576 bytes of code.
-/
import Derived.Test.YtajbldnhjpjghaaGreatNS2
set_option linter.unusedVariables false
set_option linter.unusedSimpArgs false
set_option maxRecDepth 100000
set_option maxHeartbeats 8000000
set_option maxRecDepth 100000
set_option maxHeartbeats 8000000
namespace Go.Proofs.YtajbldnhjpjghaaGreat.Gen
open ChangeShapes WideShapes ChangeAt RowKit Joins Deep Base
theorem Qhp (A:Option Addr) (cap:Nat) (l:List By) (hl:l.length<=1048576) (hby:∀x∈l,x.right) (w:World) (hA:At w A l):
 Calls Tryz.prog 14 #[.slice A l.length cap] w fun e w' =>∃(L:List UInt8) (a:Option Addr) (c:Nat) (k:Int),e= .returned (.tuple (l1SI a L.length c k))/\L.length<=200000/\L.length<=c/\c<=9223372036854775807/\At w' a L/\I64 k/\Below w.heap.size w w' :=by
 have HA:=hidP hA;have Hby:=hidP hby;clear hA hby;go_enter Tryz.func14,Tryz.ntmps14;go_wp2_with fail;refine(Qie A cap l hl Hby.out _ HA.out).mono ?_;rintro e w1 ⟨C,rfl,hC,g1,hD⟩;have hlt:=hD.lt;have HD:=hidP hD;clear hD;go_wp2_with fail;refine(Qep C A cap l _ HD.out).mono ?_;rintro e w2 ⟨kind,term,vote,prev,na,nc,NL,snap,rfl,hn1,hn2,hn3,hav,o2,d2⟩;have B2:=g1.trans (o2.toBelow hC g1.size);have s2:=o2.size;have HD2:=hidP d2;have HNB:Hid (∀W:World,Below w2.heap.size w2 W->Calls Tryz.prog 9 #[.agg (Qag kind term vote prev na NL.length nc snap)] W fun e w' =>∃a' c',e= .returned (.slice a' (Qcg kind term vote prev NL snap).length c')/\Below W.heap.size W w' /\w'.ownsRow W.heap.size 5 1 (.slice a' (Qcg kind term vote prev NL snap).length c') (Qcg kind term vote prev NL snap).length (flat (Qcg kind term vote prev NL snap))):=fun W g=>Qc9 kind term vote prev snap (by omega) na nc NL (by omega) (fun y hy=>by have:=hn2 y hy;exact⟨by omega,by omega⟩) W (hav.at.below g)
 have hno:=hidP (Qid kind term vote prev NL snap);generalize Qcg kind term vote prev NL snap=X at HNB hno;clear o2 d2 HD g1 hav hn1 hn2 hn3;go_wp2_with fail;refine(HNB.out _ (Below.refl _ _)).mono ?_;rintro e w3 ⟨a3,c3,rfl,g3,o3⟩;have HD3:=hidP (HD2.out.below g3);have HO3:=hidP o3;have B3:=via0 g3 B2;have s3:=g3.size;clear g3 o3 HD2 B2 HNB;go_wp2_with fail;refine(Qip C A cap l _ HD3.out).mono ?_;rintro e w4 ⟨a4,c4,Y,rfl,hY,D4⟩;have s4:=D4.on.size;obtain⟨a5,c5,w5,hr5,hown5,b5⟩:=Qlb (c' :=c4) (show w2.heap.size<=w4.heap.size by omega) (Qbi HO3.out D4.on (by omega)) (Qc2 rfl D4.own) (by have:=hno.out;omega);have hl5:Hid ((X++Y).length<=190000):=by show _<=_;rw[List.length_append];have:=hno.out;omega
 obtain⟨hcap5,hcm5⟩:=Qel hown5;have HS5:=hidP (Qhw (C:=C) hown5 (by omega));have HD5:=hidP (D4.dr.under b5 (by omega));have HB5:=hidP ((B3.trans (D4.on.toBelow hC B3.size)).trans (b5.mono (by omega)));have s5:=b5.size;clear hown5 b5 D4 HO3 HD3 B3;generalize X++Y=Z0 at*;have hZ0:=hl5.out;go_wp2_with (at_builtin;refine Qac rfl _ _ _ rfl _ _ _ rfl rfl hr5 ?_);refine(Qqz C A cap l a5 c5 Z0 (by omega) hcap5 hcm5 _ HD5.out HS5.out).mono ?_;rintro e w6 ⟨Z,a6,c6,rfl,hZ,hc6,hm6,hS6,o6,d6⟩;have HB6:=hidP (HB5.out.trans (o6.toBelow hC HB5.out.size));have HI:=hidP (Qjl w6 ([⟨0⟩,⟨0⟩,⟨0⟩,⟨1⟩,⟨(Z.length:Int)⟩,⟨-1⟩]:List Nu) (Qcs 0 0 0 1 (Z.length:Int) (-1)) 3 rfl);have al:=Qad (Below.refl _ w6) (.cells (Qcs 0 0 0 1 (Z.length:Int) (-1)) 3);have HDz:=hidP (d6.below al);have HAz:=hidP (hS6.below al);have HBz:=hidP (via0 al HB6.out);have s6:=o6.size;clear al o6 d6 HD5 HS5 HB5 hr5 HB6 hS6 hl5 hcap5 hcm5;go_wp2_with fail;refine(Qb6 C A cap l w6.heap.size 0 6 ([⟨0⟩,⟨0⟩,⟨0⟩,⟨1⟩,⟨(Z.length:Int)⟩,⟨-1⟩]:List Nu) (by simp) (by simp) _ HDz.out (by simp) (by omega) HI.out).mono ?_;rintro e w9 ⟨y,hy,rfl,o9,_⟩;have hB:=hidP (HBz.out.trans (o9.toBelow hC HBz.out.size));have hI:Hid (I64 y.n):=by
  show I64 _;simp only[List.mem_cons,List.not_mem_nil,or_false]at hy;rcases hy with rfl|rfl|rfl|rfl|rfl|rfl<;>refine⟨?_,?_⟩<;>simp<;>omega
 have hat:=hidP (HAz.out.only o9);clear hy o9 HAz HBz HDz HI;go_wp2;exact bodyPost_ret (v:= .tuple (l1SI a6 Z.length c6 y.n)) (by simp[results,Tryz.results14,go_sem]) rfl ⟨Z,a6,c6,y.n,rfl,by omega,by omega,hm6,hat.out.1,hI.out,hB.out⟩
theorem Qhj (o:Option (Nat × Nat)) (f:FuncId) (cp:Array Value) (z y g r:Nat) (A:Option Addr) (cap:Nat) (l:List UInt8) (i:Int) (W:World)
 (hcf:∀(p:Value) (W:World),(callFunc f (#[p]++cp)).run Tryz.prog W= .ok (.enter f (#[p]++cp)) W)
 (pz:Blk W z 73 #[.func (.func f) #[] cp]) (py:Blk W y 75 #[.pointer (some ⟨r,0,none⟩)]) (pg:Blk W g 3 #[.int .i64 0]) (hgr:g≠r)
 (h:Calls Tryz.prog f (#[.pointer (some ⟨r,0,none⟩)]++cp) W fun e W' =>Qey Qqm r A cap l W e W' o):
 Calls Tryz.prog 71 #[.pointer (some ⟨z,0,none⟩),.pointer (some ⟨y,0,none⟩),.pointer (some ⟨g,0,none⟩)] W fun e W' =>
  (∃x c W0,o=some (x,c)/\e= .returned (.tuple #[])/\Only r W W0/\Rd W0 r A cap l (c:Int)/\W' =(W0.setCell ⟨g,0,none⟩ (.int .i64 (x:Int))))∨(o=none/\Only r W W' /\∃t v,e= .panicked [{v:= .iface t v,recovered:=false}]):=by
 have HH:=hidP h;have c0:=pz.row1;have c1:=py.row1;have HG:=hidP pg;clear h pz py pg;go_enter Tryz.func71,Tryz.ntmps71;go_wp2_with fail;refine HH.out.mono ?_;intro e W1 h1;cases o with
 |none=>
  obtain⟨o1,t,v,rfl⟩:=h1;exact⟨rfl,.inr ⟨rfl,o1,t,v,rfl⟩⟩
 |some x=>
  obtain⟨x,c⟩:=x;obtain⟨o1,r1,v,rfl,rfl⟩:=h1;have p1:=HG.out.only o1 hgr;have d0:=p1.row1;have f0:=p1.thaw 0;have q0:=p1.lt;have HO1:=hidP o1;have HR1:=hidP r1;clear o1 r1 p1 c0 c1;go_wp2
  go_end0
  exact .inl ⟨x,c,W1,rfl,rfl,HO1.out,HR1.out,rfl⟩
theorem Qh9 (o:Option (Nat × Nat)) (f:FuncId) (cp:Array Value) (A:Option Addr) (cap:Nat) (l:List UInt8) (i:Int) (hi:I64 i) (w:World) (hA:At w A l)
 (hcf:∀(p:Value) (W:World),(callFunc f (#[p]++cp)).run Tryz.prog W= .ok (.enter f (#[p]++cp)) W)
 (h:∀W r,Below w.heap.size w W->w.heap.size+2=r->W.heap.size=w.heap.size+5->Rd W r A cap l i->Calls Tryz.prog f (#[.pointer (some ⟨r,0,none⟩)]++cp) W fun e W' =>Qey Qqm r A cap l W e W' o):
 Calls Tryz.prog 44 #[.slice A l.length cap,.int .i64 i,.func (.func f) #[] cp] w fun e w' =>Below w.heap.size w w' /\
  ((∃x c,o=some (x,c)/\e= .returned (.tuple (Qk3 (x:Int) (c:Int) true)))∨(o=none/\e= .returned (.tuple Qjx))):=by
 have hmf:∀(fn:Fn) (first cap:Array Value) (w:World),(Instr.makeFunc fn first cap).run Tryz.prog w= .ok (.func fn first cap) w:=fun _ _ _ _=>rfl
 have hA' :At (((((w.alloc (.cells #[.func (.func f) #[] cp] 73)).alloc (.cells #[.int .i64 0] 3)).alloc (.cells (l1SI A l.length cap i) 120)).alloc (.cells #[.pointer (some ⟨w.heap.size+1+1,0,none⟩)] 75)).alloc (.cells #[.bool false] 4)) A l:=
  hA.below (Qad (Qad (Qad (Qad (Qad (Below.refl _ w) _) _) _) _) _)
 have hAlt:∀c o,A=some ⟨c,o,none⟩->l= []∨c<w.heap.size:=fun c o e=>hA.imp id fun⟨b,o',e',hb,_⟩=>by rw[e]at e';cases e';exact hb
 have hcf1:∀W:World,(callFunc 71 #[.pointer (some ⟨w.heap.size,0,none⟩),.pointer (some ⟨w.heap.size+1+1+1,0,none⟩),.pointer (some ⟨w.heap.size+1,0,none⟩)]).run Tryz.prog W= .ok (.enter 71 #[.pointer (some ⟨w.heap.size,0,none⟩),.pointer (some ⟨w.heap.size+1+1+1,0,none⟩),.pointer (some ⟨w.heap.size+1,0,none⟩)]) W:=fun W=>by simp[go_sem]
 have pz:=((((Blk.new w 73 #[.func (.func f) #[] cp]).alloc (.cells #[.int .i64 0] 3)).alloc (.cells (l1SI A l.length cap i) 120)).alloc (.cells #[.pointer (some ⟨w.heap.size+1+1,0,none⟩)] 75)).alloc (.cells #[.bool false] 4);have pg:=(((Blk.new (w.alloc (.cells #[.func (.func f) #[] cp] 73)) 3 #[.int .i64 0]).alloc (.cells (l1SI A l.length cap i) 120)).alloc (.cells #[.pointer (some ⟨w.heap.size+1+1,0,none⟩)] 75)).alloc (.cells #[.bool false] 4);have pr:=((Blk.new ((w.alloc (.cells #[.func (.func f) #[] cp] 73)).alloc (.cells #[.int .i64 0] 3)) 120 (l1SI A l.length cap i)).alloc (.cells #[.pointer (some ⟨w.heap.size+1+1,0,none⟩)] 75)).alloc (.cells #[.bool false] 4);have py:=(Blk.new (((w.alloc (.cells #[.func (.func f) #[] cp] 73)).alloc (.cells #[.int .i64 0] 3)).alloc (.cells (l1SI A l.length cap i) 120)) 75 #[.pointer (some ⟨w.heap.size+1+1,0,none⟩)]).alloc (.cells #[.bool false] 4);have pd:=Blk.new ((((w.alloc (.cells #[.func (.func f) #[] cp] 73)).alloc (.cells #[.int .i64 0] 3)).alloc (.cells (l1SI A l.length cap i) 120)).alloc (.cells #[.pointer (some ⟨w.heap.size+1+1,0,none⟩)] 75)) 4 #[.bool false];have hbl:=Qad (Qad (Qad (Qad (Qad (Below.refl _ w) (.cells #[.func (.func f) #[] cp] 73)) (.cells #[.int .i64 0] 3)) (.cells (l1SI A l.length cap i) 120)) (.cells #[.pointer (some ⟨w.heap.size+1+1,0,none⟩)] 75)) (.cells #[.bool false] 4);simp only[World.size_alloc]at pg pr py pd;generalize hW5:(((((w.alloc (.cells #[.func (.func f) #[] cp] 73)).alloc (.cells #[.int .i64 0] 3)).alloc (.cells (l1SI A l.length cap i) 120)).alloc (.cells #[.pointer (some ⟨w.heap.size+1+1,0,none⟩)] 75)).alloc (.cells #[.bool false] 4))=W5 at*;have s5:W5.heap.size=w.heap.size+5:=by rw[← hW5];simp
 have hrd:Rd W5 (w.heap.size+1+1) A cap l i:=⟨pr,by
  rcases hA' with h|⟨b,o,e,hb,hi⟩
  . exact .inl h
  . rcases hAlt b o e with h|h
    . exact .inl h
    . exact .inr ⟨b,o,e,hb,by omega,hi⟩,hi⟩
 have hdo:=Qhj o f cp w.heap.size (w.heap.size+1+1+1) (w.heap.size+1) (w.heap.size+1+1) A cap l i W5 hcf pz py pg (by omega) (h W5 _ hbl rfl s5 hrd);have htr:=Qfa 71 #[.pointer (some ⟨w.heap.size,0,none⟩),.pointer (some ⟨w.heap.size+1+1+1,0,none⟩),.pointer (some ⟨w.heap.size+1,0,none⟩)] ((((w.alloc (.cells #[.func (.func f) #[] cp] 73)).alloc (.cells #[.int .i64 0] 3)).alloc (.cells (l1SI A l.length cap i) 120)).alloc (.cells #[.pointer (some ⟨w.heap.size+1+1,0,none⟩)] 75))
  (fun W' =>∃x c W0,o=some (x,c)/\Only (w.heap.size+1+1) W5 W0/\Rd W0 (w.heap.size+1+1) A cap l (c:Int)/\W' =(W0.setCell ⟨w.heap.size+1,0,none⟩ (.int .i64 (x:Int)))) (fun W' =>o=none/\Only (w.heap.size+1+1) W5 W') hcf1 (by
   rw[hW5];refine hdo.mono fun e W' h1=> ?_
   rcases h1 with⟨x,c,W0,h1,h2,h3,h4,rfl⟩|⟨h1,h2,t,v,rfl⟩
   . exact⟨by simpa using (pd.only h3 (by omega)).other (by omega) 0 (.int .i64 (x:Int)),.inl ⟨h2,x,c,W0,h1,h3,h4,rfl⟩⟩
   . exact⟨by simpa using pd.only h2 (by omega),.inr ⟨t,v,rfl,h1,h2⟩⟩)
 have HT:=hidP htr;have Hpy:=hidP py;have Hpg:=hidP pg;have Hbl:=hidP hbl;have Hs5:=hidP s5;clear htr hdo hrd pz pr pg pd h hcf hcf1 py hbl s5 hW5 hA';go_enter Tryz.func44,Tryz.ntmps44;go_wp2_with fail;refine HT.out.mono ?_;rintro e W' ⟨W0,ho,hh⟩;simp only[World.size_alloc]at ho;rcases hh with⟨rfl,x,c,W1,rfl,o1,r1,rfl⟩|⟨rfl,rfl,o1⟩
 . have hfin:Hid (Below w.heap.size w W'):=Hbl.out.trans ((o1.toBelow (by omega) (by have:=Hs5.out;omega)).trans ((Qav (Below.refl _ _) (by omega) (.int .i64 (x:Int))).trans (ho.toBelow (by omega) (by have:=o1.size;have:=Hs5.out;simp;omega))));have g' :=((Hpg.out.only o1 (by omega)).setAt 0 (.int .i64 (x:Int))).only ho (by omega);have y' :=((Hpy.out.only o1 (by omega)).other (by omega) 0 (.int .i64 (x:Int))).only ho (by omega);have r' :=(r1.box.other (show w.heap.size+1+1≠w.heap.size+1 by omega) 0 (.int .i64 (x:Int))).only ho (by omega);have c0:=g'.row1;have c1:=y'.row1;obtain⟨c2,c3⟩:=r'.row2;have q0:=g'.lt;have q1:=y'.lt;have q2:=r'.lt;clear ho g' y' r' o1 r1 hmf;go_wp2_with fail
   go_quiet (fail)
   go_wp2;exact bodyPost_ret (v:= .tuple (Qk3 (x:Int) (c:Int) true)) (by simp[results,Tryz.results44,go_sem]) rfl ⟨below_drewN hfin.out _,.inl ⟨x,c,rfl,rfl⟩⟩
 . have hfin:Hid (Below w.heap.size w W'):=Hbl.out.trans ((o1.toBelow (by omega) (by have:=Hs5.out;omega)).trans (ho.toBelow (by omega) (by have:=o1.size;have:=Hs5.out;omega)));clear hmf;go_wp2;exact bodyPost_ret (v:= .tuple Qjx) (by simp[results,Tryz.results44,go_sem]) rfl ⟨hfin.out,rfl⟩
theorem Qhn (A:Option Addr) (cap:Nat) (l:List UInt8) (hl:l.length<=1048576) (i:Int) (hi:I64 i) (w:World) (hA:At w A l):
 Calls Tryz.prog 18 (l1SI A l.length cap i) w fun e w' =>e= .returned (numT (getN l i))/\Below w.heap.size w w' :=by
 have hR:=hidP (Qh9 (getN l i) 45 #[] A cap l i hi w hA (fun p W=>by simp[go_sem]) (fun W r _ _ _ hrd=>Qbn r A cap l i hl W hrd));clear hA;go_enter Tryz.func18,Tryz.ntmps18;go_wp2_with fail;refine hR.out.mono ?_;rintro e w' ⟨hb,⟨x,c,hg,rfl⟩|⟨hg,rfl⟩⟩
 . go_wp2;exact bodyPost_ret (v:= .tuple (Qk3 (x:Int) (c:Int) true)) (by simp[results,Tryz.results18,go_sem]) rfl ⟨by rw[hg];rfl,hb⟩
 . go_wp2;exact bodyPost_ret (v:= .tuple Qjx) (by simp[results,Tryz.results18,go_sem]) rfl ⟨by rw[hg];rfl,hb⟩
def part (l:List UInt8) (c:Nat):Nat->Nat
  |0=>0
  |k+1=>part l c k+(l.getD (c+k) 0).toNat*256 ^ k
def Qho (l:List UInt8) (c:Nat):Option (Nat × Nat):=if c+4<=l.length then some (part l c 4,c+4)else none
theorem Qny (l:List UInt8) (c:Nat):∀k,part l c k<256 ^ k
 |0=>by simp[part]
 |k+1=>by
  have h:=Qny l c k;have hd:(l.getD (c+k) 0).toNat<=255:=by have:=(l.getD (c+k) 0).toNat_lt;omega
  have h2:=Nat.mul_le_mul_right (256 ^ k) hd;simp only[part];rw[Nat.pow_succ];omega
theorem Qp2 (r:Nat) (A:Option Addr) (cap:Nat) (l:List UInt8) (c:Nat) (hl:l.length<=1048576) (w:World) (h:Rd w r A cap l (c:Int)):
 Calls Tryz.prog 88 #[.pointer (some ⟨r,0,none⟩)] w fun e w' =>Qey Qqm r A cap l w e w' (Qho l c):=by
 have HR:=hidP h;clear h;go_enter Tryz.func88,Tryz.ntmps88;go_wp2
 go_loopw [3,4,5] (fun v3 v4 v5 W=>∃(k:Nat),v3= .int .i64 (part l c k:Int)/\v4= .int .i64 ((256 ^ k:Nat):Int)/\v5= .int .i64 (k:Int)/\k<=4/\Hid (k=0∨c+k<=l.length)/\Hid (Only r w W)/\Hid (Rd W r A cap l ((c+k:Nat):Int))) (fun _ _ v5 _=>4 - (intOf v5).toNat)
 case atStart=>exact⟨0,rfl,rfl,rfl,by omega,.inl rfl,Only.refl _ _,HR⟩
 case round=>
  obtain⟨k,rfl,rfl,rfl,hk,hck,hO,hR⟩:=hrel;by_cases h4:k<4
  . have h4' :(k:Int)<4:=(by omega);by_cases hp:c+k<l.length
    . have hpl:=Qny l c k;have hst:Hid (part l c (k+1)=part l c k+(l[c+k]).toNat*256 ^ k):=(by show _=_;simp[part,List.getD_eq_getElem?_getD,hp]);have hck' :Hid (k+1=0∨c+(k+1)<=l.length):=(by show _∨_;omega);have hd2:(l[c+k]).toNat<256:=(l[c+k]).toNat_lt;go_wp2_with fail;refine(Qln r A cap l (c+k) hp hl _ hR.out).mono ?_;rintro e w1 ⟨rfl,o1,r1⟩;generalize (l[c+k]).toNat=d at*;have hO1:=hidP (Qap hO.out o1);have hR1:Hid (Rd w1 r A cap l ((c+(k+1):Nat):Int)):=r1;clear o1 r1 hR hO;generalize part l c k=N at*;obtain rfl|rfl|rfl|rfl:k=0∨k=1∨k=2∨k=3:=by omega
      . have hst1:part l c 1=N+d*1:=hst.out;have hck1:Hid (1=0∨c+1<=l.length):=hck';have Hst:=hidP hst1;simp only[Nat.reducePow]at hpl ⊢;clear hst hst1;go_wp2;refine⟨⟨1,?_,?_,rfl,by omega,hck1,hO1,hR1⟩,by simp[intOf]⟩
        . show Value.int .i64 _=Value.int .i64 _;congr 1;have:=Hst.out;omega
        . rfl
      . have hst1:part l c 2=N+d*256:=hst.out;have hck1:Hid (2=0∨c+2<=l.length):=hck';have Hst:=hidP hst1;simp only[Nat.reducePow]at hpl ⊢;clear hst hst1;go_wp2;refine⟨⟨2,?_,?_,rfl,by omega,hck1,hO1,hR1⟩,by simp[intOf]⟩
        . show Value.int .i64 _=Value.int .i64 _;congr 1;have:=Hst.out;omega
        . rfl
      . have hst1:part l c 3=N+d*65536:=hst.out;have hck1:Hid (3=0∨c+3<=l.length):=hck';have Hst:=hidP hst1;simp only[Nat.reducePow]at hpl ⊢;clear hst hst1;go_wp2;refine⟨⟨3,?_,?_,rfl,by omega,hck1,hO1,hR1⟩,by simp[intOf]⟩
        . show Value.int .i64 _=Value.int .i64 _;congr 1;have:=Hst.out;omega
        . rfl
      . have hst1:part l c 4=N+d*16777216:=hst.out;have hck1:Hid (4=0∨c+4<=l.length):=hck';have Hst:=hidP hst1;simp only[Nat.reducePow]at hpl ⊢;clear hst hst1;go_wp2;refine⟨⟨4,?_,?_,rfl,by omega,hck1,hO1,hR1⟩,by simp[intOf]⟩
        . show Value.int .i64 _=Value.int .i64 _;congr 1;have:=Hst.out;omega
        . rfl
    . have hN:Hid (Qho l c=none):=(by show _=_;unfold Qho;rw[if_neg (by omega)]);go_wp2_with fail;refine(Qjk r A cap l _ (by omega) hl _ hR.out).mono ?_;rintro e w1 ⟨rfl,o1⟩;refine⟨rfl,?_⟩;rw[hN.out];exact⟨Qap hO.out o1,_,_,rfl⟩
  . obtain rfl:k=4:=(by omega);have hN:Hid (Qho l c=some (part l c 4,c+4)):=(by show _=_;unfold Qho;rw[if_pos (by have:=hck.out;omega)]);generalize part l c 4=N at*;go_wp2;go_ret;rw[hN.out];exact⟨hO.out,hR.out,_,rfl,rfl⟩
def Qd1 (l:List UInt8) (i:Int):Option (List UInt8 × Nat):=match getT l i with
  |none=>none
  |some (s,c)=>match Qho l c with
    |none=>none
    |some (n,d)=>if n=sumN s.data.toList then some (s.data.toList,d)else none
def isBy (B:Nat) (L:List UInt8) (v:Value) (W:World):Prop:=∃b c,v= .slice (some ⟨b,0,none⟩) L.length c/\B<=b/\b<W.heap.size/\In W b 0 L/\L.length<=c/\c<=9223372036854775807
theorem isBy.only {B r:Nat} {L:List UInt8} {v:Value} {W W' :World} (h:isBy B L v W) (g:Only r W W') (hr:r<B):isBy B L v W' :=by
 obtain⟨b,c,e,h1,h2,h3,h4,h5⟩:=h;exact⟨b,c,e,h1,Nat.lt_of_lt_of_le h2 g.size,fun j u hu=>(g.cell (p:=⟨b,0+j,none⟩) h2 (by show b≠r;omega)).trans (h3 j u hu),h4,h5⟩
theorem isBy.below {B:Nat} {L:List UInt8} {v:Value} {W W' :World} (h:isBy B L v W) (g:Below W.heap.size W W'):isBy B L v W' :=by
 obtain⟨b,c,e,h1,h2,h3,h4,h5⟩:=h;exact⟨b,c,e,h1,Nat.lt_of_lt_of_le h2 g.size,h3.below h2 g,h4,h5⟩
theorem Qqs {l:List UInt8} {i:Int} {L:List UInt8} {c:Nat} (h:Qd1 l i=some (L,c)):i<(c:Int)/\c<=l.length/\L.length<=l.length:=by
 unfold Qd1 at h;cases hx:getT l i with
 |none=>simp[hx]at h
 |some p=>
 obtain⟨s,c1⟩:=p;have h1:=Qds hx;simp only[hx]at h;unfold Qho at h;by_cases h4:c1+4<=l.length
 . rw[if_pos h4]at h;simp only at h;split at h
   . simp only[Option.some.injEq,Prod.mk.injEq]at h;obtain⟨rfl,rfl⟩:=h;have e:s.data.toList.length=s.size:=(by rw[Array.length_toList];rfl);omega
   . cases h
 . rw[if_neg h4]at h;cases h
theorem Qkq (r:Nat) (A:Option Addr) (cap:Nat) (l:List UInt8) (i:Int) (hl:l.length<=1048576) (hcap:l.length<=cap) (hcm:cap<=9223372036854775807) (w:World) (h:Rd w r A cap l i):
 Calls Tryz.prog 65 #[.pointer (some ⟨r,0,none⟩)] w fun e w' =>Qey (isBy w.heap.size) r A cap l w e w' (Qd1 l i):=by
 obtain⟨hr,hfar⟩:=h.far';have HR:=hidP h;clear h;go_enter Tryz.func65,Tryz.ntmps65;go_wp2_with fail;refine(Qea r A cap l i hl hcap hcm _ HR.out).mono ?_;intro e w1 h1;cases hx:getT l i with
 |none=>
  have hN:Qd1 l i=none:=by simp[Qd1,hx]
  rw[hx]at h1;obtain⟨o1,t,v,rfl⟩:=h1;refine⟨rfl,?_⟩;rw[hN];exact⟨o1,t,v,rfl⟩
 |some x=>
 obtain⟨s,c⟩:=x;rw[hx]at h1;obtain⟨o1,r1,v,rfl,rfl⟩:=h1;have hle:=Qds hx;have hcv:=Go.Lib.run_convert_string_bytes (P:=Tryz.prog) w1 9 22 5 s Tryz.underlying9 Tryz.underlying22 Tryz.underlying5;have hbb:=Qhd w1 5 s;have hat:=Ql4 w1 5 s;have hsz2:=Go.Lib.bytesWorld_size w1 5 s;have hge:=grownCap_ge w1 s.size 0 5;have hgm:=grownCap_le_maxLen w1 s.size 0 5 (by simp[maxLen];omega);generalize Go.Lib.bytesWorld w1 5 s=w2 at*;generalize grownCap w1 s.size 0 5=gc at*;have hlen:s.data.toList.length=s.size:=by rw[Array.length_toList];rfl
 have HB:Hid (isBy w.heap.size s.data.toList (.slice (some ⟨w1.heap.size,0,none⟩) s.size gc) w2):=by
  refine⟨w1.heap.size,gc,by rw[hlen],o1.size,by omega,?_,by omega,by simpa [maxLen]using hgm⟩;rcases hat with e|⟨b,o,e,hb,hi⟩
  . rw[e];exact fun j v hv=>by simp[flat]at hv
  . cases e;exact hi
 have HO2:=hidP (o1.below hbb);have HR2:=hidP (r1.below hbb);have hS:Hid (Qd1 l i=match Qho l c with|none=>none|some (n,d)=>if n=sumN s.data.toList then some (s.data.toList,d)else none):=by show _=_;simp[Qd1,hx]
 clear o1 r1 hat hbb HR hge hgm hx;go_wp2_with fail;refine(Qp2 r A cap l c hl _ HR2.out).mono ?_;intro e w3 h3;cases hx:Qho l c with
 |none=>
  have hN:Qd1 l i=none:=by rw[hS.out,hx]
  rw[hx]at h3;obtain⟨o3,t,v,rfl⟩:=h3;refine⟨rfl,?_⟩;rw[hN];exact⟨Qap HO2.out o3,t,v,rfl⟩
 |some x=>
 obtain⟨n,d⟩:=x;rw[hx]at h3;obtain⟨o3,r3,v,rfl,rfl⟩:=h3;rw[hx]at hS;replace hS:Hid (Qd1 l i=if n=sumN s.data.toList then some (s.data.toList,d)else none):=hS;have HB3:=hidP (HB.out.only o3 hr);have HO3:=hidP (Qap HO2.out o3);have HR3:=hidP r3;have hat3:Hid (At w3 (some ⟨w1.heap.size,0,none⟩) s.data.toList):=by
  obtain⟨b,c',e,_,hb,hi,_⟩:=HB3.out;simp only[Value.slice.injEq,Option.some.injEq,Addr.mk.injEq,and_true]at e;obtain⟨e1,_⟩:=e;subst e1;exact .inr ⟨_,_,rfl,hb,hi⟩
 have hlen3:s.data.toList.length<=3000000:=by omega
 have hSum:=hidP (Qe6 (some ⟨w1.heap.size,0,none⟩) gc s.data.toList hlen3 _ hat3.out);rw[hlen]at hSum;clear o3 r3 HB HO2 HR2 hcv hx;go_wp2_with fail;refine hSum.out.mono ?_;rintro e w4 ⟨rfl,rfl⟩;clear hSum hat3;generalize sumN s.data.toList=N at*;by_cases hn:n=N
 . subst hn;rw[if_pos rfl]at hS;go_wp2;go_ret;rw[hS.out];exact⟨HO3.out,HR3.out,_,rfl,HB3.out⟩
 . rw[if_neg hn]at hS;have hn' :¬((n:Int)=(N:Int)):=(by omega);go_wp2;refine⟨rfl,?_⟩;rw[hS.out];exact⟨HO3.out,_,_,rfl⟩
theorem isBy.mono {B B' :Nat} {L:List UInt8} {v:Value} {W:World} (h:isBy B L v W) (hB:B' <=B):isBy B' L v W:=by
 obtain⟨b,c,e,h1,h2⟩:=h;exact⟨b,c,e,Nat.le_trans hB h1,h2⟩
theorem Qia (o:Option (List UInt8 × Nat)) (f:FuncId) (cp:Array Value) (z y g r:Nat) (A:Option Addr) (cap:Nat) (l:List UInt8) (i:Int) (W:World)
 (hcf:∀(p:Value) (W:World),(callFunc f (#[p]++cp)).run Tryz.prog W= .ok (.enter f (#[p]++cp)) W)
 (pz:Blk W z 109 #[.func (.func f) #[] cp]) (py:Blk W y 75 #[.pointer (some ⟨r,0,none⟩)]) (pg:Blk W g 22 #[.slice none 0 0]) (hgr:g≠r)
 (h:Calls Tryz.prog f (#[.pointer (some ⟨r,0,none⟩)]++cp) W fun e W' =>Qey (isBy W.heap.size) r A cap l W e W' o):
 Calls Tryz.prog 86 #[.pointer (some ⟨z,0,none⟩),.pointer (some ⟨y,0,none⟩),.pointer (some ⟨g,0,none⟩)] W fun e W' =>
  (∃x c bb cc W0,o=some (x,c)/\isBy W.heap.size x (.slice (some ⟨bb,0,none⟩) (List.length x) cc) W0/\e= .returned (.tuple #[])/\Only r W W0/\Rd W0 r A cap l (c:Int)/\W' =(W0.setCell ⟨g,0,none⟩ (.slice (some ⟨bb,0,none⟩) (List.length x) cc)))∨(o=none/\Only r W W' /\∃t v,e= .panicked [{v:= .iface t v,recovered:=false}]):=by
 have HH:=hidP h;have c0:=pz.row1;have c1:=py.row1;have HG:=hidP pg;clear h pz py pg;go_enter Tryz.func86,Tryz.ntmps86;go_wp2_with fail;refine HH.out.mono ?_;intro e W1 h1;cases o with
 |none=>
  obtain⟨o1,t,v,rfl⟩:=h1;exact⟨rfl,.inr ⟨rfl,o1,t,v,rfl⟩⟩
 |some x=>
  obtain⟨x,c⟩:=x;obtain⟨o1,r1,v,rfl,hby⟩:=h1;have HBy:=hidP hby;obtain⟨bb,cc,rfl,_⟩:=hby;have p1:=HG.out.only o1 hgr;have d0:=p1.row1;have f0:=p1.thaw 0;have q0:=p1.lt;have HO1:=hidP o1;have HR1:=hidP r1;clear o1 r1 p1 c0 c1;go_wp2
  go_end0
  exact .inl ⟨x,c,bb,cc,W1,rfl,HBy.out,rfl,HO1.out,HR1.out,rfl⟩
theorem Qjb (o:Option (List UInt8 × Nat)) (f:FuncId) (cp:Array Value) (A:Option Addr) (cap:Nat) (l:List UInt8) (i:Int) (hi:I64 i) (w:World) (hA:At w A l)
 (hcf:∀(p:Value) (W:World),(callFunc f (#[p]++cp)).run Tryz.prog W= .ok (.enter f (#[p]++cp)) W)
 (h:∀W r,Below w.heap.size w W->w.heap.size+2=r->W.heap.size=w.heap.size+5->Rd W r A cap l i->Calls Tryz.prog f (#[.pointer (some ⟨r,0,none⟩)]++cp) W fun e W' =>Qey (isBy W.heap.size) r A cap l W e W' o):
 Calls Tryz.prog 64 #[.slice A l.length cap,.int .i64 i,.func (.func f) #[] cp] w fun e w' =>Below w.heap.size w w' /\
  ((∃x c bb cc,o=some (x,c)/\isBy w.heap.size x (.slice (some ⟨bb,0,none⟩) (List.length x) cc) w' /\e= .returned (.tuple (Qjw (some ⟨bb,0,none⟩) (List.length x) cc (c:Int) true)))∨(o=none/\e= .returned (.tuple Qte))):=by
 have hmf:∀(fn:Fn) (first cap:Array Value) (w:World),(Instr.makeFunc fn first cap).run Tryz.prog w= .ok (.func fn first cap) w:=fun _ _ _ _=>rfl
 have hA' :At (((((w.alloc (.cells #[.func (.func f) #[] cp] 109)).alloc (.cells #[.slice none 0 0] 22)).alloc (.cells (l1SI A l.length cap i) 120)).alloc (.cells #[.pointer (some ⟨w.heap.size+1+1,0,none⟩)] 75)).alloc (.cells #[.bool false] 4)) A l:=
  hA.below (Qad (Qad (Qad (Qad (Qad (Below.refl _ w) _) _) _) _) _)
 have hAlt:∀c o,A=some ⟨c,o,none⟩->l= []∨c<w.heap.size:=fun c o e=>hA.imp id fun⟨b,o',e',hb,_⟩=>by rw[e]at e';cases e';exact hb
 have hcf1:∀W:World,(callFunc 86 #[.pointer (some ⟨w.heap.size,0,none⟩),.pointer (some ⟨w.heap.size+1+1+1,0,none⟩),.pointer (some ⟨w.heap.size+1,0,none⟩)]).run Tryz.prog W= .ok (.enter 86 #[.pointer (some ⟨w.heap.size,0,none⟩),.pointer (some ⟨w.heap.size+1+1+1,0,none⟩),.pointer (some ⟨w.heap.size+1,0,none⟩)]) W:=fun W=>by simp[go_sem]
 have pz:=((((Blk.new w 109 #[.func (.func f) #[] cp]).alloc (.cells #[.slice none 0 0] 22)).alloc (.cells (l1SI A l.length cap i) 120)).alloc (.cells #[.pointer (some ⟨w.heap.size+1+1,0,none⟩)] 75)).alloc (.cells #[.bool false] 4);have pg:=(((Blk.new (w.alloc (.cells #[.func (.func f) #[] cp] 109)) 22 #[.slice none 0 0]).alloc (.cells (l1SI A l.length cap i) 120)).alloc (.cells #[.pointer (some ⟨w.heap.size+1+1,0,none⟩)] 75)).alloc (.cells #[.bool false] 4);have pr:=((Blk.new ((w.alloc (.cells #[.func (.func f) #[] cp] 109)).alloc (.cells #[.slice none 0 0] 22)) 120 (l1SI A l.length cap i)).alloc (.cells #[.pointer (some ⟨w.heap.size+1+1,0,none⟩)] 75)).alloc (.cells #[.bool false] 4);have py:=(Blk.new (((w.alloc (.cells #[.func (.func f) #[] cp] 109)).alloc (.cells #[.slice none 0 0] 22)).alloc (.cells (l1SI A l.length cap i) 120)) 75 #[.pointer (some ⟨w.heap.size+1+1,0,none⟩)]).alloc (.cells #[.bool false] 4);have pd:=Blk.new ((((w.alloc (.cells #[.func (.func f) #[] cp] 109)).alloc (.cells #[.slice none 0 0] 22)).alloc (.cells (l1SI A l.length cap i) 120)).alloc (.cells #[.pointer (some ⟨w.heap.size+1+1,0,none⟩)] 75)) 4 #[.bool false];have hbl:=Qad (Qad (Qad (Qad (Qad (Below.refl _ w) (.cells #[.func (.func f) #[] cp] 109)) (.cells #[.slice none 0 0] 22)) (.cells (l1SI A l.length cap i) 120)) (.cells #[.pointer (some ⟨w.heap.size+1+1,0,none⟩)] 75)) (.cells #[.bool false] 4);simp only[World.size_alloc]at pg pr py pd;generalize hW5:(((((w.alloc (.cells #[.func (.func f) #[] cp] 109)).alloc (.cells #[.slice none 0 0] 22)).alloc (.cells (l1SI A l.length cap i) 120)).alloc (.cells #[.pointer (some ⟨w.heap.size+1+1,0,none⟩)] 75)).alloc (.cells #[.bool false] 4))=W5 at*;have s5:W5.heap.size=w.heap.size+5:=by rw[← hW5];simp
 have hrd:Rd W5 (w.heap.size+1+1) A cap l i:=⟨pr,by
  rcases hA' with h|⟨b,o,e,hb,hi⟩
  . exact .inl h
  . rcases hAlt b o e with h|h
    . exact .inl h
    . exact .inr ⟨b,o,e,hb,by omega,hi⟩,hi⟩
 have hdo:=Qia o f cp w.heap.size (w.heap.size+1+1+1) (w.heap.size+1) (w.heap.size+1+1) A cap l i W5 hcf pz py pg (by omega) (h W5 _ hbl rfl s5 hrd);have htr:=Qfa 86 #[.pointer (some ⟨w.heap.size,0,none⟩),.pointer (some ⟨w.heap.size+1+1+1,0,none⟩),.pointer (some ⟨w.heap.size+1,0,none⟩)] ((((w.alloc (.cells #[.func (.func f) #[] cp] 109)).alloc (.cells #[.slice none 0 0] 22)).alloc (.cells (l1SI A l.length cap i) 120)).alloc (.cells #[.pointer (some ⟨w.heap.size+1+1,0,none⟩)] 75))
  (fun W' =>∃x c bb cc W0,o=some (x,c)/\isBy W5.heap.size x (.slice (some ⟨bb,0,none⟩) (List.length x) cc) W0/\Only (w.heap.size+1+1) W5 W0/\Rd W0 (w.heap.size+1+1) A cap l (c:Int)/\W' =(W0.setCell ⟨w.heap.size+1,0,none⟩ (.slice (some ⟨bb,0,none⟩) (List.length x) cc))) (fun W' =>o=none/\Only (w.heap.size+1+1) W5 W') hcf1 (by
   rw[hW5];refine hdo.mono fun e W' h1=> ?_
   rcases h1 with⟨x,c,bb,cc,W0,h1,hb,h2,h3,h4,rfl⟩|⟨h1,h2,t,v,rfl⟩
   . exact⟨by simpa using (pd.only h3 (by omega)).other (by omega) 0 (.slice (some ⟨bb,0,none⟩) (List.length x) cc),.inl ⟨h2,x,c,bb,cc,W0,h1,hb,h3,h4,rfl⟩⟩
   . exact⟨by simpa using pd.only h2 (by omega),.inr ⟨t,v,rfl,h1,h2⟩⟩)
 have HT:=hidP htr;have Hpy:=hidP py;have Hpg:=hidP pg;have Hbl:=hidP hbl;have Hs5:=hidP s5;clear htr hdo hrd pz pr pg pd h hcf hcf1 py hbl s5 hW5 hA';go_enter Tryz.func64,Tryz.ntmps64;go_wp2_with fail;refine HT.out.mono ?_;rintro e W' ⟨W0,ho,hh⟩;simp only[World.size_alloc]at ho;rcases hh with⟨rfl,x,c,bb,cc,W1,rfl,hb,o1,r1,rfl⟩|⟨rfl,rfl,o1⟩
 . have hfin:Hid (Below w.heap.size w W'):=Hbl.out.trans ((o1.toBelow (by omega) (by have:=Hs5.out;omega)).trans ((Qav (Below.refl _ _) (by omega) (.slice (some ⟨bb,0,none⟩) (List.length x) cc)).trans (ho.toBelow (by omega) (by have:=o1.size;have:=Hs5.out;simp;omega))));have g' :=((Hpg.out.only o1 (by omega)).setAt 0 (.slice (some ⟨bb,0,none⟩) (List.length x) cc)).only ho (by omega);have y' :=((Hpy.out.only o1 (by omega)).other (by omega) 0 (.slice (some ⟨bb,0,none⟩) (List.length x) cc)).only ho (by omega);have r' :=(r1.box.other (show w.heap.size+1+1≠w.heap.size+1 by omega) 0 (.slice (some ⟨bb,0,none⟩) (List.length x) cc)).only ho (by omega);have c0:=g'.row1;have c1:=y'.row1;obtain⟨c2,c3⟩:=r'.row2;have q0:=g'.lt;have q1:=y'.lt;have q2:=r'.lt;have HBy:=hidP (((hb.only ((Only.refl (w.heap.size+1) W1).set 0 (.slice (some ⟨bb,0,none⟩) (List.length x) cc)) (by have:=Hs5.out;omega)).only ho (by have:=Hs5.out;omega)).mono (B' :=w.heap.size) (by have:=Hs5.out;omega));clear ho g' y' r' o1 r1 hmf hb;go_wp2_with fail
   go_quiet (fail)
   go_wp2;exact bodyPost_ret (v:= .tuple (Qjw (some ⟨bb,0,none⟩) (List.length x) cc (c:Int) true)) (by simp[results,Tryz.results64,go_sem]) rfl ⟨below_drewN hfin.out _,.inl ⟨x,c,bb,cc,rfl,HBy.out.below (below_drewN (Below.refl _ _) _),rfl⟩⟩
 . have hfin:Hid (Below w.heap.size w W'):=Hbl.out.trans ((o1.toBelow (by omega) (by have:=Hs5.out;omega)).trans (ho.toBelow (by omega) (by have:=o1.size;have:=Hs5.out;omega)));clear hmf;go_wp2;exact bodyPost_ret (v:= .tuple Qte) (by simp[results,Tryz.results64,go_sem]) rfl ⟨hfin.out,rfl⟩
theorem Qgz {α:Type} {l:List UInt8} {q:Option (α × Nat)} {n c:Nat} (h:nS l (nO q)=some (n,c)):∃y d,q=some (y,d)/\getN l (d:Int)=some (n,c):=by
 cases q with
 |none=>cases h
 |some p=>exact⟨p.1,p.2,rfl,h⟩
theorem Qnj {α:Type} {l:List UInt8} {q:Option (α × Nat)} {n:ByteArray} {c:Nat} (h:tS l (nO q)=some (n,c)):∃y d,q=some (y,d)/\getT l (d:Int)=some (n,c):=by
 cases q with
 |none=>cases h
 |some p=>exact⟨p.1,p.2,rfl,h⟩
theorem Qlz {l:List UInt8} {i:Int} {x:Cm} {c:Nat} (h:getC l i=some (x,c)):i<(c:Int)/\c<=l.length:=by
 unfold getC at h;cases e8:q8 l (some i)with
 |none=>rw[e8]at h;cases h
 |some p=>
 obtain⟨t8,c8⟩:=p;rw[e8]at h;simp only[Option.map_some,Option.some.injEq,Prod.mk.injEq]at h;obtain⟨_,rfl⟩:=h;obtain⟨y7,c7,e7,g8⟩:=Qnj e8;obtain⟨y6,c6,e6,g7⟩:=Qnj e7;obtain⟨y5,c5,e5,g6⟩:=Qgz e6;obtain⟨y4,c4,e4,g5⟩:=Qgz e5;obtain⟨y3,c3,e3,g4⟩:=Qgz e4;obtain⟨y2,c2,e2,g3⟩:=Qgz e3;obtain⟨y1,c1,e1,g2⟩:=Qgz e2;have g1:getN l i=some (y1,c1):=e1;have:=Qbp g1;have:=Qbp g2;have:=Qbp g3;have:=Qbp g4;have:=Qbp g5;have:=Qbp g6;have:=Qds g7;have:=Qds g8;omega
def Qbq (l:List UInt8) (i:Int):Option (En × Nat):=match getN l i with|none=>none|some (n1,c1)=>match getC l (c1:Int)with|none=>none|some (x2,c2)=>some (⟨(n1:Int),x2.who,x2.seq,x2.op,x2.a,x2.b,x2.c,x2.k,x2.t⟩,c2)
def Qtl (x:En) (v:Value) (_:World):Prop:=v= .agg (Qbg x.term x.who x.seq x.op x.a x.b x.c x.key x.text)
theorem Qfm {l:List UInt8} {i:Nat} {x:En} {c:Nat} (h:Qbq l (i:Int)=some (x,c)):i<c/\c<=l.length:=by
 unfold Qbq at h;cases hx1:getN l (i:Int)with
 |none=>simp[hx1]at h
 |some p1=>
 obtain⟨n1,c1⟩:=p1;have hl1:=Qbp hx1;cases hx2:getC l (c1:Int)with
 |none=>simp[hx1,hx2]at h
 |some p2=>
 obtain⟨x2,c2⟩:=p2;have hl2:=Qlz hx2;simp[hx1,hx2]at h;omega
theorem Qkr (r:Nat) (A:Option Addr) (cap:Nat) (l:List UInt8) (i:Int) (hl:l.length<=1048576) (hcap:l.length<=cap) (hcm:cap<=9223372036854775807) (w:World) (h:Rd w r A cap l i):
 Calls Tryz.prog 91 #[.pointer (some ⟨r,0,none⟩)] w fun e w' =>Qey Qtl r A cap l w e w' (Qbq l i):=by
 obtain⟨hr,hfar⟩:=h.far';have Hfar:Hid (l= []∨∀c o,A=some ⟨c,o,none⟩->c≠w.heap.size+1):=hidP (hfar.imp id fun h c o e=>by have:=h c o e;omega);have Hfar0:Hid (l= []∨∀c o,A=some ⟨c,o,none⟩->c≠w.heap.size):=hidP (hfar.imp id fun h c o e=>by have:=h c o e;omega);have px0:=Blk.new (w.alloc (.cells Qbe 57)) 57 Qbe;have pr0:=(Blk.new w 57 Qbe).alloc (.cells Qbe 57);simp only[World.size_alloc]at px0;have HC0:=hidP (h.below (Qad (Qad (Below.refl _ w) (.cells Qbe 57)) (.cells Qbe 57)));have HO0:Hid (Only r w ((w.alloc (.cells Qbe 57)).alloc (.cells Qbe 57))):=(Only.refl r w).below (Qad (Qad (Below.refl _ w) _) _);have Hpx0:=hidP px0;have Hpr0:=hidP pr0;clear px0 pr0 h hfar;go_enter Tryz.func91,Tryz.ntmps91;go_wp2_with fail;refine(Qbn r A cap l (i) hl _ HC0.out).mono ?_;intro e w1 h1;cases hx1:getN l (i)with
 |none=>
  have hN:Qbq l i=none:=by simp[Qbq,hx1]
  rw[hx1]at h1;obtain⟨o1,t,v,rfl⟩:=h1;refine⟨rfl,?_⟩;rw[hN];exact⟨Qap HO0.out o1,t,v,rfl⟩
 |some x=>
 obtain⟨n1,c1⟩:=x;rw[hx1]at h1;obtain⟨o1,h1,v,rfl,rfl⟩:=h1;have hle1:=Qbp hx1;have p1:Blk w1 (w.heap.size+1) 57 Qbe:=Hpx0.out.only o1 (by omega);have g1:=Hpr0.out.only o1 (by omega);have d0:w1.cell? ⟨w.heap.size+1,0,none⟩=some (.int .i64 0):=p1.cell (i:=0) rfl;have f0:=p1.thaw 0;have q1' :=p1.lt;have Hpx1:Hid (Blk (w1.setCell ⟨w.heap.size+1,0,none⟩ (Value.int .i64 (n1:Int))) (w.heap.size+1) 57 #[Value.int .i64 (n1:Int),.int .i64 0,.int .i64 0,.int .i64 0,.int .i64 0,.int .i64 0,.int .i64 0,.string ⟨#[]⟩,.string ⟨#[]⟩]):=hidP (p1.setAt 0 (Value.int .i64 (n1:Int)));have Hpr1:=hidP (g1.other (show w.heap.size≠w.heap.size+1 by omega) 0 (Value.int .i64 (n1:Int)));have HC1:=hidP (h1.offp (Offp.of_only ((Only.refl (w.heap.size+1) w1).set 0 (Value.int .i64 (n1:Int)))) (by show r≠_;omega) Hfar.out);have HO1:=hidP (Qcd (Qap HO0.out o1) (Offp.of_only ((Only.refl (w.heap.size+1) w1).set 0 (Value.int .i64 (n1:Int)))) (fun x e=>by subst e;omega));clear o1 h1 p1 g1 HC0 HO0 Hpx0 Hpr0;go_wp2_with fail;refine(Qks r A cap l ((c1:Int)) hl hcap hcm _ HC1.out).mono ?_;intro e w2 h2;cases hx2:getC l ((c1:Int))with
 |none=>
  have hN:Qbq l i=none:=by simp[Qbq,hx1,hx2]
  rw[hx2]at h2;obtain⟨o2,t,v,rfl⟩:=h2;refine⟨rfl,?_⟩;rw[hN];exact⟨Qap HO1.out o2,t,v,rfl⟩
 |some x=>
 obtain⟨x2,c2⟩:=x;rw[hx2]at h2;obtain⟨o2,h2,v,rfl,rfl⟩:=h2;have hle2:=Qlz hx2;have p2:Blk w2 (w.heap.size+1) 57 #[Value.int .i64 (n1:Int),.int .i64 0,.int .i64 0,.int .i64 0,.int .i64 0,.int .i64 0,.int .i64 0,.string ⟨#[]⟩,.string ⟨#[]⟩]:=Hpx1.out.only o2 (by omega);have g2:=Hpr1.out.only o2 (by omega);have d1:w2.cell? ⟨w.heap.size+1,1,none⟩=some (.int .i64 0):=p2.cell (i:=1) rfl;have f1:=p2.thaw 1;have d2:w2.cell? ⟨w.heap.size+1,2,none⟩=some (.int .i64 0):=p2.cell (i:=2) rfl;have f2:=p2.thaw 2;have d3:w2.cell? ⟨w.heap.size+1,3,none⟩=some (.int .i64 0):=p2.cell (i:=3) rfl;have f3:=p2.thaw 3;have d4:w2.cell? ⟨w.heap.size+1,4,none⟩=some (.int .i64 0):=p2.cell (i:=4) rfl;have f4:=p2.thaw 4;have d5:w2.cell? ⟨w.heap.size+1,5,none⟩=some (.int .i64 0):=p2.cell (i:=5) rfl;have f5:=p2.thaw 5;have d6:w2.cell? ⟨w.heap.size+1,6,none⟩=some (.int .i64 0):=p2.cell (i:=6) rfl;have f6:=p2.thaw 6;have d7:w2.cell? ⟨w.heap.size+1,7,none⟩=some (.string ⟨#[]⟩):=p2.cell (i:=7) rfl;have f7:=p2.thaw 7;have d8:w2.cell? ⟨w.heap.size+1,8,none⟩=some (.string ⟨#[]⟩):=p2.cell (i:=8) rfl;have f8:=p2.thaw 8;have q2' :=p2.lt;have e0:w2.cell? ⟨w.heap.size+1,0,none⟩=some (Value.int .i64 (n1:Int)):=p2.cell (i:=0) rfl;have r0:w2.cell? ⟨w.heap.size,0,none⟩=some (.int .i64 0):=g2.cell (i:=0) rfl;have z0:=g2.thaw 0;have r1:w2.cell? ⟨w.heap.size,1,none⟩=some (.int .i64 0):=g2.cell (i:=1) rfl;have z1:=g2.thaw 1;have r2:w2.cell? ⟨w.heap.size,2,none⟩=some (.int .i64 0):=g2.cell (i:=2) rfl;have z2:=g2.thaw 2;have r3:w2.cell? ⟨w.heap.size,3,none⟩=some (.int .i64 0):=g2.cell (i:=3) rfl;have z3:=g2.thaw 3;have r4:w2.cell? ⟨w.heap.size,4,none⟩=some (.int .i64 0):=g2.cell (i:=4) rfl;have z4:=g2.thaw 4;have r5:w2.cell? ⟨w.heap.size,5,none⟩=some (.int .i64 0):=g2.cell (i:=5) rfl;have z5:=g2.thaw 5
 have r6:w2.cell? ⟨w.heap.size,6,none⟩=some (.int .i64 0):=g2.cell (i:=6) rfl;have z6:=g2.thaw 6;have r7:w2.cell? ⟨w.heap.size,7,none⟩=some (.string ⟨#[]⟩):=g2.cell (i:=7) rfl;have z7:=g2.thaw 7;have r8:w2.cell? ⟨w.heap.size,8,none⟩=some (.string ⟨#[]⟩):=g2.cell (i:=8) rfl;have z8:=g2.thaw 8;have qr:=g2.lt;have Hpx2:Hid (Blk ((((((((w2.setCell ⟨w.heap.size+1,1,none⟩ (Value.int .i64 x2.who)).setCell ⟨w.heap.size+1,2,none⟩ (Value.int .i64 x2.seq)).setCell ⟨w.heap.size+1,3,none⟩ (Value.int .i64 x2.op)).setCell ⟨w.heap.size+1,4,none⟩ (Value.int .i64 x2.a)).setCell ⟨w.heap.size+1,5,none⟩ (Value.int .i64 x2.b)).setCell ⟨w.heap.size+1,6,none⟩ (Value.int .i64 x2.c)).setCell ⟨w.heap.size+1,7,none⟩ (Value.string x2.k)).setCell ⟨w.heap.size+1,8,none⟩ (Value.string x2.t)) (w.heap.size+1) 57 #[Value.int .i64 (n1:Int),Value.int .i64 x2.who,Value.int .i64 x2.seq,Value.int .i64 x2.op,Value.int .i64 x2.a,Value.int .i64 x2.b,Value.int .i64 x2.c,Value.string x2.k,Value.string x2.t]):=hidP ((((((((p2.setAt 1 (Value.int .i64 x2.who)).setAt 2 (Value.int .i64 x2.seq)).setAt 3 (Value.int .i64 x2.op)).setAt 4 (Value.int .i64 x2.a)).setAt 5 (Value.int .i64 x2.b)).setAt 6 (Value.int .i64 x2.c)).setAt 7 (Value.string x2.k)).setAt 8 (Value.string x2.t))
 have Hpr2:=hidP ((((((((g2.other (show w.heap.size≠w.heap.size+1 by omega) 1 (Value.int .i64 x2.who)).other (show w.heap.size≠w.heap.size+1 by omega) 2 (Value.int .i64 x2.seq)).other (show w.heap.size≠w.heap.size+1 by omega) 3 (Value.int .i64 x2.op)).other (show w.heap.size≠w.heap.size+1 by omega) 4 (Value.int .i64 x2.a)).other (show w.heap.size≠w.heap.size+1 by omega) 5 (Value.int .i64 x2.b)).other (show w.heap.size≠w.heap.size+1 by omega) 6 (Value.int .i64 x2.c)).other (show w.heap.size≠w.heap.size+1 by omega) 7 (Value.string x2.k)).other (show w.heap.size≠w.heap.size+1 by omega) 8 (Value.string x2.t));have HC2:=hidP (h2.offp (Offp.of_only (((((((((Only.refl (w.heap.size+1) w2).set 1 (Value.int .i64 x2.who)).set 2 (Value.int .i64 x2.seq)).set 3 (Value.int .i64 x2.op)).set 4 (Value.int .i64 x2.a)).set 5 (Value.int .i64 x2.b)).set 6 (Value.int .i64 x2.c)).set 7 (Value.string x2.k)).set 8 (Value.string x2.t))) (by show r≠_;omega) Hfar.out);have HO2:=hidP (Qcd (Qap HO1.out o2) (Offp.of_only (((((((((Only.refl (w.heap.size+1) w2).set 1 (Value.int .i64 x2.who)).set 2 (Value.int .i64 x2.seq)).set 3 (Value.int .i64 x2.op)).set 4 (Value.int .i64 x2.a)).set 5 (Value.int .i64 x2.b)).set 6 (Value.int .i64 x2.c)).set 7 (Value.string x2.k)).set 8 (Value.string x2.t))) (fun x e=>by subst e;omega));clear o2 h2 p2 g2 HC1 HO1 Hpx1 Hpr1 d0 f0 q1';unfold Cm.v;have HOz:=hidP (Qcd (HO2.out) (Offp.of_only ((((((((((Only.refl w.heap.size _).set 0 (Value.int .i64 (n1:Int))).set 1 (Value.int .i64 x2.who)).set 2 (Value.int .i64 x2.seq)).set 3 (Value.int .i64 x2.op)).set 4 (Value.int .i64 x2.a)).set 5 (Value.int .i64 x2.b)).set 6 (Value.int .i64 x2.c)).set 7 (Value.string x2.k)).set 8 (Value.string x2.t))) (fun x e=>by subst e;exact Nat.le_refl _))
 have HCz:=hidP (Rd.offp (HC2.out) (Offp.of_only ((((((((((Only.refl w.heap.size _).set 0 (Value.int .i64 (n1:Int))).set 1 (Value.int .i64 x2.who)).set 2 (Value.int .i64 x2.seq)).set 3 (Value.int .i64 x2.op)).set 4 (Value.int .i64 x2.a)).set 5 (Value.int .i64 x2.b)).set 6 (Value.int .i64 x2.c)).set 7 (Value.string x2.k)).set 8 (Value.string x2.t))) (by show r≠_;omega) Hfar0.out);have hN:Hid (Qbq l i=some (⟨(n1:Int),x2.who,x2.seq,x2.op,x2.a,x2.b,x2.c,x2.k,x2.t⟩,c2)):=hidP (by simp[Qbq,hx1,hx2]);clear HO2 HC2 Hpx2 Hpr2;go_wp2;refine bodyPost_ret (v:= .agg #[Value.int .i64 (n1:Int),Value.int .i64 x2.who,Value.int .i64 x2.seq,Value.int .i64 x2.op,Value.int .i64 x2.a,Value.int .i64 x2.b,Value.int .i64 x2.c,Value.string x2.k,Value.string x2.t]) (by simp[results,Tryz.results91,go_sem,r0,r1,r2,r3,r4,r5,r6,r7,r8]) rfl ?_;rw[hN.out];exact⟨HOz.out,HCz.out,_,rfl,rfl⟩
theorem Qhh (get:Int->Option (En × Nat)) (r:Nat) (A:Option Addr) (cap:Nat) (l:List UInt8) (hl:l.length<=1048576) (hget:∀(i:Nat) x c,get (i:Int)=some (x,c)->i<c/\c<=l.length)
 (HF:∀(i:Nat) (W:World),Rd W r A cap l (i:Int)->Calls Tryz.prog 91 #[.pointer (some ⟨r,0,none⟩)] W fun e w' =>Qey Qtl r A cap l W e w' (get (i:Int))) (n:Nat) (hn:n<=2147483647) (c0:Nat) (w:World) (h:Rd w r A cap l (c0:Int)):
 Calls Tryz.prog 100 #[.pointer (some ⟨r,0,none⟩),.int .i64 (n:Int),.func (.func 91) #[] #[]] w fun e w' =>Qey (isList 57 w.heap.size) r A cap l w e w' (Qbf get n c0):=by
 have Hget:=hidP hget;have HF' :=hidP HF;obtain⟨hr,hfar⟩:=h.far';have K0:Hid (RL (α:=En) 57 w w r A cap l c0 (.slice none 0 0) []):=⟨h,Only.refl _ _,World.ownsRow_nil _ _ _ _,hr,hfar⟩
 clear h hget HF hr hfar;go_enter Tryz.func100,Tryz.ntmps100;go_wp2
 go_loopw [7,9] (fun v i W=>∃(k c cp:Nat) (a:Option Addr) (xs:List En),i= .int .i64 (k:Int)/\v= .slice a (List.length xs) cp/\k<=n/\Hid (xs.length=k/\(k=0∨k<=c/\c<=l.length))/\Hid (RL 57 w W r A cap l c (.slice a xs.length cp) xs)/\Hid (Qbf get n c0=Qf6 xs (Qbf get (n - k) c))) (fun _ i _=>n - (intOf i).toNat)
 case atStart=>exact⟨0,c0,0,none,[],rfl,rfl,by omega,⟨rfl,.inl rfl⟩,K0,by show _=_;simp[Qf6]⟩
 case round=>
  clear K0;obtain⟨k,c,cp,a,xs,rfl,rfl,hk,hkc,KK,hm⟩:=hrel;by_cases hlt:k<n
  . have hlt' :(k:Int)<(n:Int):=(by omega);obtain⟨m,hm1⟩:∃m,n - k=m+1:=⟨n - k - 1,by omega⟩
    have hm2:Hid (n - (k+1)=m):=(by show _=_;omega);rw[hm1]at hm;clear hm1;go_wp2_with fail;refine(HF'.out c _ KK.out.rd).mono ?_;intro e w1 h1;cases hx:get (c:Int)with
    |none=>
     rw[hx]at h1;obtain⟨o1,t,v,rfl⟩:=h1;refine⟨rfl,?_⟩;rw[hm.out,Qjq xs hx];exact⟨Qap KK.out.only o1,t,v,rfl⟩
    |some p=>
     obtain⟨x,d⟩:=p;rw[hx]at h1;obtain⟨o1,r1,v,rfl,rfl⟩:=h1;have hgd:=Hget.out c x d hx;have hxl:xs.length<=2000000:=(by have:=hkc.out;omega);obtain⟨a2,c2,W2,hr,K2⟩:=RL.app (P:=Tryz.prog) (z:= .agg Qbe) Tryz.underlying24 Qlu rfl (by decide) (by decide) KK.out o1 r1 x (Qbg x.term x.who x.seq x.op x.a x.b x.c x.key x.text) rfl hxl;have hm' :=hidP (hm.out.trans (Qjp xs hx));have hkc' :Hid ((xs++ [x]).length=k+1/\(k+1=0∨k+1<=d/\d<=l.length)):=by
      show _/\_;have:=hkc.out;exact⟨by simp;omega,.inr (by omega)⟩
     have K2' :Hid (RL 57 w W2 r A cap l d (.slice a2 (xs++ [x]).length c2) (xs++ [x])):=(by show RL _ _ _ _ _ _ _ _ _ _;rw[List.length_append];exact K2);clear KK K2 hm hkc o1 r1 hx hgd hxl;go_wp2_with (at_builtin;refine Qac rfl _ _ _ rfl _ _ _ rfl rfl hr ?_);exact⟨⟨k+1,d,c2,a2,xs++ [x],by go_num,by rw[List.length_append];rfl,by omega,hkc',K2',by show _=_;rw[hm2.out];exact hm'.out⟩,by simp[intOf];omega⟩
  . obtain rfl:k=n:=(by omega);go_wp2;go_ret;rw[hm.out,Nat.sub_self,Qlp];exact⟨KK.out.only,KK.out.rd,_,rfl,a,cp,rfl,KK.out.own⟩
theorem Qhi (r:Nat) (A:Option Addr) (cap:Nat) (l:List UInt8) (i:Int) (hl:l.length<=1048576) (hcap:l.length<=cap) (hcm:cap<=9223372036854775807) (w:World) (h:Rd w r A cap l i):
 Calls Tryz.prog 90 #[.pointer (some ⟨r,0,none⟩),.func (.func 91) #[] #[]] w fun e w' =>Qey (isList 57 w.heap.size) r A cap l w e w' (Qb0 l (Qbq l) i):=by
 have HC:=hidP h;clear h;go_enter Tryz.func90,Tryz.ntmps90;go_wp2_with fail;refine(Qbn r A cap l i hl _ HC.out).mono ?_;intro e w1 h1;cases hx1:getN l i with
 |none=>
  have hN:Qb0 l (Qbq l) i=none:=by simp[Qb0,hx1]
  rw[hx1]at h1;obtain⟨o1,t,v,rfl⟩:=h1;refine⟨rfl,?_⟩;rw[hN];exact⟨o1,t,v,rfl⟩
 |some x=>
 obtain⟨n1,c1⟩:=x;rw[hx1]at h1;obtain⟨o1,h1,v,rfl,rfl⟩:=h1;have hle1:=Qbp hx1;have hN:Hid (Qb0 l (Qbq l) i=Qbf (Qbq l) n1 c1):=hidP (by simp[Qb0,hx1]);have HC1:=hidP h1;have HO1:=hidP o1;clear h1 o1 HC hx1;go_wp2_with fail;refine(Qhh (Qbq l) r A cap l hl (fun i x c h=>Qfm h) (fun j W hW=>Qkr r A cap l (j:Int) hl hcap hcm W hW) n1 hle1.1 c1 _ HC1.out).mono ?_;intro e w2 h2;cases hx2:Qbf (Qbq l) n1 c1 with
 |none=>
  rw[hx2]at h2;obtain⟨o2,t,v,rfl⟩:=h2;refine⟨rfl,?_⟩;rw[hN.out,hx2];exact⟨Qap HO1.out o2,t,v,rfl⟩
 |some x=>
 obtain⟨xs,c2⟩:=x;rw[hx2]at h2;obtain⟨o2,h2,v,rfl,hv⟩:=h2;have HC2:=hidP h2;have HO2:=hidP (Qap HO1.out o2);have hv' :=hidP (hv.mono HO1.out.size);clear o2 h2 hv;go_wp2;refine bodyPost_ret (v:=v) (by simp[results,Tryz.results90,go_sem]) rfl ?_;rw[hN.out,hx2];exact⟨HO2.out,HC2.out,_,rfl,hv'.out⟩
structure Nt where
  kind:Int
  term:Int
  vote:Int
  prev:Int
  l:List En
  snap:ByteArray
def Qct (l:List UInt8) (i:Int):Option (Nt × Nat):=match getN l i with|none=>none|some (n1,c1)=>match getN l (c1:Int)with|none=>none|some (n2,c2)=>match getN l (c2:Int)with|none=>none|some (n3,c3)=>match getN l (c3:Int)with|none=>none|some (n4,c4)=>match Qb0 l (Qbq l) (c4:Int)with|none=>none|some (s5,c5)=>match getT l (c5:Int)with|none=>none|some (s6,c6)=>some (⟨(n1:Int),(n2:Int),(n3:Int) - 1,(n4:Int),s5,s6⟩,c6)
def isNt (B:Nat) (x:Nt) (v:Value) (W:World):Prop:=∃u,v= .agg #[.int .i64 x.kind,.int .i64 x.term,.int .i64 x.vote,.int .i64 x.prev,u,.string x.snap]/\isList 57 B x.l u W
theorem Qhx (r:Nat) (A:Option Addr) (cap:Nat) (l:List UInt8) (i:Int) (hl:l.length<=1048576) (hcap:l.length<=cap) (hcm:cap<=9223372036854775807) (w:World) (h:Rd w r A cap l i):
 Calls Tryz.prog 67 #[.pointer (some ⟨r,0,none⟩)] w fun e w' =>Qey (isNt w.heap.size) r A cap l w e w' (Qct l i):=by
 obtain⟨hr,hfar⟩:=h.far';have Hfar:Hid (l= []∨∀c o,A=some ⟨c,o,none⟩->c≠w.heap.size+1):=hidP (hfar.imp id fun h c o e=>by have:=h c o e;omega);have Hfar0:Hid (l= []∨∀c o,A=some ⟨c,o,none⟩->c≠w.heap.size):=hidP (hfar.imp id fun h c o e=>by have:=h c o e;omega);have px0:=Blk.new (w.alloc (.cells Qah 26)) 26 Qah;have pr0:=(Blk.new w 26 Qah).alloc (.cells Qah 26);simp only[World.size_alloc]at px0;have HC0:=hidP (h.below (Qad (Qad (Below.refl _ w) (.cells Qah 26)) (.cells Qah 26)));have HO0:Hid (Only r w ((w.alloc (.cells Qah 26)).alloc (.cells Qah 26))):=(Only.refl r w).below (Qad (Qad (Below.refl _ w) _) _);have Hpx0:=hidP px0;have Hpr0:=hidP pr0;clear px0 pr0 h hfar;go_enter Tryz.func67,Tryz.ntmps67;go_wp2_with fail;refine(Qbn r A cap l (i) hl _ HC0.out).mono ?_;intro e w1 h1;cases hx1:getN l (i)with
 |none=>
  have hN:Qct l i=none:=by simp[Qct,hx1]
  rw[hx1]at h1;obtain⟨o1,t,v,rfl⟩:=h1;refine⟨rfl,?_⟩;rw[hN];exact⟨Qap HO0.out o1,t,v,rfl⟩
 |some x=>
 obtain⟨n1,c1⟩:=x;rw[hx1]at h1;obtain⟨o1,h1,v,rfl,rfl⟩:=h1;have hle1:=Qbp hx1;have p1:Blk w1 (w.heap.size+1) 26 Qah:=Hpx0.out.only o1 (by omega);have g1:=Hpr0.out.only o1 (by omega);have d0:w1.cell? ⟨w.heap.size+1,0,none⟩=some (.int .i64 0):=p1.cell (i:=0) rfl;have f0:=p1.thaw 0;have q1' :=p1.lt;have Hpx1:Hid (Blk (w1.setCell ⟨w.heap.size+1,0,none⟩ (Value.int .i64 (n1:Int))) (w.heap.size+1) 26 #[Value.int .i64 (n1:Int),.int .i64 0,.int .i64 0,.int .i64 0,.slice none 0 0,.string ⟨#[]⟩]):=hidP (p1.setAt 0 (Value.int .i64 (n1:Int)));have Hpr1:=hidP (g1.other (show w.heap.size≠w.heap.size+1 by omega) 0 (Value.int .i64 (n1:Int)));have HC1:=hidP (h1.offp (Offp.of_only ((Only.refl (w.heap.size+1) w1).set 0 (Value.int .i64 (n1:Int)))) (by show r≠_;omega) Hfar.out);have HO1:=hidP (Qcd (Qap HO0.out o1) (Offp.of_only ((Only.refl (w.heap.size+1) w1).set 0 (Value.int .i64 (n1:Int)))) (fun x e=>by subst e;omega));clear o1 h1 p1 g1 HC0 HO0 Hpx0 Hpr0;go_wp2_with fail;refine(Qbn r A cap l ((c1:Int)) hl _ HC1.out).mono ?_;intro e w2 h2;cases hx2:getN l ((c1:Int))with
 |none=>
  have hN:Qct l i=none:=by simp[Qct,hx1,hx2]
  rw[hx2]at h2;obtain⟨o2,t,v,rfl⟩:=h2;refine⟨rfl,?_⟩;rw[hN];exact⟨Qap HO1.out o2,t,v,rfl⟩
 |some x=>
 obtain⟨n2,c2⟩:=x;rw[hx2]at h2;obtain⟨o2,h2,v,rfl,rfl⟩:=h2;have hle2:=Qbp hx2;have p2:Blk w2 (w.heap.size+1) 26 #[Value.int .i64 (n1:Int),.int .i64 0,.int .i64 0,.int .i64 0,.slice none 0 0,.string ⟨#[]⟩]:=Hpx1.out.only o2 (by omega);have g2:=Hpr1.out.only o2 (by omega);have d1:w2.cell? ⟨w.heap.size+1,1,none⟩=some (.int .i64 0):=p2.cell (i:=1) rfl;have f1:=p2.thaw 1;have q2' :=p2.lt;have Hpx2:Hid (Blk (w2.setCell ⟨w.heap.size+1,1,none⟩ (Value.int .i64 (n2:Int))) (w.heap.size+1) 26 #[Value.int .i64 (n1:Int),Value.int .i64 (n2:Int),.int .i64 0,.int .i64 0,.slice none 0 0,.string ⟨#[]⟩]):=hidP (p2.setAt 1 (Value.int .i64 (n2:Int)));have Hpr2:=hidP (g2.other (show w.heap.size≠w.heap.size+1 by omega) 1 (Value.int .i64 (n2:Int)));have HC2:=hidP (h2.offp (Offp.of_only ((Only.refl (w.heap.size+1) w2).set 1 (Value.int .i64 (n2:Int)))) (by show r≠_;omega) Hfar.out);have HO2:=hidP (Qcd (Qap HO1.out o2) (Offp.of_only ((Only.refl (w.heap.size+1) w2).set 1 (Value.int .i64 (n2:Int)))) (fun x e=>by subst e;omega));clear o2 h2 p2 g2 HC1 HO1 Hpx1 Hpr1 d0 f0 q1';go_wp2_with fail;refine(Qbn r A cap l ((c2:Int)) hl _ HC2.out).mono ?_;intro e w3 h3;cases hx3:getN l ((c2:Int))with
 |none=>
  have hN:Qct l i=none:=by simp[Qct,hx1,hx2,hx3]
  rw[hx3]at h3;obtain⟨o3,t,v,rfl⟩:=h3;refine⟨rfl,?_⟩;rw[hN];exact⟨Qap HO2.out o3,t,v,rfl⟩
 |some x=>
 obtain⟨n3,c3⟩:=x;rw[hx3]at h3;obtain⟨o3,h3,v,rfl,rfl⟩:=h3;have hle3:=Qbp hx3;have p3:Blk w3 (w.heap.size+1) 26 #[Value.int .i64 (n1:Int),Value.int .i64 (n2:Int),.int .i64 0,.int .i64 0,.slice none 0 0,.string ⟨#[]⟩]:=Hpx2.out.only o3 (by omega);have g3:=Hpr2.out.only o3 (by omega);have d2:w3.cell? ⟨w.heap.size+1,2,none⟩=some (.int .i64 0):=p3.cell (i:=2) rfl;have f2:=p3.thaw 2;have q3' :=p3.lt;have Hpx3:Hid (Blk (w3.setCell ⟨w.heap.size+1,2,none⟩ (Value.int .i64 ((n3:Int) - 1))) (w.heap.size+1) 26 #[Value.int .i64 (n1:Int),Value.int .i64 (n2:Int),Value.int .i64 ((n3:Int) - 1),.int .i64 0,.slice none 0 0,.string ⟨#[]⟩]):=hidP (p3.setAt 2 (Value.int .i64 ((n3:Int) - 1)));have Hpr3:=hidP (g3.other (show w.heap.size≠w.heap.size+1 by omega) 2 (Value.int .i64 ((n3:Int) - 1)));have HC3:=hidP (h3.offp (Offp.of_only ((Only.refl (w.heap.size+1) w3).set 2 (Value.int .i64 ((n3:Int) - 1)))) (by show r≠_;omega) Hfar.out);have HO3:=hidP (Qcd (Qap HO2.out o3) (Offp.of_only ((Only.refl (w.heap.size+1) w3).set 2 (Value.int .i64 ((n3:Int) - 1)))) (fun x e=>by subst e;omega));clear o3 h3 p3 g3 HC2 HO2 Hpx2 Hpr2 d1 f1 q2';go_wp2_with fail;refine(Qbn r A cap l ((c3:Int)) hl _ HC3.out).mono ?_;intro e w4 h4;cases hx4:getN l ((c3:Int))with
 |none=>
  have hN:Qct l i=none:=by simp[Qct,hx1,hx2,hx3,hx4]
  rw[hx4]at h4;obtain⟨o4,t,v,rfl⟩:=h4;refine⟨rfl,?_⟩;rw[hN];exact⟨Qap HO3.out o4,t,v,rfl⟩
 |some x=>
 obtain⟨n4,c4⟩:=x;rw[hx4]at h4;obtain⟨o4,h4,v,rfl,rfl⟩:=h4;have hle4:=Qbp hx4;have p4:Blk w4 (w.heap.size+1) 26 #[Value.int .i64 (n1:Int),Value.int .i64 (n2:Int),Value.int .i64 ((n3:Int) - 1),.int .i64 0,.slice none 0 0,.string ⟨#[]⟩]:=Hpx3.out.only o4 (by omega);have g4:=Hpr3.out.only o4 (by omega);have d3:w4.cell? ⟨w.heap.size+1,3,none⟩=some (.int .i64 0):=p4.cell (i:=3) rfl;have f3:=p4.thaw 3;have q4' :=p4.lt;have Hpx4:Hid (Blk (w4.setCell ⟨w.heap.size+1,3,none⟩ (Value.int .i64 (n4:Int))) (w.heap.size+1) 26 #[Value.int .i64 (n1:Int),Value.int .i64 (n2:Int),Value.int .i64 ((n3:Int) - 1),Value.int .i64 (n4:Int),.slice none 0 0,.string ⟨#[]⟩]):=hidP (p4.setAt 3 (Value.int .i64 (n4:Int)));have Hpr4:=hidP (g4.other (show w.heap.size≠w.heap.size+1 by omega) 3 (Value.int .i64 (n4:Int)));have HC4:=hidP (h4.offp (Offp.of_only ((Only.refl (w.heap.size+1) w4).set 3 (Value.int .i64 (n4:Int)))) (by show r≠_;omega) Hfar.out);have HO4:=hidP (Qcd (Qap HO3.out o4) (Offp.of_only ((Only.refl (w.heap.size+1) w4).set 3 (Value.int .i64 (n4:Int)))) (fun x e=>by subst e;omega));clear o4 h4 p4 g4 HC3 HO3 Hpx3 Hpr3 d2 f2 q3';go_wp2_with fail;refine(Qhi r A cap l ((c4:Int)) hl hcap hcm _ HC4.out).mono ?_;intro e w5 h5;cases hx5:Qb0 l (Qbq l) ((c4:Int))with
 |none=>
  have hN:Qct l i=none:=by simp[Qct,hx1,hx2,hx3,hx4,hx5]
  rw[hx5]at h5;obtain⟨o5,t,v,rfl⟩:=h5;refine⟨rfl,?_⟩;rw[hN];exact⟨Qap HO4.out o5,t,v,rfl⟩
 |some x=>
 obtain⟨s5,c5⟩:=x;rw[hx5]at h5;obtain⟨o5,h5,v,rfl,hv⟩:=h5;have hle5:=Qh3 (fun i x c h=>Qfm h) hx5;have hv' :=hv.mono (B' :=w.heap.size+2) (Nat.succ_le_of_lt Hpx4.out.lt);obtain⟨a,cp,rfl,hown⟩:=hv';have HL:=hidP (Qbr hown ((Only.refl (w.heap.size+1) w5).set 4 (Value.slice a (List.length s5) cp)) (by omega));clear hv hown;have p5:Blk w5 (w.heap.size+1) 26 #[Value.int .i64 (n1:Int),Value.int .i64 (n2:Int),Value.int .i64 ((n3:Int) - 1),Value.int .i64 (n4:Int),.slice none 0 0,.string ⟨#[]⟩]:=Hpx4.out.only o5 (by omega);have g5:=Hpr4.out.only o5 (by omega);have d4:w5.cell? ⟨w.heap.size+1,4,none⟩=some (.slice none 0 0):=p5.cell (i:=4) rfl;have f4:=p5.thaw 4;have q5' :=p5.lt;have Hpx5:Hid (Blk (w5.setCell ⟨w.heap.size+1,4,none⟩ (Value.slice a (List.length s5) cp)) (w.heap.size+1) 26 #[Value.int .i64 (n1:Int),Value.int .i64 (n2:Int),Value.int .i64 ((n3:Int) - 1),Value.int .i64 (n4:Int),Value.slice a (List.length s5) cp,.string ⟨#[]⟩]):=hidP (p5.setAt 4 (Value.slice a (List.length s5) cp));have Hpr5:=hidP (g5.other (show w.heap.size≠w.heap.size+1 by omega) 4 (Value.slice a (List.length s5) cp));have HC5:=hidP (h5.offp (Offp.of_only ((Only.refl (w.heap.size+1) w5).set 4 (Value.slice a (List.length s5) cp))) (by show r≠_;omega) Hfar.out);have HO5:=hidP (Qcd (Qap HO4.out o5) (Offp.of_only ((Only.refl (w.heap.size+1) w5).set 4 (Value.slice a (List.length s5) cp))) (fun x e=>by subst e;omega));clear o5 h5 p5 g5 HC4 HO4 Hpx4 Hpr4 d3 f3 q4';go_wp2_with fail;refine(Qea r A cap l ((c5:Int)) hl hcap hcm _ HC5.out).mono ?_;intro e w6 h6;cases hx6:getT l ((c5:Int))with
 |none=>
  have hN:Qct l i=none:=by simp[Qct,hx1,hx2,hx3,hx4,hx5,hx6]
  rw[hx6]at h6;obtain⟨o6,t,v,rfl⟩:=h6;refine⟨rfl,?_⟩;rw[hN];exact⟨Qap HO5.out o6,t,v,rfl⟩
 |some x=>
 obtain⟨s6,c6⟩:=x;rw[hx6]at h6;obtain⟨o6,h6,v,rfl,rfl⟩:=h6;have hle6:=Qds hx6;have HL:=hidP (Qbr (Qbr HL.out o6 (by omega)) ((Only.refl (w.heap.size+1) w6).set 5 (Value.string s6)) (by omega));have p6:Blk w6 (w.heap.size+1) 26 #[Value.int .i64 (n1:Int),Value.int .i64 (n2:Int),Value.int .i64 ((n3:Int) - 1),Value.int .i64 (n4:Int),Value.slice a (List.length s5) cp,.string ⟨#[]⟩]:=Hpx5.out.only o6 (by omega);have g6:=Hpr5.out.only o6 (by omega);have d5:w6.cell? ⟨w.heap.size+1,5,none⟩=some (.string ⟨#[]⟩):=p6.cell (i:=5) rfl;have f5:=p6.thaw 5;have q6' :=p6.lt;have e0:w6.cell? ⟨w.heap.size+1,0,none⟩=some (Value.int .i64 (n1:Int)):=p6.cell (i:=0) rfl;have e1:w6.cell? ⟨w.heap.size+1,1,none⟩=some (Value.int .i64 (n2:Int)):=p6.cell (i:=1) rfl;have e2:w6.cell? ⟨w.heap.size+1,2,none⟩=some (Value.int .i64 ((n3:Int) - 1)):=p6.cell (i:=2) rfl;have e3:w6.cell? ⟨w.heap.size+1,3,none⟩=some (Value.int .i64 (n4:Int)):=p6.cell (i:=3) rfl;have e4:w6.cell? ⟨w.heap.size+1,4,none⟩=some (Value.slice a (List.length s5) cp):=p6.cell (i:=4) rfl;have r0:w6.cell? ⟨w.heap.size,0,none⟩=some (.int .i64 0):=g6.cell (i:=0) rfl;have z0:=g6.thaw 0;have r1:w6.cell? ⟨w.heap.size,1,none⟩=some (.int .i64 0):=g6.cell (i:=1) rfl;have z1:=g6.thaw 1;have r2:w6.cell? ⟨w.heap.size,2,none⟩=some (.int .i64 0):=g6.cell (i:=2) rfl;have z2:=g6.thaw 2;have r3:w6.cell? ⟨w.heap.size,3,none⟩=some (.int .i64 0):=g6.cell (i:=3) rfl;have z3:=g6.thaw 3;have r4:w6.cell? ⟨w.heap.size,4,none⟩=some (.slice none 0 0):=g6.cell (i:=4) rfl;have z4:=g6.thaw 4;have r5:w6.cell? ⟨w.heap.size,5,none⟩=some (.string ⟨#[]⟩):=g6.cell (i:=5) rfl;have z5:=g6.thaw 5;have qr:=g6.lt
 have Hpx6:Hid (Blk (w6.setCell ⟨w.heap.size+1,5,none⟩ (Value.string s6)) (w.heap.size+1) 26 #[Value.int .i64 (n1:Int),Value.int .i64 (n2:Int),Value.int .i64 ((n3:Int) - 1),Value.int .i64 (n4:Int),Value.slice a (List.length s5) cp,Value.string s6]):=hidP (p6.setAt 5 (Value.string s6));have Hpr6:=hidP (g6.other (show w.heap.size≠w.heap.size+1 by omega) 5 (Value.string s6));have HC6:=hidP (h6.offp (Offp.of_only ((Only.refl (w.heap.size+1) w6).set 5 (Value.string s6))) (by show r≠_;omega) Hfar.out);have HO6:=hidP (Qcd (Qap HO5.out o6) (Offp.of_only ((Only.refl (w.heap.size+1) w6).set 5 (Value.string s6))) (fun x e=>by subst e;omega));clear o6 h6 p6 g6 HC5 HO5 Hpx5 Hpr5 d4 f4 q5';have HOz:=hidP (Qcd (HO6.out) (Offp.of_only (((((((Only.refl w.heap.size _).set 0 (Value.int .i64 (n1:Int))).set 1 (Value.int .i64 (n2:Int))).set 2 (Value.int .i64 ((n3:Int) - 1))).set 3 (Value.int .i64 (n4:Int))).set 4 (Value.slice a (List.length s5) cp)).set 5 (Value.string s6))) (fun x e=>by subst e;exact Nat.le_refl _));have HCz:=hidP (Rd.offp (HC6.out) (Offp.of_only (((((((Only.refl w.heap.size _).set 0 (Value.int .i64 (n1:Int))).set 1 (Value.int .i64 (n2:Int))).set 2 (Value.int .i64 ((n3:Int) - 1))).set 3 (Value.int .i64 (n4:Int))).set 4 (Value.slice a (List.length s5) cp)).set 5 (Value.string s6))) (by show r≠_;omega) Hfar0.out);have HLz:=hidP (Qbr HL.out (((((((Only.refl w.heap.size _).set 0 (Value.int .i64 (n1:Int))).set 1 (Value.int .i64 (n2:Int))).set 2 (Value.int .i64 ((n3:Int) - 1))).set 3 (Value.int .i64 (n4:Int))).set 4 (Value.slice a (List.length s5) cp)).set 5 (Value.string s6)) (by omega));have hN:Hid (Qct l i=some (⟨(n1:Int),(n2:Int),(n3:Int) - 1,(n4:Int),s5,s6⟩,c6)):=hidP (by simp[Qct,hx1,hx2,hx3,hx4,hx5,hx6]);clear HO6 HC6 Hpx6 Hpr6 HL;go_wp2
 refine bodyPost_ret (v:= .agg #[Value.int .i64 (n1:Int),Value.int .i64 (n2:Int),Value.int .i64 ((n3:Int) - 1),Value.int .i64 (n4:Int),Value.slice a (List.length s5) cp,Value.string s6]) (by simp[results,Tryz.results67,go_sem,r0,r1,r2,r3,r4,r5]) rfl ?_;rw[hN.out];exact⟨HOz.out,HCz.out,_,rfl,_,rfl,isList.mono ⟨a,cp,rfl,HLz.out⟩ (Nat.le_add_right _ 2)⟩
end Go.Proofs.YtajbldnhjpjghaaGreat.Gen
