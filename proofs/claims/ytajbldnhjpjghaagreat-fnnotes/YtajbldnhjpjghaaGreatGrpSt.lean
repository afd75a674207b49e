/-
  GroupTick of the specification at this seat: it answers as the program's. No condition but that a group's lists have at most 1048576 numbers.
-/
import Derived.Test.YtajbldnhjpjghaaGreatKDo2
set_option linter.unusedVariables false
set_option linter.unusedSimpArgs false
set_option maxRecDepth 100000
set_option maxHeartbeats 8000000
set_option maxRecDepth 100000
set_option maxHeartbeats 8000000
namespace Go.Proofs.YtajbldnhjpjghaaGreat.Gen
open ChangeShapes WideShapes ChangeAt RowKit Joins Deep Base
def kF (time:Int) (m b:List Int) (n:Nat):List Mb:=(mbs m b).take n++Qd0 time ((mbs m b).drop n)
theorem Qk4 (time:Int) (m b:List Int):kF time m b 0=Qd0 time (mbs m b):=by simp[kF]
theorem Qls (time:Int) (m b:List Int):kF time m b m.length=mbs m b:=by
 have h:=Qb2 m b;unfold kF;rw[List.take_of_length_le (by omega),List.drop_eq_nil_of_le (by omega)];simp[Qd0]
theorem Qg6 (time:Int) (m b:List Int) (n:Nat):(kF time m b n).length<=m.length:=by
 have h:=Qb2 m b;have:=Qqi time ((mbs m b).drop n);simp[kF]at*;omega
theorem Qjy (time:Int) (m b:List Int) (n:Nat) (hn:n<=m.length):n<=(kF time m b n).length:=by
 have h:=Qb2 m b;simp[kF];omega
theorem Qsb {time:Int} {m b:List Int} {j:Nat} (hj:j<m.length) (h' :j<(mbs m b).length) (hg:Qfl time (mbs m b)[j]=false):kF time m b (j+1)=kF time m b j:=by
 have e1:=List.take_succ_eq_append_getElem h';have e2:=List.drop_eq_getElem_cons h';generalize (mbs m b)[j]=x at*;have e3:Qd0 time (x::(mbs m b).drop (j+1))=x::Qd0 time ((mbs m b).drop (j+1)):=by unfold Qd0;rw[List.filter_cons_of_pos (by simp[hg])]
 unfold kF;rw[e2,e3,e1,List.append_assoc];rfl
theorem Qsc {time:Int} {m b:List Int} {j:Nat} (hj:j<m.length) (h' :j<(mbs m b).length) (hg:Qfl time (mbs m b)[j]=true):kF time m b (j+1)=(mbs m b).take j++(mbs m b)[j]::Qd0 time ((mbs m b).drop (j+1))/\kF time m b j=(mbs m b).take j++Qd0 time ((mbs m b).drop (j+1)):=by
 have e1:=List.take_succ_eq_append_getElem h';have e2:=List.drop_eq_getElem_cons h';generalize (mbs m b)[j]=x at*;have e3:Qd0 time (x::(mbs m b).drop (j+1))=Qd0 time ((mbs m b).drop (j+1)):=by unfold Qd0;rw[List.filter_cons_of_neg (by simp[hg])]
 unfold kF;exact⟨by rw[e1,List.append_assoc];rfl,by rw[e2,e3]⟩
theorem Qkb {α:Type} (l r:List α) (x:α) (n:Nat) (h:l.length=n):(l++x::r).eraseIdx n=l++r:=by
 subst h;rw[List.eraseIdx_append_of_length_le (by omega)];simp
theorem Qtf {time:Int} {m b:List Int} {j:Nat} (hj:j<m.length) (hg:Qfl time ((mbs m b).getD j default)=true):((kF time m b (j+1)).map Mb.who).eraseIdx j=(kF time m b j).map Mb.who:=by
 have h' :j<(mbs m b).length:=by rw[Qb2];exact hj
 have hg' :Qfl time (mbs m b)[j]=true:=by simpa [h']using hg
 obtain⟨e1,e2⟩:=Qsc hj h' hg';rw[e1,e2,List.map_append,List.map_cons,List.map_append];exact Qkb _ _ _ _ (by simp;omega)
theorem Qti {time:Int} {m b:List Int} {j:Nat} (hj:j<m.length) (hg:Qfl time ((mbs m b).getD j default)=true):(Qc5 (kF time m b (j+1))++Qd6 m b).eraseIdx j=Qc5 (kF time m b j)++Qd6 m b:=by
 have h' :j<(mbs m b).length:=by rw[Qb2];exact hj
 have hg' :Qfl time (mbs m b)[j]=true:=by simpa [h']using hg
 obtain⟨e1,e2⟩:=Qsc hj h' hg';have hh:(mbs m b)[j].has=true:=by simp[Qfl]at hg';exact hg'.1
 have ht:=Qik (Qk8 (Qs8 m b)) h' hh;rw[e1,e2];unfold Qc5;rw[List.filter_append,List.filter_cons_of_pos hh,List.filter_append,List.map_append,List.map_cons,List.map_append,List.append_assoc,List.cons_append,List.append_assoc];exact Qkb _ _ _ _ (by rw[ht];simp;omega)
theorem Qtg (time:Int) (m b:List Int) (n:Nat):(kF time m b n).Sublist (mbs m b):=by
 have h:=List.Sublist.append (List.Sublist.refl ((mbs m b).take n)) (List.filter_sublist (p:=fun x=> !Qfl time x) (l:=(mbs m b).drop n));rw[List.take_append_drop]at h;exact h
theorem Qoc (m b:List Int):(mbs m b).map Mb.who=m:=by
 apply List.ext_getElem
 . simp[Qb2]
 . intro i h1 h2;simp[mbs,h2]
theorem Qg2 (m b:List Int):Qc5 (mbs m b)++Qd6 m b=b:=by
 have key:∀n,Qc5 ((List.range n).map fun i=>(⟨m.getD i 0,b.getD i 0,decide (i<b.length)⟩:Mb))=b.take n:=by
  intro n
  induction n with
  |zero=>simp[Qc5]
  |succ n ih=>
   rw[List.range_succ,List.map_append];unfold Qc5 at ih ⊢;rw[List.filter_append,List.map_append,ih];by_cases h:n<b.length
   . rw[List.take_succ_eq_append_getElem h];simp[h]
   . rw[List.take_of_length_le (by omega),List.take_of_length_le (by omega)];simp[h]
 show Qc5 ((List.range m.length).map _)++b.drop m.length=b;rw[key,List.take_append_drop]
theorem Qrb (time:Int) (m b:List Int) (n:Nat):(Qc5 (kF time m b n)++Qd6 m b).length<=b.length:=by
 have h:=(((Qtg time m b n).filter Mb.has).map Mb.beat).length_le;have h2:=congrArg List.length (Qg2 m b);rw[List.length_append]at h2 ⊢;unfold Qc5 at h2 ⊢;omega
theorem Qg8 {time:Int} {m b:List Int} {j:Nat} (hj:j<m.length):Qfl time ((mbs m b).getD j default)=(decide (j<b.length)&&oldF (b.getD j 0) time):=by
 have h' :j<(mbs m b).length:=by rw[Qb2];exact hj
 rw[List.getD_eq_getElem?_getD,List.getElem?_eq_getElem h',Qkx hj];rfl
theorem Qij {time:Int} {m b:List Int} {j:Nat} (hj:j<m.length) (hg:Qfl time ((mbs m b).getD j default)=false):kF time m b (j+1)=kF time m b j:=by
 have h' :j<(mbs m b).length:=by rw[Qb2];exact hj
 exact Qsb hj h' (by simpa [h']using hg)
theorem Qoz {time:Int} {m b:List Int} {j:Nat} (hj:j<m.length) (hg:Qfl time ((mbs m b).getD j default)=true):decide ((kF time m b j).length<m.length)=true:=by
 have h' :j<(mbs m b).length:=by rw[Qb2];exact hj
 obtain⟨e1,e2⟩:=Qsc hj h' (by simpa [h']using hg);have h1:=Qg6 time m b (j+1);rw[e1]at h1;rw[e2];simp at h1 ⊢;omega
theorem Wo.f1 {w W:World} {gen:Int} {vm vb vo:Value} {P:Nat} {x1 x2 x3:Option Addr} {y1 y2 y3:Nat} {l1 l2 l3:List Int} (h:Wo w W gen vm vb vo P x1 x2 x3 y1 y2 y3 l1 l2 l3):At W x1 l1:=by obtain⟨F,hG,_⟩:=h.f;exact hG.at1
theorem Wo.f2 {w W:World} {gen:Int} {vm vb vo:Value} {P:Nat} {x1 x2 x3:Option Addr} {y1 y2 y3:Nat} {l1 l2 l3:List Int} (h:Wo w W gen vm vb vo P x1 x2 x3 y1 y2 y3 l1 l2 l3):At W x2 l2:=by obtain⟨F,hG,_⟩:=h.f;exact hG.at2
theorem Wo.f3 {w W:World} {gen:Int} {vm vb vo:Value} {P:Nat} {x1 x2 x3:Option Addr} {y1 y2 y3:Nat} {l1 l2 l3:List Int} (h:Wo w W gen vm vb vo P x1 x2 x3 y1 y2 y3 l1 l2 l3):At W x3 l3:=by obtain⟨F,hG,_⟩:=h.f;exact hG.at3
theorem Wo.put {w W W' :World} {gen:Int} {vm vb vo:Value} {P:Nat} {x1 x2 x3 a1 a2 a3:Option Addr} {y1 y2 y3 c1 c2 c3:Nat} {l1 l2 l3 m1 m2 m3:List Int} {F:List Nat} (h:Wo w W gen vm vb vo P x1 x2 x3 y1 y2 y3 l1 l2 l3) (g:Below W.heap.size W W') (hG:Gp W' a1 a2 a3 m1 m2 m3 F) (hF:∀x∈F,W.heap.size<=x) (k1:m1.length<=c1/\c1<=9223372036854775807) (k2:m2.length<=c2/\c2<=9223372036854775807):
 Wo w (putG W' P (.int .i64 gen) (.slice a1 m1.length c1) (.slice a2 m2.length c2) (.slice a3 m3.length c3)) gen vm vb vo P a1 a2 a3 c1 c2 c3 m1 m2 m3:=by
 have hPl:=h.p.lt;have hr:=h.i.r.lt;have hs:=h.i.bl.size;exact⟨(h.i.below g).off (Qc3 _ _ _ _ _ _) h.hp,Qq4 (h.p.below g h.p.lt) _ _ _ _,⟨F,hG.off (Qc3 _ _ _ _ _ _) (fun x hx=>by have:=hF x hx;simp;omega),fun x hx=>by have:=hF x hx;exact⟨by omega,by omega,by omega⟩⟩,h.hp,k1,k2⟩
theorem Qmf (gen time:Int) (hg:I64 gen) (ht:I64 time) (A B C:Option Addr) (ca cb cc:Nat) (m b o:List Int) (hm:m.length<=1048576) (hb:b.length<=1048576) (ho:o.length<=1048576) (hbi:∀x∈b,I64 x) (w:World) (hA:At w A m) (hB:At w B b) (hC:At w C o):
 Calls Tryz.prog 110 #[.agg (Qak gen A m.length ca B b.length cb C o.length cc),.int .i64 time] w fun e w' =>Qiv w w' e (Qfb gen time m b) (Qfp time m b) (Qgl time m b) o:=by
 have HA:=hidP hA;have HB:=hidP hB;have HC:=hidP hC;have Hbi:=hidP hbi;obtain⟨tl,th⟩:=ht;clear hA hB hC hbi;go_enter Tryz.func110,Tryz.ntmps110;go_wp2_with fail;have I0:Wi w ((w.alloc (.cells (Qak gen A m.length ca B b.length cb C o.length cc) 143)).alloc (.cells Qcu 143)) gen (.slice A m.length ca) (.slice B b.length cb) (.slice C o.length cc):=⟨by repeat(first|exact Below.refl _ _|assumption|refine via0 (by assumption) ?_|refine Below.drew ?_|refine Qad ?_ _),(Blk.new w 143 (Qak gen A m.length ca B b.length cb C o.length cc)).alloc _,by have:=Blk.new (w.alloc (.cells (Qak gen A m.length ca B b.length cb C o.length cc) 143)) 143 Qcu;rw[World.size_alloc]at this;exact this⟩
 refine(Qdp gen A B C ca cb cc m b o hm hb ho _ (HA.out.below I0.bl) (HB.out.below I0.bl) (HC.out.below I0.bl)).mono ?_;rintro e w1 ⟨a1,a2,a3,c1,c2,c3,F,rfl,g1,hG,hF,k1,k2⟩;have I1:=I0.below g1;have J1:Wo w (w1.alloc (.cells (Qak gen a1 m.length c1 a2 b.length c2 a3 o.length c3) 143)) gen (.slice A m.length ca) (.slice B b.length cb) (.slice C o.length cc) w1.heap.size a1 a2 a3 c1 c2 c3 m b o:=
  ⟨I1.alloc _,Blk.new w1 143 _,⟨F,hG.alloc _,fun x hx=>by have:=hF x hx;have:=hG.lt x hx;simp at*;omega⟩,I1.r.lt,k1,k2⟩
 obtain⟨g0,gm,gb,go⟩:=J1.i.s4;clear hG hF k1 k2 g1 I0 I1;go_wp2_with fail;generalize w1.alloc (.cells (Qak gen a1 m.length c1 a2 b.length c2 a3 o.length c3) 143)=W1 at*;generalize w1.heap.size=P at*;have HJ1:=hidP J1;clear J1;go_wp2
 go_loopw [6,7] (fun gone i W=>∃(n n1 n2:Nat) (x1 x2 x3:Option Addr) (y1 y2 y3:Nat),i= .int .i64 ((n:Int) - 1)/\gone= .bool (decide ((kF time m b n).length<m.length))/\n<=m.length/\Hid (n1=((kF time m b n).map Mb.who).length)/\Hid (n2=(Qc5 (kF time m b n)++Qd6 m b).length)/\
  Hid (Wo w W gen (.slice A m.length ca) (.slice B b.length cb) (.slice C o.length cc) P x1 x2 x3 y1 y2 y3 ((kF time m b n).map Mb.who) (Qc5 (kF time m b n)++Qd6 m b) o)) (fun _ i _=>(intOf i+1).toNat)
 case atStart=>
  refine⟨m.length,m.length,b.length,a1,a2,a3,c1,c2,c3,by simp,by rw[Qls,Qb2];simp,Nat.le_refl _,by show _=_;rw[Qls,Qoc],by show _=_;rw[Qls,Qg2],?_⟩;show Wo _ _ _ _ _ _ _ _ _ _ _ _ _ _ _ _;rw[Qls,Qoc,Qg2];exact HJ1.out
 case round=>
  obtain⟨n,n1,n2,x1,x2,x3,y1,y2,y3,rfl,hgone,hn,hN1,hN2,HJ⟩:=hrel;clear HJ1 g0 gm gb go;obtain⟨g0,gm,gb,go⟩:=HJ.out.i.s4;have V:=HJ.out.p;rw[← hN1.out,← hN2.out]at V;obtain⟨t0,t1,t2,t3⟩:=V.row4;clear V;have hBl:=HJ.out.i.bl;rcases Nat.eq_zero_or_pos n with hn0|hn0
  . subst hn0;rw[Qk4]at hgone;have hgd0:∃c,decide ((Qd0 time (mbs m b)).length<m.length)=c:=⟨_,rfl⟩
    obtain⟨gd,hgd0⟩:=hgd0;rw[hgd0]at hgone;have hgd:=hidP hgd0;subst hgone;clear hgd0 t0 t1 t2 t3 g0 gm gb go;have V:=HJ.out.p;have I:=HJ.out.i;rw[← hN1.out,← hN2.out]at V;obtain⟨t0,t1,t2,t3⟩:=V.row4;have y0:=V.thaw 0;obtain⟨g0,_,_,_⟩:=I.s4;obtain⟨r0,r1,r2,r3⟩:=I.r.row4;have f0:=I.r.thaw 0;have f1:=I.r.thaw 1;have f2:=I.r.thaw 2;have f3:=I.r.thaw 3;have hPP:=HJ.out.hp;have hne1:P≠w.heap.size+1:=(by omega);have hne2:w.heap.size+1≠P:=(by omega);have hne3:w.heap.size≠P:=(by omega);have HI:=hidP I;have HV:=hidP V;clear I V;cases gd
    . have HR:=HI.out.r;go_wp2;have kk0:Blk (wr.setCell ⟨w.heap.size+1,0,none⟩ (.int .i64 gen)) (w.heap.size+1) 143 (Qak gen none 0 0 none 0 0 none 0 0):=HR.setAt 0 _;have s0:(wr.setCell ⟨w.heap.size+1,0,none⟩ (.int .i64 gen)).cell? ⟨w.heap.size+1,0,none⟩=some (.int .i64 gen):=kk0.row4.1;have kk1:Blk ((wr.setCell ⟨w.heap.size+1,0,none⟩ (.int .i64 gen)).setCell ⟨w.heap.size+1,1,none⟩ (.slice x1 n1 y1)) (w.heap.size+1) 143 (Qak gen x1 n1 y1 none 0 0 none 0 0):=kk0.setAt 1 _;have s1:((wr.setCell ⟨w.heap.size+1,0,none⟩ (.int .i64 gen)).setCell ⟨w.heap.size+1,1,none⟩ (.slice x1 n1 y1)).cell? ⟨w.heap.size+1,1,none⟩=some (.slice x1 n1 y1):=kk1.row4.2.1;have kk2:Blk (((wr.setCell ⟨w.heap.size+1,0,none⟩ (.int .i64 gen)).setCell ⟨w.heap.size+1,1,none⟩ (.slice x1 n1 y1)).setCell ⟨w.heap.size+1,2,none⟩ (.slice x2 n2 y2)) (w.heap.size+1) 143 (Qak gen x1 n1 y1 x2 n2 y2 none 0 0):=kk1.setAt 2 _;have s2:(((wr.setCell ⟨w.heap.size+1,0,none⟩ (.int .i64 gen)).setCell ⟨w.heap.size+1,1,none⟩ (.slice x1 n1 y1)).setCell ⟨w.heap.size+1,2,none⟩ (.slice x2 n2 y2)).cell? ⟨w.heap.size+1,2,none⟩=some (.slice x2 n2 y2):=kk2.row4.2.2.1;have kk3:Blk ((((wr.setCell ⟨w.heap.size+1,0,none⟩ (.int .i64 gen)).setCell ⟨w.heap.size+1,1,none⟩ (.slice x1 n1 y1)).setCell ⟨w.heap.size+1,2,none⟩ (.slice x2 n2 y2)).setCell ⟨w.heap.size+1,3,none⟩ (.slice x3 o.length y3)) (w.heap.size+1) 143 (Qak gen x1 n1 y1 x2 n2 y2 x3 o.length y3):=kk2.setAt 3 _;have s3:((((wr.setCell ⟨w.heap.size+1,0,none⟩ (.int .i64 gen)).setCell ⟨w.heap.size+1,1,none⟩ (.slice x1 n1 y1)).setCell ⟨w.heap.size+1,2,none⟩ (.slice x2 n2 y2)).setCell ⟨w.heap.size+1,3,none⟩ (.slice x3 o.length y3)).cell? ⟨w.heap.size+1,3,none⟩=some (.slice x3 o.length y3):=kk3.row4.2.2.2
      refine bodyPost_ret (v:= .agg (Qak gen x1 n1 y1 x2 n2 y2 x3 o.length y3)) (by simp[results,Tryz.results110,go_sem,s0,s1,s2,s3]) rfl ?_;have hto:=HJ.out.told;rw[← hN1.out,← hN2.out]at hto;rw[Qk4]at hto;have hG:Qfb gen time m b=gen:=(by unfold Qfb;rw[hgd.out];rfl);rw[hG];exact hto.g
    . go_wp2_with (go_at_call 114;refine(Qgb gen hg _).mono ?_;rintro e w9 ⟨rfl,h9⟩;subst w9);have k1:Off [P] wr (wr.setCell ⟨P,0,none⟩ (.int .i64 (upF gen))):=Qb4 (Off.refl _ _) P 0 _ (by simp);have J:=HI.out.off k1 hPP;have HR:=J.r;have kk0:Blk ((wr.setCell ⟨P,0,none⟩ (.int .i64 (upF gen))).setCell ⟨w.heap.size+1,0,none⟩ (.int .i64 (upF gen))) (w.heap.size+1) 143 (Qak (upF gen) none 0 0 none 0 0 none 0 0):=HR.setAt 0 _;have s0:((wr.setCell ⟨P,0,none⟩ (.int .i64 (upF gen))).setCell ⟨w.heap.size+1,0,none⟩ (.int .i64 (upF gen))).cell? ⟨w.heap.size+1,0,none⟩=some (.int .i64 (upF gen)):=kk0.row4.1;have kk1:Blk (((wr.setCell ⟨P,0,none⟩ (.int .i64 (upF gen))).setCell ⟨w.heap.size+1,0,none⟩ (.int .i64 (upF gen))).setCell ⟨w.heap.size+1,1,none⟩ (.slice x1 n1 y1)) (w.heap.size+1) 143 (Qak (upF gen) x1 n1 y1 none 0 0 none 0 0):=kk0.setAt 1 _;have s1:(((wr.setCell ⟨P,0,none⟩ (.int .i64 (upF gen))).setCell ⟨w.heap.size+1,0,none⟩ (.int .i64 (upF gen))).setCell ⟨w.heap.size+1,1,none⟩ (.slice x1 n1 y1)).cell? ⟨w.heap.size+1,1,none⟩=some (.slice x1 n1 y1):=kk1.row4.2.1;have kk2:Blk ((((wr.setCell ⟨P,0,none⟩ (.int .i64 (upF gen))).setCell ⟨w.heap.size+1,0,none⟩ (.int .i64 (upF gen))).setCell ⟨w.heap.size+1,1,none⟩ (.slice x1 n1 y1)).setCell ⟨w.heap.size+1,2,none⟩ (.slice x2 n2 y2)) (w.heap.size+1) 143 (Qak (upF gen) x1 n1 y1 x2 n2 y2 none 0 0):=kk1.setAt 2 _;have s2:((((wr.setCell ⟨P,0,none⟩ (.int .i64 (upF gen))).setCell ⟨w.heap.size+1,0,none⟩ (.int .i64 (upF gen))).setCell ⟨w.heap.size+1,1,none⟩ (.slice x1 n1 y1)).setCell ⟨w.heap.size+1,2,none⟩ (.slice x2 n2 y2)).cell? ⟨w.heap.size+1,2,none⟩=some (.slice x2 n2 y2):=kk2.row4.2.2.1
      have kk3:Blk (((((wr.setCell ⟨P,0,none⟩ (.int .i64 (upF gen))).setCell ⟨w.heap.size+1,0,none⟩ (.int .i64 (upF gen))).setCell ⟨w.heap.size+1,1,none⟩ (.slice x1 n1 y1)).setCell ⟨w.heap.size+1,2,none⟩ (.slice x2 n2 y2)).setCell ⟨w.heap.size+1,3,none⟩ (.slice x3 o.length y3)) (w.heap.size+1) 143 (Qak (upF gen) x1 n1 y1 x2 n2 y2 x3 o.length y3):=kk2.setAt 3 _;have s3:(((((wr.setCell ⟨P,0,none⟩ (.int .i64 (upF gen))).setCell ⟨w.heap.size+1,0,none⟩ (.int .i64 (upF gen))).setCell ⟨w.heap.size+1,1,none⟩ (.slice x1 n1 y1)).setCell ⟨w.heap.size+1,2,none⟩ (.slice x2 n2 y2)).setCell ⟨w.heap.size+1,3,none⟩ (.slice x3 o.length y3)).cell? ⟨w.heap.size+1,3,none⟩=some (.slice x3 o.length y3):=kk3.row4.2.2.2;refine bodyPost_ret (v:= .agg (Qak (upF gen) x1 n1 y1 x2 n2 y2 x3 o.length y3)) (by simp[results,Tryz.results110,go_sem,s0,s1,s2,s3]) rfl ?_;obtain⟨F,hGp,hF⟩:=HJ.out.f;have e1:=hN1.out;have e2:=hN2.out;rw[Qk4]at hGp e1 e2;have hG:Qfb gen time m b=upF gen:=(by unfold Qfb;rw[hgd.out];rfl);rw[hG];refine⟨x1,x2,x3,y1,y2,y3,F,by rw[e1,e2];rfl,J.bl.trans ((Qc3 _ (w.heap.size+1) _ _ _ _).toBelow (by simp) J.bl.size),(hGp.off k1 (fun x hx=>by simpa using (hF x hx).2.1)).off (Qc3 _ (w.heap.size+1) _ _ _ _) (fun x hx=>by simpa using (hF x hx).2.2),fun x hx=>(hF x hx).1⟩
  . obtain⟨j,rfl⟩:∃j,n=j+1:=⟨n - 1,by omega⟩
    have hjl:j<m.length:=(by omega);have hij:(((j+1:Nat):Int) - 1)=(j:Int):=(by omega);rw[hij];by_cases hjb:j<b.length
    . have hib:(j:Int)<(b.length:Int):=(by omega);obtain⟨bB,oB,rfl,hbs,hin⟩:∃b' o',B=some ⟨b',o',none⟩/\b' <w.heap.size/\In w b' o' b:=by
       rcases HB.out with h|h
       . subst h;simp at hjb
       . exact h
      have cB:=(hin.below hbs hBl).getInt j hjb;obtain⟨bl,bh⟩:=Hbi.out b[j] (List.getElem_mem hjb);have hgd:b.getD j 0=b[j]:=(by simp[hjb]);by_cases h1:time>b[j]
      . by_cases h2:wrap64 (time - b[j])>50
        . have hgo:Qfl time ((mbs m b).getD j default)=true:=(by rw[Qg8 hjl];have h2' :=h2;unfold wrap64 at h2';simp[hjb,hgd,oldF];omega);have Hgo:=hidP hgo;clear hgo;go_wp2_with fail;have hW:=HJ.out;have hcl:=Qeb gen x1 x2 x3 y1 y2 y3 ((kF time m b (j+1)).map Mb.who) (Qc5 (kF time m b (j+1))++Qd6 m b) o (by have:=Qg6 time m b (j+1);simp;omega) (by have:=Qrb time m b (j+1);omega) ho hW.k1 hW.k2 j (by have:=Qjy time m b (j+1) (by omega);simp;omega) wr hW.f1 hW.f2 hW.f3;rw[← hN1.out,← hN2.out,Qtf hjl Hgo.out,Qti hjl Hgo.out]at hcl;refine hcl.mono ?_;rintro e w4 ⟨a1,a2,a3,c1,c2,c3,F,rfl,g4,hG,hF,k1,k2⟩;have J4:=hW.put (c3:=c3) g4 hG hF k1 k2;have V4:=hW.p.below g4 hW.p.lt;rw[← hN1.out,← hN2.out]at V4;obtain⟨v0,v1,v2,v3⟩:=V4.row4;have f0:=V4.thaw 0;have f1:=V4.thaw 1;have f2:=V4.thaw 2;have f3:=V4.thaw 3;obtain⟨q1,hq1⟩:∃k,k=((kF time m b j).map Mb.who).length:=⟨_,rfl⟩
          obtain⟨q2,hq2⟩:∃k,k=(Qc5 (kF time m b j)++Qd6 m b).length:=⟨_,rfl⟩
          rw[← hq1,← hq2]at J4 ⊢;have Hq1:=hidP hq1;have Hq2:=hidP hq2;dsimp only[putG]at J4;have HK:=hidP J4;clear hq1 hq2 hcl J4 V4 hG hF g4 k1 k2 hW;go_wp2;exact⟨⟨j,q1,q2,a1,a2,a3,c1,c2,c3,by simp,by rw[Qoz hjl Hgo.out],by omega,Hq1,Hq2,HK⟩,by(simp[intOf])<;>omega⟩
        . by_cases h3:wrap64 (time - b[j])<0
          . have hgo:Qfl time ((mbs m b).getD j default)=true:=(by rw[Qg8 hjl];have h3' :=h3;unfold wrap64 at h3';simp[hjb,hgd,oldF];omega);have Hgo:=hidP hgo;clear hgo;go_wp2_with fail;have hW:=HJ.out;have hcl:=Qeb gen x1 x2 x3 y1 y2 y3 ((kF time m b (j+1)).map Mb.who) (Qc5 (kF time m b (j+1))++Qd6 m b) o (by have:=Qg6 time m b (j+1);simp;omega) (by have:=Qrb time m b (j+1);omega) ho hW.k1 hW.k2 j (by have:=Qjy time m b (j+1) (by omega);simp;omega) wr hW.f1 hW.f2 hW.f3;rw[← hN1.out,← hN2.out,Qtf hjl Hgo.out,Qti hjl Hgo.out]at hcl;refine hcl.mono ?_;rintro e w4 ⟨a1,a2,a3,c1,c2,c3,F,rfl,g4,hG,hF,k1,k2⟩;have J4:=hW.put (c3:=c3) g4 hG hF k1 k2;have V4:=hW.p.below g4 hW.p.lt;rw[← hN1.out,← hN2.out]at V4;obtain⟨v0,v1,v2,v3⟩:=V4.row4;have f0:=V4.thaw 0;have f1:=V4.thaw 1;have f2:=V4.thaw 2;have f3:=V4.thaw 3;obtain⟨q1,hq1⟩:∃k,k=((kF time m b j).map Mb.who).length:=⟨_,rfl⟩
            obtain⟨q2,hq2⟩:∃k,k=(Qc5 (kF time m b j)++Qd6 m b).length:=⟨_,rfl⟩
            rw[← hq1,← hq2]at J4 ⊢;have Hq1:=hidP hq1;have Hq2:=hidP hq2;dsimp only[putG]at J4;have HK:=hidP J4;clear hq1 hq2 hcl J4 V4 hG hF g4 k1 k2 hW;go_wp2;exact⟨⟨j,q1,q2,a1,a2,a3,c1,c2,c3,by simp,by rw[Qoz hjl Hgo.out],by omega,Hq1,Hq2,HK⟩,by(simp[intOf])<;>omega⟩
          . have hst:=Qij (time:=time) (m:=m) (b:=b) hjl (by rw[Qg8 hjl];have h3' :=h3;have h2' :=h2;unfold wrap64 at h3' h2';simp[hjb,hgd,oldF];omega);rw[hst]at hN1 hN2 HJ hgone;clear hst;go_wp2;exact⟨⟨j,n1,n2,x1,x2,x3,y1,y2,y3,by simp,hgone,by omega,hN1,hN2,HJ⟩,by(simp[intOf])<;>omega⟩
      . have hst:=Qij (time:=time) (m:=m) (b:=b) hjl (by rw[Qg8 hjl];simp[hjb,hgd,oldF];omega);rw[hst]at hN1 hN2 HJ hgone;clear hst;go_wp2;exact⟨⟨j,n1,n2,x1,x2,x3,y1,y2,y3,by simp,hgone,by omega,hN1,hN2,HJ⟩,by(simp[intOf])<;>omega⟩
    . have hib:¬(j:Int)<(b.length:Int):=(by omega);have hst:=Qij (time:=time) (m:=m) (b:=b) hjl (by rw[Qg8 hjl];simp[hjb]);rw[hst]at hN1 hN2 HJ hgone;clear hst;go_wp2;exact⟨⟨j,n1,n2,x1,x2,x3,y1,y2,y3,by simp,hgone,by omega,hN1,hN2,HJ⟩,by(simp[intOf])<;>omega⟩
open Items (It)
def tkP (T:Int) (p:PG):PG:=⟨Qfb p.gen T p.m p.b,Qfp T p.m p.b,Qgl T p.m p.b,p.o⟩
theorem Qro {l l' :List PG} {T:Int} {n:Nat} (h:l' =(l.take n).map (tkP T)++l.drop n) (hn:n<l.length):l'[n]? =some l[n]:=by
 have hl:((l.take n).map (tkP T)).length=n:=by simp;omega
 rw[h,List.getElem?_append_right (by omega),hl,Nat.sub_self,List.getElem?_drop,Nat.add_zero,List.getElem?_eq_getElem hn]
theorem Qnf {l l' :List PG} {T:Int} {n:Nat} (h:l' =(l.take n).map (tkP T)++l.drop n) (hn:n<l.length):l'.set n (tkP T l[n])=(l.take (n+1)).map (tkP T)++l.drop (n+1):=by
 have hl:((l.take n).map (tkP T)).length=n:=by simp;omega
 rw[h,List.set_append_right _ _ (by omega),hl,Nat.sub_self,List.drop_eq_getElem_cons hn,List.set_cons_zero,List.take_succ_eq_append_getElem hn,List.map_append,List.append_assoc];rfl
theorem Qqb (a b:Int) (w:World):Calls Tryz.prog 109 (l1II a b) w fun e w' =>e= .returned (.int .i64 (min a b))/\w' =w:=by
 by_cases h:a<b
 . rw[show min a b=a by omega];go_enter Tryz.func109,Tryz.ntmps109;go_wp2;go_ret;exact⟨rfl,rfl⟩
 . rw[show min a b=b by omega];go_enter Tryz.func109,Tryz.ntmps109;go_wp2;go_ret;exact⟨rfl,rfl⟩
theorem Qms (ro wi le ke:Int) (rA:Option Addr) (rc:Nat) (rs:List RC) (mA:Option Addr) (mc:Nat) (ms:List MC) (gA:Option Addr) (gc:Nat) (gs:List GC) (time:Int) (dA:Option Addr) (dc:Nat) (ds:List Int) (lA:Option Addr) (lc:Nat) (ls:List An) (who seq ca cb cc:Int) (key text:ByteArray) (S:Nat->Prop) (br bg bd bl:Nat) (w:World) (hS:∀b,S b->b<w.heap.size) (hq:KQ w (⟨rA,rc,rs,mA,mc,ms,gA,gc,gs,time,dA,dc,ds,lA,lc,ls⟩:KC) S br bg bd bl) (hgl:gs.length<=1000) (ht:0<=time/\time<=100000) (hca:0<=ca/\ca<=2147483647)
 (hgi:∀y∈gs,y.m.length<=1048576/\y.b.length<=1048576/\y.o.length<=1048576/\I64 y.gen/\(∀z∈y.b,I64 z)):
 Calls Tryz.prog 105 #[.agg (Qaj ro wi le ke),.agg (Qaa rA rs.length rc mA ms.length mc gA gs.length gc time dA ds.length dc lA ls.length lc),.agg (Qab who seq 8 ca cb cc key text)] w fun e w' =>Qci S w w' e {KC.p (⟨rA,rc,rs,mA,mc,ms,gA,gc,gs,time,dA,dc,ds,lA,lc,ls⟩:KC)with time:=min 100000 (time+ca),gs:=(gs.map GC.p).map (tkP (min 100000 (time+ca)))} ⟨0,min 100000 (time+ca),⟨#[]⟩,⟨#[]⟩⟩:=by
 obtain rfl:gA=(some ⟨bg,0,none⟩):=hq.g.a;have HQ:=hidP hq;obtain⟨T,hT⟩:∃T,min 100000 (time+ca)=T:=⟨_,rfl⟩
 have hT64:I64 T:=by unfold I64;omega
 have HM:Hid (∀W:World,Calls Tryz.prog 109 (l1II 100000 (time+ca)) W fun e w' =>e= .returned (.int .i64 T)/\w' =W):=fun W=>hT▸Qqb _ _ W
 rw[hT];have hbr:br<w.heap.size/\bg<w.heap.size/\bd<w.heap.size/\bl<w.heap.size:=⟨hq.r.lt,hq.g.lt,hq.d.lt,hq.l.lt⟩
 have hgi' :∀p∈gs.map GC.p,p.m.length<=1048576/\p.b.length<=1048576/\p.o.length<=1048576/\I64 p.gen/\(∀z∈p.b,I64 z):=by
  intro p hp;obtain⟨y,hy,rfl⟩:=List.mem_map.1 hp;exact hgi y hy
 have Hgi:=hidP hgi';obtain⟨PGS,hPGS⟩:∃P,gs.map GC.p=P:=⟨_,rfl⟩
 rw[hPGS];have hPl:PGS.length=gs.length:=by rw[← hPGS];simp
 rw[hPGS]at Hgi;clear hq hT hgi hgi';obtain⟨I0,S0,B0⟩:=Qba ro wi le ke rA rc rs mA mc ms (some ⟨bg,0,none⟩) gc gs time dA dc ds lA lc ls who seq 8 ca cb cc key text S w hS;go_enter Tryz.func105,Tryz.ntmps105;go_upto_region 1 with fail;generalize ((((w.alloc (.cells (Qaj ro wi le ke) 96)).alloc (.cells (Qaa rA rs.length rc mA ms.length mc (some ⟨bg,0,none⟩) gs.length gc time dA ds.length dc lA ls.length lc) 102)).alloc (.cells (Qab who seq 8 ca cb cc key text) 55)).alloc (.cells Qae 102)).alloc (.cells Qaq 145)=X0 at I0 S0 B0 ⊢;obtain⟨k0,k1,k2,k3,k4,k5⟩:=I0.k.row6;obtain⟨c0,c1,c2,c3,c4,c5,c6,c7⟩:=I0.c.row8c;have fk:=I0.k.thaw 3;go_upto_region 2 with fail;go_wp2_with fail;refine(HM.out _).mono ?_;rintro e w' ⟨rfl,rfl⟩;have l0:w.heap.size+1+1+1+1<w'.heap.size:=I0.r2.lt;have I1:=I0.setK 3 (.int .i64 T);have I1:Bx S w (w'.setCell ⟨(w.heap.size+1),3,none⟩ (.int .i64 T)) (w.heap.size+1) (w.heap.size+1+1) (w.heap.size+1+1+1) (w.heap.size+1+1+1+1) (Qaa rA rs.length rc mA ms.length mc (some ⟨bg,0,none⟩) gs.length gc T dA ds.length dc lA ls.length lc) (Qab who seq 8 ca cb cc key text):=I1;have Q1:=((HQ.out.below B0).mono (S' :=(fun b=>S b∨(w.heap.size<=b/\b≠(w.heap.size+1)/\b≠(w.heap.size+1+1)/\b≠(w.heap.size+1+1+1)/\b≠(w.heap.size+1+1+1+1)))) (fun b _ hb=> .inl hb)).setT T;have Q1:=hidP (Q1.box (w.heap.size+1) 3 (.int .i64 T) (by rintro (h|h);have:=hS _ h;omega;omega));have hz1:w'.heap.size=(w'.setCell ⟨(w.heap.size+1),3,none⟩ (.int .i64 T)).heap.size:=by simp
 go_upto_region 3 with fail;clear k0 k1 k2 k3 k4 k5 c0 c1 c2 c3 c4 c5 c6 c7 fk;generalize w'.setCell ⟨(w.heap.size+1),3,none⟩ (.int .i64 T)=X1 at I1 Q1 hz1 ⊢;have l1:w.heap.size+1+1+1+1<X1.heap.size:=by omega
 clear I0 S0 B0 hz1 l0;have Hp0:Hid (gs.map GC.p=(PGS.take 0).map (tkP T)++PGS.drop 0):=by show _=_;simpa using hPGS
 clear hPGS;go_wp2
 go_loopw [8] (fun i wx=>∃(n:Nat) (gs' :List GC),i= .int .i64 (n:Int)/\n<=gs.length/\Hid (gs'.length=gs.length)/\Hid (gs'.map GC.p=(PGS.take n).map (tkP T)++PGS.drop n)/\Bx S w wx (w.heap.size+1) (w.heap.size+1+1) (w.heap.size+1+1+1) (w.heap.size+1+1+1+1) (Qaa rA rs.length rc mA ms.length mc (some ⟨bg,0,none⟩) gs.length gc T dA ds.length dc lA ls.length lc) (Qab who seq 8 ca cb cc key text)/\Hid (KQ wx (⟨rA,rc,rs,mA,mc,ms,(some ⟨bg,0,none⟩),gc,gs',T,dA,dc,ds,lA,lc,ls⟩:KC) (fun b=>S b∨(w.heap.size<=b/\b≠(w.heap.size+1)/\b≠(w.heap.size+1+1)/\b≠(w.heap.size+1+1+1)/\b≠(w.heap.size+1+1+1+1))) br bg bd bl)) (fun i _=>gs.length - (intOf i).toNat)
 case atStart=>exact⟨0,gs,rfl,by omega,rfl,Hp0,I1,Q1⟩
 case round=>
  obtain⟨n,gs',rfl,hn,hl,hp,IW,QW⟩:=hrel;obtain⟨k0,k1,k2,k3,k4,k5⟩:=IW.k.row6;by_cases hlt:n<gs.length
  . have hnP:n<PGS.length:=(by omega);have hng:n<gs'.length:=(by rw[hl.out];exact hlt);obtain⟨⟨gen,a1,c1,m,a2,c2,b,a3,c3,o⟩,hy⟩:∃y,gs'[n]=y:=⟨_,rfl⟩
    have hyp:PGS[n]=⟨gen,m,b,o⟩:=by
     have h:=Qro hp.out hnP;rw[List.getElem?_map,List.getElem?_eq_getElem hng,hy]at h;simpa [GC.p]using h.symm
    have HG:=hidP (Hgi.out PGS[n] (List.getElem_mem hnP));rw[hyp]at HG;have HCl:Hid (wr.cell? ⟨bg,n*4,none⟩=some (.int .i64 gen)/\wr.cell? ⟨bg,n*4+1,none⟩=some (.slice a1 m.length c1)/\wr.cell? ⟨bg,n*4+2,none⟩=some (.slice a2 b.length c2)/\wr.cell? ⟨bg,n*4+3,none⟩=some (.slice a3 o.length c3)):=by
     have h:=QW.out.g.i.getGC n hng;rw[hy]at h;simp only[Nat.zero_add]at h;exact h
    have HA:Hid (At wr a1 m/\At wr a2 b/\At wr a3 o):=by
     have h:=QW.out.gi gs'[n] (List.getElem_mem hng);rw[hy]at h;exact⟨h.1.at,h.2.1.at,h.2.2.at⟩
    clear hy;have hn0:(0:Int)<=(n:Int):=(by omega);have hn1:(n:Int)<(gs.length:Int):=(by omega);have Hyp:=hidP hyp;clear hyp;go_upto_region 6 with fail;clear k0 k1 k2 k3 k4 k5;have mkS:∀V:World,Bx S w V (w.heap.size+1) (w.heap.size+1+1) (w.heap.size+1+1+1) (w.heap.size+1+1+1+1) (Qaa rA rs.length rc mA ms.length mc (some ⟨bg,0,none⟩) gs.length gc T dA ds.length dc lA ls.length lc) (Qab who seq 8 ca cb cc key text)->Below wr.heap.size wr V->(fun(V:World)=>V.cell? ⟨(w.heap.size+1),2,none⟩=some (.slice (some ⟨bg,0,none⟩) gs.length gc)/\V.cell? ⟨(w.heap.size+1),3,none⟩=some (.int .i64 T)/\V.cell? ⟨bg,n*4,none⟩=some (.int .i64 gen)/\V.cell? ⟨bg,n*4+1,none⟩=some (.slice a1 m.length c1)/\V.cell? ⟨bg,n*4+2,none⟩=some (.slice a2 b.length c2)/\V.cell? ⟨bg,n*4+3,none⟩=some (.slice a3 o.length c3)) V:=fun V q1 q2=>by
     obtain⟨a0,a1,a2,a3,a4,a5⟩:=q1.k.row6;have hb:bg<wr.heap.size:=QW.out.g.lt;obtain⟨r0,r1,r2,r3⟩:=HCl.out;exact⟨a2,a3,(q2.cell (p:=⟨bg,n*4,none⟩) hb).trans r0,(q2.cell (p:=⟨bg,n*4+1,none⟩) hb).trans r1,(q2.cell (p:=⟨bg,n*4+2,none⟩) hb).trans r2,(q2.cell (p:=⟨bg,n*4+3,none⟩) hb).trans r3⟩
    have J0:=IW.drew;have D0:Below wr.heap.size wr wr.drew:=(Below.refl _ _).drew;have hH0:=mkS _ J0 D0;have lw:w.heap.size+1+1+1+1<wr.heap.size:=IW.r2.lt;refine wp_region_noPanic ?_;have hH:((fun(V:World)=>V.cell? ⟨(w.heap.size+1),2,none⟩=some (.slice (some ⟨bg,0,none⟩) gs.length gc)/\V.cell? ⟨(w.heap.size+1),3,none⟩=some (.int .i64 T)/\V.cell? ⟨bg,n*4,none⟩=some (.int .i64 gen)/\V.cell? ⟨bg,n*4+1,none⟩=some (.slice a1 m.length c1)/\V.cell? ⟨bg,n*4+2,none⟩=some (.slice a2 b.length c2)/\V.cell? ⟨bg,n*4+3,none⟩=some (.slice a3 o.length c3))) _:=hH0;refine Qby 12 ((fun(V:World)=>V.cell? ⟨(w.heap.size+1),2,none⟩=some (.slice (some ⟨bg,0,none⟩) gs.length gc)/\V.cell? ⟨(w.heap.size+1),3,none⟩=some (.int .i64 T)/\V.cell? ⟨bg,n*4,none⟩=some (.int .i64 gen)/\V.cell? ⟨bg,n*4+1,none⟩=some (.slice a1 m.length c1)/\V.cell? ⟨bg,n*4+2,none⟩=some (.slice a2 b.length c2)/\V.cell? ⟨bg,n*4+3,none⟩=some (.slice a3 o.length c3))) (by kernel_rfl) ?_;refine zpk [0,1,2,3,4,5,6,7,8,9] ?_;repeat(refine zpn (h:= ?_);try simp only[zX,zY])
    refine zpe ?_;refine Qa0 (i:=10) (by kernel_rfl) rfl (fun K hK=> ?_);simp only[zG]
    go_simp;refine(Qmf gen T HG.out.2.2.2.1 hT64 a1 a2 a3 c1 c2 c3 m b o HG.out.1 HG.out.2.1 HG.out.2.2.1 HG.out.2.2.2.2 _ (HA.out.1.below D0) (HA.out.2.1.below D0) (HA.out.2.2.below D0)).mono ?_;rintro e w3 ⟨e1,e2,e3,f1,f2,f3,Ff,rfl,g3,hG,hFf⟩;have I3:=J0.below g3;have D3:Below wr.heap.size wr w3:=via0 g3 D0;have hH3:=mkS _ I3 D3;obtain⟨r0,r1,r2,r3⟩:=hH3.2.2;have hth:=(QW.out.below D3).g.th;have fz:∀j,j<4->w3.frozen? ⟨bg,n*4+j,none⟩=false:=(fun j hj=>by have h9:=(hth (n*4+j) (by show n*4+j<gs'.length*4;rw[hl.out];omega)).2;rwa [Nat.zero_add]at h9);have z0:w3.frozen? ⟨bg,n*4,none⟩=false:=fz 0 (by omega);have z1:=fz 1 (by omega);have z2:=fz 2 (by omega);have z3:=fz 3 (by omega);have hk6:Only bg w3 ((((w3.setCell ⟨bg,n*4,none⟩ (.int .i64 (Qfb gen T m b))).setCell ⟨bg,n*4+1,none⟩ (.slice e1 (Qfp T m b).length f1)).setCell ⟨bg,n*4+2,none⟩ (.slice e2 (Qgl T m b).length f2)).setCell ⟨bg,n*4+3,none⟩ (.slice e3 o.length f3)):=((((Only.refl bg w3).set _ _).set _ _).set _ _).set _ _;have hbw:bg<wr.heap.size:=QW.out.g.lt;have Q6:Hid (KQ ((((w3.setCell ⟨bg,n*4,none⟩ (.int .i64 (Qfb gen T m b))).setCell ⟨bg,n*4+1,none⟩ (.slice e1 (Qfp T m b).length f1)).setCell ⟨bg,n*4+2,none⟩ (.slice e2 (Qgl T m b).length f2)).setCell ⟨bg,n*4+3,none⟩ (.slice e3 o.length f3)) (⟨rA,rc,rs,mA,mc,ms,(some ⟨bg,0,none⟩),gc,(gs'.set n ⟨Qfb gen T m b,e1,f1,Qfp T m b,e2,f2,Qgl T m b,e3,f3,o⟩),T,dA,dc,ds,lA,lc,ls⟩:KC) (fun b=>S b∨(w.heap.size<=b/\b≠(w.heap.size+1)/\b≠(w.heap.size+1+1)/\b≠(w.heap.size+1+1+1)/\b≠(w.heap.size+1+1+1+1))) br bg bd bl):=(((QW.out.below D3).setG n hng ⟨Qfb gen T m b,e1,f1,Qfp T m b,e2,f2,Qgl T m b,e3,f3,o⟩ (Qqp hG (fun x hx=>(by have h9:=hFf x hx;have h8:=hbr;have h7:wr.heap.size<=x:=h9;exact⟨.inr (by omega),by omega,by omega,by omega,by omega⟩)))));have I6:=I3.turn (Offp.of_only hk6) (fun b e=> .inl (by subst e;rcases QW.out.s.2.1 with h|h;exact h;exact absurd h.1 (by omega)));clear hth fz hk6 g3 hG hFf I3 D3
    refine hK.out _ _ (.inr hH3) ?_;clear hK K
    try simp only[zX,zY]
    refine zp1 11 ?_;refine zpn (h:= ?_);try simp only[zX,zY]
    refine zpe ?_;refine Qa0 (i:=12) (by kernel_rfl) rfl (fun K hK=> ?_);simp only[zG];go_simp;refine hK.out _ _ (.inl rfl) ?_;clear hK K
    try simp only[zX,zY]
    refine Qcl (by kernel_rfl) ?_ _;refine NoPanic.normal ?_;clear hH0 mkS r0 r1 r2 r3 z0 z1 z2 z3;go_wp2;exact⟨⟨n+1,gs'.set n ⟨Qfb gen T m b,e1,f1,Qfp T m b,e2,f2,Qgl T m b,e3,f3,o⟩,by go_num,by omega,by show _=_;simpa using hl.out,by show _=_;rw[List.map_set,show GC.p ⟨Qfb gen T m b,e1,f1,Qfp T m b,e2,f2,Qgl T m b,e3,f3,o⟩=tkP T PGS[n]by rw[Hyp.out];rfl];exact Qnf hp.out hnP,I6,Q6⟩,by simp[intOf];omega⟩
  . obtain rfl:n=gs.length:=(by omega);have hP:Hid (gs'.map GC.p=PGS.map (tkP T)):=by
     have h:=hp.out;rw[List.take_of_length_le (by omega),List.drop_of_length_le (by omega),List.append_nil]at h;exact h
    have Q9:=hidP (QW.out.mono (S' :=fun b=>S b∨(w.heap.size<=b/\b≠(w.heap.size+1+1+1)/\b≠(w.heap.size+1+1+1+1))) (fun b _ hb=>hb.imp id (fun h=>⟨h.1,h.2.2.2.1,h.2.2.2.2⟩)));have I9:=IW;clear IW QW hp;go_upto_region 7 with fail;clear k0 k1 k2 k3 k4 k5;have J:=I9.drew;have QQ:=hidP (Q9.out.below (Below.refl _ _).drew);refine wp_region_noPanic ?_;refine wp_region_held_drew (S:=(fun(V:World)=>Blk V (w.heap.size+1) 102 (Qaa rA rs.length rc mA ms.length mc (some ⟨bg,0,none⟩) gs.length gc T dA ds.length dc lA ls.length lc))) (by kernel_rfl) (show(fun(V:World)=>Blk V (w.heap.size+1) 102 (Qaa rA rs.length rc mA ms.length mc (some ⟨bg,0,none⟩) gs.length gc T dA ds.length dc lA ls.length lc)) _ from J.k) (fun hH=> ?_);generalize wr.drew=XX at J QQ hH ⊢;refine zt1 0 ?_;refine ztn (hS:=hH) (hy:=fun w' hSw=>Qa2 rfl rfl hSw Tryz.underlying102 (by kernel_rfl)) (h:= ?_);try simp only[zX,zY]
    refine zte ?_;refine ztk [1,2,3] ?_;repeat(refine ztn (hS:=hH) (hy:=by intro w' hSw;have hC:=hSw.row6;(try dsimp only at hSw);go_simp<;>with_reducible rfl) (h:= ?_);try simp only[zX,zY])
    refine zte ?_;have TT:=hidP (Bx.tell J (y:=(⟨rA,rc,rs,mA,mc,ms,(some ⟨bg,0,none⟩),gc,gs',T,dA,dc,ds,lA,lc,ls⟩:KC)) (br:=br) (bg:=bg) (bd:=bd) (bl:=bl) QQ.out (⟨(0),(T),(⟨#[]⟩),(⟨#[]⟩)⟩:An) (hv:=show _=(Qaa rA rs.length rc mA ms.length mc (some ⟨bg,0,none⟩) gs.length gc T dA ds.length dc lA ls.length lc)by simp only[KC.cells,hl.out]) rfl);refine end2 4 5 J.r1 J.r2 (fun e=>J.ne.2.2.2.2.2 e.symm) (J.k.otherRow J.ne.2.1 _) ((J.k.otherRow J.ne.2.1 _).otherRow J.ne.2.2.1 _) ?_;go_wp2;exact bodyPost_ret (v:= .tuple #[.agg (Qaa rA rs.length rc mA ms.length mc (some ⟨bg,0,none⟩) gs.length gc T dA ds.length dc lA ls.length lc),.agg (Qax (0) (T) ⟨#[]⟩ ⟨#[]⟩)]) (Qbu Tryz.results105 rfl rfl ((J.r1.row _).otherRow J.ne.2.2.2.2.2 _) ((J.r2.otherRow (fun e=>J.ne.2.2.2.2.2 e.symm) _).row _) Tryz.underlying102 Tryz.underlying145 (by kernel_rfl) (by kernel_rfl)) rfl (by have h:=TT.out;simp only[KC.p,hP.out]at h;exact h)
end Go.Proofs.YtajbldnhjpjghaaGreat.Gen
namespace Go.Proofs.YtajbldnhjpjghaaGreat.Items
open ChangeShapes WideShapes ChangeAt RowKit Shelf Base
theorem Qas {B:Nat} {W W' :World} {v:Value} {t:TypeId} {k n:Nat} {xs:List Value} (h:W.ownsRow B t k v n xs) (hb:Below W.heap.size W W'):W'.ownsRow B t k v n xs:=by
 refine⟨h.1,?_⟩;rcases h.2 with⟨rfl,rfl⟩|⟨g,c,cur,rfl,hB,hg,hc,hm,hsz,ht⟩
 . exact .inl ⟨rfl,rfl⟩
 . exact .inr ⟨g,c,cur,rfl,hB,Blk.below (show Blk W g t cur from hg) hb (Blk.lt (show Blk W g t cur from hg)),hc,hm,hsz,ht⟩
theorem Qau {B:Nat} {W:World} {v:Value} {t:TypeId} {k n:Nat} {xs:List Value} (h:W.ownsRow B t k v n xs) (o:Obj):(W.alloc o).ownsRow B t k v n xs:=Qas h (Qad (Below.refl _ _) _)
theorem Qat {B C:Nat} {W:World} {v:Value} {t:TypeId} {k n:Nat} {xs:List Value} (h:W.ownsRow B t k v n xs) (hC:C<=B):W.ownsRow C t k v n xs:=by
 refine⟨h.1,?_⟩;rcases h.2 with⟨rfl,rfl⟩|⟨g,c,cur,rfl,hB,hg,hc,hm,hsz,ht⟩
 . exact .inl ⟨rfl,rfl⟩
 . exact .inr ⟨g,c,cur,rfl,by omega,hg,hc,hm,hsz,ht⟩
theorem Qcn {B:Nat} {W:World} {v:Value} {t:TypeId} {k n:Nat} {xs:List Value} (h:W.ownsRow B t k v n xs) {g:Nat} (hg:v.ownBlock=some g):g<W.heap.size:=by
 rcases h.2 with⟨rfl,rfl⟩|⟨g',c,cur,rfl,hB,hb,_⟩
 . cases hg
 . have:g' =g:=(by simpa [Value.ownBlock]using hg);subst this;exact Blk.lt (show Blk W g' t cur from hb)
theorem Qc2 {B:Nat} {W:World} {a:Option Addr} {c:Nat} {t:TypeId} {l:List It} (h:W.ownsRow B t 5 (.slice a l.length c) l.length (flat l)):At W a l:=by
 obtain⟨A,c',e,_,hA⟩:=Qay h;cases e;exact hA.imp id fun⟨b,o,e,_,hb,hi,_⟩=>⟨b,o,e,hb,hi⟩
end Go.Proofs.YtajbldnhjpjghaaGreat.Items
