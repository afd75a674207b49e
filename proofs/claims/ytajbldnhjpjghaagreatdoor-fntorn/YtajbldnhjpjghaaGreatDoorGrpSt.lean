/-
  GroupTick of the specification at this seat: it answers as the program's. No condition but that a group's lists have at most 1048576 numbers.
-/
import Derived.Test.YtajbldnhjpjghaaGreatDoorKNw1
set_option linter.unusedVariables false
set_option linter.unusedSimpArgs false
set_option maxRecDepth 100000
set_option maxHeartbeats 8000000
set_option maxRecDepth 100000
set_option maxHeartbeats 8000000
namespace Go.Proofs.YtajbldnhjpjghaaGreatDoor.Gen
open ChangeShapes WideShapes ChangeAt RowKit Joins Deep Base
def kF (time:Int) (m b:List Int) (n:Nat):List Mb:=(mbs m b).take n++Qdt time ((mbs m b).drop n)
theorem Qlk (time:Int) (m b:List Int):kF time m b 0=Qdt time (mbs m b):=by simp[kF]
theorem kF_all (time:Int) (m b:List Int):kF time m b m.length=mbs m b:=by
 have h:=Qbz m b;unfold kF;rw[List.take_of_length_le (by omega),List.drop_eq_nil_of_le (by omega)];simp[Qdt]
theorem Qhb (time:Int) (m b:List Int) (n:Nat):(kF time m b n).length<=m.length:=by
 have h:=Qbz m b;have:=keepF_le time ((mbs m b).drop n);simp[kF]at*;omega
theorem Qj8 (time:Int) (m b:List Int) (n:Nat) (hn:n<=m.length):n<=(kF time m b n).length:=by
 have h:=Qbz m b;simp[kF];omega
theorem kF_stay {time:Int} {m b:List Int} {j:Nat} (hj:j<m.length) (h' :j<(mbs m b).length) (hg:Qfh time (mbs m b)[j]=false):kF time m b (j+1)=kF time m b j:=by
 have e1:=List.take_succ_eq_append_getElem h';have e2:=List.drop_eq_getElem_cons h';generalize (mbs m b)[j]=x at*;have e3:Qdt time (x::(mbs m b).drop (j+1))=x::Qdt time ((mbs m b).drop (j+1)):=by unfold Qdt;rw[List.filter_cons_of_pos (by simp[hg])]
 unfold kF;rw[e2,e3,e1,List.append_assoc];rfl
theorem kF_go {time:Int} {m b:List Int} {j:Nat} (hj:j<m.length) (h' :j<(mbs m b).length) (hg:Qfh time (mbs m b)[j]=true):kF time m b (j+1)=(mbs m b).take j++(mbs m b)[j]::Qdt time ((mbs m b).drop (j+1))/\kF time m b j=(mbs m b).take j++Qdt time ((mbs m b).drop (j+1)):=by
 have e1:=List.take_succ_eq_append_getElem h';have e2:=List.drop_eq_getElem_cons h';generalize (mbs m b)[j]=x at*;have e3:Qdt time (x::(mbs m b).drop (j+1))=Qdt time ((mbs m b).drop (j+1)):=by unfold Qdt;rw[List.filter_cons_of_neg (by simp[hg])]
 unfold kF;exact⟨by rw[e1,List.append_assoc];rfl,by rw[e2,e3]⟩
theorem Qkl {α:Type} (l r:List α) (x:α) (n:Nat) (h:l.length=n):(l++x::r).eraseIdx n=l++r:=by
 subst h;rw[List.eraseIdx_append_of_length_le (by omega)];simp
theorem kM_go {time:Int} {m b:List Int} {j:Nat} (hj:j<m.length) (hg:Qfh time ((mbs m b).getD j default)=true):((kF time m b (j+1)).map Mb.who).eraseIdx j=(kF time m b j).map Mb.who:=by
 have h' :j<(mbs m b).length:=by rw[Qbz];exact hj
 have hg' :Qfh time (mbs m b)[j]=true:=by simpa [h']using hg
 obtain⟨e1,e2⟩:=kF_go hj h' hg';rw[e1,e2,List.map_append,List.map_cons,List.map_append];exact Qkl _ _ _ _ (by simp;omega)
theorem kB_go {time:Int} {m b:List Int} {j:Nat} (hj:j<m.length) (hg:Qfh time ((mbs m b).getD j default)=true):(Qc0 (kF time m b (j+1))++Qdx m b).eraseIdx j=Qc0 (kF time m b j)++Qdx m b:=by
 have h' :j<(mbs m b).length:=by rw[Qbz];exact hj
 have hg' :Qfh time (mbs m b)[j]=true:=by simpa [h']using hg
 obtain⟨e1,e2⟩:=kF_go hj h' hg';have hh:(mbs m b)[j].has=true:=by simp[Qfh]at hg';exact hg'.1
 have ht:=Qit (Qlo (mbs_pw m b)) h' hh;rw[e1,e2];unfold Qc0;rw[List.filter_append,List.filter_cons_of_pos hh,List.filter_append,List.map_append,List.map_cons,List.map_append,List.append_assoc,List.cons_append,List.append_assoc];exact Qkl _ _ _ _ (by rw[ht];simp;omega)
theorem kF_sub (time:Int) (m b:List Int) (n:Nat):(kF time m b n).Sublist (mbs m b):=by
 have h:=List.Sublist.append (List.Sublist.refl ((mbs m b).take n)) (List.filter_sublist (p:=fun x=> !Qfh time x) (l:=(mbs m b).drop n));rw[List.take_append_drop]at h;exact h
theorem mbs_who (m b:List Int):(mbs m b).map Mb.who=m:=by
 apply List.ext_getElem
 . simp[Qbz]
 . intro i h1 h2;simp[mbs,h2]
theorem Qg7 (m b:List Int):Qc0 (mbs m b)++Qdx m b=b:=by
 have key:∀n,Qc0 ((List.range n).map fun i=>(⟨m.getD i 0,b.getD i 0,decide (i<b.length)⟩:Mb))=b.take n:=by
  intro n
  induction n with
  |zero=>simp[Qc0]
  |succ n ih=>
   rw[List.range_succ,List.map_append];unfold Qc0 at ih ⊢;rw[List.filter_append,List.map_append,ih];by_cases h:n<b.length
   . rw[List.take_succ_eq_append_getElem h];simp[h]
   . rw[List.take_of_length_le (by omega),List.take_of_length_le (by omega)];simp[h]
 show Qc0 ((List.range m.length).map _)++b.drop m.length=b;rw[key,List.take_append_drop]
theorem kB_le' (time:Int) (m b:List Int) (n:Nat):(Qc0 (kF time m b n)++Qdx m b).length<=b.length:=by
 have h:=(((kF_sub time m b n).filter Mb.has).map Mb.beat).length_le;have h2:=congrArg List.length (Qg7 m b);rw[List.length_append]at h2 ⊢;unfold Qc0 at h2 ⊢;omega
theorem Qhe {time:Int} {m b:List Int} {j:Nat} (hj:j<m.length):Qfh time ((mbs m b).getD j default)=(decide (j<b.length)&&oldF (b.getD j 0) time):=by
 have h' :j<(mbs m b).length:=by rw[Qbz];exact hj
 rw[List.getD_eq_getElem?_getD,List.getElem?_eq_getElem h',Qle hj];rfl
theorem Qis {time:Int} {m b:List Int} {j:Nat} (hj:j<m.length) (hg:Qfh time ((mbs m b).getD j default)=false):kF time m b (j+1)=kF time m b j:=by
 have h' :j<(mbs m b).length:=by rw[Qbz];exact hj
 exact kF_stay hj h' (by simpa [h']using hg)
theorem gone_go {time:Int} {m b:List Int} {j:Nat} (hj:j<m.length) (hg:Qfh time ((mbs m b).getD j default)=true):decide ((kF time m b j).length<m.length)=true:=by
 have h' :j<(mbs m b).length:=by rw[Qbz];exact hj
 obtain⟨e1,e2⟩:=kF_go hj h' (by simpa [h']using hg);have h1:=Qhb time m b (j+1);rw[e1]at h1;rw[e2];simp at h1 ⊢;omega
theorem Wo.f1 {w W:World} {gen:Int} {vm vb vo:Value} {P:Nat} {x1 x2 x3:Option Addr} {y1 y2 y3:Nat} {l1 l2 l3:List Int} (h:Wo w W gen vm vb vo P x1 x2 x3 y1 y2 y3 l1 l2 l3):At W x1 l1:=by obtain⟨F,hG,_⟩:=h.f;exact hG.at1
theorem Wo.f2 {w W:World} {gen:Int} {vm vb vo:Value} {P:Nat} {x1 x2 x3:Option Addr} {y1 y2 y3:Nat} {l1 l2 l3:List Int} (h:Wo w W gen vm vb vo P x1 x2 x3 y1 y2 y3 l1 l2 l3):At W x2 l2:=by obtain⟨F,hG,_⟩:=h.f;exact hG.at2
theorem Wo.f3 {w W:World} {gen:Int} {vm vb vo:Value} {P:Nat} {x1 x2 x3:Option Addr} {y1 y2 y3:Nat} {l1 l2 l3:List Int} (h:Wo w W gen vm vb vo P x1 x2 x3 y1 y2 y3 l1 l2 l3):At W x3 l3:=by obtain⟨F,hG,_⟩:=h.f;exact hG.at3
theorem Wo.put {w W W' :World} {gen:Int} {vm vb vo:Value} {P:Nat} {x1 x2 x3 a1 a2 a3:Option Addr} {y1 y2 y3 c1 c2 c3:Nat} {l1 l2 l3 m1 m2 m3:List Int} {F:List Nat} (h:Wo w W gen vm vb vo P x1 x2 x3 y1 y2 y3 l1 l2 l3) (g:Below W.heap.size W W') (hG:Gp W' a1 a2 a3 m1 m2 m3 F) (hF:∀x∈F,W.heap.size<=x) (k1:m1.length<=c1/\c1<=9223372036854775807) (k2:m2.length<=c2/\c2<=9223372036854775807):
 Wo w (putG W' P (.int .i64 gen) (.slice a1 m1.length c1) (.slice a2 m2.length c2) (.slice a3 m3.length c3)) gen vm vb vo P a1 a2 a3 c1 c2 c3 m1 m2 m3:=by
 have hPl:=h.p.lt;have hr:=h.i.r.lt;have hs:=h.i.bl.size;exact⟨(h.i.below g).off (Qcy _ _ _ _ _ _) h.hp,blk_putG (h.p.below g h.p.lt) _ _ _ _,⟨F,hG.off (Qcy _ _ _ _ _ _) (fun x hx=>by have:=hF x hx;simp;omega),fun x hx=>by have:=hF x hx;exact⟨by omega,by omega,by omega⟩⟩,h.hp,k1,k2⟩
theorem spTick_any (gen time:Int) (hg:I64 gen) (ht:I64 time) (A B C:Option Addr) (ca cb cc:Nat) (m b o:List Int) (hm:m.length<=1048576) (hb:b.length<=1048576) (ho:o.length<=1048576) (hbi:∀x∈b,I64 x) (w:World) (hA:At w A m) (hB:At w B b) (hC:At w C o):
 Calls Tryz.prog 109 #[.agg (Qah gen A m.length ca B b.length cb C o.length cc),.int .i64 time] w fun e w' =>Qi6 w w' e (Qe6 gen time m b) (Qfm time m b) (Qgo time m b) o:=by
 have HA:=hidP hA;have HB:=hidP hB;have HC:=hidP hC;have Hbi:=hidP hbi;obtain⟨tl,th⟩:=ht;clear hA hB hC hbi;go_enter Tryz.func109,Tryz.ntmps109;go_wp2_with fail;have I0:Wi w ((w.alloc (.cells (Qah gen A m.length ca B b.length cb C o.length cc) 167)).alloc (.cells Qcm 167)) gen (.slice A m.length ca) (.slice B b.length cb) (.slice C o.length cc):=⟨by repeat(first|exact Below.refl _ _|assumption|refine via0 (by assumption) ?_|refine Below.drew ?_|refine Qad ?_ _),(Blk.new w 167 (Qah gen A m.length ca B b.length cb C o.length cc)).alloc _,by have:=Blk.new (w.alloc (.cells (Qah gen A m.length ca B b.length cb C o.length cc) 167)) 167 Qcm;rw[World.size_alloc]at this;exact this⟩
 refine(Qdi gen A B C ca cb cc m b o hm hb ho _ (HA.out.below I0.bl) (HB.out.below I0.bl) (HC.out.below I0.bl)).mono ?_;rintro e w1 ⟨a1,a2,a3,c1,c2,c3,F,rfl,g1,hG,hF,k1,k2⟩;have I1:=I0.below g1;have J1:Wo w (w1.alloc (.cells (Qah gen a1 m.length c1 a2 b.length c2 a3 o.length c3) 167)) gen (.slice A m.length ca) (.slice B b.length cb) (.slice C o.length cc) w1.heap.size a1 a2 a3 c1 c2 c3 m b o:=
  ⟨I1.alloc _,Blk.new w1 167 _,⟨F,hG.alloc _,fun x hx=>by have:=hF x hx;have:=hG.lt x hx;simp at*;omega⟩,I1.r.lt,k1,k2⟩
 obtain⟨g0,gm,gb,go⟩:=J1.i.s4;clear hG hF k1 k2 g1 I0 I1;go_wp2_with fail;generalize w1.alloc (.cells (Qah gen a1 m.length c1 a2 b.length c2 a3 o.length c3) 167)=W1 at*;generalize w1.heap.size=P at*;have HJ1:=hidP J1;clear J1;go_wp2
 go_loopw [6,7] (fun gone i W=>∃(n n1 n2:Nat) (x1 x2 x3:Option Addr) (y1 y2 y3:Nat),i= .int .i64 ((n:Int) - 1)/\gone= .bool (decide ((kF time m b n).length<m.length))/\n<=m.length/\Hid (n1=((kF time m b n).map Mb.who).length)/\Hid (n2=(Qc0 (kF time m b n)++Qdx m b).length)/\
  Hid (Wo w W gen (.slice A m.length ca) (.slice B b.length cb) (.slice C o.length cc) P x1 x2 x3 y1 y2 y3 ((kF time m b n).map Mb.who) (Qc0 (kF time m b n)++Qdx m b) o)) (fun _ i _=>(intOf i+1).toNat)
 case atStart=>
  refine⟨m.length,m.length,b.length,a1,a2,a3,c1,c2,c3,by simp,by rw[kF_all,Qbz];simp,Nat.le_refl _,by show _=_;rw[kF_all,mbs_who],by show _=_;rw[kF_all,Qg7],?_⟩;show Wo _ _ _ _ _ _ _ _ _ _ _ _ _ _ _ _;rw[kF_all,mbs_who,Qg7];exact HJ1.out
 case round=>
  obtain⟨n,n1,n2,x1,x2,x3,y1,y2,y3,rfl,hgone,hn,hN1,hN2,HJ⟩:=hrel;clear HJ1 g0 gm gb go;obtain⟨g0,gm,gb,go⟩:=HJ.out.i.s4;have V:=HJ.out.p;rw[← hN1.out,← hN2.out]at V;obtain⟨t0,t1,t2,t3⟩:=V.row4;clear V;have hBl:=HJ.out.i.bl;rcases Nat.eq_zero_or_pos n with hn0|hn0
  . subst hn0;rw[Qlk]at hgone;have hgd0:∃c,decide ((Qdt time (mbs m b)).length<m.length)=c:=⟨_,rfl⟩
    obtain⟨gd,hgd0⟩:=hgd0;rw[hgd0]at hgone;have hgd:=hidP hgd0;subst hgone;clear hgd0 t0 t1 t2 t3 g0 gm gb go;have V:=HJ.out.p;have I:=HJ.out.i;rw[← hN1.out,← hN2.out]at V;obtain⟨t0,t1,t2,t3⟩:=V.row4;have y0:=V.thaw 0;obtain⟨g0,_,_,_⟩:=I.s4;obtain⟨r0,r1,r2,r3⟩:=I.r.row4;have f0:=I.r.thaw 0;have f1:=I.r.thaw 1;have f2:=I.r.thaw 2;have f3:=I.r.thaw 3;have hPP:=HJ.out.hp;have hne1:P≠w.heap.size+1:=(by omega);have hne2:w.heap.size+1≠P:=(by omega);have hne3:w.heap.size≠P:=(by omega);have HI:=hidP I;have HV:=hidP V;clear I V;cases gd
    . have HR:=HI.out.r;go_wp2;have kk0:Blk (wr.setCell ⟨w.heap.size+1,0,none⟩ (.int .i64 gen)) (w.heap.size+1) 167 (Qah gen none 0 0 none 0 0 none 0 0):=HR.setAt 0 _;have s0:(wr.setCell ⟨w.heap.size+1,0,none⟩ (.int .i64 gen)).cell? ⟨w.heap.size+1,0,none⟩=some (.int .i64 gen):=kk0.row4.1;have kk1:Blk ((wr.setCell ⟨w.heap.size+1,0,none⟩ (.int .i64 gen)).setCell ⟨w.heap.size+1,1,none⟩ (.slice x1 n1 y1)) (w.heap.size+1) 167 (Qah gen x1 n1 y1 none 0 0 none 0 0):=kk0.setAt 1 _;have s1:((wr.setCell ⟨w.heap.size+1,0,none⟩ (.int .i64 gen)).setCell ⟨w.heap.size+1,1,none⟩ (.slice x1 n1 y1)).cell? ⟨w.heap.size+1,1,none⟩=some (.slice x1 n1 y1):=kk1.row4.2.1;have kk2:Blk (((wr.setCell ⟨w.heap.size+1,0,none⟩ (.int .i64 gen)).setCell ⟨w.heap.size+1,1,none⟩ (.slice x1 n1 y1)).setCell ⟨w.heap.size+1,2,none⟩ (.slice x2 n2 y2)) (w.heap.size+1) 167 (Qah gen x1 n1 y1 x2 n2 y2 none 0 0):=kk1.setAt 2 _;have s2:(((wr.setCell ⟨w.heap.size+1,0,none⟩ (.int .i64 gen)).setCell ⟨w.heap.size+1,1,none⟩ (.slice x1 n1 y1)).setCell ⟨w.heap.size+1,2,none⟩ (.slice x2 n2 y2)).cell? ⟨w.heap.size+1,2,none⟩=some (.slice x2 n2 y2):=kk2.row4.2.2.1;have kk3:Blk ((((wr.setCell ⟨w.heap.size+1,0,none⟩ (.int .i64 gen)).setCell ⟨w.heap.size+1,1,none⟩ (.slice x1 n1 y1)).setCell ⟨w.heap.size+1,2,none⟩ (.slice x2 n2 y2)).setCell ⟨w.heap.size+1,3,none⟩ (.slice x3 o.length y3)) (w.heap.size+1) 167 (Qah gen x1 n1 y1 x2 n2 y2 x3 o.length y3):=kk2.setAt 3 _;have s3:((((wr.setCell ⟨w.heap.size+1,0,none⟩ (.int .i64 gen)).setCell ⟨w.heap.size+1,1,none⟩ (.slice x1 n1 y1)).setCell ⟨w.heap.size+1,2,none⟩ (.slice x2 n2 y2)).setCell ⟨w.heap.size+1,3,none⟩ (.slice x3 o.length y3)).cell? ⟨w.heap.size+1,3,none⟩=some (.slice x3 o.length y3):=kk3.row4.2.2.2
      refine bodyPost_ret (v:= .agg (Qah gen x1 n1 y1 x2 n2 y2 x3 o.length y3)) (by simp[results,Tryz.results109,go_sem,s0,s1,s2,s3]) rfl ?_;have hto:=HJ.out.told;rw[← hN1.out,← hN2.out]at hto;rw[Qlk]at hto;have hG:Qe6 gen time m b=gen:=(by unfold Qe6;rw[hgd.out];rfl);rw[hG];exact hto.g
    . go_wp2_with (go_at_call 114;refine(Qgg gen hg _).mono ?_;rintro e w9 ⟨rfl,h9⟩;subst w9);have k1:Off [P] wr (wr.setCell ⟨P,0,none⟩ (.int .i64 (upF gen))):=Qb2 (Off.refl _ _) P 0 _ (by simp);have J:=HI.out.off k1 hPP;have HR:=J.r;have kk0:Blk ((wr.setCell ⟨P,0,none⟩ (.int .i64 (upF gen))).setCell ⟨w.heap.size+1,0,none⟩ (.int .i64 (upF gen))) (w.heap.size+1) 167 (Qah (upF gen) none 0 0 none 0 0 none 0 0):=HR.setAt 0 _;have s0:((wr.setCell ⟨P,0,none⟩ (.int .i64 (upF gen))).setCell ⟨w.heap.size+1,0,none⟩ (.int .i64 (upF gen))).cell? ⟨w.heap.size+1,0,none⟩=some (.int .i64 (upF gen)):=kk0.row4.1;have kk1:Blk (((wr.setCell ⟨P,0,none⟩ (.int .i64 (upF gen))).setCell ⟨w.heap.size+1,0,none⟩ (.int .i64 (upF gen))).setCell ⟨w.heap.size+1,1,none⟩ (.slice x1 n1 y1)) (w.heap.size+1) 167 (Qah (upF gen) x1 n1 y1 none 0 0 none 0 0):=kk0.setAt 1 _;have s1:(((wr.setCell ⟨P,0,none⟩ (.int .i64 (upF gen))).setCell ⟨w.heap.size+1,0,none⟩ (.int .i64 (upF gen))).setCell ⟨w.heap.size+1,1,none⟩ (.slice x1 n1 y1)).cell? ⟨w.heap.size+1,1,none⟩=some (.slice x1 n1 y1):=kk1.row4.2.1;have kk2:Blk ((((wr.setCell ⟨P,0,none⟩ (.int .i64 (upF gen))).setCell ⟨w.heap.size+1,0,none⟩ (.int .i64 (upF gen))).setCell ⟨w.heap.size+1,1,none⟩ (.slice x1 n1 y1)).setCell ⟨w.heap.size+1,2,none⟩ (.slice x2 n2 y2)) (w.heap.size+1) 167 (Qah (upF gen) x1 n1 y1 x2 n2 y2 none 0 0):=kk1.setAt 2 _;have s2:((((wr.setCell ⟨P,0,none⟩ (.int .i64 (upF gen))).setCell ⟨w.heap.size+1,0,none⟩ (.int .i64 (upF gen))).setCell ⟨w.heap.size+1,1,none⟩ (.slice x1 n1 y1)).setCell ⟨w.heap.size+1,2,none⟩ (.slice x2 n2 y2)).cell? ⟨w.heap.size+1,2,none⟩=some (.slice x2 n2 y2):=kk2.row4.2.2.1
      have kk3:Blk (((((wr.setCell ⟨P,0,none⟩ (.int .i64 (upF gen))).setCell ⟨w.heap.size+1,0,none⟩ (.int .i64 (upF gen))).setCell ⟨w.heap.size+1,1,none⟩ (.slice x1 n1 y1)).setCell ⟨w.heap.size+1,2,none⟩ (.slice x2 n2 y2)).setCell ⟨w.heap.size+1,3,none⟩ (.slice x3 o.length y3)) (w.heap.size+1) 167 (Qah (upF gen) x1 n1 y1 x2 n2 y2 x3 o.length y3):=kk2.setAt 3 _;have s3:(((((wr.setCell ⟨P,0,none⟩ (.int .i64 (upF gen))).setCell ⟨w.heap.size+1,0,none⟩ (.int .i64 (upF gen))).setCell ⟨w.heap.size+1,1,none⟩ (.slice x1 n1 y1)).setCell ⟨w.heap.size+1,2,none⟩ (.slice x2 n2 y2)).setCell ⟨w.heap.size+1,3,none⟩ (.slice x3 o.length y3)).cell? ⟨w.heap.size+1,3,none⟩=some (.slice x3 o.length y3):=kk3.row4.2.2.2;refine bodyPost_ret (v:= .agg (Qah (upF gen) x1 n1 y1 x2 n2 y2 x3 o.length y3)) (by simp[results,Tryz.results109,go_sem,s0,s1,s2,s3]) rfl ?_;obtain⟨F,hGp,hF⟩:=HJ.out.f;have e1:=hN1.out;have e2:=hN2.out;rw[Qlk]at hGp e1 e2;have hG:Qe6 gen time m b=upF gen:=(by unfold Qe6;rw[hgd.out];rfl);rw[hG];refine⟨x1,x2,x3,y1,y2,y3,F,by rw[e1,e2];rfl,J.bl.trans ((Qcy _ (w.heap.size+1) _ _ _ _).toBelow (by simp) J.bl.size),(hGp.off k1 (fun x hx=>by simpa using (hF x hx).2.1)).off (Qcy _ (w.heap.size+1) _ _ _ _) (fun x hx=>by simpa using (hF x hx).2.2),fun x hx=>(hF x hx).1⟩
  . obtain⟨j,rfl⟩:∃j,n=j+1:=⟨n - 1,by omega⟩
    have hjl:j<m.length:=(by omega);have hij:(((j+1:Nat):Int) - 1)=(j:Int):=(by omega);rw[hij];by_cases hjb:j<b.length
    . have hib:(j:Int)<(b.length:Int):=(by omega);obtain⟨bB,oB,rfl,hbs,hin⟩:∃b' o',B=some ⟨b',o',none⟩/\b' <w.heap.size/\In w b' o' b:=by
       rcases HB.out with h|h
       . subst h;simp at hjb
       . exact h
      have cB:=(hin.below hbs hBl).getInt j hjb;obtain⟨bl,bh⟩:=Hbi.out b[j] (List.getElem_mem hjb);have hgd:b.getD j 0=b[j]:=(by simp[hjb]);by_cases h1:time>b[j]
      . by_cases h2:wrap64 (time - b[j])>50
        . have hgo:Qfh time ((mbs m b).getD j default)=true:=(by rw[Qhe hjl];have h2' :=h2;unfold wrap64 at h2';simp[hjb,hgd,oldF];omega);have Hgo:=hidP hgo;clear hgo;go_wp2_with fail;have hW:=HJ.out;have hcl:=Qd3 gen x1 x2 x3 y1 y2 y3 ((kF time m b (j+1)).map Mb.who) (Qc0 (kF time m b (j+1))++Qdx m b) o (by have:=Qhb time m b (j+1);simp;omega) (by have:=kB_le' time m b (j+1);omega) ho hW.k1 hW.k2 j (by have:=Qj8 time m b (j+1) (by omega);simp;omega) wr hW.f1 hW.f2 hW.f3;rw[← hN1.out,← hN2.out,kM_go hjl Hgo.out,kB_go hjl Hgo.out]at hcl;refine hcl.mono ?_;rintro e w4 ⟨a1,a2,a3,c1,c2,c3,F,rfl,g4,hG,hF,k1,k2⟩;have J4:=hW.put (c3:=c3) g4 hG hF k1 k2;have V4:=hW.p.below g4 hW.p.lt;rw[← hN1.out,← hN2.out]at V4;obtain⟨v0,v1,v2,v3⟩:=V4.row4;have f0:=V4.thaw 0;have f1:=V4.thaw 1;have f2:=V4.thaw 2;have f3:=V4.thaw 3;obtain⟨q1,hq1⟩:∃k,k=((kF time m b j).map Mb.who).length:=⟨_,rfl⟩
          obtain⟨q2,hq2⟩:∃k,k=(Qc0 (kF time m b j)++Qdx m b).length:=⟨_,rfl⟩
          rw[← hq1,← hq2]at J4 ⊢;have Hq1:=hidP hq1;have Hq2:=hidP hq2;dsimp only[putG]at J4;have HK:=hidP J4;clear hq1 hq2 hcl J4 V4 hG hF g4 k1 k2 hW;go_wp2;exact⟨⟨j,q1,q2,a1,a2,a3,c1,c2,c3,by simp,by rw[gone_go hjl Hgo.out],by omega,Hq1,Hq2,HK⟩,by(simp[intOf])<;>omega⟩
        . by_cases h3:wrap64 (time - b[j])<0
          . have hgo:Qfh time ((mbs m b).getD j default)=true:=(by rw[Qhe hjl];have h3' :=h3;unfold wrap64 at h3';simp[hjb,hgd,oldF];omega);have Hgo:=hidP hgo;clear hgo;go_wp2_with fail;have hW:=HJ.out;have hcl:=Qd3 gen x1 x2 x3 y1 y2 y3 ((kF time m b (j+1)).map Mb.who) (Qc0 (kF time m b (j+1))++Qdx m b) o (by have:=Qhb time m b (j+1);simp;omega) (by have:=kB_le' time m b (j+1);omega) ho hW.k1 hW.k2 j (by have:=Qj8 time m b (j+1) (by omega);simp;omega) wr hW.f1 hW.f2 hW.f3;rw[← hN1.out,← hN2.out,kM_go hjl Hgo.out,kB_go hjl Hgo.out]at hcl;refine hcl.mono ?_;rintro e w4 ⟨a1,a2,a3,c1,c2,c3,F,rfl,g4,hG,hF,k1,k2⟩;have J4:=hW.put (c3:=c3) g4 hG hF k1 k2;have V4:=hW.p.below g4 hW.p.lt;rw[← hN1.out,← hN2.out]at V4;obtain⟨v0,v1,v2,v3⟩:=V4.row4;have f0:=V4.thaw 0;have f1:=V4.thaw 1;have f2:=V4.thaw 2;have f3:=V4.thaw 3;obtain⟨q1,hq1⟩:∃k,k=((kF time m b j).map Mb.who).length:=⟨_,rfl⟩
            obtain⟨q2,hq2⟩:∃k,k=(Qc0 (kF time m b j)++Qdx m b).length:=⟨_,rfl⟩
            rw[← hq1,← hq2]at J4 ⊢;have Hq1:=hidP hq1;have Hq2:=hidP hq2;dsimp only[putG]at J4;have HK:=hidP J4;clear hq1 hq2 hcl J4 V4 hG hF g4 k1 k2 hW;go_wp2;exact⟨⟨j,q1,q2,a1,a2,a3,c1,c2,c3,by simp,by rw[gone_go hjl Hgo.out],by omega,Hq1,Hq2,HK⟩,by(simp[intOf])<;>omega⟩
          . have hst:=Qis (time:=time) (m:=m) (b:=b) hjl (by rw[Qhe hjl];have h3' :=h3;have h2' :=h2;unfold wrap64 at h3' h2';simp[hjb,hgd,oldF];omega);rw[hst]at hN1 hN2 HJ hgone;clear hst;go_wp2;exact⟨⟨j,n1,n2,x1,x2,x3,y1,y2,y3,by simp,hgone,by omega,hN1,hN2,HJ⟩,by(simp[intOf])<;>omega⟩
      . have hst:=Qis (time:=time) (m:=m) (b:=b) hjl (by rw[Qhe hjl];simp[hjb,hgd,oldF];omega);rw[hst]at hN1 hN2 HJ hgone;clear hst;go_wp2;exact⟨⟨j,n1,n2,x1,x2,x3,y1,y2,y3,by simp,hgone,by omega,hN1,hN2,HJ⟩,by(simp[intOf])<;>omega⟩
    . have hib:¬(j:Int)<(b.length:Int):=(by omega);have hst:=Qis (time:=time) (m:=m) (b:=b) hjl (by rw[Qhe hjl];simp[hjb]);rw[hst]at hN1 hN2 HJ hgone;clear hst;go_wp2;exact⟨⟨j,n1,n2,x1,x2,x3,y1,y2,y3,by simp,hgone,by omega,hN1,hN2,HJ⟩,by(simp[intOf])<;>omega⟩
end Go.Proofs.YtajbldnhjpjghaaGreatDoor.Gen
