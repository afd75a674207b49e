/-
  The specification's group without a member, at this seat. No condition but that its lists have at most 1048576 numbers.
-/
import Derived.Test.YtajbldnhjpjghaaGreatGpList
import Derived.Deep.WholeRow
set_option linter.unusedVariables false
set_option linter.unusedSimpArgs false
set_option maxRecDepth 100000
set_option maxHeartbeats 8000000
set_option maxRecDepth 100000
set_option maxHeartbeats 8000000
namespace Go.Proofs.YtajbldnhjpjghaaGreat.Gen
open ChangeShapes WideShapes ChangeAt RowKit Joins Deep Base
structure Wo (w W:World) (gen:Int) (vm vb vo:Value) (P:Nat) (x1 x2 x3:Option Addr) (y1 y2 y3:Nat) (l1 l2 l3:List Int):Prop where
  i:Wi w W gen vm vb vo
  p:Blk W P 143 (Qak gen x1 l1.length y1 x2 l2.length y2 x3 l3.length y3)
  f:∃F,Gp W x1 x2 x3 l1 l2 l3 F/\∀x∈F,w.heap.size<=x/\x≠P/\x≠w.heap.size+1
  hp:w.heap.size+1<P
  k1:l1.length<=y1/\y1<=9223372036854775807
  k2:l2.length<=y2/\y2<=9223372036854775807
section
variable {w W W3:World} {gen:Int} {vm vb vo:Value} {P:Nat} {x1 x2 x3:Option Addr} {y1 y2 y3:Nat} {l1 l2 l3:List Int}
theorem Wo.rep1 (h:Wo w W gen vm vb vo P x1 x2 x3 y1 y2 y3 l1 l2 l3) (hb:Below W.heap.size W W3) {a:Option Addr} {n c:Nat} {l:List Int} (ho:W3.ownsRow W.heap.size 3 1 (.slice a n c) n (flat l)) (hn:n=l.length):
 Wo w (W3.setCell ⟨P,1,none⟩ (.slice a l.length c)) gen vm vb vo P a x2 x3 c y2 y3 l l2 l3:=by
 subst hn;obtain⟨F,⟨F1,F2,F3,rfl,s1,s2,s3,hnd⟩,hF⟩:=h.f;obtain⟨_,G,sG,kG⟩:=Sl.of_fresh (Qcy (α:=Int) rfl ho);have k:Off [P] W3 (W3.setCell ⟨P,1,none⟩ (.slice a l.length c)):=Qb4 (Off.refl _ _) P 1 _ (by simp);have hPl:=h.p.lt;have hs:=h.i.bl.size;have hr:=h.i.r.lt;refine⟨(h.i.below hb).off k h.hp,(h.p.below hb h.p.lt).setAt 1 _,⟨G++(F2++F3),⟨G,F2,F3,rfl,sG.off k (fun x hx=>by have:=kG x hx;simp;omega),(s2.below hb).off k (fun x hx=>by simpa using (hF x (by simp[hx])).2.1),(s3.below hb).off k (fun x hx=>by simpa using (hF x (by simp[hx])).2.1),?_⟩,?_⟩,h.hp,Qf9 ho,h.k2⟩
 . rw[List.nodup_append]at hnd ⊢;refine⟨sG.nodup,hnd.2.1,fun x hx y hy e=> ?_⟩;have:=kG x hx;rcases List.mem_append.1 hy with hy|hy
   . have:=s2.lt y hy;omega
   . have:=s3.lt y hy;omega
 . intro x hx;rcases List.mem_append.1 hx with e|e
   . have:=kG x e;exact⟨by omega,by omega,by omega⟩
   . exact hF x (List.mem_append_right _ e)
theorem Wo.rep2 (h:Wo w W gen vm vb vo P x1 x2 x3 y1 y2 y3 l1 l2 l3) (hb:Below W.heap.size W W3) {a:Option Addr} {n c:Nat} {l:List Int} (ho:W3.ownsRow W.heap.size 3 1 (.slice a n c) n (flat l)) (hn:n=l.length):
 Wo w (W3.setCell ⟨P,2,none⟩ (.slice a l.length c)) gen vm vb vo P x1 a x3 y1 c y3 l1 l l3:=by
 subst hn;obtain⟨F,⟨F1,F2,F3,rfl,s1,s2,s3,hnd⟩,hF⟩:=h.f;obtain⟨_,G,sG,kG⟩:=Sl.of_fresh (Qcy (α:=Int) rfl ho);have k:Off [P] W3 (W3.setCell ⟨P,2,none⟩ (.slice a l.length c)):=Qb4 (Off.refl _ _) P 2 _ (by simp);have hPl:=h.p.lt;have hs:=h.i.bl.size;have hr:=h.i.r.lt;refine⟨(h.i.below hb).off k h.hp,(h.p.below hb h.p.lt).setAt 2 _,⟨F1++(G++F3),⟨F1,G,F3,rfl,(s1.below hb).off k (fun x hx=>by simpa using (hF x (by simp[hx])).2.1),sG.off k (fun x hx=>by have:=kG x hx;simp;omega),(s3.below hb).off k (fun x hx=>by simpa using (hF x (by simp[hx])).2.1),?_⟩,?_⟩,h.hp,h.k1,Qf9 ho⟩
 . rw[List.nodup_append,List.nodup_append]at hnd ⊢;obtain⟨n1,⟨n2,n3,d23⟩,d1⟩:=hnd;refine⟨n1,⟨sG.nodup,n3,fun x hx y hy e=> ?_⟩,fun x hx y hy e=> ?_⟩
   . have:=kG x hx;have:=s3.lt y hy;omega
   . rcases List.mem_append.1 hy with hy|hy
     . have:=kG y hy;have:=s1.lt x hx;omega
     . exact d1 x hx y (List.mem_append_right _ hy) e
 . intro x hx;simp only[List.mem_append]at hx;rcases hx with e|e|e
   . exact hF x (by simp[e])
   . have:=kG x e;exact⟨by omega,by omega,by omega⟩
   . exact hF x (by simp[e])
theorem Wo.told (h:Wo w W gen vm vb vo P x1 x2 x3 y1 y2 y3 l1 l2 l3):
 ToldC w (putG W (w.heap.size+1) (.int .i64 gen) (.slice x1 l1.length y1) (.slice x2 l2.length y2) (.slice x3 l3.length y3)) (.returned (.agg (Qak gen x1 l1.length y1 x2 l2.length y2 x3 l3.length y3))) gen l1 l2 l3:=by
 obtain⟨F,hG,hF⟩:=h.f;exact⟨x1,x2,x3,y1,y2,y3,F,rfl,h.i.bl.trans ((Qc3 W (w.heap.size+1) _ _ _ _).toBelow (by simp) h.i.bl.size),hG.off (Qc3 W (w.heap.size+1) _ _ _ _) (fun x hx=>by simpa using (hF x hx).2.2),fun x hx=>(hF x hx).1,h.k1,h.k2⟩
theorem Wo.drew (h:Wo w W gen vm vb vo P x1 x2 x3 y1 y2 y3 l1 l2 l3):Wo w W.drew gen vm vb vo P x1 x2 x3 y1 y2 y3 l1 l2 l3:=by
 obtain⟨F,hG,hF⟩:=h.f;exact⟨h.i.below (Below.drew (Below.refl _ _)),h.p.below (Below.drew (Below.refl _ _)) h.p.lt,⟨F,hG.below (Below.drew (Below.refl _ _)),hF⟩,h.hp,h.k1,h.k2⟩
end
theorem Qlf (W:World) (A D:Option Addr) (c d:Nat) (l1 l2:List Int) (h1:l1.length<=1048576) (h2:l2.length<=1048576) (hA:At W A l1) (hD:At W D l2):
 ∃x y w2 x' y' w3,(Builtin.append_ #[63,63] 63 (l1SS (some ⟨W.heap.size,0,none⟩) 0 0 A l1.length c)).run Tryz.prog (W.alloc (.cells #[] 3))= .ok (.slice x l1.length y) w2/\(Builtin.append_ #[63,63] 63 (l1SS x l1.length y D l2.length d)).run Tryz.prog w2= .ok (.slice x' (l1++l2).length y') w3/\
  Below W.heap.size W w2/\Below W.heap.size W w3/\w3.ownsRow W.heap.size 3 1 (.slice x' (l1++l2).length y') (l1++l2).length (flat (l1++l2)):=by
 have b0:Below W.heap.size W (W.alloc (.cells #[] 3)):=Qad (Below.refl _ _) _;have o0:(W.alloc (.cells #[] 3)).ownsRow W.heap.size 3 1 (.slice (some ⟨W.heap.size,0,none⟩) 0 0) ([]:List Int).length (flat ([]:List Int)):=World.ownsRow_made W #[] 0 (Nat.le_refl _) (by simp[maxLen]) rfl;obtain⟨v,w2,hr,ho,hg,hat⟩:=Qbj (P:=Tryz.prog) Tryz.underlying63 Qec rfl (by decide) (by decide) W.heap.size _ ([]:List Int) l1 A c _ b0.size o0 (hA.below b0) (by simp;omega);simp only[List.length_nil,Nat.zero_add,List.nil_append]at ho;obtain⟨x,y,rfl,_⟩:=Qao ho;have b2:Below W.heap.size W w2:=b0.grown hg b0.size (fun k e=>(o0.lt k e).1);obtain⟨v,w3,hr3,ho3,hg3,_⟩:=Qbj (P:=Tryz.prog) Tryz.underlying63 Qec rfl (by decide) (by decide) W.heap.size _ l1 l2 D d w2 b2.size ho (hD.below b2) (by omega);have b3:Below W.heap.size W w3:=b2.grown hg3 b2.size (fun k e=>(ho.lt k e).1);rw[← List.length_append]at ho3;obtain⟨x',y',rfl,_⟩:=Qao ho3;exact⟨x,y,w2,x',y',w3,hr,hr3,b2,b3,ho3⟩
theorem Qfx {w:World} {A:Option Addr} {l:List Int} (h:At w A l) (n:Nat):At w A (l.take n):=by
 rcases h with rfl|⟨b,o,rfl,hb,hi⟩
 . exact .inl (by simp)
 . refine .inr ⟨b,o,rfl,hb,fun j v hv=>hi j v ?_⟩;have hl:=List.take_append_drop n l;rw[← hl,Qdd];have hj:=(List.getElem?_eq_some_iff.1 hv).1;rw[List.getElem?_append_left hj];exact hv
theorem Qpm {w:World} {b o c n:Nat} {l:List Int} (hb:b<w.heap.size) (hi:In w b o l) (hc:l.length<=c):At w (if c=n then some ⟨b,o,none⟩else some ⟨b,o+n,none⟩) (l.drop n):=by
 by_cases e:c=n
 . exact .inl (List.drop_eq_nil_of_le (by omega))
 . rw[if_neg e];have h2:=In.drop n hi;have e1:o+n*Cel.k Int=o+n:=(by show o+n*1=_;omega);rw[e1]at h2;exact .inr ⟨b,o+n,rfl,hb,h2⟩
theorem Qgf (l:List Int) (n:Nat):l.take n++l.drop (n+1)=l.eraseIdx n:=(List.eraseIdx_eq_take_drop_succ l n).symm
theorem Qeb (gen:Int) (A B C:Option Addr) (ca cb cc:Nat) (m b o:List Int) (hm:m.length<=1048576) (hb:b.length<=1048576) (ho:o.length<=1048576) (hca:m.length<=ca/\ca<=9223372036854775807) (hcb:b.length<=cb/\cb<=9223372036854775807) (i:Nat) (hi:i<m.length) (w:World) (hA:At w A m) (hB:At w B b) (hC:At w C o):
 Calls Tryz.prog 113 #[.agg (Qak gen A m.length ca B b.length cb C o.length cc),.int .i64 (i:Int)] w fun e w' =>ToldC w w' e gen (m.eraseIdx i) (b.eraseIdx i) o:=by
 have HA:=hidP hA;have HB:=hidP hB;have HC:=hidP hC;obtain⟨ca1,ca2⟩:=hca;obtain⟨cb1,cb2⟩:=hcb;clear hA hB hC;go_enter Tryz.func113,Tryz.ntmps113;go_wp2_with fail;have I0:Wi w ((w.alloc (.cells (Qak gen A m.length ca B b.length cb C o.length cc) 143)).alloc (.cells Qcu 143)) gen (.slice A m.length ca) (.slice B b.length cb) (.slice C o.length cc):=⟨by repeat(first|exact Below.refl _ _|assumption|refine via0 (by assumption) ?_|refine Below.drew ?_|refine Qad ?_ _),(Blk.new w 143 (Qak gen A m.length ca B b.length cb C o.length cc)).alloc _,by have:=Blk.new (w.alloc (.cells (Qak gen A m.length ca B b.length cb C o.length cc) 143)) 143 Qcu;rw[World.size_alloc]at this;exact this⟩
 refine(Qdp gen A B C ca cb cc m b o hm hb ho _ (HA.out.below I0.bl) (HB.out.below I0.bl) (HC.out.below I0.bl)).mono ?_;rintro e w1 ⟨a1,a2,a3,c1,c2,c3,F,rfl,g1,hG,hF,k1,k2⟩;have I1:=I0.below g1;have J1:Wo w (w1.alloc (.cells (Qak gen a1 m.length c1 a2 b.length c2 a3 o.length c3) 143)) gen (.slice A m.length ca) (.slice B b.length cb) (.slice C o.length cc) w1.heap.size a1 a2 a3 c1 c2 c3 m b o:=
  ⟨I1.alloc _,Blk.new w1 143 _,⟨F,hG.alloc _,fun x hx=>by have:=hF x hx;have:=hG.lt x hx;simp at*;omega⟩,I1.r.lt,k1,k2⟩
 have hlt1:i<m.length:=hi;obtain⟨i1,hx1⟩:∃k,k=i+1:=⟨_,rfl⟩
 have hwr:IntKind.i64.wrap ((i:Int)+1)=(i1:Int):=by rw[IntKind.wrap_i64];omega
 go_wp2_with fail;generalize w1.alloc (.cells (Qak gen a1 m.length c1 a2 b.length c2 a3 o.length c3) 143)=W1 at*;generalize w1.heap.size=P at*;obtain⟨bA1,oA1,rfl,hbs1,hin1⟩:∃b' o',A=some ⟨b',o',none⟩/\b' <w.heap.size/\In w b' o' m:=by
  rcases HA.out with h|h
  . subst h;simp at hlt1
  . exact h
 have hBl1:=J1.drew.i.bl;have hT1:=Qfx (HA.out.below hBl1) i;have hD1:=Qpm (n:=i1) (c:=ca) (Nat.lt_of_lt_of_le hbs1 hBl1.size) (hin1.below hbs1 hBl1) (by omega);obtain⟨x1,y1,wa1,x'1,y'1,wb1,hra1,hrb1,ba1,bb1,ob1⟩:=Qlf W1.drew _ _ ca (ca - i1) (m.take i) (m.drop i1) (by simp;omega) (by simp;omega) hT1 hD1;rw[hx1,Qgf]at ob1;have hee:(m.take i++m.drop i1)=m.eraseIdx i:=by rw[hx1,Qgf]
 rw[hee]at hrb1;have e11:(m.take i).length=i:=by simp;omega
 have e21:(m.drop i1).length=m.length - i1:=List.length_drop;rw[e11]at hra1 hrb1;rw[e21]at hrb1;obtain⟨n1,hn1⟩:∃k,k=(m.eraseIdx i).length:=⟨_,rfl⟩
 rw[← hn1]at hrb1 ob1;have K1:=J1.drew.rep1 bb1 ob1 hn1;rw[← hn1]at K1;have V1:=J1.drew.p.below bb1 J1.drew.p.lt;obtain⟨t0,t1,t2,t3⟩:=V1.row4;have th:=V1.thaw 1;have S0:=J1.drew.i.s4.2.1;have Sa:=(J1.i.alloc (.cells #[] 3)).s4.2.1;have Sb:=(J1.drew.i.below ba1).s4.2.1;have Sc:=(J1.drew.i.below bb1).s4.2.1;have Sd:=K1.i.s4.2.1;have hi1:((i1:Nat):Int)<=(ca:Int):=by omega
 have hi2:((i1:Nat):Int)<=(m.length:Int):=by omega
 have hi3:((i:Nat):Int)<=(ca:Int):=by omega
 have hi4:(m.length:Int)<=(ca:Int):=by omega
 have Hx:=hidP hx1;clear hee;have Hlt:=hidP hlt1;have HK1:=hidP K1;have Hn1:=hidP hn1;clear hn1;have HJ1:=hidP J1;clear K1 hT1 hD1 ob1 V1;obtain⟨PA,hPA⟩:∃p:Option Addr,(if ca=i1 then some (⟨bA1,oA1,none⟩:Addr)else some ⟨bA1,oA1+i1,none⟩)=p:=⟨_,rfl⟩
 have hcut:∀W:World,(Instr.slice 63 (.slice (some ⟨bA1,oA1,none⟩) m.length ca) (some (.int .i64 (i1:Int))) none none).run Tryz.prog W= .ok (.slice PA (m.length - i1) (ca - i1)) W:=fun W=>by
  clear hra1 hrb1 hx1 hwr;rw[← hPA];by_cases hcj:ca=i1
  . rw[if_pos hcj];go_simp
  . rw[if_neg hcj];go_simp
 rw[hPA]at hrb1;clear hx1;refine wp_region_noPanic ?_;refine wp_region_held_drew (S:=fun(w' :World)=>w'.cell? ⟨w.heap.size,1,none⟩=some (.slice (some ⟨bA1,oA1,none⟩) m.length ca)) (by kernel_rfl) ?_ (fun hH=> ?_)
 . exact S0
 refine ztk [1,2,3,4,6,7,8,9,10] ?_;repeat(refine ztn (h:= ?_);try simp only[zX,zY])
 refine zte ?_;refine zR1 0 (fun K hK=> ?_);simp only[zG];go_simp;refine hK.out _ _ Sa fun hH=> ?_;clear hK K;try simp only[zX,zY]
 refine zR1 5 (fun K hK=> ?_);simp only[zG];rw[if_pos (by rfl)];refine Qai _ _ _ (by rfl) _ _ _ (by rfl) (by rfl) hra1 ?_;refine hK.out _ _ Sb fun hH=> ?_;clear hK K;try simp only[zX,zY]
 refine zR1 11 (fun K hK=> ?_);simp only[zG];rw[if_pos (by rfl)];refine Qai _ _ _ (by rfl) _ _ _ (by rfl) (by rfl) hrb1 ?_;refine hK.out _ _ Sc fun hH=> ?_;clear hK K;try simp only[zX,zY]
 refine zt1 12 ?_;refine ztn (h:= ?_);try simp only[zX,zY]
 refine zte ?_;refine zR1 13 (fun K hK=> ?_);simp only[zG];go_simp;refine hK.out _ _ Sd fun hH=> ?_;clear hK K;try simp only[zX,zY]
 refine zdn ?_;clear S0 Sa Sb Sc Sd t0 t1 t2 t3 th hi1 hi2 hi3 hi4 hcut hPA hra1 hrb1 hin1;have hx1:=Hx.out;clear Hx Hlt;generalize wb1.setCell ⟨P,1,none⟩ (.slice x'1 n1 y'1)=W1' at*;have J2:=HK1.out;obtain⟨g0,g1,g2,g3⟩:=J2.i.s4;by_cases hlt2:i<b.length
 . have hib:(i:Int)<(b.length:Int):=(by omega);go_wp2_with fail;obtain⟨bA2,oA2,rfl,hbs2,hin2⟩:∃b' o',B=some ⟨b',o',none⟩/\b' <w.heap.size/\In w b' o' b:=by
    rcases HB.out with h|h
    . subst h;simp at hlt2
    . exact h
   have hBl2:=J2.drew.i.bl;have hT2:=Qfx (HB.out.below hBl2) i;have hD2:=Qpm (n:=i1) (c:=cb) (Nat.lt_of_lt_of_le hbs2 hBl2.size) (hin2.below hbs2 hBl2) (by omega);obtain⟨x2,y2,wa2,x'2,y'2,wb2,hra2,hrb2,ba2,bb2,ob2⟩:=Qlf W1'.drew _ _ cb (cb - i1) (b.take i) (b.drop i1) (by simp;omega) (by simp;omega) hT2 hD2;rw[hx1,Qgf]at ob2;have hee:(b.take i++b.drop i1)=b.eraseIdx i:=(by rw[hx1,Qgf]);rw[hee]at hrb2;have e12:(b.take i).length=i:=(by simp;omega);have e22:(b.drop i1).length=b.length - i1:=List.length_drop;rw[e12]at hra2 hrb2;rw[e22]at hrb2;obtain⟨n2,hn2⟩:∃k,k=(b.eraseIdx i).length:=⟨_,rfl⟩
   rw[← hn2]at hrb2 ob2;have K2:=J2.drew.rep2 bb2 ob2 hn2;rw[← hn2]at K2;have V2:=J2.drew.p.below bb2 J2.drew.p.lt;obtain⟨t0,t1,t2,t3⟩:=V2.row4;have th:=V2.thaw 2;have S0:=J2.drew.i.s4.2.2.1;have Sa:=(J2.i.alloc (.cells #[] 3)).s4.2.2.1;have Sb:=(J2.drew.i.below ba2).s4.2.2.1;have Sc:=(J2.drew.i.below bb2).s4.2.2.1;have Sd:=K2.i.s4.2.2.1;have hi1:((i1:Nat):Int)<=(cb:Int):=(by omega);have hi2:((i1:Nat):Int)<=(b.length:Int):=(by omega);have hi3:((i:Nat):Int)<=(cb:Int):=(by omega);have hi4:(b.length:Int)<=(cb:Int):=(by omega);have Hx:=hidP hx1;clear hee;have Hlt:=hidP hlt2;have HK2:=hidP K2;have Hn2:=hidP hn2;clear hn2;have HJ2:=hidP J2;clear K2 hT2 hD2 ob2 V2;obtain⟨PA,hPA⟩:∃p:Option Addr,(if cb=i1 then some (⟨bA2,oA2,none⟩:Addr)else some ⟨bA2,oA2+i1,none⟩)=p:=⟨_,rfl⟩
   have hcut:∀W:World,(Instr.slice 63 (.slice (some ⟨bA2,oA2,none⟩) b.length cb) (some (.int .i64 (i1:Int))) none none).run Tryz.prog W= .ok (.slice PA (b.length - i1) (cb - i1)) W:=fun W=>by
    clear hra2 hrb2 hx1 hwr;rw[← hPA];by_cases hcj:cb=i1
    . rw[if_pos hcj];go_simp
    . rw[if_neg hcj];go_simp
   rw[hPA]at hrb2;clear hx1;refine wp_region_noPanic ?_;refine wp_region_held_drew (S:=fun(w' :World)=>w'.cell? ⟨w.heap.size,2,none⟩=some (.slice (some ⟨bA2,oA2,none⟩) b.length cb)) (by kernel_rfl) ?_ (fun hH=> ?_)
   . exact S0
   refine ztk [1,2,3,4,6,7,8,9,10] ?_;repeat(refine ztn (h:= ?_);try simp only[zX,zY])
   refine zte ?_;refine zR1 0 (fun K hK=> ?_);simp only[zG];go_simp;refine hK.out _ _ Sa fun hH=> ?_;clear hK K;try simp only[zX,zY]
   refine zR1 5 (fun K hK=> ?_);simp only[zG];rw[if_pos (by rfl)];refine Qai _ _ _ (by rfl) _ _ _ (by rfl) (by rfl) hra2 ?_;refine hK.out _ _ Sb fun hH=> ?_;clear hK K;try simp only[zX,zY]
   refine zR1 11 (fun K hK=> ?_);simp only[zG];rw[if_pos (by rfl)];refine Qai _ _ _ (by rfl) _ _ _ (by rfl) (by rfl) hrb2 ?_;refine hK.out _ _ Sc fun hH=> ?_;clear hK K;try simp only[zX,zY]
   refine zt1 12 ?_;refine ztn (h:= ?_);try simp only[zX,zY]
   refine zte ?_;refine zR1 13 (fun K hK=> ?_);simp only[zG];go_simp;refine hK.out _ _ Sd fun hH=> ?_;clear hK K;try simp only[zX,zY]
   refine zdn ?_;clear S0 Sa Sb Sc Sd t0 t1 t2 t3 th hi1 hi2 hi3 hi4 hcut hPA hra2 hrb2 hin2;have hx1:=Hx.out;clear Hx Hlt;generalize wb2.setCell ⟨P,2,none⟩ (.slice x'2 n2 y'2)=W2' at*;have V:=HK2.out.p;have I:=HK2.out.i;rw[← Hn1.out]at V;rw[← Hn2.out]at V;obtain⟨t0,t1,t2,t3⟩:=V.row4;obtain⟨r0,r1,r2,r3⟩:=I.r.row4;have f0:=I.r.thaw 0;have f1:=I.r.thaw 1;have f2:=I.r.thaw 2;have f3:=I.r.thaw 3;go_wp2;have k0:Blk (W2'.setCell ⟨w.heap.size+1,0,none⟩ (.int .i64 gen)) (w.heap.size+1) 143 (Qak gen none 0 0 none 0 0 none 0 0):=I.r.setAt 0 _;have s0:(W2'.setCell ⟨w.heap.size+1,0,none⟩ (.int .i64 gen)).cell? ⟨w.heap.size+1,0,none⟩=some (.int .i64 gen):=k0.row4.1;have k1:Blk ((W2'.setCell ⟨w.heap.size+1,0,none⟩ (.int .i64 gen)).setCell ⟨w.heap.size+1,1,none⟩ (.slice x'1 n1 y'1)) (w.heap.size+1) 143 (Qak gen x'1 n1 y'1 none 0 0 none 0 0):=k0.setAt 1 _;have s1:((W2'.setCell ⟨w.heap.size+1,0,none⟩ (.int .i64 gen)).setCell ⟨w.heap.size+1,1,none⟩ (.slice x'1 n1 y'1)).cell? ⟨w.heap.size+1,1,none⟩=some (.slice x'1 n1 y'1):=k1.row4.2.1;have k2:Blk (((W2'.setCell ⟨w.heap.size+1,0,none⟩ (.int .i64 gen)).setCell ⟨w.heap.size+1,1,none⟩ (.slice x'1 n1 y'1)).setCell ⟨w.heap.size+1,2,none⟩ (.slice x'2 n2 y'2)) (w.heap.size+1) 143 (Qak gen x'1 n1 y'1 x'2 n2 y'2 none 0 0):=k1.setAt 2 _;have s2:(((W2'.setCell ⟨w.heap.size+1,0,none⟩ (.int .i64 gen)).setCell ⟨w.heap.size+1,1,none⟩ (.slice x'1 n1 y'1)).setCell ⟨w.heap.size+1,2,none⟩ (.slice x'2 n2 y'2)).cell? ⟨w.heap.size+1,2,none⟩=some (.slice x'2 n2 y'2):=k2.row4.2.2.1
   have k3:Blk ((((W2'.setCell ⟨w.heap.size+1,0,none⟩ (.int .i64 gen)).setCell ⟨w.heap.size+1,1,none⟩ (.slice x'1 n1 y'1)).setCell ⟨w.heap.size+1,2,none⟩ (.slice x'2 n2 y'2)).setCell ⟨w.heap.size+1,3,none⟩ (.slice a3 o.length c3)) (w.heap.size+1) 143 (Qak gen x'1 n1 y'1 x'2 n2 y'2 a3 o.length c3):=k2.setAt 3 _;have s3:((((W2'.setCell ⟨w.heap.size+1,0,none⟩ (.int .i64 gen)).setCell ⟨w.heap.size+1,1,none⟩ (.slice x'1 n1 y'1)).setCell ⟨w.heap.size+1,2,none⟩ (.slice x'2 n2 y'2)).setCell ⟨w.heap.size+1,3,none⟩ (.slice a3 o.length c3)).cell? ⟨w.heap.size+1,3,none⟩=some (.slice a3 o.length c3):=k3.row4.2.2.2;refine bodyPost_ret (v:= .agg (Qak gen x'1 n1 y'1 x'2 n2 y'2 a3 o.length c3)) (by simp[results,Tryz.results113,go_sem,s0,s1,s2,s3]) rfl ?_;have hto:=HK2.out.told;rw[← Hn1.out]at hto;rw[← Hn2.out]at hto;exact hto
 . have hib:¬(i:Int)<(b.length:Int):=(by omega);have V:=HK1.out.p;have I:=HK1.out.i;rw[← Hn1.out]at V;obtain⟨t0,t1,t2,t3⟩:=V.row4;obtain⟨r0,r1,r2,r3⟩:=I.r.row4;have f0:=I.r.thaw 0;have f1:=I.r.thaw 1;have f2:=I.r.thaw 2;have f3:=I.r.thaw 3;go_wp2;have k0:Blk (W1'.setCell ⟨w.heap.size+1,0,none⟩ (.int .i64 gen)) (w.heap.size+1) 143 (Qak gen none 0 0 none 0 0 none 0 0):=I.r.setAt 0 _;have s0:(W1'.setCell ⟨w.heap.size+1,0,none⟩ (.int .i64 gen)).cell? ⟨w.heap.size+1,0,none⟩=some (.int .i64 gen):=k0.row4.1;have k1:Blk ((W1'.setCell ⟨w.heap.size+1,0,none⟩ (.int .i64 gen)).setCell ⟨w.heap.size+1,1,none⟩ (.slice x'1 n1 y'1)) (w.heap.size+1) 143 (Qak gen x'1 n1 y'1 none 0 0 none 0 0):=k0.setAt 1 _;have s1:((W1'.setCell ⟨w.heap.size+1,0,none⟩ (.int .i64 gen)).setCell ⟨w.heap.size+1,1,none⟩ (.slice x'1 n1 y'1)).cell? ⟨w.heap.size+1,1,none⟩=some (.slice x'1 n1 y'1):=k1.row4.2.1;have k2:Blk (((W1'.setCell ⟨w.heap.size+1,0,none⟩ (.int .i64 gen)).setCell ⟨w.heap.size+1,1,none⟩ (.slice x'1 n1 y'1)).setCell ⟨w.heap.size+1,2,none⟩ (.slice a2 b.length c2)) (w.heap.size+1) 143 (Qak gen x'1 n1 y'1 a2 b.length c2 none 0 0):=k1.setAt 2 _;have s2:(((W1'.setCell ⟨w.heap.size+1,0,none⟩ (.int .i64 gen)).setCell ⟨w.heap.size+1,1,none⟩ (.slice x'1 n1 y'1)).setCell ⟨w.heap.size+1,2,none⟩ (.slice a2 b.length c2)).cell? ⟨w.heap.size+1,2,none⟩=some (.slice a2 b.length c2):=k2.row4.2.2.1;have k3:Blk ((((W1'.setCell ⟨w.heap.size+1,0,none⟩ (.int .i64 gen)).setCell ⟨w.heap.size+1,1,none⟩ (.slice x'1 n1 y'1)).setCell ⟨w.heap.size+1,2,none⟩ (.slice a2 b.length c2)).setCell ⟨w.heap.size+1,3,none⟩ (.slice a3 o.length c3)) (w.heap.size+1) 143 (Qak gen x'1 n1 y'1 a2 b.length c2 a3 o.length c3):=k2.setAt 3 _
   have s3:((((W1'.setCell ⟨w.heap.size+1,0,none⟩ (.int .i64 gen)).setCell ⟨w.heap.size+1,1,none⟩ (.slice x'1 n1 y'1)).setCell ⟨w.heap.size+1,2,none⟩ (.slice a2 b.length c2)).setCell ⟨w.heap.size+1,3,none⟩ (.slice a3 o.length c3)).cell? ⟨w.heap.size+1,3,none⟩=some (.slice a3 o.length c3):=k3.row4.2.2.2;refine bodyPost_ret (v:= .agg (Qak gen x'1 n1 y'1 a2 b.length c2 a3 o.length c3)) (by simp[results,Tryz.results113,go_sem,s0,s1,s2,s3]) rfl ?_;have hto:=HK1.out.told;rw[← Hn1.out]at hto;rw[show b.eraseIdx i=b from List.eraseIdx_of_length_le (by omega)];exact hto
theorem Qib {α:Type} [Cel α] {B:Nat} {W:World} {t:TypeId} {a:Option Addr} {c:Nat} {xs:List α} (h:W.ownsRow B t (Cel.k α) (.slice a xs.length c) xs.length (flat xs)):Sub W a xs (fun b=>B<=b/\b<W.heap.size):=by
 obtain⟨a',c',e,_,hs⟩:=Qay h;cases e;exact hs.imp id fun⟨b,o,e,hB,hb,hi,ht⟩=>⟨b,o,e,⟨hB,hb⟩,hb,hi,ht⟩
open Items (It)
def Av {α:Type} [Cel α] (W:World) (A:Option Addr) (l:List α) (S:Nat->Prop):Prop:=l= []∨∃b o,A=some ⟨b,o,none⟩/\b<W.heap.size/\In W b o l/\S b
section
variable {α:Type} [Cel α] {W W' :World} {A:Option Addr} {l:List α} {S T:Nat->Prop}
theorem Av.at (h:Av W A l S):At W A l:=h.imp id fun⟨b,o,e,hb,hi,_⟩=>⟨b,o,e,hb,hi⟩
theorem Av.offp (h:Av W A l S) (k:Offp T W W') (hT:∀x,S x->¬T x):Av W' A l S:=
 h.imp id fun⟨b,o,e,hb,hi,hn⟩=>⟨b,o,e,Nat.lt_of_lt_of_le hb k.size,hi.offp k hb (hT b hn),hn⟩
theorem Av.mono {S' :Nat->Prop} (h:Av W A l S) (s:∀x,x<W.heap.size->S x->S' x):Av W A l S' :=h.imp id fun⟨b,o,e,hb,hi,hn⟩=>⟨b,o,e,hb,hi,s b hb hn⟩
theorem Av.of_sub {S' :Nat->Prop} (h:Sub W A l S') (hd:∀x,S' x->S x):Av W A l S:=h.imp id fun⟨b,o,e,hs,hb,hi,_⟩=>⟨b,o,e,hb,hi,hd b hs⟩
theorem Av.of_sl {F:List Nat} (h:Sl W A l F) (hd:∀x∈F,S x):Av W A l S:=by
 rcases h with⟨e,_⟩|⟨b,o,e,rfl,hb,hi,_⟩
 . exact .inl e
 . exact .inr ⟨b,o,e,hb,hi,hd b (by simp)⟩
theorem Av.of_fresh {B:Nat} {n c:Nat} (h:Fresh B W (.slice A n c) l) (hd:∀x,B<=x->S x):Av W A l S:=by
 obtain⟨A',c',e,_,h⟩:=h;cases e;exact h.imp id fun⟨b,o,e,hB,hb,hi,_⟩=>⟨b,o,e,hb,hi,hd b hB⟩
theorem Av.of_own {B:Nat} {t:TypeId} {c:Nat} (h:W.ownsRow B t (Cel.k α) (.slice A l.length c) l.length (flat l)) (hd:∀x,B<=x->S x):Av W A l S:=Av.of_fresh (Qay h) hd
end
structure Pl {α:Type} [Cel α] (W:World) (A:Option Addr) (l:List α) (b:Nat):Prop where
  a:A=some ⟨b,0,none⟩
  lt:b<W.heap.size
  i:In W b 0 l
  th:W.there b 0 (l.length*Cel.k α)
section
variable {α:Type} [Cel α] {W W' :World} {A:Option Addr} {l:List α} {b:Nat} {T:Nat->Prop}
theorem Pl.at (h:Pl W A l b):At W A l:= .inr ⟨b,0,h.a,h.lt,h.i⟩
theorem Pl.offp (h:Pl W A l b) (k:Offp T W W') (hT:¬T b):Pl W' A l b:=⟨h.a,Nat.lt_of_lt_of_le h.lt k.size,h.i.offp k h.lt hT,Qer h.th k h.lt hT⟩
theorem Pl.of_own {B:Nat} {t:TypeId} {c:Nat} (h:W.ownsRow B t (Cel.k α) (.slice A l.length c) l.length (flat l)) (hl:0<l.length):∃b,Pl W A l b/\B<=b/\(Value.slice A l.length c).ownBlock=some b:=by
 rcases h.2 with⟨e,h0⟩|⟨g,c',cur,e,hB,hg,hc,hm,hsz,ht⟩
 . omega
 . cases e;obtain⟨A',c2,e2,_,h1⟩:=Qge (α:=α) (t:=t) hg hB hc hsz ht;cases e2;rcases h1 with h1|⟨b,o,e3,hB',hb,hi,hth⟩
   . subst h1;simp at hl
   . cases e3;exact⟨g,⟨rfl,hb,hi,hth⟩,hB,rfl⟩
theorem Qpf (l:List α) (n:Nat) (hn:n<l.length) (y:α):∀j v,(flat (l.set n y))[j]? =some v->(n*Cel.k α<=j/\j<n*Cel.k α+Cel.k α/\(Cel.cs y)[j - n*Cel.k α]? =some v)∨((j<n*Cel.k α∨n*Cel.k α+Cel.k α<=j)/\(flat l)[j]? =some v):=by
 induction l generalizing n with
 |nil=>simp at hn
 |cons x l ih=>
  intro j v hv;cases n with
  |zero=>
   simp only[List.set_cons_zero,Qcv,Nat.zero_mul,Nat.zero_add]at hv ⊢;by_cases h:j<Cel.k α
   . left;rw[List.getElem?_append_left (by rw[Cel.len];exact h)]at hv;exact⟨by omega,h,by simpa using hv⟩
   . right;rw[List.getElem?_append_right (by rw[Cel.len];omega),Cel.len]at hv;rw[List.getElem?_append_right (by rw[Cel.len];omega),Cel.len];exact⟨.inr (by omega),hv⟩
  |succ n=>
   simp only[List.set_cons_succ,Qcv]at hv ⊢;have e1:(n+1) *Cel.k α=n*Cel.k α+Cel.k α:=(by rw[Nat.add_mul];omega);by_cases h:j<Cel.k α
   . right;rw[List.getElem?_append_left (by rw[Cel.len];exact h)]at hv ⊢;exact⟨.inl (by omega),hv⟩
   . rw[List.getElem?_append_right (by rw[Cel.len];omega),Cel.len]at hv;rcases ih n (by simpa using hn) _ _ hv with⟨h1,h2,h3⟩|⟨h1,h2⟩
     . left;exact⟨by omega,by omega,by rw[e1,show j - (n*Cel.k α+Cel.k α)=j - Cel.k α - n*Cel.k α by omega];exact h3⟩
     . right;exact⟨by omega,by rw[List.getElem?_append_right (by rw[Cel.len];omega),Cel.len];exact h2⟩
theorem Pl.set (h:Pl W A l b) (n:Nat) (hn:n<l.length) (y:α):Pl (W.setCells b (n*Cel.k α) (Cel.cs y)) A (l.set n y) b:=by
 refine⟨h.a,Nat.lt_of_lt_of_le h.lt (Qdi W b _ _).size,?_,by rw[List.length_set];exact World.there_setCells h.th _ _ _⟩;have hth:W.there b (n*Cel.k α) (Cel.cs y).length:=fun j hj=>by
  have hj' :j<Cel.k α:=by rwa [Cel.len]at hj
  have hlt:n*Cel.k α+j<l.length*Cel.k α:=by have:(n+1) *Cel.k α<=l.length*Cel.k α:=Nat.mul_le_mul_right _ hn;rw[Nat.add_mul]at this;omega
  have:=h.th (n*Cel.k α+j) hlt;rwa [Nat.zero_add]at this
 have h1:=World.rangeAt_setCells_same W b (n*Cel.k α) (Cel.cs y) hth;intro j v hv;rcases Qpf l n hn y j v hv with⟨e1,e2,e3⟩|⟨e1,e2⟩
 . have:=h1 (j - n*Cel.k α) v e3;rwa [show n*Cel.k α+(j - n*Cel.k α)=0+j by omega]at this
 . have h2:W.rangeAt b j [v]:=fun i u hu=>by
    have hi:i=0:=(by have:=(List.getElem?_eq_some_iff.1 hu).1;simp at this;exact this);subst hi;simp at hu;subst hu;have:=h.i j v e2;rwa [Nat.zero_add]at this
   have h3:=World.rangeAt_setCells_apart h2 b (n*Cel.k α) (Cel.cs y) (by rcases e1 with e1|e1<;>simp[Cel.len]<;>omega);have:=h3 0 v rfl;rwa [show j+0=0+j by omega]at this
end
structure KQ (W:World) (x:KC) (S:Nat->Prop) (br bg bd bl:Nat):Prop where
  r:Pl W x.rA x.rs br
  g:Pl W x.gA x.gs bg
  d:Pl W x.dA x.ds bd
  l:Pl W x.lA x.ls bl
  m:Av W x.mA x.ms (fun b=>S b/\b≠br/\b≠bg/\b≠bd/\b≠bl)
  ri:∀y∈x.rs,Av W y.A y.its (fun b=>S b/\b≠br/\b≠bg/\b≠bd/\b≠bl)
  mi:∀y∈x.ms,Av W y.A y.ms (fun b=>S b/\b≠br/\b≠bg/\b≠bd/\b≠bl)
  gi:∀y∈x.gs,Av W y.a1 y.m (fun b=>S b/\b≠br/\b≠bg/\b≠bd/\b≠bl)/\Av W y.a2 y.b (fun b=>S b/\b≠br/\b≠bg/\b≠bd/\b≠bl)/\Av W y.a3 y.o (fun b=>S b/\b≠br/\b≠bg/\b≠bd/\b≠bl)
  s:S br/\S bg/\S bd/\S bl
  ne:br≠bg/\br≠bd/\br≠bl/\bg≠bd/\bg≠bl/\bd≠bl
section
variable {W W' :World} {x:KC} {S S' T:Nat->Prop} {br bg bd bl:Nat}
theorem KQ.at (h:KQ W x S br bg bd bl):KAt W x:=⟨h.r.at,fun y hy=>(h.ri y hy).at,h.m.at,fun y hy=>(h.mi y hy).at,h.g.at,fun y hy=>⟨(h.gi y hy).1.at,(h.gi y hy).2.1.at,(h.gi y hy).2.2.at⟩,h.d.at,h.l.at⟩
theorem KQ.offp (h:KQ W x S br bg bd bl) (k:Offp T W W') (hT:∀b,S b->¬T b):KQ W' x S br bg bd bl:=
 ⟨h.r.offp k (hT _ h.s.1),h.g.offp k (hT _ h.s.2.1),h.d.offp k (hT _ h.s.2.2.1),h.l.offp k (hT _ h.s.2.2.2),h.m.offp k (fun b hb=>hT b hb.1),fun y hy=>(h.ri y hy).offp k (fun b hb=>hT b hb.1),fun y hy=>(h.mi y hy).offp k (fun b hb=>hT b hb.1),fun y hy=>⟨(h.gi y hy).1.offp k (fun b hb=>hT b hb.1),(h.gi y hy).2.1.offp k (fun b hb=>hT b hb.1),(h.gi y hy).2.2.offp k (fun b hb=>hT b hb.1)⟩,h.s,h.ne⟩
theorem KQ.below (h:KQ W x S br bg bd bl) (k:Below W.heap.size W W'):KQ W' x S br bg bd bl:=h.offp (T:=fun _=>False) (Offp.of_below k) (fun _ _ e=>e)
theorem KQ.mono (h:KQ W x S br bg bd bl) (s:∀b,b<W.heap.size->S b->S' b):KQ W x S' br bg bd bl:=
 ⟨h.r,h.g,h.d,h.l,h.m.mono (fun b hl hb=>⟨s b hl hb.1,hb.2⟩),fun y hy=>(h.ri y hy).mono (fun b hl hb=>⟨s b hl hb.1,hb.2⟩),fun y hy=>(h.mi y hy).mono (fun b hl hb=>⟨s b hl hb.1,hb.2⟩),fun y hy=>⟨(h.gi y hy).1.mono (fun b hl hb=>⟨s b hl hb.1,hb.2⟩),(h.gi y hy).2.1.mono (fun b hl hb=>⟨s b hl hb.1,hb.2⟩),(h.gi y hy).2.2.mono (fun b hl hb=>⟨s b hl hb.1,hb.2⟩)⟩,⟨s _ h.r.lt h.s.1,s _ h.g.lt h.s.2.1,s _ h.d.lt h.s.2.2.1,s _ h.l.lt h.s.2.2.2⟩,h.ne⟩
theorem KQ.box (h:KQ W x S br bg bd bl) (p o:Nat) (v:Value) (hp:¬S p):KQ (W.setCell ⟨p,o,none⟩ v) x S br bg bd bl:=
 h.offp (Offp.of_only ((Only.refl p W).set o v)) (fun b hb e=>hp (e▸hb))
theorem Qob {α:Type} {l:List α} {n:Nat} {y z:α} (h:z∈l.set n y):z∈l∨z=y:=(List.mem_or_eq_of_mem_set h)
theorem KQ.setR (h:KQ W x S br bg bd bl) (n:Nat) (hn:n<x.rs.length) (y:RC) (hy:Av W y.A y.its (fun b=>S b/\b≠br/\b≠bg/\b≠bd/\b≠bl)):
 KQ (W.setCells br (n*3) [.int .i64 y.start,.int .i64 y.next,.slice y.A y.its.length y.cap]) {x with rs:=x.rs.set n y} S br bg bd bl:=by
 have k:=Offp.of_only (Qdi W br [.int .i64 y.start,.int .i64 y.next,.slice y.A y.its.length y.cap] (n*3));obtain⟨e1,e2,e3,e4,e5,e6⟩:=h.ne;refine⟨h.r.set n hn y,h.g.offp k (fun e=>e1 e.symm),h.d.offp k (fun e=>e2 e.symm),h.l.offp k (fun e=>e3 e.symm),h.m.offp k (fun b hb e=>hb.2.1 e),fun z hz=> ?_,fun z hz=>(h.mi z hz).offp k (fun b hb e=>hb.2.1 e),fun z hz=>⟨(h.gi z hz).1.offp k (fun b hb e=>hb.2.1 e),(h.gi z hz).2.1.offp k (fun b hb e=>hb.2.1 e),(h.gi z hz).2.2.offp k (fun b hb e=>hb.2.1 e)⟩,h.s,h.ne⟩;rcases Qob hz with hz|rfl
 . exact(h.ri z hz).offp k (fun b hb e=>hb.2.1 e)
 . exact hy.offp k (fun b hb e=>hb.2.1 e)
theorem KQ.setG (h:KQ W x S br bg bd bl) (n:Nat) (hn:n<x.gs.length) (y:GC) (hy:Av W y.a1 y.m (fun b=>S b/\b≠br/\b≠bg/\b≠bd/\b≠bl)/\Av W y.a2 y.b (fun b=>S b/\b≠br/\b≠bg/\b≠bd/\b≠bl)/\Av W y.a3 y.o (fun b=>S b/\b≠br/\b≠bg/\b≠bd/\b≠bl)):
 KQ (W.setCells bg (n*4) [.int .i64 y.gen,.slice y.a1 y.m.length y.c1,.slice y.a2 y.b.length y.c2,.slice y.a3 y.o.length y.c3]) {x with gs:=x.gs.set n y} S br bg bd bl:=by
 have k:=Offp.of_only (Qdi W bg [.int .i64 y.gen,.slice y.a1 y.m.length y.c1,.slice y.a2 y.b.length y.c2,.slice y.a3 y.o.length y.c3] (n*4));obtain⟨e1,e2,e3,e4,e5,e6⟩:=h.ne;refine⟨h.r.offp k e1,h.g.set n hn y,h.d.offp k (fun e=>e4 e.symm),h.l.offp k (fun e=>e5 e.symm),h.m.offp k (fun b hb e=>hb.2.2.1 e),fun z hz=>(h.ri z hz).offp k (fun b hb e=>hb.2.2.1 e),fun z hz=>(h.mi z hz).offp k (fun b hb e=>hb.2.2.1 e),fun z hz=> ?_,h.s,h.ne⟩;rcases Qob hz with hz|rfl
 . exact⟨(h.gi z hz).1.offp k (fun b hb e=>hb.2.2.1 e),(h.gi z hz).2.1.offp k (fun b hb e=>hb.2.2.1 e),(h.gi z hz).2.2.offp k (fun b hb e=>hb.2.2.1 e)⟩
 . exact⟨hy.1.offp k (fun b hb e=>hb.2.2.1 e),hy.2.1.offp k (fun b hb e=>hb.2.2.1 e),hy.2.2.offp k (fun b hb e=>hb.2.2.1 e)⟩
theorem KQ.setD (h:KQ W x S br bg bd bl) (n:Nat) (hn:n<x.ds.length) (y:Int):KQ (W.setCells bd (n*1) [.int .i64 y]) {x with ds:=x.ds.set n y} S br bg bd bl:=by
 have k:=Offp.of_only (Qdi W bd [.int .i64 y] (n*1));obtain⟨e1,e2,e3,e4,e5,e6⟩:=h.ne;exact⟨h.r.offp k e2,h.g.offp k e4,h.d.set n hn y,h.l.offp k (fun e=>e6 e.symm),h.m.offp k (fun b hb e=>hb.2.2.2.1 e),fun z hz=>(h.ri z hz).offp k (fun b hb e=>hb.2.2.2.1 e),fun z hz=>(h.mi z hz).offp k (fun b hb e=>hb.2.2.2.1 e),fun z hz=>⟨(h.gi z hz).1.offp k (fun b hb e=>hb.2.2.2.1 e),(h.gi z hz).2.1.offp k (fun b hb e=>hb.2.2.2.1 e),(h.gi z hz).2.2.offp k (fun b hb e=>hb.2.2.2.1 e)⟩,h.s,h.ne⟩
theorem KQ.setL (h:KQ W x S br bg bd bl) (n:Nat) (hn:n<x.ls.length) (y:An):KQ (W.setCells bl (n*4) [.int .i64 y.code,.int .i64 y.n,.string y.key,.string y.text]) {x with ls:=x.ls.set n y} S br bg bd bl:=by
 have k:=Offp.of_only (Qdi W bl [.int .i64 y.code,.int .i64 y.n,.string y.key,.string y.text] (n*4));obtain⟨e1,e2,e3,e4,e5,e6⟩:=h.ne;exact⟨h.r.offp k e3,h.g.offp k e5,h.d.offp k e6,h.l.set n hn y,h.m.offp k (fun b hb e=>hb.2.2.2.2 e),fun z hz=>(h.ri z hz).offp k (fun b hb e=>hb.2.2.2.2 e),fun z hz=>(h.mi z hz).offp k (fun b hb e=>hb.2.2.2.2 e),fun z hz=>⟨(h.gi z hz).1.offp k (fun b hb e=>hb.2.2.2.2 e),(h.gi z hz).2.1.offp k (fun b hb e=>hb.2.2.2.2 e),(h.gi z hz).2.2.offp k (fun b hb e=>hb.2.2.2.2 e)⟩,h.s,h.ne⟩
theorem KQ.setM (h:KQ W x S br bg bd bl) (a:Option Addr) (c:Nat) (ms:List MC) (hm:Av W a ms (fun b=>S b/\b≠br/\b≠bg/\b≠bd/\b≠bl)) (hi:∀y∈ms,Av W y.A y.ms (fun b=>S b/\b≠br/\b≠bg/\b≠bd/\b≠bl)):
 KQ W {x with mA:=a,mc:=c,ms:=ms} S br bg bd bl:=⟨h.r,h.g,h.d,h.l,hm,h.ri,hi,h.gi,h.s,h.ne⟩
theorem KQ.setT (h:KQ W x S br bg bd bl) (z:Int):KQ W {x with time:=z} S br bg bd bl:=⟨h.r,h.g,h.d,h.l,h.m,h.ri,h.mi,h.gi,h.s,h.ne⟩
end
def Qty (P B:Nat) (Pk:World->Prop):Prop:=∀(W W' :World) (T:Nat->Prop),Pk W->Offp T W W' ->(∀x,T x->x=P∨B<=x)->Pk W'
structure GU {α:Type} [Cel α] (P:World->α->(Nat->Prop)->Prop) (t:TypeId) (b B:Nat) (W:World) (a:Option Addr) (cp:Nat) (xs:List α):Prop where
  own:W.ownsRow B t (Cel.k α) (.slice a xs.length cp) xs.length (flat xs)
  fps:∃fp:Nat->Nat->Prop,(∀(i:Nat) (h:i<xs.length),P W xs[i] (fp i))/\(∀i j,i≠j->∀x,fp i x->¬fp j x)/\∀i x,fp i x->i<xs.length/\B<=x/\x<W.heap.size/\(Value.slice a xs.length cp).ownBlock≠some x
  hb:b<=B
  hB:B<=W.heap.size
section
variable {α:Type} [Cel α] {P:World->α->(Nat->Prop)->Prop} {t:TypeId} {b B:Nat} {W W1:World} {a:Option Addr} {cp:Nat} {xs:List α}
theorem GU.start (hb:b<=B) (hB:B<=W.heap.size):GU (α:=α) P t b B W none 0 []:=
 ⟨World.ownsRow_nil _ _ _ _,⟨fun _ _=>False,fun i h=>by simp at h,fun _ _ _ _ h=>h.elim,fun _ _ h=>h.elim⟩,hb,hB⟩
theorem GU.offp (hP:Firm P) (h:GU P t b B W a cp xs) {T:Nat->Prop} (k:Offp T W W1) (hT:∀x,T x->x<b):GU P t b B W1 a cp xs:=by
 obtain⟨own,⟨fp,f1,f2,f3⟩,hb,hB⟩:=h;exact⟨Qbc own k (fun y hy e=>by have:=(own.lt y hy).1;have:=hT y e;omega),⟨fp,fun i hi=>hP _ _ _ _ _ (f1 i hi) k (fun y hy e=>by have:=(f3 i y hy).2.1;have:=hT y e;omega),f2,fun i x hx=>⟨(f3 i x hx).1,(f3 i x hx).2.1,Nat.lt_of_lt_of_le (f3 i x hx).2.2.1 k.size,(f3 i x hx).2.2.2⟩⟩,hb,Nat.le_trans hB k.size⟩
theorem GU.app (hP:Firm P) {pg:Program} {ts:TypeId} {z:Value} {bytes:Nat} (hu:pg.underlying ts=some (.slice t)) (hinfo:(pg.info? t).map (fun i=>(i.zero,i.size,i.bytes))=some (some z,Cel.k α,bytes)) (hz:z.cells.size=Cel.k α) (hk:0<Cel.k α) (hby:bytes<=1000)
 (h:GU P t b B W a cp xs) {T:Nat->Prop} (k:Offp T W W1) (hT:∀x,T x->x<b) (x:α) {S:Nat->Prop} (hy:P W1 x S) (hS:∀y,S y->W.heap.size<=y/\y<W1.heap.size) (cs:Array Value) (hcs:cs.toList=Cel.cs x) (hx:xs.length<=2000000):
 ∃a2 c2 W2,(Builtin.append_ #[ts,ts] ts (l1SS a xs.length cp (some ⟨W1.heap.size,0,none⟩) 1 1)).run pg (W1.alloc (.cells cs t))= .ok (.slice a2 (xs.length+1) c2) W2/\GU P t b B W2 a2 c2 (xs++ [x])/\Offp (fun y=>B<=y) (W1.alloc (.cells cs t)) W2:=by
 have h0:=h.offp hP k hT;have hws:=k.size;have hown0:=h.own;have hBW:=h.hB;have hfp0:=h.fps;obtain⟨own0,⟨fp,f1,f2,f3'⟩,hb,hB⟩:=h0;have f3:∀i x,fp i x->i<xs.length/\B<=x/\x<W1.heap.size/\(Value.slice a xs.length cp).ownBlock≠some x:=f3';have own1:=Qau own0 (.cells cs t);have hX:At (W1.alloc (.cells cs t)) (some ⟨W1.heap.size,0,none⟩) [x]:=by
  refine .inr ⟨_,0,rfl,by simp,fun j u hu=> ?_⟩;rw[Qdg,← hcs]at hu;rw[Nat.zero_add];exact(Blk.new W1 t cs).cell (by simpa using hu)
 obtain⟨v',W2,hr,hown,hgrow,hob⟩:=Qbj (P:=pg) hu hinfo hz hk hby B (.slice a xs.length cp) xs [x] (some ⟨W1.heap.size,0,none⟩) 1 _ (by simp;omega) own1 hX (by simp;omega);simp only[List.length_cons,List.length_nil,Nat.zero_add]at hown hr;obtain⟨a2,c2,rfl,_⟩:=Qao hown;have ko:=Qb8 hgrow;have hs2:W1.heap.size+1<=W2.heap.size:=by have:=ko.size;simpa using this
 have hS' :∀y,(Value.slice a xs.length cp).ownBlock=some y->B<=y/\y<W.heap.size:=fun y hy=>hown0.lt y hy
 have kb:Offp (fun _=>False) W1 (W1.alloc (.cells cs t)):=Offp.of_below (Qad (Below.refl _ _) _);obtain⟨fq,q1,q2,q3⟩:=hfp0;refine⟨a2,c2,W2,hr,⟨by rw[List.length_append];exact hown,⟨fun i=>if i=xs.length then S else fq i,?_,?_,?_⟩,hb,by omega⟩,ko.mono (fun y e=>(hS' y e).1)⟩
 . intro i hi;by_cases e:i=xs.length
   . subst e;simp only[if_true];rw[List.getElem_append_right (Nat.le_refl _)];simp only[Nat.sub_self,List.getElem_cons_zero];exact hP _ _ _ _ _ (hP _ _ _ _ _ hy kb (fun _ _ e=>e)) ko (fun y hy e=>by have:=(hS y hy).1;have:=(hS' y e).2;omega)
   . have hi' :i<xs.length:=(by simp at hi;omega);simp only[if_neg e];rw[List.getElem_append_left hi'];exact hP _ _ _ _ _ (hP _ _ _ _ _ (hP _ _ _ _ _ (q1 i hi') k (fun y hy e=>by have:=(q3 i y hy).2.1;have:=hT y e;omega)) kb (fun _ _ e=>e)) ko (fun y hy e=>(q3 i y hy).2.2.2 e)
 . intro i j hij y hy' hy2;by_cases e1:i=xs.length
   . by_cases e2:j=xs.length
     . omega
     . simp only[if_pos e1]at hy';simp only[if_neg e2]at hy2;have:=(hS y hy').1;have:=(q3 j y hy2).2.2.1;omega
   . by_cases e2:j=xs.length
     . simp only[if_neg e1]at hy';simp only[if_pos e2]at hy2;have:=(hS y hy2).1;have:=(q3 i y hy').2.2.1;omega
     . simp only[if_neg e1]at hy';simp only[if_neg e2]at hy2;exact q2 i j hij y hy' hy2
 . intro i y hy';have hob' :∀y,(Value.slice a xs.length cp).ownBlock≠some y->y<W1.heap.size->(Value.slice a2 (xs++ [x]).length c2).ownBlock≠some y:=by
    intro y hn hlt e;rw[List.length_append]at e;have e2:(Value.slice a2 (xs.length+1) c2).ownBlock=some y:=e;rcases hob with h' |h'
    . exact hn (h'▸e2)
    . rw[h']at e2;simp only[World.size_alloc,Option.some.injEq]at e2;omega
   by_cases e1:i=xs.length
   . simp only[if_pos e1]at hy';have hh:=hS y hy';exact⟨by simp;omega,by have:=hown0;omega,by omega,hob' y (fun e=>by have:=(hS' y e).2;omega) hh.2⟩
   . simp only[if_neg e1]at hy';have hh:=q3 i y hy';exact⟨by simp;omega,hh.2.1,by omega,hob' y hh.2.2.2 (by omega)⟩
theorem GU.toOwn (h:GU P t b B W a cp xs):Own P W a xs (fun b=>B<=b/\b<W.heap.size):=by
 obtain⟨own,⟨fp,f1,f2,f3⟩,hb,hB⟩:=h;rcases Qib own with e|⟨b,o,e,hb,hlt,hi,ht⟩
 . exact .inl e
 . refine .inr ⟨b,o,fp,e,hb,fun i x hx=>⟨(f3 i x hx).2.1,(f3 i x hx).2.2.1⟩,⟨hlt,hi,ht,f1,f2,fun i hx=>(f3 i b hx).2.2.2 ?_⟩⟩;rw[e];rfl
end
structure Kd (w W:World) (kc:Array Value):Prop where
  bl:Below w.heap.size w W
  k:Blk W w.heap.size 102 kc
  r:Blk W (w.heap.size+1) 102 Qae
theorem Kd.below {w W W' :World} {kc:Array Value} (h:Kd w W kc) (g:Below W.heap.size W W'):Kd w W' kc:=⟨via0 g h.bl,h.k.below g h.k.lt,h.r.below g h.r.lt⟩
theorem Kd.alloc {w W:World} {kc:Array Value} (h:Kd w W kc) (ob:Obj):Kd w (W.alloc ob) kc:=h.below (Qad (Below.refl _ _) _)
theorem Kd.kept {w W W' :World} {kc:Array Value} (h:Kd w W kc) (k:∀p vs,Blk W p 102 vs->Blk W' p 102 vs) (hb:Below (w.heap.size+2) W W'):Kd w W' kc:=
 ⟨h.bl.trans ⟨hb.os,hb.tape,hb.output,hb.size,fun i hi=>hb.block i (by omega)⟩,k _ _ h.k,k _ _ h.r⟩
theorem Kd.offp {w W W' :World} {kc:Array Value} {T:Nat->Prop} (h:Kd w W kc) (k:Offp T W W') (hp:∀x,T x->w.heap.size+1<x):Kd w W' kc:=
 ⟨h.bl.trans (k.toBelow (fun x hx=>by have:=hp x hx;omega) h.bl.size),h.k.offp k (fun e=>by have:=hp _ e;omega),h.r.offp k (fun e=>by have:=hp _ e;omega)⟩
structure Du (q:Nat) (W:World) (v1 v2:Value) (l1:List Int) (l2:List An):Prop where
  o1:W.ownsRow q 3 1 v1 l1.length (flat l1)
  o2:W.ownsRow q 145 4 v2 l2.length (flat l2)
  q:q<=W.heap.size
section
variable {q:Nat} {W:World} {v1 v2:Value} {l1:List Int} {l2:List An}
theorem Du.nil (q:Nat) (W:World) (hq:q<=W.heap.size):Du q W (.slice none 0 0) (.slice none 0 0) [] []:=⟨World.ownsRow_nil _ _ _ _,World.ownsRow_nil _ _ _ _,hq⟩
theorem Du.alloc (h:Du q W v1 v2 l1 l2) (ob:Obj):Du q (W.alloc ob) v1 v2 l1 l2:=⟨Qau h.o1 _,Qau h.o2 _,by have:=h.q;simp;omega⟩
theorem Du.new1 {g:Nat} (h:Du q W (.slice none 0 0) v2 [] l2) (hg:W.heap.size=g):Du q (W.alloc (.cells #[] 3)) (.slice (some ⟨g,0,none⟩) 0 0) v2 [] l2:=by
 subst hg;exact⟨Qat (World.ownsRow_made W #[] 0 (Nat.le_refl _) (by simp[maxLen]) rfl) h.q,Qau h.o2 _,by have:=h.q;simp;omega⟩
theorem Du.new2 {g:Nat} (h:Du q W v1 (.slice none 0 0) l1 []) (hg:W.heap.size=g):Du q (W.alloc (.cells #[] 145)) v1 (.slice (some ⟨g,0,none⟩) 0 0) l1 []:=by
 subst hg;exact⟨Qau h.o1 _,Qat (World.ownsRow_made W #[] 0 (Nat.le_refl _) (by simp[maxLen]) rfl) h.q,by have:=h.q;simp;omega⟩
theorem Du.app1 {A:Option Addr} {cap:Nat} {m:List Int} (h:Du q W v1 v2 [] l2) (hA:At W A m) (hm:m.length<=1048576):
 ∃a c w',(Builtin.append_ #[63,63] 63 #[v1,.slice A m.length cap]).run Tryz.prog W= .ok (.slice a m.length c) w' /\Du q w' (.slice a m.length c) v2 m l2/\(∀p vs,Blk W p 102 vs->Blk w' p 102 vs)/\Below q W w' :=by
 obtain⟨v,w1,hr,hown,hgrow,hat⟩:=Qbj (P:=Tryz.prog) Tryz.underlying63 Qec rfl (by decide) (by decide) q v1 ([]:List Int) m A cap W h.q h.o1 hA (by simp;omega);simp only[List.length_nil,Nat.zero_add,List.nil_append]at hown;obtain⟨a,c,rfl,_⟩:=Qao hown;refine⟨a,c,w1,hr,⟨hown,Qes h.o2 hgrow (fun x hx e=> ?_),Nat.le_trans h.q hgrow.size⟩,fun p vs hp=>hp.kept hgrow (fun e=>Qdb h.o1 hp (by decide) p e.symm rfl),(Below.refl _ W).grown hgrow h.q (fun k e=>(h.o1.lt k e).1)⟩;rcases h.o2.2 with⟨rfl,_⟩|⟨g,c',cur,rfl,_,hg,_⟩
 . cases hx
 . have e1:g=x:=(by simpa [Value.ownBlock]using hx);subst e1;exact Qdb h.o1 (show Blk W g 145 cur from hg) (by decide) g e.symm rfl
theorem Du.app2 {A:Option Addr} {cap:Nat} {m:List An} (h:Du q W v1 v2 l1 []) (hA:At W A m) (hm:m.length<=1048576):
 ∃a c w',(Builtin.append_ #[100,100] 100 #[v2,.slice A m.length cap]).run Tryz.prog W= .ok (.slice a m.length c) w' /\Du q w' v1 (.slice a m.length c) l1 m/\(∀p vs,Blk W p 102 vs->Blk w' p 102 vs)/\Below q W w' :=by
 obtain⟨v,w1,hr,hown,hgrow,hat⟩:=Qbj (P:=Tryz.prog) Tryz.underlying100 Qou rfl (by decide) (by decide) q v2 ([]:List An) m A cap W h.q h.o2 hA (by simp;omega);simp only[List.length_nil,Nat.zero_add,List.nil_append]at hown;obtain⟨a,c,rfl,_⟩:=Qao hown;refine⟨a,c,w1,hr,⟨Qes h.o1 hgrow (fun x hx e=> ?_),hown,Nat.le_trans h.q hgrow.size⟩,fun p vs hp=>hp.kept hgrow (fun e=>Qdb h.o2 hp (by decide) p e.symm rfl),(Below.refl _ W).grown hgrow h.q (fun k e=>(h.o2.lt k e).1)⟩;rcases h.o1.2 with⟨rfl,_⟩|⟨g,c',cur,rfl,_,hg,_⟩
 . cases hx
 . have e1:g=x:=(by simpa [Value.ownBlock]using hx);subst e1;exact Qdb h.o2 (show Blk W g 3 cur from hg) (by decide) g e.symm rfl
end
abbrev putK (Y:World) (p:Nat) (v0 v1 v2 v3 v4 v5:Value):World:=(((((Y.setCell ⟨p,0,none⟩ v0).setCell ⟨p,1,none⟩ v1).setCell ⟨p,2,none⟩ v2).setCell ⟨p,3,none⟩ v3).setCell ⟨p,4,none⟩ v4).setCell ⟨p,5,none⟩ v5
theorem Qaw (Y:World) (p:Nat) (v0 v1 v2 v3 v4 v5:Value):Only p Y (putK Y p v0 v1 v2 v3 v4 v5):=(((((((Only.refl p Y).set 0 v0).set 1 v1).set 2 v2).set 3 v3).set 4 v4).set 5 v5)
theorem Qbv {Y:World} {p:Nat} {t:TypeId} {x0 x1 x2 x3 x4 x5:Value} (h:Blk Y p t #[x0,x1,x2,x3,x4,x5]) (v0 v1 v2 v3 v4 v5:Value):Blk (putK Y p v0 v1 v2 v3 v4 v5) p t #[v0,v1,v2,v3,v4,v5]:=(((((h.setAt 0 v0).setAt 1 v1).setAt 2 v2).setAt 3 v3).setAt 4 v4).setAt 5 v5
theorem Qbh {W:World} {p:Nat} {t:TypeId} {x0 x1 x2 x3 x4 x5:Value} (h:Blk W p t #[x0,x1,x2,x3,x4,x5]) (v0 v1 v2 v3 v4 v5:Value):
 (W.setCell ⟨p,0,none⟩ v0).cell? ⟨p,0,none⟩=some v0/\((W.setCell ⟨p,0,none⟩ v0).setCell ⟨p,1,none⟩ v1).cell? ⟨p,1,none⟩=some v1/\(((W.setCell ⟨p,0,none⟩ v0).setCell ⟨p,1,none⟩ v1).setCell ⟨p,2,none⟩ v2).cell? ⟨p,2,none⟩=some v2/\
  ((((W.setCell ⟨p,0,none⟩ v0).setCell ⟨p,1,none⟩ v1).setCell ⟨p,2,none⟩ v2).setCell ⟨p,3,none⟩ v3).cell? ⟨p,3,none⟩=some v3/\(((((W.setCell ⟨p,0,none⟩ v0).setCell ⟨p,1,none⟩ v1).setCell ⟨p,2,none⟩ v2).setCell ⟨p,3,none⟩ v3).setCell ⟨p,4,none⟩ v4).cell? ⟨p,4,none⟩=some v4/\
  (putK W p v0 v1 v2 v3 v4 v5).cell? ⟨p,5,none⟩=some v5:=
 ⟨(h.setAt 0 v0).cell (by rfl),((h.setAt 0 v0).setAt 1 v1).cell (by rfl),(((h.setAt 0 v0).setAt 1 v1).setAt 2 v2).cell (by rfl),((((h.setAt 0 v0).setAt 1 v1).setAt 2 v2).setAt 3 v3).cell (by rfl),(((((h.setAt 0 v0).setAt 1 v1).setAt 2 v2).setAt 3 v3).setAt 4 v4).cell (by rfl),(Qbv h v0 v1 v2 v3 v4 v5).cell (by rfl)⟩
structure KP {α:Type} [Cel α] (Pr:World->α->(Nat->Prop)->Prop) (t:TypeId) (Pk:World->Prop) (B:Nat) (w W:World) (kc:Array Value) (P:Nat) (vs:Array Value) (a:Option Addr) (cp:Nat) (xs:List α):Prop where
  kd:Kd w W kc
  box:Blk W P 102 vs
  hp:w.heap.size+1<P
  pb:P<B
  gu:GU Pr t B B W a cp xs
  pk:Pk W
  stay:Qty P B Pk
section
variable {α:Type} [Cel α] {Pr:World->α->(Nat->Prop)->Prop} {t:TypeId} {Pk:World->Prop} {B:Nat} {w W W1:World} {kc vs:Array Value} {P:Nat} {a:Option Addr} {cp:Nat} {xs:List α}
theorem KP.drew (hP:Firm Pr) (h:KP Pr t Pk B w W kc P vs a cp xs):KP Pr t Pk B w W.drew kc P vs a cp xs:=
 ⟨h.kd.below (Below.refl _ _).drew,h.box.drew,h.hp,h.pb,h.gu.offp hP (Offp.of_below (S:=fun _=>False) (Below.refl _ _).drew) (fun _ e=>e.elim),h.stay _ _ (fun _=>False) h.pk (Offp.of_below (Below.refl _ _).drew) (fun _ e=>e.elim),h.stay⟩
theorem KP.below (hP:Firm Pr) (h:KP Pr t Pk B w W kc P vs a cp xs) (k:Below W.heap.size W W1):KP Pr t Pk B w W1 kc P vs a cp xs:=
 ⟨h.kd.below k,h.box.below k h.box.lt,h.hp,h.pb,h.gu.offp hP (Offp.of_below (S:=fun _=>False) k) (fun _ e=>e.elim),h.stay _ _ (fun _=>False) h.pk (Offp.of_below k) (fun _ e=>e.elim),h.stay⟩
theorem KP.round (hP:Firm Pr) {pg:Program} {ts:TypeId} {z:Value} {bytes:Nat} (hu:pg.underlying ts=some (.slice t)) (hinfo:(pg.info? t).map (fun i=>(i.zero,i.size,i.bytes))=some (some z,Cel.k α,bytes)) (hz:z.cells.size=Cel.k α) (hk:0<Cel.k α) (hby:bytes<=1000)
 (h:KP Pr t Pk B w W kc P vs a cp xs) (k:Below W.heap.size W W1) (x:α) (hy:Pr W1 x (fun b=>W.heap.size<=b/\b<W1.heap.size)) (cs:Array Value) (hcs:cs.toList=Cel.cs x) (hx:xs.length<=2000000) (f:Nat):
 ∃a2 c2 W2,(Builtin.append_ #[ts,ts] ts (l1SS a xs.length cp (some ⟨W1.heap.size,0,none⟩) 1 1)).run pg (W1.alloc (.cells cs t))= .ok (.slice a2 (xs.length+1) c2) W2/\Blk W2 P 102 vs/\Kd w W2 kc/\
  KP Pr t Pk B w (W2.setCell ⟨P,f,none⟩ (.slice a2 (xs.length+1) c2)) kc P (vs.setIfInBounds f (.slice a2 (xs.length+1) c2)) a2 c2 (xs++ [x]):=by
 have h1:=h.below hP k;have hPl:=h.pb;obtain⟨a2,c2,W2,hr,hg,ko⟩:=h.gu.app hP hu hinfo hz hk hby (Offp.of_below (S:=fun _=>False) k) (fun _ e=>e.elim) x hy (fun y hy=>hy) cs hcs hx;have kb:=Qad (Below.refl _ W1) (.cells cs t);have h2:=h1.kd.below kb;have b2:Blk W2 P 102 vs:=(h1.box.below kb h1.box.lt).offp ko (by omega);have d2:Kd w W2 kc:=h2.offp ko (fun x hx=>by have:=h.hp;omega);have kc' :=Offp.of_only ((Only.refl P W2).set f (.slice a2 (xs.length+1) c2));refine⟨a2,c2,W2,hr,b2,d2,⟨d2.offp kc' (fun x hx=>by subst hx;exact h.hp),b2.setAt f _,h.hp,h.pb,hg.offp hP kc' (fun y e=>by subst e;exact h.pb),?_,h.stay⟩⟩;exact h.stay _ _ _ (h.stay _ _ _ (h.stay _ _ _ h1.pk (Offp.of_below (S:=fun _=>False) kb) (fun _ e=>e.elim)) ko (fun y e=> .inr e)) kc' (fun y e=> .inl e)
theorem KP.next {β:Type} [Cel β] {Q:World->β->(Nat->Prop)->Prop} {u:TypeId} (hP:Firm Pr) (h:KP Pr t Pk B w W kc P vs a cp xs):KP (α:=β) Q u (fun V=>Pk V/\Own Pr V a xs (fun b=>B<=b/\b<W.heap.size)) W.heap.size w W kc P vs none 0 []:=by
 have hB:=h.gu.hB;refine⟨h.kd,h.box,h.hp,by have:=h.pb;omega,GU.start (Nat.le_refl _) (Nat.le_refl _),⟨h.pk,h.gu.toOwn⟩,?_⟩;rintro V V' T ⟨p1,p2⟩ k hT;refine⟨h.stay _ _ _ p1 k (fun x hx=>(hT x hx).imp id (fun e=>by omega)),p2.offp hP k (fun x hx e=> ?_)⟩;rcases hT x e with e1|e1
 . have:=h.pb;omega
 . omega
end
end Go.Proofs.YtajbldnhjpjghaaGreat.Gen
namespace Go.Proofs.YtajbldnhjpjghaaGreat.Items
open ChangeShapes WideShapes ChangeAt RowKit Shelf Base
theorem Blk.spots {W:World} {B:Nat} {t:TypeId} {a b c:Value} (h:Blk W B t #[a,b,c]):
 (W.cell? ⟨B,0,none⟩).isSome=true/\(W.cell? ⟨B,1,none⟩).isSome=true/\(W.cell? ⟨B,2,none⟩).isSome=true/\W.frozen? ⟨B,0,none⟩=false/\W.frozen? ⟨B,1,none⟩=false/\W.frozen? ⟨B,2,none⟩=false:=by
 obtain⟨h0,h1,h2⟩:=h.row;exact⟨by rw[h0];rfl,by rw[h1];rfl,by rw[h2];rfl,h.thaw 0,h.thaw 1,h.thaw 2⟩
theorem held {W:World} {B:Nat} {t:TypeId} {a b c a' b' c' :Value} (h:Blk W B t #[a,b,c]) (h' :Blk W (B+1) t #[a',b',c']):
 W.cell? ⟨B,0,none⟩=some a/\W.cell? ⟨B,1,none⟩=some b/\W.cell? ⟨B,2,none⟩=some c/\
  (W.cell? ⟨B+1,0,none⟩).isSome=true/\(W.cell? ⟨B+1,1,none⟩).isSome=true/\(W.cell? ⟨B+1,2,none⟩).isSome=true/\
  W.frozen? ⟨B+1,0,none⟩=false/\W.frozen? ⟨B+1,1,none⟩=false/\W.frozen? ⟨B+1,2,none⟩=false:=by
 obtain⟨h0,h1,h2⟩:=h.row;obtain⟨s0,s1,s2,s3,s4,s5⟩:=h'.spots;exact⟨h0,h1,h2,s0,s1,s2,s3,s4,s5⟩
theorem l3Copy_any (start next:Int) (A:Option Addr) (cap:Nat) (l:List It) (hl:l.length<=1048576) (w:World) (hA:At w A l):
 Calls Tryz.prog 106 #[.agg (Qa5 start next A l.length cap)] w fun e w' =>∃v,e= .returned (.agg #[.int .i64 start,.int .i64 next,v])/\w'.ownsRow w.heap.size 136 5 v l.length (flat l)/\Below w.heap.size w w' :=by
 have HA:Hid (At w A l):=hA;clear hA;have p0:=(Blk.new w 134 (Qa5 start next A l.length cap)).alloc (.cells Qco 134);have p1:=Blk.new (w.alloc (.cells (Qa5 start next A l.length cap) 134)) 134 Qco;have B0:Below w.heap.size w ((w.alloc (.cells (Qa5 start next A l.length cap) 134)).alloc (.cells Qco 134)):=Qad (Qad (Below.refl _ _) _) _;have hsz:((w.alloc (.cells (Qa5 start next A l.length cap) 134)).alloc (.cells Qco 134)).heap.size=w.heap.size+2:=by simp
 rw[World.size_alloc]at p1;go_enter Tryz.func106,Tryz.ntmps106;go_wp2_with fail;generalize (w.alloc (.cells (Qa5 start next A l.length cap) 134)).alloc (.cells Qco 134)=W0 at p0 p1 B0 hsz ⊢;have q0:=p0.lt;have q1:=p1.lt;obtain⟨c0,c1,c2⟩:=p0.row;have X0:=(p0.alloc (.cells #[] 136)).drew;have X1:=(p1.alloc (.cells #[] 136)).drew;have hBX:Below w.heap.size w (W0.alloc (.cells #[] 136)).drew:=(Qad B0 _).drew;obtain⟨v,w1,hr,hown,hgrow,hat⟩:=Qc0 w.heap.size (.slice (some ⟨W0.heap.size,0,none⟩) 0 0) [] l A cap (W0.alloc (.cells #[] 136)).drew hBX.size
  ⟨rfl,.inr ⟨W0.heap.size,0,#[],rfl,by omega,World.alloc_heap_new W0 _,Nat.le_refl _,by simp[maxLen],rfl,rfl⟩⟩ (HA.out.below hBX) (by simp;omega)
 simp only[List.length_nil,Nat.zero_add,List.nil_append]at hown;have Y0:=X0.kept hgrow (by intro h;have:w.heap.size=W0.heap.size:=Option.some.inj h;omega);have Y1:=X1.kept hgrow (by intro h;have:w.heap.size+1=W0.heap.size:=Option.some.inj h;omega);have B1:Below w.heap.size w w1:=hBX.grown hgrow hBX.size (fun k e=>by have:W0.heap.size=k:=Option.some.inj e;omega);obtain⟨a,c,rfl,hc⟩:=Qao hown;have hn1:some (w.heap.size+1)≠(Value.slice a l.length c).ownBlock:=by
  rcases hat with e|e
  . rw[e];intro h;have:w.heap.size+1=W0.heap.size:=Option.some.inj h;omega
  . rw[e];intro h;have:=Option.some.inj h;have e2:(W0.alloc (Obj.cells #[] 136)).drew.heap.size=W0.heap.size+1:=World.size_alloc _ _;omega
 have Hn1:Hid (some (w.heap.size+1)≠(Value.slice a l.length c).ownBlock):=hn1;have Hown:Hid (w1.ownsRow w.heap.size 136 5 (.slice a l.length c) l.length (flat l)):=hown;have Z0:=((Y0.other (B' :=w.heap.size+1) (by omega) 0 (.int .i64 start)).other (B' :=w.heap.size+1) (by omega) 1 (.int .i64 next)).other (B' :=w.heap.size+1) (by omega) 2 (.slice a l.length c);have Z1:Blk _ (w.heap.size+1) 134 (Qa5 start next a l.length c):=((Y1.setAt 0 (.int .i64 start)).setAt 1 (.int .i64 next)).setAt 2 (.slice a l.length c);have SW:=held p0 p1;have SX:=held X0 X1;have SY:=held Y0 Y1;have SZ:=held Z0 Z1;have SD:=held p0.drew p1.drew;obtain⟨c0,c1,c2⟩:=p0.row;obtain⟨e0,e1,e2⟩:=Z1.row;obtain⟨n0,n1,n2⟩:=Y1.row;have k6:=Y1.thaw 0;have k7:=Y1.thaw 1;have k8:=Y1.thaw 2;clear hgrow hat hown hn1 hBX p0 p1 X0 X1 Y0 Y1 Z0 Z1 hc hsz q0 q1
 go_region_held3 (fun w' =>w'.cell? ⟨w.heap.size,0,none⟩=some (.int .i64 start)/\w'.cell? ⟨w.heap.size,1,none⟩=some (.int .i64 next)/\w'.cell? ⟨w.heap.size,2,none⟩=some (.slice A l.length cap)/\
  (w'.cell? ⟨w.heap.size+1,0,none⟩).isSome=true/\(w'.cell? ⟨w.heap.size+1,1,none⟩).isSome=true/\(w'.cell? ⟨w.heap.size+1,2,none⟩).isSome=true/\
  w'.frozen? ⟨w.heap.size+1,0,none⟩=false/\w'.frozen? ⟨w.heap.size+1,1,none⟩=false/\w'.frozen? ⟨w.heap.size+1,2,none⟩=false)
  (first|with_reducible exact SD|with_reducible exact SX|with_reducible exact SY|with_reducible exact SZ|with_reducible exact SW)
  (first
   |(refine Qez (by rfl) _ _ _ (by rfl) _ _ _ rfl rfl hr ?_))
 all_goals
  clear SW SX SY SZ SD n0 n1 n2 k6 k7 k8;go_wp2;exact bodyPost_ret (v:= .agg (Qa5 start next a l.length c)) (by simp[results,Tryz.results106,go_sem,e0,e1,e2]) rfl
   ⟨_,rfl,Qam (Qam (Qam Hown.out Hn1.out) Hn1.out) Hn1.out,Qav (Qav (Qav B1 (by omega) _) (by omega) _) (by omega) _⟩
end Go.Proofs.YtajbldnhjpjghaaGreat.Items
namespace Go.Proofs.YtajbldnhjpjghaaGreat.Gen
open ChangeShapes WideShapes ChangeAt RowKit Joins Deep Base
theorem Qki (B:Nat) (v:Value) (l m:List Mk) (A:Option Addr) (cap:Nat) (w:World) (hB:B<=w.heap.size) (hv:w.ownsRow B 141 2 v l.length (flat l)) (hA:At w A m) (hlen:l.length+m.length<=3000000):
 ∃v' w',(Builtin.append_ #[137,137] 137 #[v,.slice A m.length cap]).run Tryz.prog w= .ok v' w' /\w'.ownsRow B 141 2 v' (l.length+m.length) (flat (l++m))/\w.grownBy w' v.ownBlock/\(v'.ownBlock=v.ownBlock∨v'.ownBlock=some w.heap.size):=
 Qbj (α:=Mk) (P:=Tryz.prog) Tryz.underlying137 Qtm rfl (by decide) (by omega) B v l m A cap w hB hv hA hlen
theorem Qbb (row who epoch last:Int) (A:Option Addr) (cap:Nat) (l:List Mk) (hl:l.length<=1048576) (w:World) (hA:At w A l):
 Calls Tryz.prog 107 #[.agg (Qal row who epoch last A l.length cap)] w fun e w' =>∃v,e= .returned (.agg #[.int .i64 row,.int .i64 who,.int .i64 epoch,.int .i64 last,v])/\w'.ownsRow w.heap.size 141 2 v l.length (flat l)/\Below w.heap.size w w' :=by
 have B0:Below w.heap.size w (((w.alloc (.cells (Qal row who epoch last A l.length cap) 139)).alloc (.cells Qdz 139)).alloc (.cells #[] 141)):=Qad (Qad (Qad (Below.refl _ _) _) _) _;obtain⟨v,w1,hr,hown,hgrow,hat⟩:=Qki w.heap.size (.slice (some ⟨w.heap.size+1+1,0,none⟩) 0 0) [] l A cap (((w.alloc (.cells (Qal row who epoch last A l.length cap) 139)).alloc (.cells Qdz 139)).alloc (.cells #[] 141)) B0.size
  ⟨rfl,.inr ⟨w.heap.size+1+1,0,#[],rfl,by omega,by have:=Qfk ((w.alloc (.cells (Qal row who epoch last A l.length cap) 139)).alloc (.cells Qdz 139)) (.cells #[] 141);simpa only[World.size_alloc]using this,Nat.le_refl _,by simp[maxLen],rfl,rfl⟩⟩ (hA.below B0) (by simp;omega)
 simp only[List.length_nil,Nat.zero_add,List.nil_append]at hown;have p0:=(((Blk.new w 139 (Qal row who epoch last A l.length cap)).alloc (.cells Qdz 139)).alloc (.cells #[] 141)).kept hgrow (by intro h;have:w.heap.size=w.heap.size+1+1:=Option.some.inj h;omega);have p1:=((Blk.new (w.alloc (.cells (Qal row who epoch last A l.length cap) 139)) 139 Qdz).alloc (.cells #[] 141)).kept hgrow (by rw[World.size_alloc];intro h;have:w.heap.size+1=w.heap.size+1+1:=Option.some.inj h;omega);rw[World.size_alloc]at p1;have B1:Below w.heap.size w w1:=B0.grown hgrow B0.size (fun k e=>by have:w.heap.size+1+1=k:=Option.some.inj e;omega);obtain⟨c0,c1,c2,c3,c4⟩:=p0.row5;obtain⟨d0,d1,d2,d3,d4⟩:=p1.row5;have f4:=p0.thaw 4;have g0:=p1.thaw 0;have g1:=p1.thaw 1;have g2:=p1.thaw 2;have g3:=p1.thaw 3;have g4:=p1.thaw 4;obtain⟨a,c,rfl,hc⟩:=Qao hown;have hn:∀k,k<w.heap.size+1+1->some k≠(Value.slice a l.length c).ownBlock:=fun k hk=>by
  rcases hat with e|e
  . rw[e];intro h;have:k=w.heap.size+1+1:=Option.some.inj h;omega
  . rw[e];intro h;have:=Option.some.inj h;simp only[World.size_alloc]at this;omega
 have Hn0:=hidP (hn w.heap.size (by omega));have Hn1:=hidP (hn (w.heap.size+1) (by omega));have Hown:=hidP hown;clear hgrow hA hat hown hn;go_enter Tryz.func107,Tryz.ntmps107;go_wp2_with (at_builtin;refine Qac rfl _ _ _ rfl _ _ _ rfl rfl hr ?_);have p2:Blk _ (w.heap.size+1) 139 (Qal row who epoch last a l.length c):=(((((p1.other (B' :=w.heap.size) (by omega) 4 (.slice a l.length c)).setAt 0 (.int .i64 row)).setAt 1 (.int .i64 who)).setAt 2 (.int .i64 epoch)).setAt 3 (.int .i64 last)).setAt 4 (.slice a l.length c);obtain⟨e0,e1,e2,e3,e4⟩:=p2.row5;exact bodyPost_ret (v:= .agg (Qal row who epoch last a l.length c)) (by simp[results,Tryz.results107,go_sem,e0,e1,e2,e3,e4]) rfl
  ⟨_,rfl,Qam (Qam (Qam (Qam (Qam (Qam Hown.out Hn0.out) Hn1.out) Hn1.out) Hn1.out) Hn1.out) Hn1.out,Qav (Qav (Qav (Qav (Qav (Qav B1 (Nat.le_refl _) _) (by omega) _) (by omega) _) (by omega) _) (by omega) _) (by omega) _⟩
def mx (a b:Int):Int:=if a>b then a else b
theorem Qod (a b:Int) (w:World):Calls Tryz.prog 132 (l1II a b) w fun e w' =>e= .returned (.int .i64 (mx a b))/\w' =w:=by
 by_cases h:a>b
 . rw[show mx a b=a from if_pos h];go_enter Tryz.func132,Tryz.ntmps132;go_wp2;go_ret;exact⟨rfl,rfl⟩
 . rw[show mx a b=b from if_neg h];go_enter Tryz.func132,Tryz.ntmps132;go_wp2;go_ret;exact⟨rfl,rfl⟩
theorem Qh4 {α:Type} [Cel α] {B:Nat} {W:World} {g n c j:Nat} {t:TypeId} {L:List α} (hn:n=L.length) (h:W.ownsRow B t (Cel.k α) (.slice (some ⟨g,0,none⟩) n c) n (flat L)) (hj:j<=n):
 Fresh B W (.slice (if c=j then some ⟨g,0,none⟩else some ⟨g,j*Cel.k α,none⟩) (n - j) (c - j)) (L.drop j):=by
 subst hn;obtain⟨A,c',e,hc,hx⟩:=Qay h;cases e;refine⟨_,_,by rw[List.length_drop],by rw[List.length_drop];omega,?_⟩;by_cases hcj:c=j
 . left;exact List.drop_eq_nil_of_le (by omega)
 . rcases hx with hx|⟨b,o,e,hB,hb,hi,ht⟩
   . left;rw[hx];simp
   . cases e
     right
     refine⟨g,j*Cel.k α,by rw[if_neg hcj],hB,hb,by have:=hi.drop j;rwa [Nat.zero_add]at this,?_⟩;intro i hi';rw[List.length_drop,Nat.sub_mul]at hi';have hjl:j*Cel.k α<=L.length*Cel.k α:=Nat.mul_le_mul_right _ hj;have:=ht (j*Cel.k α+i) (by omega);rwa [Nat.zero_add]at this
def updm (m:Nat->Bool) (i:Nat):Nat->Bool:=fun j=>if j=i then true else m j
def updv (v:Nat->Value) (i:Nat) (x:Value):Nat->Value:=fun j=>if j=i then x else v j
def sl (m:Nat->Bool) (v:Nat->Value) (i:Nat):Value:=if m i then v i else undef
def latB (md:Region.Mode) (ops:Array Oper) (br:List Nat) (lst:(Nat->Bool)->Array Bool) (pre:Nat->(Nat->Bool)->Bool):Nat->(Nat->Bool)->Bool
  |0,m=>br.all m
  |d+1,m=> !(Region.ready md ops (lst m)).isEmpty&&(Region.ready md ops (lst m)).all (fun i=>br.contains i&&pre i m&&latB md ops br lst pre d (updm m i))
theorem Qpn {Pg:Program} {md:Region.Mode} {ops:Array Oper} {Q:Go.Exit->Act->World->Prop} {S:World->Prop} {f:Nat}
 (br:List Nat) (lst:(Nat->Bool)->Array Bool) (pre:Nat->(Nat->Bool)->Bool) (T:(Nat->Bool)->Act->World->Prop)
 (hl:∀i∈br,∀m,(lst m).setIfInBounds i true=lst (updm m i))
 (step:∀i∈br,∀m a w,pre i m=true->T m a w->S w->∃o,ops[i]? =some o/\∀K' :Act->World->Prop,Shut (∀a w,S w->T (updm m i) a w->K' a w)->if Region.wanted o (yielded ops a.tmps)=true then Oper.wp Pg o a w K' Q else K' (a.put o.dst undef) w)
 (tail:∀m a w,br.all m=true->T m a w->S w->wpAnyH Pg md ops Q S f (lst m) a w):
 ∀(d:Nat) (m:Nat->Bool) (a:Act) (w:World),latB md ops br lst pre d m=true->T m a w->S w->wpAnyH Pg md ops Q S (f+d) (lst m) a w
 |0,m,a,w,h,hT,hS=>tail m a w h hT hS
 |d+1,m,a,w,h,hT,hS=>by
  simp only[latB,Bool.and_eq_true,List.all_eq_true,Bool.not_eq_true',List.isEmpty_eq_false_iff]at h;obtain⟨h1,h2⟩:=h;refine wpAnyH_all rfl h1 fun i hi=> ?_
  obtain⟨⟨h3,h4⟩,h5⟩:=h2 i hi;have h3:i∈br:=by simpa using h3
  obtain⟨o,ho,hK⟩:=step i h3 m a w h4 hT hS;refine wpOp_step ho fun K' hK' =>hK K' fun a' w' hS' hT' =>hK' a' w' ⟨hS',?_⟩
  rw[hl i h3 m];exact Qpn br lst pre T hl step tail d (updm m i) a' w' h5 hT' hS'
def latT (md:Region.Mode) (ops:Array Oper) (br tr:List Nat) (lst:(Nat->Bool)->Array Bool) (pre:Nat->(Nat->Bool)->Bool) (tk:(Nat->Bool)->Option Nat):Nat->(Nat->Bool)->Bool
  |0,m=>br.all m&&tr.all m
  |d+1,m=>match tk m with
    |some i=>Region.noSelect ops&&Region.free md ops (lst m) i&&(Region.ready md ops (lst m)).contains i&&tr.contains i&&pre i m&&latT md ops br tr lst pre tk d (updm m i)
    |none=> !(Region.ready md ops (lst m)).isEmpty&&(Region.ready md ops (lst m)).all (fun i=>br.contains i&&pre i m&&latT md ops br tr lst pre tk d (updm m i))
theorem Qgi {Pg:Program} {md:Region.Mode} {ops:Array Oper} {Q:Go.Exit->Act->World->Prop} {S:World->Prop} {f:Nat}
 (br tr:List Nat) (lst:(Nat->Bool)->Array Bool) (pre:Nat->(Nat->Bool)->Bool) (tk:(Nat->Bool)->Option Nat) (T:(Nat->Bool)->Act->World->Prop)
 (hl:∀i∈br++tr,∀m,(lst m).setIfInBounds i true=lst (updm m i))
 (step:∀i∈br,∀m a w,pre i m=true->T m a w->S w->∃o,ops[i]? =some o/\∀K' :Act->World->Prop,Shut (∀a w,S w->T (updm m i) a w->K' a w)->if Region.wanted o (yielded ops a.tmps)=true then Oper.wp Pg o a w K' (NoPanic Q)else K' (a.put o.dst undef) w)
 (take:∀i∈tr,∀m a w,pre i m=true->T m a w->S w->∃o v,ops[i]? =some o/\Region.wanted o (yielded ops a.tmps)=true/\(∀w,S w->(execOp a.eval o).run Pg w= .ok (.value v) w)/\T (updm m i) (a.put o.dst v) w)
 (tail:∀m a w,br.all m=true->tr.all m=true->T m a w->S w->wpAnyH Pg md ops (NoPanic Q) S f (lst m) a w):
 ∀(d:Nat) (m:Nat->Bool) (a:Act) (w:World),latT md ops br tr lst pre tk d m=true->T m a w->S w->wpAnyH Pg md ops (NoPanic Q) S (f+d) (lst m) a w
 |0,m,a,w,h,hT,hS=>by
  simp only[latT,Bool.and_eq_true]at h;exact tail m a w h.1 h.2 hT hS
 |d+1,m,a,w,h,hT,hS=>by
  cases ht:tk m with
  |some i=>
   simp only[latT,ht,Bool.and_eq_true]at h;obtain⟨⟨⟨⟨⟨h1,h2⟩,h3⟩,h4⟩,h5⟩,h6⟩:=h;have h4:i∈tr:=(by simpa using h4);obtain⟨o,v,ho,hw,hy,hT'⟩:=take i h4 m a w h5 hT hS;refine wpAnyH_take ho h1 h2 h3 (fun _ _ _ h=>h) (.inl ⟨hw,hy⟩) hS ?_;rw[hl i (List.mem_append_right _ h4) m];exact Qgi br tr lst pre tk T hl step take tail d (updm m i) _ w h6 hT' hS
  |none=>
   simp only[latT,ht,Bool.and_eq_true,List.all_eq_true,Bool.not_eq_true',List.isEmpty_eq_false_iff]at h;obtain⟨h1,h2⟩:=h;refine wpAnyH_all rfl h1 fun i hi=> ?_
   obtain⟨⟨h3,h4⟩,h5⟩:=h2 i hi;have h3:i∈br:=(by simpa using h3);obtain⟨o,ho,hK⟩:=step i h3 m a w h4 hT hS;refine wpOp_step ho fun K' hK' =>hK K' fun a' w' hS' hT' =>hK' a' w' ⟨hS',?_⟩
   rw[hl i (List.mem_append_left _ h3) m];exact Qgi br tr lst pre tk T hl step take tail d (updm m i) a' w' h5 hT' hS'
section
variable {n:Nat} {W W' :World} {Part:Nat->Value->World->(Nat->Prop)->Prop} {m:Nat->Bool} {v:Nat->Value}
end
theorem Qpo {Pg:Program} {md:Region.Mode} {ops:Array Oper} {Q:Go.Exit->Act->World->Prop} {S:World->Prop} {n1:Nat} {l l1:Array Bool} {T:Act->World->Prop} {a:Act} {w:World} (h:∀a w,T a w->S w->wpAnyH Pg md ops Q S n1 l1 a w) (hl:l=l1) (hT:T a w) (hS:S w):wpAnyH Pg md ops Q S n1 l a w:=hl▸h a w hT hS
theorem Blk.row {W:World} {B:Nat} {t:TypeId} {old:Array Value} (p:Blk W B t old) (vs:Array Value):Blk (W.setRow B vs) B t vs:=setRow_heap W B old vs t (0,0) p
theorem Blk.otherRow {W:World} {B B' :Nat} {t:TypeId} {vs:Array Value} (h:Blk W B t vs) (hne:B≠B') (cs:Array Value):Blk (W.setRow B' cs) B t vs:=(setRow_other W B' B cs hne).trans h
theorem Offp.row {S:Nat->Prop} {w w1:World} (h:Offp S w w1) {b:Nat} (hb:S b) (cs:Array Value):Offp S w (w1.setRow b cs):=
 ⟨h.os,h.tape,h.output,by rw[setRow_size];exact h.size,fun k hk hn=>(setRow_other w1 b k cs (fun e=>hn (e▸hb))).trans (h.block k hk hn)⟩
theorem Qtt {B g:Nat} {w0 w:World} (h:Below B w0 w) (hg:B<=g) (cs:Array Value):Below B w0 (w.setRow g cs):=
 ⟨h.os,h.tape,h.output,by rw[setRow_size];exact h.size,fun k hk=>(setRow_other w g k cs (by omega)).trans (h.block k hk)⟩
section
variable {P:Program} {ops:Array Oper} {rest:List Oper} {op:Oper} {a:Act} {w:World} {Q:Go.Exit->Act->World->Prop}
end
theorem Qa2 {P:Program} {a:Act} {op:Oper} {w:World} {ty:TypeId} {x:Operand} (ho:op.op= .load ty x) {b:Nat} (hx:a.eval x= .pointer (some ⟨b,0,none⟩)) {t:TypeId} {vs:Array Value} (p:Blk w b t vs) {fs:Array Field} (hu:P.underlying ty=some (.struct fs)) (hi:(P.info? ty).map (·.size)=some vs.size):(execOp a.eval op).run P w= .ok (.value (.agg vs)) w:=by
 unfold execOp;simp only[ho,hx,Instr.loadAt,Instr.sureAddr,Sem.run_bind,Sem.run_pure,Result.andThen_ok,run_loadVar_row w b t ty vs (0,0) (.struct fs) p hu rfl hi]
end Go.Proofs.YtajbldnhjpjghaaGreat.Gen
