/-
  The specification's group without a member, at this seat. No condition but that its lists have at most 1048576 numbers.
-/
import Derived.Test.YtpippjjhelgnlaaGreatGrpCopy
set_option linter.unusedVariables false
set_option linter.unusedSimpArgs false
set_option maxRecDepth 100000
set_option maxHeartbeats 8000000
namespace Go.Proofs.YtpippjjhelgnlaaGreat.Gen
open ChangeShapes WideShapes ChangeAt RowKit Joins Deep Base
structure Wo (w W:World) (gen:Int) (vm vb vo:Value) (P:Nat) (x1 x2 x3:Option Addr) (y1 y2 y3:Nat) (l1 l2 l3:List Int):Prop where
  i:Wi w W gen vm vb vo
  p:Blk W P 80 (Qaj gen x1 l1.length y1 x2 l2.length y2 x3 l3.length y3)
  f:∃F,Gp W x1 x2 x3 l1 l2 l3 F/\∀x∈F,w.heap.size<=x/\x≠P/\x≠w.heap.size+1
  hp:w.heap.size+1<P
  k1:l1.length<=y1/\y1<=9223372036854775807
  k2:l2.length<=y2/\y2<=9223372036854775807
section
variable {w W W3:World} {gen:Int} {vm vb vo:Value} {P:Nat} {x1 x2 x3:Option Addr} {y1 y2 y3:Nat} {l1 l2 l3:List Int}
theorem Wo.rep1 (h:Wo w W gen vm vb vo P x1 x2 x3 y1 y2 y3 l1 l2 l3) (hb:Below W.heap.size W W3) {a:Option Addr} {n c:Nat} {l:List Int} (ho:W3.ownsRow W.heap.size 3 1 (.slice a n c) n (flat l)) (hn:n=l.length):
 Wo w (W3.setCell ⟨P,1,none⟩ (.slice a l.length c)) gen vm vb vo P a x2 x3 c y2 y3 l l2 l3:=by
 subst hn;obtain⟨F,⟨F1,F2,F3,rfl,s1,s2,s3,hnd⟩,hF⟩:=h.f;obtain⟨_,G,sG,kG⟩:=Sl.of_fresh (Qcv (α:=Int) rfl ho);have k:Off [P] W3 (W3.setCell ⟨P,1,none⟩ (.slice a l.length c)):=Qb2 (Off.refl _ _) P 1 _ (by simp);have hPl:=h.p.lt;have hs:=h.i.bl.size;have hr:=h.i.r.lt;refine⟨(h.i.below hb).off k h.hp,(h.p.below hb h.p.lt).setAt 1 _,⟨G++(F2++F3),⟨G,F2,F3,rfl,sG.off k (fun x hx=>by have:=kG x hx;simp;omega),(s2.below hb).off k (fun x hx=>by simpa using (hF x (by simp[hx])).2.1),(s3.below hb).off k (fun x hx=>by simpa using (hF x (by simp[hx])).2.1),?_⟩,?_⟩,h.hp,Qgb ho,h.k2⟩
 . rw[List.nodup_append]at hnd ⊢;refine⟨sG.nodup,hnd.2.1,fun x hx y hy e=> ?_⟩;have:=kG x hx;rcases List.mem_append.1 hy with hy|hy
   . have:=s2.lt y hy;omega
   . have:=s3.lt y hy;omega
 . intro x hx;rcases List.mem_append.1 hx with e|e
   . have:=kG x e;exact⟨by omega,by omega,by omega⟩
   . exact hF x (List.mem_append_right _ e)
theorem Wo.rep2 (h:Wo w W gen vm vb vo P x1 x2 x3 y1 y2 y3 l1 l2 l3) (hb:Below W.heap.size W W3) {a:Option Addr} {n c:Nat} {l:List Int} (ho:W3.ownsRow W.heap.size 3 1 (.slice a n c) n (flat l)) (hn:n=l.length):
 Wo w (W3.setCell ⟨P,2,none⟩ (.slice a l.length c)) gen vm vb vo P x1 a x3 y1 c y3 l1 l l3:=by
 subst hn;obtain⟨F,⟨F1,F2,F3,rfl,s1,s2,s3,hnd⟩,hF⟩:=h.f;obtain⟨_,G,sG,kG⟩:=Sl.of_fresh (Qcv (α:=Int) rfl ho);have k:Off [P] W3 (W3.setCell ⟨P,2,none⟩ (.slice a l.length c)):=Qb2 (Off.refl _ _) P 2 _ (by simp);have hPl:=h.p.lt;have hs:=h.i.bl.size;have hr:=h.i.r.lt;refine⟨(h.i.below hb).off k h.hp,(h.p.below hb h.p.lt).setAt 2 _,⟨F1++(G++F3),⟨F1,G,F3,rfl,(s1.below hb).off k (fun x hx=>by simpa using (hF x (by simp[hx])).2.1),sG.off k (fun x hx=>by have:=kG x hx;simp;omega),(s3.below hb).off k (fun x hx=>by simpa using (hF x (by simp[hx])).2.1),?_⟩,?_⟩,h.hp,h.k1,Qgb ho⟩
 . rw[List.nodup_append,List.nodup_append]at hnd ⊢;obtain⟨n1,⟨n2,n3,d23⟩,d1⟩:=hnd;refine⟨n1,⟨sG.nodup,n3,fun x hx y hy e=> ?_⟩,fun x hx y hy e=> ?_⟩
   . have:=kG x hx;have:=s3.lt y hy;omega
   . rcases List.mem_append.1 hy with hy|hy
     . have:=kG y hy;have:=s1.lt x hx;omega
     . exact d1 x hx y (List.mem_append_right _ hy) e
 . intro x hx;simp only[List.mem_append]at hx;rcases hx with e|e|e
   . exact hF x (by simp[e])
   . have:=kG x e;exact⟨by omega,by omega,by omega⟩
   . exact hF x (by simp[e])
theorem Wo.told (h:Wo w W gen vm vb vo P x1 x2 x3 y1 y2 y3 l1 l2 l3):
 ToldC w (putG W (w.heap.size+1) (.int .i64 gen) (.slice x1 l1.length y1) (.slice x2 l2.length y2) (.slice x3 l3.length y3)) (.returned (.agg (Qaj gen x1 l1.length y1 x2 l2.length y2 x3 l3.length y3))) gen l1 l2 l3:=by
 obtain⟨F,hG,hF⟩:=h.f;exact⟨x1,x2,x3,y1,y2,y3,F,rfl,h.i.bl.trans ((Qc0 W (w.heap.size+1) _ _ _ _).toBelow (by simp) h.i.bl.size),hG.off (Qc0 W (w.heap.size+1) _ _ _ _) (fun x hx=>by simpa using (hF x hx).2.2),fun x hx=>(hF x hx).1,h.k1,h.k2⟩
theorem Wo.drew (h:Wo w W gen vm vb vo P x1 x2 x3 y1 y2 y3 l1 l2 l3):Wo w W.drew gen vm vb vo P x1 x2 x3 y1 y2 y3 l1 l2 l3:=by
 obtain⟨F,hG,hF⟩:=h.f;exact⟨h.i.below (Below.drew (Below.refl _ _)),h.p.below (Below.drew (Below.refl _ _)) h.p.lt,⟨F,hG.below (Below.drew (Below.refl _ _)),hF⟩,h.hp,h.k1,h.k2⟩
end
theorem Qh4 (W:World) (A D:Option Addr) (c d:Nat) (l1 l2:List Int) (h1:l1.length<=1048576) (h2:l2.length<=1048576) (hA:At W A l1) (hD:At W D l2):
 ∃x y w2 x' y' w3,(Builtin.append_ #[29,29] 29 #[.slice (some ⟨W.heap.size,0,none⟩) 0 0,.slice A l1.length c]).run Tryz.prog (W.alloc (.cells #[] 3))= .ok (.slice x l1.length y) w2/\(Builtin.append_ #[29,29] 29 #[.slice x l1.length y,.slice D l2.length d]).run Tryz.prog w2= .ok (.slice x' (l1++l2).length y') w3/\
  Below W.heap.size W w2/\Below W.heap.size W w3/\w3.ownsRow W.heap.size 3 1 (.slice x' (l1++l2).length y') (l1++l2).length (flat (l1++l2)):=by
 have b0:Below W.heap.size W (W.alloc (.cells #[] 3)):=Qad (Below.refl _ _) _;have o0:(W.alloc (.cells #[] 3)).ownsRow W.heap.size 3 1 (.slice (some ⟨W.heap.size,0,none⟩) 0 0) ([]:List Int).length (flat ([]:List Int)):=World.ownsRow_made W #[] 0 (Nat.le_refl _) (by simp[maxLen]) rfl;obtain⟨v,w2,hr,ho,hg,hat⟩:=Qbh (P:=Tryz.prog) Tryz.underlying29 Qd7 rfl (by decide) (by decide) W.heap.size _ ([]:List Int) l1 A c _ b0.size o0 (hA.below b0) (by simp;omega);simp only[List.length_nil,Nat.zero_add,List.nil_append]at ho;obtain⟨x,y,rfl,_⟩:=Qao ho;have b2:Below W.heap.size W w2:=b0.grown hg b0.size (fun k e=>(o0.lt k e).1);obtain⟨v,w3,hr3,ho3,hg3,_⟩:=Qbh (P:=Tryz.prog) Tryz.underlying29 Qd7 rfl (by decide) (by decide) W.heap.size _ l1 l2 D d w2 b2.size ho (hD.below b2) (by omega);have b3:Below W.heap.size W w3:=b2.grown hg3 b2.size (fun k e=>(ho.lt k e).1);rw[← List.length_append]at ho3;obtain⟨x',y',rfl,_⟩:=Qao ho3;exact⟨x,y,w2,x',y',w3,hr,hr3,b2,b3,ho3⟩
theorem Qe5 {w:World} {A:Option Addr} {l:List Int} (h:At w A l) (n:Nat):At w A (l.take n):=by
 rcases h with rfl|⟨b,o,rfl,hb,hi⟩
 . exact .inl (by simp)
 . refine .inr ⟨b,o,rfl,hb,fun j v hv=>hi j v ?_⟩;have hl:=List.take_append_drop n l;rw[← hl,Qda];have hj:=(List.getElem?_eq_some_iff.1 hv).1;rw[List.getElem?_append_left hj];exact hv
theorem Qk6 {w:World} {b o c n:Nat} {l:List Int} (hb:b<w.heap.size) (hi:In w b o l) (hc:l.length<=c):At w (if c=n then some ⟨b,o,none⟩else some ⟨b,o+n,none⟩) (l.drop n):=by
 by_cases e:c=n
 . exact .inl (List.drop_eq_nil_of_le (by omega))
 . rw[if_neg e];have h2:=In.drop n hi;have e1:o+n*Cel.k Int=o+n:=(by show o+n*1=_;omega);rw[e1]at h2;exact .inr ⟨b,o+n,rfl,hb,h2⟩
theorem Qer (l:List Int) (n:Nat):l.take n++l.drop (n+1)=l.eraseIdx n:=(List.eraseIdx_eq_take_drop_succ l n).symm
theorem Qd6 (gen:Int) (A B C:Option Addr) (ca cb cc:Nat) (m b o:List Int) (hm:m.length<=1048576) (hb:b.length<=1048576) (ho:o.length<=1048576) (hca:m.length<=ca/\ca<=9223372036854775807) (hcb:b.length<=cb/\cb<=9223372036854775807) (i:Nat) (hi:i<m.length) (w:World) (hA:At w A m) (hB:At w B b) (hC:At w C o):
 Calls Tryz.prog 212 #[.agg (Qaj gen A m.length ca B b.length cb C o.length cc),.int .i64 (i:Int)] w fun e w' =>ToldC w w' e gen (m.eraseIdx i) (b.eraseIdx i) o:=by
 have HA:=hidP hA;have HB:=hidP hB;have HC:=hidP hC;obtain⟨ca1,ca2⟩:=hca;obtain⟨cb1,cb2⟩:=hcb;clear hA hB hC;go_enter Tryz.func212,Tryz.ntmps212;go_wp2_with fail;have I0:Wi w ((w.alloc (.cells (Qaj gen A m.length ca B b.length cb C o.length cc) 80)).alloc (.cells Qcp 80)) gen (.slice A m.length ca) (.slice B b.length cb) (.slice C o.length cc):=⟨by repeat(first|exact Below.refl _ _|assumption|refine via0 (by assumption) ?_|refine Below.drew ?_|refine Qad ?_ _),(Blk.new w 80 (Qaj gen A m.length ca B b.length cb C o.length cc)).alloc _,by have:=Blk.new (w.alloc (.cells (Qaj gen A m.length ca B b.length cb C o.length cc) 80)) 80 Qcp;rw[World.size_alloc]at this;exact this⟩
 refine(Qdk gen A B C ca cb cc m b o hm hb ho _ (HA.out.below I0.bl) (HB.out.below I0.bl) (HC.out.below I0.bl)).mono ?_;rintro e w1 ⟨a1,a2,a3,c1,c2,c3,F,rfl,g1,hG,hF,k1,k2⟩;have I1:=I0.below g1;have J1:Wo w (w1.alloc (.cells (Qaj gen a1 m.length c1 a2 b.length c2 a3 o.length c3) 80)) gen (.slice A m.length ca) (.slice B b.length cb) (.slice C o.length cc) w1.heap.size a1 a2 a3 c1 c2 c3 m b o:=
  ⟨I1.alloc _,Blk.new w1 80 _,⟨F,hG.alloc _,fun x hx=>by have:=hF x hx;have:=hG.lt x hx;simp at*;omega⟩,I1.r.lt,k1,k2⟩
 have hlt1:i<m.length:=hi;obtain⟨i1,hx1⟩:∃k,k=i+1:=⟨_,rfl⟩
 have hwr:IntKind.i64.wrap ((i:Int)+1)=(i1:Int):=by rw[IntKind.wrap_i64];omega
 go_wp2_with fail;generalize w1.alloc (.cells (Qaj gen a1 m.length c1 a2 b.length c2 a3 o.length c3) 80)=W1 at*;generalize w1.heap.size=P at*;obtain⟨bA1,oA1,rfl,hbs1,hin1⟩:∃b' o',A=some ⟨b',o',none⟩/\b' <w.heap.size/\In w b' o' m:=by
  rcases HA.out with h|h
  . subst h;simp at hlt1
  . exact h
 have hBl1:=J1.drew.i.bl;have hT1:=Qe5 (HA.out.below hBl1) i;have hD1:=Qk6 (n:=i1) (c:=ca) (Nat.lt_of_lt_of_le hbs1 hBl1.size) (hin1.below hbs1 hBl1) (by omega);obtain⟨x1,y1,wa1,x'1,y'1,wb1,hra1,hrb1,ba1,bb1,ob1⟩:=Qh4 W1.drew _ _ ca (ca - i1) (m.take i) (m.drop i1) (by simp;omega) (by simp;omega) hT1 hD1;rw[hx1,Qer]at ob1;have hee:(m.take i++m.drop i1)=m.eraseIdx i:=by rw[hx1,Qer]
 rw[hee]at hrb1;have e11:(m.take i).length=i:=by simp;omega
 have e21:(m.drop i1).length=m.length - i1:=List.length_drop;rw[e11]at hra1 hrb1;rw[e21]at hrb1;obtain⟨n1,hn1⟩:∃k,k=(m.eraseIdx i).length:=⟨_,rfl⟩
 rw[← hn1]at hrb1 ob1;have K1:=J1.drew.rep1 bb1 ob1 hn1;rw[← hn1]at K1;have V1:=J1.drew.p.below bb1 J1.drew.p.lt;obtain⟨t0,t1,t2,t3⟩:=V1.row4;have th:=V1.thaw 1;have S0:=J1.drew.i.s4.2.1;have Sa:=(J1.i.alloc (.cells #[] 3)).s4.2.1;have Sb:=(J1.drew.i.below ba1).s4.2.1;have Sc:=(J1.drew.i.below bb1).s4.2.1;have Sd:=K1.i.s4.2.1;have hi1:((i1:Nat):Int)<=(ca:Int):=by omega
 have hi2:((i1:Nat):Int)<=(m.length:Int):=by omega
 have hi3:((i:Nat):Int)<=(ca:Int):=by omega
 have hi4:(m.length:Int)<=(ca:Int):=by omega
 have Hx:=hidP hx1;clear hee;have Hlt:=hidP hlt1;have HK1:=hidP K1;have Hn1:=hidP hn1;clear hn1;have HJ1:=hidP J1;clear K1 hT1 hD1 ob1 V1;by_cases hcj:i1=ca
 . subst hcj;rw[if_pos rfl,Nat.sub_self,show m.length - i1=0 by omega]at hrb1;clear hx1;refine wp_region_noPanic ?_;refine wp_region_held_drew (S:=fun(w' :World)=>w'.cell? ⟨w.heap.size,1,none⟩=some (.slice (some ⟨bA1,oA1,none⟩) m.length i1)) (by kernel_rfl) ?_ (fun hH=> ?_)
   . exact S0
   refine ztk [1,2,3,4,6,7,8,9,10] ?_;repeat(refine ztn (h:= ?_);try simp only[zX,zY])
   refine zte ?_;refine zR1 0 (fun K hK=> ?_);simp only[zG];go_simp;refine hK.out _ _ Sa fun hH=> ?_;clear hK K;try simp only[zX,zY]
   refine zR1 5 (fun K hK=> ?_);simp only[zG];rw[if_pos (by rfl)];refine Qag _ _ _ (by rfl) _ _ _ (by rfl) (by rfl) hra1 ?_;refine hK.out _ _ Sb fun hH=> ?_;clear hK K;try simp only[zX,zY]
   refine zR1 11 (fun K hK=> ?_);simp only[zG];rw[if_pos (by rfl)];refine Qag _ _ _ (by rfl) _ _ _ (by rfl) (by rfl) hrb1 ?_;refine hK.out _ _ Sc fun hH=> ?_;clear hK K;try simp only[zX,zY]
   refine zt1 12 ?_;refine ztn (h:= ?_);try simp only[zX,zY]
   refine zte ?_;refine zR1 13 (fun K hK=> ?_);simp only[zG];go_simp;refine hK.out _ _ Sd fun hH=> ?_;clear hK K;try simp only[zX,zY]
   refine zdn ?_;clear S0 Sa Sb Sc Sd t0 t1 t2 t3 th hi1 hi2 hi3 hi4 hra1 hrb1 hin1;have hx1:=Hx.out;clear Hx Hlt;generalize wb1.setCell ⟨P,1,none⟩ (.slice x'1 n1 y'1)=W1' at*;have J2:=HK1.out;obtain⟨g0,g1,g2,g3⟩:=J2.i.s4;by_cases hlt2:i<b.length
   . have hib:(i:Int)<(b.length:Int):=(by omega);go_wp2_with fail;obtain⟨bA2,oA2,rfl,hbs2,hin2⟩:∃b' o',B=some ⟨b',o',none⟩/\b' <w.heap.size/\In w b' o' b:=by
      rcases HB.out with h|h
      . subst h;simp at hlt2
      . exact h
     have hBl2:=J2.drew.i.bl;have hT2:=Qe5 (HB.out.below hBl2) i;have hD2:=Qk6 (n:=i1) (c:=cb) (Nat.lt_of_lt_of_le hbs2 hBl2.size) (hin2.below hbs2 hBl2) (by omega);obtain⟨x2,y2,wa2,x'2,y'2,wb2,hra2,hrb2,ba2,bb2,ob2⟩:=Qh4 W1'.drew _ _ cb (cb - i1) (b.take i) (b.drop i1) (by simp;omega) (by simp;omega) hT2 hD2;rw[hx1,Qer]at ob2;have hee:(b.take i++b.drop i1)=b.eraseIdx i:=(by rw[hx1,Qer]);rw[hee]at hrb2;have e12:(b.take i).length=i:=(by simp;omega);have e22:(b.drop i1).length=b.length - i1:=List.length_drop;rw[e12]at hra2 hrb2;rw[e22]at hrb2;obtain⟨n2,hn2⟩:∃k,k=(b.eraseIdx i).length:=⟨_,rfl⟩
     rw[← hn2]at hrb2 ob2;have K2:=J2.drew.rep2 bb2 ob2 hn2;rw[← hn2]at K2;have V2:=J2.drew.p.below bb2 J2.drew.p.lt;obtain⟨t0,t1,t2,t3⟩:=V2.row4;have th:=V2.thaw 2;have S0:=J2.drew.i.s4.2.2.1;have Sa:=(J2.i.alloc (.cells #[] 3)).s4.2.2.1;have Sb:=(J2.drew.i.below ba2).s4.2.2.1;have Sc:=(J2.drew.i.below bb2).s4.2.2.1;have Sd:=K2.i.s4.2.2.1;have hi1:((i1:Nat):Int)<=(cb:Int):=(by omega);have hi2:((i1:Nat):Int)<=(b.length:Int):=(by omega);have hi3:((i:Nat):Int)<=(cb:Int):=(by omega);have hi4:(b.length:Int)<=(cb:Int):=(by omega);have Hx:=hidP hx1;clear hee;have Hlt:=hidP hlt2;have HK2:=hidP K2;have Hn2:=hidP hn2;clear hn2;have HJ2:=hidP J2;clear K2 hT2 hD2 ob2 V2;by_cases hcj:i1=cb
     focus
      subst hcj;rw[if_pos rfl,Nat.sub_self,show b.length - i1=0 by omega]at hrb2;clear hx1;refine wp_region_noPanic ?_;refine wp_region_held_drew (S:=fun(w' :World)=>w'.cell? ⟨w.heap.size,2,none⟩=some (.slice (some ⟨bA2,oA2,none⟩) b.length i1)) (by kernel_rfl) ?_ (fun hH=> ?_)
      . exact S0
      refine ztk [1,2,3,4,6,7,8,9,10] ?_;repeat(refine ztn (h:= ?_);try simp only[zX,zY])
      refine zte ?_;refine zR1 0 (fun K hK=> ?_);simp only[zG];go_simp;refine hK.out _ _ Sa fun hH=> ?_;clear hK K;try simp only[zX,zY]
      refine zR1 5 (fun K hK=> ?_);simp only[zG];rw[if_pos (by rfl)];refine Qag _ _ _ (by rfl) _ _ _ (by rfl) (by rfl) hra2 ?_;refine hK.out _ _ Sb fun hH=> ?_;clear hK K;try simp only[zX,zY]
      refine zR1 11 (fun K hK=> ?_);simp only[zG];rw[if_pos (by rfl)];refine Qag _ _ _ (by rfl) _ _ _ (by rfl) (by rfl) hrb2 ?_;refine hK.out _ _ Sc fun hH=> ?_;clear hK K;try simp only[zX,zY]
      refine zt1 12 ?_;refine ztn (h:= ?_);try simp only[zX,zY]
      refine zte ?_;refine zR1 13 (fun K hK=> ?_);simp only[zG];go_simp;refine hK.out _ _ Sd fun hH=> ?_;clear hK K;try simp only[zX,zY]
      refine zdn ?_;clear S0 Sa Sb Sc Sd t0 t1 t2 t3 th hi1 hi2 hi3 hi4 hra2 hrb2 hin2
     rotate_left
     focus
      rw[if_neg (fun e=>hcj e.symm)]at hrb2;have hcj2:¬cb=i1:=fun e=>hcj e.symm
      clear hx1;refine wp_region_noPanic ?_;refine wp_region_held_drew (S:=fun(w' :World)=>w'.cell? ⟨w.heap.size,2,none⟩=some (.slice (some ⟨bA2,oA2,none⟩) b.length cb)) (by kernel_rfl) ?_ (fun hH=> ?_)
      . exact S0
      refine ztk [1,2,3,4,6,7,8,9,10] ?_;repeat(refine ztn (h:= ?_);try simp only[zX,zY])
      refine zte ?_;refine zR1 0 (fun K hK=> ?_);simp only[zG];go_simp;refine hK.out _ _ Sa fun hH=> ?_;clear hK K;try simp only[zX,zY]
      refine zR1 5 (fun K hK=> ?_);simp only[zG];rw[if_pos (by rfl)];refine Qag _ _ _ (by rfl) _ _ _ (by rfl) (by rfl) hra2 ?_;refine hK.out _ _ Sb fun hH=> ?_;clear hK K;try simp only[zX,zY]
      refine zR1 11 (fun K hK=> ?_);simp only[zG];rw[if_pos (by rfl)];refine Qag _ _ _ (by rfl) _ _ _ (by rfl) (by rfl) hrb2 ?_;refine hK.out _ _ Sc fun hH=> ?_;clear hK K;try simp only[zX,zY]
      refine zt1 12 ?_;refine ztn (h:= ?_);try simp only[zX,zY]
      refine zte ?_;refine zR1 13 (fun K hK=> ?_);simp only[zG];go_simp;refine hK.out _ _ Sd fun hH=> ?_;clear hK K;try simp only[zX,zY]
      refine zdn ?_;clear S0 Sa Sb Sc Sd t0 t1 t2 t3 th hi1 hi2 hi3 hi4 hcj hcj2 hra2 hrb2 hin2
     all_goals
      have hx1:=Hx.out;clear Hx Hlt;generalize wb2.setCell ⟨P,2,none⟩ (.slice x'2 n2 y'2)=W2' at*;have V:=HK2.out.p;have I:=HK2.out.i;rw[← Hn1.out]at V;rw[← Hn2.out]at V;obtain⟨t0,t1,t2,t3⟩:=V.row4;obtain⟨r0,r1,r2,r3⟩:=I.r.row4;have f0:=I.r.thaw 0;have f1:=I.r.thaw 1;have f2:=I.r.thaw 2;have f3:=I.r.thaw 3;go_wp2;have k0:Blk (W2'.setCell ⟨w.heap.size+1,0,none⟩ (.int .i64 gen)) (w.heap.size+1) 80 (Qaj gen none 0 0 none 0 0 none 0 0):=I.r.setAt 0 _;have s0:(W2'.setCell ⟨w.heap.size+1,0,none⟩ (.int .i64 gen)).cell? ⟨w.heap.size+1,0,none⟩=some (.int .i64 gen):=k0.row4.1;have k1:Blk ((W2'.setCell ⟨w.heap.size+1,0,none⟩ (.int .i64 gen)).setCell ⟨w.heap.size+1,1,none⟩ (.slice x'1 n1 y'1)) (w.heap.size+1) 80 (Qaj gen x'1 n1 y'1 none 0 0 none 0 0):=k0.setAt 1 _;have s1:((W2'.setCell ⟨w.heap.size+1,0,none⟩ (.int .i64 gen)).setCell ⟨w.heap.size+1,1,none⟩ (.slice x'1 n1 y'1)).cell? ⟨w.heap.size+1,1,none⟩=some (.slice x'1 n1 y'1):=k1.row4.2.1;have k2:Blk (((W2'.setCell ⟨w.heap.size+1,0,none⟩ (.int .i64 gen)).setCell ⟨w.heap.size+1,1,none⟩ (.slice x'1 n1 y'1)).setCell ⟨w.heap.size+1,2,none⟩ (.slice x'2 n2 y'2)) (w.heap.size+1) 80 (Qaj gen x'1 n1 y'1 x'2 n2 y'2 none 0 0):=k1.setAt 2 _;have s2:(((W2'.setCell ⟨w.heap.size+1,0,none⟩ (.int .i64 gen)).setCell ⟨w.heap.size+1,1,none⟩ (.slice x'1 n1 y'1)).setCell ⟨w.heap.size+1,2,none⟩ (.slice x'2 n2 y'2)).cell? ⟨w.heap.size+1,2,none⟩=some (.slice x'2 n2 y'2):=k2.row4.2.2.1;have k3:Blk ((((W2'.setCell ⟨w.heap.size+1,0,none⟩ (.int .i64 gen)).setCell ⟨w.heap.size+1,1,none⟩ (.slice x'1 n1 y'1)).setCell ⟨w.heap.size+1,2,none⟩ (.slice x'2 n2 y'2)).setCell ⟨w.heap.size+1,3,none⟩ (.slice a3 o.length c3)) (w.heap.size+1) 80 (Qaj gen x'1 n1 y'1 x'2 n2 y'2 a3 o.length c3):=k2.setAt 3 _
      have s3:((((W2'.setCell ⟨w.heap.size+1,0,none⟩ (.int .i64 gen)).setCell ⟨w.heap.size+1,1,none⟩ (.slice x'1 n1 y'1)).setCell ⟨w.heap.size+1,2,none⟩ (.slice x'2 n2 y'2)).setCell ⟨w.heap.size+1,3,none⟩ (.slice a3 o.length c3)).cell? ⟨w.heap.size+1,3,none⟩=some (.slice a3 o.length c3):=k3.row4.2.2.2;refine bodyPost_ret (v:= .agg (Qaj gen x'1 n1 y'1 x'2 n2 y'2 a3 o.length c3)) (by simp[results,Tryz.results212,go_sem,s0,s1,s2,s3]) rfl ?_;have hto:=HK2.out.told;rw[← Hn1.out]at hto;rw[← Hn2.out]at hto;exact hto
   . have hib:¬(i:Int)<(b.length:Int):=(by omega);have V:=HK1.out.p;have I:=HK1.out.i;rw[← Hn1.out]at V;obtain⟨t0,t1,t2,t3⟩:=V.row4;obtain⟨r0,r1,r2,r3⟩:=I.r.row4;have f0:=I.r.thaw 0;have f1:=I.r.thaw 1;have f2:=I.r.thaw 2;have f3:=I.r.thaw 3;go_wp2;have k0:Blk (W1'.setCell ⟨w.heap.size+1,0,none⟩ (.int .i64 gen)) (w.heap.size+1) 80 (Qaj gen none 0 0 none 0 0 none 0 0):=I.r.setAt 0 _;have s0:(W1'.setCell ⟨w.heap.size+1,0,none⟩ (.int .i64 gen)).cell? ⟨w.heap.size+1,0,none⟩=some (.int .i64 gen):=k0.row4.1;have k1:Blk ((W1'.setCell ⟨w.heap.size+1,0,none⟩ (.int .i64 gen)).setCell ⟨w.heap.size+1,1,none⟩ (.slice x'1 n1 y'1)) (w.heap.size+1) 80 (Qaj gen x'1 n1 y'1 none 0 0 none 0 0):=k0.setAt 1 _;have s1:((W1'.setCell ⟨w.heap.size+1,0,none⟩ (.int .i64 gen)).setCell ⟨w.heap.size+1,1,none⟩ (.slice x'1 n1 y'1)).cell? ⟨w.heap.size+1,1,none⟩=some (.slice x'1 n1 y'1):=k1.row4.2.1;have k2:Blk (((W1'.setCell ⟨w.heap.size+1,0,none⟩ (.int .i64 gen)).setCell ⟨w.heap.size+1,1,none⟩ (.slice x'1 n1 y'1)).setCell ⟨w.heap.size+1,2,none⟩ (.slice a2 b.length c2)) (w.heap.size+1) 80 (Qaj gen x'1 n1 y'1 a2 b.length c2 none 0 0):=k1.setAt 2 _;have s2:(((W1'.setCell ⟨w.heap.size+1,0,none⟩ (.int .i64 gen)).setCell ⟨w.heap.size+1,1,none⟩ (.slice x'1 n1 y'1)).setCell ⟨w.heap.size+1,2,none⟩ (.slice a2 b.length c2)).cell? ⟨w.heap.size+1,2,none⟩=some (.slice a2 b.length c2):=k2.row4.2.2.1;have k3:Blk ((((W1'.setCell ⟨w.heap.size+1,0,none⟩ (.int .i64 gen)).setCell ⟨w.heap.size+1,1,none⟩ (.slice x'1 n1 y'1)).setCell ⟨w.heap.size+1,2,none⟩ (.slice a2 b.length c2)).setCell ⟨w.heap.size+1,3,none⟩ (.slice a3 o.length c3)) (w.heap.size+1) 80 (Qaj gen x'1 n1 y'1 a2 b.length c2 a3 o.length c3):=k2.setAt 3 _
     have s3:((((W1'.setCell ⟨w.heap.size+1,0,none⟩ (.int .i64 gen)).setCell ⟨w.heap.size+1,1,none⟩ (.slice x'1 n1 y'1)).setCell ⟨w.heap.size+1,2,none⟩ (.slice a2 b.length c2)).setCell ⟨w.heap.size+1,3,none⟩ (.slice a3 o.length c3)).cell? ⟨w.heap.size+1,3,none⟩=some (.slice a3 o.length c3):=k3.row4.2.2.2;refine bodyPost_ret (v:= .agg (Qaj gen x'1 n1 y'1 a2 b.length c2 a3 o.length c3)) (by simp[results,Tryz.results212,go_sem,s0,s1,s2,s3]) rfl ?_;have hto:=HK1.out.told;rw[← Hn1.out]at hto;rw[show b.eraseIdx i=b from List.eraseIdx_of_length_le (by omega)];exact hto
 . rw[if_neg (fun e=>hcj e.symm)]at hrb1;have hcj2:¬ca=i1:=fun e=>hcj e.symm
   clear hx1;refine wp_region_noPanic ?_;refine wp_region_held_drew (S:=fun(w' :World)=>w'.cell? ⟨w.heap.size,1,none⟩=some (.slice (some ⟨bA1,oA1,none⟩) m.length ca)) (by kernel_rfl) ?_ (fun hH=> ?_)
   . exact S0
   refine ztk [1,2,3,4,6,7,8,9,10] ?_;repeat(refine ztn (h:= ?_);try simp only[zX,zY])
   refine zte ?_;refine zR1 0 (fun K hK=> ?_);simp only[zG];go_simp;refine hK.out _ _ Sa fun hH=> ?_;clear hK K;try simp only[zX,zY]
   refine zR1 5 (fun K hK=> ?_);simp only[zG];rw[if_pos (by rfl)];refine Qag _ _ _ (by rfl) _ _ _ (by rfl) (by rfl) hra1 ?_;refine hK.out _ _ Sb fun hH=> ?_;clear hK K;try simp only[zX,zY]
   refine zR1 11 (fun K hK=> ?_);simp only[zG];rw[if_pos (by rfl)];refine Qag _ _ _ (by rfl) _ _ _ (by rfl) (by rfl) hrb1 ?_;refine hK.out _ _ Sc fun hH=> ?_;clear hK K;try simp only[zX,zY]
   refine zt1 12 ?_;refine ztn (h:= ?_);try simp only[zX,zY]
   refine zte ?_;refine zR1 13 (fun K hK=> ?_);simp only[zG];go_simp;refine hK.out _ _ Sd fun hH=> ?_;clear hK K;try simp only[zX,zY]
   refine zdn ?_;clear S0 Sa Sb Sc Sd t0 t1 t2 t3 th hi1 hi2 hi3 hi4 hcj hcj2 hra1 hrb1 hin1;have hx1:=Hx.out;clear Hx Hlt;generalize wb1.setCell ⟨P,1,none⟩ (.slice x'1 n1 y'1)=W1' at*;have J2:=HK1.out;obtain⟨g0,g1,g2,g3⟩:=J2.i.s4;by_cases hlt2:i<b.length
   . have hib:(i:Int)<(b.length:Int):=(by omega);go_wp2_with fail;obtain⟨bA2,oA2,rfl,hbs2,hin2⟩:∃b' o',B=some ⟨b',o',none⟩/\b' <w.heap.size/\In w b' o' b:=by
      rcases HB.out with h|h
      . subst h;simp at hlt2
      . exact h
     have hBl2:=J2.drew.i.bl;have hT2:=Qe5 (HB.out.below hBl2) i;have hD2:=Qk6 (n:=i1) (c:=cb) (Nat.lt_of_lt_of_le hbs2 hBl2.size) (hin2.below hbs2 hBl2) (by omega);obtain⟨x2,y2,wa2,x'2,y'2,wb2,hra2,hrb2,ba2,bb2,ob2⟩:=Qh4 W1'.drew _ _ cb (cb - i1) (b.take i) (b.drop i1) (by simp;omega) (by simp;omega) hT2 hD2;rw[hx1,Qer]at ob2;have hee:(b.take i++b.drop i1)=b.eraseIdx i:=(by rw[hx1,Qer]);rw[hee]at hrb2;have e12:(b.take i).length=i:=(by simp;omega);have e22:(b.drop i1).length=b.length - i1:=List.length_drop;rw[e12]at hra2 hrb2;rw[e22]at hrb2;obtain⟨n2,hn2⟩:∃k,k=(b.eraseIdx i).length:=⟨_,rfl⟩
     rw[← hn2]at hrb2 ob2;have K2:=J2.drew.rep2 bb2 ob2 hn2;rw[← hn2]at K2;have V2:=J2.drew.p.below bb2 J2.drew.p.lt;obtain⟨t0,t1,t2,t3⟩:=V2.row4;have th:=V2.thaw 2;have S0:=J2.drew.i.s4.2.2.1;have Sa:=(J2.i.alloc (.cells #[] 3)).s4.2.2.1;have Sb:=(J2.drew.i.below ba2).s4.2.2.1;have Sc:=(J2.drew.i.below bb2).s4.2.2.1;have Sd:=K2.i.s4.2.2.1;have hi1:((i1:Nat):Int)<=(cb:Int):=(by omega);have hi2:((i1:Nat):Int)<=(b.length:Int):=(by omega);have hi3:((i:Nat):Int)<=(cb:Int):=(by omega);have hi4:(b.length:Int)<=(cb:Int):=(by omega);have Hx:=hidP hx1;clear hee;have Hlt:=hidP hlt2;have HK2:=hidP K2;have Hn2:=hidP hn2;clear hn2;have HJ2:=hidP J2;clear K2 hT2 hD2 ob2 V2;by_cases hcj:i1=cb
     focus
      subst hcj;rw[if_pos rfl,Nat.sub_self,show b.length - i1=0 by omega]at hrb2;clear hx1;refine wp_region_noPanic ?_;refine wp_region_held_drew (S:=fun(w' :World)=>w'.cell? ⟨w.heap.size,2,none⟩=some (.slice (some ⟨bA2,oA2,none⟩) b.length i1)) (by kernel_rfl) ?_ (fun hH=> ?_)
      . exact S0
      refine ztk [1,2,3,4,6,7,8,9,10] ?_;repeat(refine ztn (h:= ?_);try simp only[zX,zY])
      refine zte ?_;refine zR1 0 (fun K hK=> ?_);simp only[zG];go_simp;refine hK.out _ _ Sa fun hH=> ?_;clear hK K;try simp only[zX,zY]
      refine zR1 5 (fun K hK=> ?_);simp only[zG];rw[if_pos (by rfl)];refine Qag _ _ _ (by rfl) _ _ _ (by rfl) (by rfl) hra2 ?_;refine hK.out _ _ Sb fun hH=> ?_;clear hK K;try simp only[zX,zY]
      refine zR1 11 (fun K hK=> ?_);simp only[zG];rw[if_pos (by rfl)];refine Qag _ _ _ (by rfl) _ _ _ (by rfl) (by rfl) hrb2 ?_;refine hK.out _ _ Sc fun hH=> ?_;clear hK K;try simp only[zX,zY]
      refine zt1 12 ?_;refine ztn (h:= ?_);try simp only[zX,zY]
      refine zte ?_;refine zR1 13 (fun K hK=> ?_);simp only[zG];go_simp;refine hK.out _ _ Sd fun hH=> ?_;clear hK K;try simp only[zX,zY]
      refine zdn ?_;clear S0 Sa Sb Sc Sd t0 t1 t2 t3 th hi1 hi2 hi3 hi4 hra2 hrb2 hin2
     rotate_left
     focus
      rw[if_neg (fun e=>hcj e.symm)]at hrb2;have hcj2:¬cb=i1:=fun e=>hcj e.symm
      clear hx1;refine wp_region_noPanic ?_;refine wp_region_held_drew (S:=fun(w' :World)=>w'.cell? ⟨w.heap.size,2,none⟩=some (.slice (some ⟨bA2,oA2,none⟩) b.length cb)) (by kernel_rfl) ?_ (fun hH=> ?_)
      . exact S0
      refine ztk [1,2,3,4,6,7,8,9,10] ?_;repeat(refine ztn (h:= ?_);try simp only[zX,zY])
      refine zte ?_;refine zR1 0 (fun K hK=> ?_);simp only[zG];go_simp;refine hK.out _ _ Sa fun hH=> ?_;clear hK K;try simp only[zX,zY]
      refine zR1 5 (fun K hK=> ?_);simp only[zG];rw[if_pos (by rfl)];refine Qag _ _ _ (by rfl) _ _ _ (by rfl) (by rfl) hra2 ?_;refine hK.out _ _ Sb fun hH=> ?_;clear hK K;try simp only[zX,zY]
      refine zR1 11 (fun K hK=> ?_);simp only[zG];rw[if_pos (by rfl)];refine Qag _ _ _ (by rfl) _ _ _ (by rfl) (by rfl) hrb2 ?_;refine hK.out _ _ Sc fun hH=> ?_;clear hK K;try simp only[zX,zY]
      refine zt1 12 ?_;refine ztn (h:= ?_);try simp only[zX,zY]
      refine zte ?_;refine zR1 13 (fun K hK=> ?_);simp only[zG];go_simp;refine hK.out _ _ Sd fun hH=> ?_;clear hK K;try simp only[zX,zY]
      refine zdn ?_;clear S0 Sa Sb Sc Sd t0 t1 t2 t3 th hi1 hi2 hi3 hi4 hcj hcj2 hra2 hrb2 hin2
     all_goals
      have hx1:=Hx.out;clear Hx Hlt;generalize wb2.setCell ⟨P,2,none⟩ (.slice x'2 n2 y'2)=W2' at*;have V:=HK2.out.p;have I:=HK2.out.i;rw[← Hn1.out]at V;rw[← Hn2.out]at V;obtain⟨t0,t1,t2,t3⟩:=V.row4;obtain⟨r0,r1,r2,r3⟩:=I.r.row4;have f0:=I.r.thaw 0;have f1:=I.r.thaw 1;have f2:=I.r.thaw 2;have f3:=I.r.thaw 3;go_wp2;have k0:Blk (W2'.setCell ⟨w.heap.size+1,0,none⟩ (.int .i64 gen)) (w.heap.size+1) 80 (Qaj gen none 0 0 none 0 0 none 0 0):=I.r.setAt 0 _;have s0:(W2'.setCell ⟨w.heap.size+1,0,none⟩ (.int .i64 gen)).cell? ⟨w.heap.size+1,0,none⟩=some (.int .i64 gen):=k0.row4.1;have k1:Blk ((W2'.setCell ⟨w.heap.size+1,0,none⟩ (.int .i64 gen)).setCell ⟨w.heap.size+1,1,none⟩ (.slice x'1 n1 y'1)) (w.heap.size+1) 80 (Qaj gen x'1 n1 y'1 none 0 0 none 0 0):=k0.setAt 1 _;have s1:((W2'.setCell ⟨w.heap.size+1,0,none⟩ (.int .i64 gen)).setCell ⟨w.heap.size+1,1,none⟩ (.slice x'1 n1 y'1)).cell? ⟨w.heap.size+1,1,none⟩=some (.slice x'1 n1 y'1):=k1.row4.2.1;have k2:Blk (((W2'.setCell ⟨w.heap.size+1,0,none⟩ (.int .i64 gen)).setCell ⟨w.heap.size+1,1,none⟩ (.slice x'1 n1 y'1)).setCell ⟨w.heap.size+1,2,none⟩ (.slice x'2 n2 y'2)) (w.heap.size+1) 80 (Qaj gen x'1 n1 y'1 x'2 n2 y'2 none 0 0):=k1.setAt 2 _;have s2:(((W2'.setCell ⟨w.heap.size+1,0,none⟩ (.int .i64 gen)).setCell ⟨w.heap.size+1,1,none⟩ (.slice x'1 n1 y'1)).setCell ⟨w.heap.size+1,2,none⟩ (.slice x'2 n2 y'2)).cell? ⟨w.heap.size+1,2,none⟩=some (.slice x'2 n2 y'2):=k2.row4.2.2.1;have k3:Blk ((((W2'.setCell ⟨w.heap.size+1,0,none⟩ (.int .i64 gen)).setCell ⟨w.heap.size+1,1,none⟩ (.slice x'1 n1 y'1)).setCell ⟨w.heap.size+1,2,none⟩ (.slice x'2 n2 y'2)).setCell ⟨w.heap.size+1,3,none⟩ (.slice a3 o.length c3)) (w.heap.size+1) 80 (Qaj gen x'1 n1 y'1 x'2 n2 y'2 a3 o.length c3):=k2.setAt 3 _
      have s3:((((W2'.setCell ⟨w.heap.size+1,0,none⟩ (.int .i64 gen)).setCell ⟨w.heap.size+1,1,none⟩ (.slice x'1 n1 y'1)).setCell ⟨w.heap.size+1,2,none⟩ (.slice x'2 n2 y'2)).setCell ⟨w.heap.size+1,3,none⟩ (.slice a3 o.length c3)).cell? ⟨w.heap.size+1,3,none⟩=some (.slice a3 o.length c3):=k3.row4.2.2.2;refine bodyPost_ret (v:= .agg (Qaj gen x'1 n1 y'1 x'2 n2 y'2 a3 o.length c3)) (by simp[results,Tryz.results212,go_sem,s0,s1,s2,s3]) rfl ?_;have hto:=HK2.out.told;rw[← Hn1.out]at hto;rw[← Hn2.out]at hto;exact hto
   . have hib:¬(i:Int)<(b.length:Int):=(by omega);have V:=HK1.out.p;have I:=HK1.out.i;rw[← Hn1.out]at V;obtain⟨t0,t1,t2,t3⟩:=V.row4;obtain⟨r0,r1,r2,r3⟩:=I.r.row4;have f0:=I.r.thaw 0;have f1:=I.r.thaw 1;have f2:=I.r.thaw 2;have f3:=I.r.thaw 3;go_wp2;have k0:Blk (W1'.setCell ⟨w.heap.size+1,0,none⟩ (.int .i64 gen)) (w.heap.size+1) 80 (Qaj gen none 0 0 none 0 0 none 0 0):=I.r.setAt 0 _;have s0:(W1'.setCell ⟨w.heap.size+1,0,none⟩ (.int .i64 gen)).cell? ⟨w.heap.size+1,0,none⟩=some (.int .i64 gen):=k0.row4.1;have k1:Blk ((W1'.setCell ⟨w.heap.size+1,0,none⟩ (.int .i64 gen)).setCell ⟨w.heap.size+1,1,none⟩ (.slice x'1 n1 y'1)) (w.heap.size+1) 80 (Qaj gen x'1 n1 y'1 none 0 0 none 0 0):=k0.setAt 1 _;have s1:((W1'.setCell ⟨w.heap.size+1,0,none⟩ (.int .i64 gen)).setCell ⟨w.heap.size+1,1,none⟩ (.slice x'1 n1 y'1)).cell? ⟨w.heap.size+1,1,none⟩=some (.slice x'1 n1 y'1):=k1.row4.2.1;have k2:Blk (((W1'.setCell ⟨w.heap.size+1,0,none⟩ (.int .i64 gen)).setCell ⟨w.heap.size+1,1,none⟩ (.slice x'1 n1 y'1)).setCell ⟨w.heap.size+1,2,none⟩ (.slice a2 b.length c2)) (w.heap.size+1) 80 (Qaj gen x'1 n1 y'1 a2 b.length c2 none 0 0):=k1.setAt 2 _;have s2:(((W1'.setCell ⟨w.heap.size+1,0,none⟩ (.int .i64 gen)).setCell ⟨w.heap.size+1,1,none⟩ (.slice x'1 n1 y'1)).setCell ⟨w.heap.size+1,2,none⟩ (.slice a2 b.length c2)).cell? ⟨w.heap.size+1,2,none⟩=some (.slice a2 b.length c2):=k2.row4.2.2.1;have k3:Blk ((((W1'.setCell ⟨w.heap.size+1,0,none⟩ (.int .i64 gen)).setCell ⟨w.heap.size+1,1,none⟩ (.slice x'1 n1 y'1)).setCell ⟨w.heap.size+1,2,none⟩ (.slice a2 b.length c2)).setCell ⟨w.heap.size+1,3,none⟩ (.slice a3 o.length c3)) (w.heap.size+1) 80 (Qaj gen x'1 n1 y'1 a2 b.length c2 a3 o.length c3):=k2.setAt 3 _
     have s3:((((W1'.setCell ⟨w.heap.size+1,0,none⟩ (.int .i64 gen)).setCell ⟨w.heap.size+1,1,none⟩ (.slice x'1 n1 y'1)).setCell ⟨w.heap.size+1,2,none⟩ (.slice a2 b.length c2)).setCell ⟨w.heap.size+1,3,none⟩ (.slice a3 o.length c3)).cell? ⟨w.heap.size+1,3,none⟩=some (.slice a3 o.length c3):=k3.row4.2.2.2;refine bodyPost_ret (v:= .agg (Qaj gen x'1 n1 y'1 a2 b.length c2 a3 o.length c3)) (by simp[results,Tryz.results212,go_sem,s0,s1,s2,s3]) rfl ?_;have hto:=HK1.out.told;rw[← Hn1.out]at hto;rw[show b.eraseIdx i=b from List.eraseIdx_of_length_le (by omega)];exact hto
end Go.Proofs.YtpippjjhelgnlaaGreat.Gen
