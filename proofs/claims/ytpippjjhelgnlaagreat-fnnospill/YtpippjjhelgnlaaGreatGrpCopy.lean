/-
  The specification's copy of a group, at this seat. No condition but that its lists have at most 1048576 numbers.
-/
import Derived.Test.YtpippjjhelgnlaaGreatDrawC2
set_option linter.unusedVariables false
set_option linter.unusedSimpArgs false
set_option maxRecDepth 100000
set_option maxHeartbeats 8000000
namespace Go.Proofs.YtpippjjhelgnlaaGreat.Gen
open ChangeShapes WideShapes ChangeAt RowKit Joins Deep Base
def Dis (v u:Value):Prop:=∀x,v.ownBlock=some x->u.ownBlock≠some x
theorem Dis.symm {v u:Value} (h:Dis v u):Dis u v:=fun x hx hy=>h x hy hx
structure Tri (q:Nat) (W:World) (v1 v2 v3:Value) (l1 l2 l3:List Int):Prop where
  o1:W.ownsRow q 3 1 v1 l1.length (flat l1)
  o2:W.ownsRow q 3 1 v2 l2.length (flat l2)
  o3:W.ownsRow q 3 1 v3 l3.length (flat l3)
  d12:Dis v1 v2
  d13:Dis v1 v3
  d23:Dis v2 v3
  q:q<=W.heap.size
theorem Tri.nil (q:Nat) (W:World) (hq:q<=W.heap.size):Tri q W (.slice none 0 0) (.slice none 0 0) (.slice none 0 0) [] [] []:=
 ⟨World.ownsRow_nil _ _ _ _,World.ownsRow_nil _ _ _ _,World.ownsRow_nil _ _ _ _,(fun x h=>by cases h),(fun x h=>by cases h),(fun x h=>by cases h),hq⟩
section
variable {q:Nat} {W:World} {v1 v2 v3:Value} {l1 l2 l3:List Int}
theorem Tri.s12 (h:Tri q W v1 v2 v3 l1 l2 l3):Tri q W v2 v1 v3 l2 l1 l3:=⟨h.o2,h.o1,h.o3,h.d12.symm,h.d23,h.d13,h.q⟩
theorem Tri.s13 (h:Tri q W v1 v2 v3 l1 l2 l3):Tri q W v3 v2 v1 l3 l2 l1:=⟨h.o3,h.o2,h.o1,h.d23.symm,h.d13.symm,h.d12.symm,h.q⟩
theorem Tri.new1 {g:Nat} (h:Tri q W (.slice none 0 0) v2 v3 [] l2 l3) (hg:W.heap.size=g):Tri q (W.alloc (.cells #[] 3)) (.slice (some ⟨g,0,none⟩) 0 0) v2 v3 [] l2 l3:=by
 subst hg;refine⟨World.ownsRow_made W #[] 0 h.q (by simp[maxLen]) rfl,Qaw h.o2 _,Qaw h.o3 _,fun x hx hy=> ?_,fun x hx hy=> ?_,h.d23,by have:=h.q;simp;omega⟩
 . cases hx;exact Nat.lt_irrefl _ (Qci h.o2 hy)
 . cases hx;exact Nat.lt_irrefl _ (Qci h.o3 hy)
theorem Tri.new2 {g:Nat} (h:Tri q W v1 (.slice none 0 0) v3 l1 [] l3) (hg:W.heap.size=g):Tri q (W.alloc (.cells #[] 3)) v1 (.slice (some ⟨g,0,none⟩) 0 0) v3 l1 [] l3:=(h.s12.new1 hg).s12
theorem Tri.new3 {g:Nat} (h:Tri q W v1 v2 (.slice none 0 0) l1 l2 []) (hg:W.heap.size=g):Tri q (W.alloc (.cells #[] 3)) v1 v2 (.slice (some ⟨g,0,none⟩) 0 0) l1 l2 []:=(h.s13.new1 hg).s13
theorem Qem {B:Nat} {W W' :World} {v:Value} {t:TypeId} {k n:Nat} {xs:List Value} {row:Option Nat} (h:W.ownsRow B t k v n xs) (hg:W.grownBy W' row) (hne:∀x,v.ownBlock=some x->some x≠row):W'.ownsRow B t k v n xs:=by
 refine⟨h.1,?_⟩;rcases h.2 with⟨rfl,rfl⟩|⟨g,c,cur,rfl,hB,hb,hc,hm,hsz,ht⟩
 . exact .inl ⟨rfl,rfl⟩
 . exact .inr ⟨g,c,cur,rfl,hB,Blk.kept (show Blk W g t cur from hb) hg (hne g rfl),hc,hm,hsz,ht⟩
theorem Tri.app1 {A:Option Addr} {cap:Nat} {m:List Int} (h:Tri q W v1 v2 v3 [] l2 l3) (hA:At W A m) (hm:m.length<=1048576):
 ∃a c w',(Builtin.append_ #[29,29] 29 #[v1,.slice A m.length cap]).run Tryz.prog W= .ok (.slice a m.length c) w' /\Tri q w' (.slice a m.length c) v2 v3 m l2 l3/\(∀p t vs,t≠3->Blk W p t vs->Blk w' p t vs)/\Below q W w' :=by
 obtain⟨v,w1,hr,hown,hgrow,hat⟩:=Qbh (P:=Tryz.prog) Tryz.underlying29 Qd7 rfl (by decide) (by decide) q v1 ([]:List Int) m A cap W h.q h.o1 hA (by simp;omega);simp only[List.length_nil,Nat.zero_add,List.nil_append]at hown;obtain⟨a,c,rfl,_⟩:=Qao hown;refine⟨a,c,w1,hr,⟨hown,Qem h.o2 hgrow (fun x hx e=>h.d12 x e.symm hx),Qem h.o3 hgrow (fun x hx e=>h.d13 x e.symm hx),fun x hx hy=> ?_,fun x hx hy=> ?_,h.d23,Nat.le_trans h.q hgrow.size⟩,fun p t vs ht hp=>hp.kept hgrow (fun e=>Qc9 h.o1 hp (Ne.symm ht) p e.symm rfl),?_⟩
 . rcases hat with e|e
   . exact h.d12 x (e▸hx) hy
   . rw[e]at hx;cases hx;exact Nat.lt_irrefl _ (Qci h.o2 hy)
 . rcases hat with e|e
   . exact h.d13 x (e▸hx) hy
   . rw[e]at hx;cases hx;exact Nat.lt_irrefl _ (Qci h.o3 hy)
 . exact(Below.refl _ W).grown hgrow h.q (fun k e=>(h.o1.lt k e).1)
theorem Tri.app2 {A:Option Addr} {cap:Nat} {m:List Int} (h:Tri q W v1 v2 v3 l1 [] l3) (hA:At W A m) (hm:m.length<=1048576):
 ∃a c w',(Builtin.append_ #[29,29] 29 #[v2,.slice A m.length cap]).run Tryz.prog W= .ok (.slice a m.length c) w' /\Tri q w' v1 (.slice a m.length c) v3 l1 m l3/\(∀p t vs,t≠3->Blk W p t vs->Blk w' p t vs)/\Below q W w' :=by
 obtain⟨a,c,w',h1,h2,h3⟩:=h.s12.app1 (cap:=cap) hA hm;exact⟨a,c,w',h1,h2.s12,h3⟩
theorem Tri.app3 {A:Option Addr} {cap:Nat} {m:List Int} (h:Tri q W v1 v2 v3 l1 l2 []) (hA:At W A m) (hm:m.length<=1048576):
 ∃a c w',(Builtin.append_ #[29,29] 29 #[v3,.slice A m.length cap]).run Tryz.prog W= .ok (.slice a m.length c) w' /\Tri q w' v1 v2 (.slice a m.length c) l1 l2 m/\(∀p t vs,t≠3->Blk W p t vs->Blk w' p t vs)/\Below q W w' :=by
 obtain⟨a,c,w',h1,h2,h3⟩:=h.s13.app1 (cap:=cap) hA hm;exact⟨a,c,w',h1,h2.s13,h3⟩
theorem Tri.gp {a1 a2 a3:Option Addr} {c1 c2 c3 p:Nat} {vs:Array Value} (h:Tri q W (.slice a1 l1.length c1) (.slice a2 l2.length c2) (.slice a3 l3.length c3) l1 l2 l3) (hp:Blk W p 80 vs):∃F,Gp W a1 a2 a3 l1 l2 l3 F/\∀x∈F,q<=x/\x≠p:=by
 obtain⟨_,F1,s1,k1⟩:=Sl.of_fresh (Qcv (α:=Int) rfl h.o1);obtain⟨_,F2,s2,k2⟩:=Sl.of_fresh (Qcv (α:=Int) rfl h.o2);obtain⟨_,F3,s3,k3⟩:=Sl.of_fresh (Qcv (α:=Int) rfl h.o3);have u1:=sl_own s1 l1.length c1;have u2:=sl_own s2 l2.length c2;have u3:=sl_own s3 l3.length c3;refine⟨F1++(F2++F3),⟨F1,F2,F3,rfl,s1,s2,s3,?_⟩,?_⟩
 . rw[List.nodup_append,List.nodup_append];refine⟨s1.nodup,⟨s2.nodup,s3.nodup,fun x hx y hy e=> ?_⟩,fun x hx y hy e=> ?_⟩
   . subst e;exact h.d23 x (u2 x hx) (u3 x hy)
   . subst e;rcases List.mem_append.1 hy with hy|hy
     . exact h.d12 x (u1 x hx) (u2 x hy)
     . exact h.d13 x (u1 x hx) (u3 x hy)
 . intro x hx;simp only[List.mem_append]at hx;rcases hx with e|e|e
   . exact⟨k1 x e,Qc9 h.o1 hp (by decide) x (u1 x e)⟩
   . exact⟨k2 x e,Qc9 h.o2 hp (by decide) x (u2 x e)⟩
   . exact⟨k3 x e,Qc9 h.o3 hp (by decide) x (u3 x e)⟩
end
theorem Wi.s4 {w W:World} {gen:Int} {vm vb vo:Value} (h:Wi w W gen vm vb vo):W.cell? ⟨w.heap.size,0,none⟩=some (.int .i64 gen)/\W.cell? ⟨w.heap.size,1,none⟩=some vm/\W.cell? ⟨w.heap.size,2,none⟩=some vb/\W.cell? ⟨w.heap.size,3,none⟩=some vo:=h.g.row4
theorem Wi.kept {w W W' :World} {gen:Int} {vm vb vo:Value} (h:Wi w W gen vm vb vo) (k:∀p t vs,t≠3->Blk W p t vs->Blk W' p t vs) (hb:Below (w.heap.size+2) W W'):Wi w W' gen vm vb vo:=
 ⟨h.bl.trans ⟨hb.os,hb.tape,hb.output,hb.size,fun i hi=>hb.block i (by omega)⟩,k _ _ _ (by decide) h.g,k _ _ _ (by decide) h.r⟩
theorem Qgb {B:Nat} {W:World} {a:Option Addr} {n c:Nat} {t:TypeId} {k:Nat} {xs:List Value} (h:W.ownsRow B t k (.slice a n c) n xs):n<=c/\c<=9223372036854775807:=by
 rcases h.2 with⟨e,rfl⟩|⟨g,c',cur,e,hB,hb,hc,hm,_⟩
 . cases e;exact⟨Nat.le_refl _,by decide⟩
 . cases e;simp[maxLen]at hm;exact⟨hc,by omega⟩
def ToldC (w w' :World) (e:Ending) (gen:Int) (m b o:List Int):Prop:=
  ∃(a1 a2 a3:Option Addr) (c1 c2 c3:Nat) (F:List Nat),e= .returned (.agg (Qaj gen a1 m.length c1 a2 b.length c2 a3 o.length c3))/\Below w.heap.size w w' /\Gp w' a1 a2 a3 m b o F/\(∀x∈F,w.heap.size<=x)/\(m.length<=c1/\c1<=9223372036854775807)/\(b.length<=c2/\c2<=9223372036854775807)
theorem ToldC.g {w w' :World} {e:Ending} {gen:Int} {m b o:List Int} (h:ToldC w w' e gen m b o):Qio w w' e gen m b o:=by
 obtain⟨a1,a2,a3,c1,c2,c3,F,h1,h2,h3,h4,_⟩:=h;exact⟨a1,a2,a3,c1,c2,c3,F,h1,h2,h3,h4⟩
theorem Tri.told {w W:World} {gen:Int} {vm vb vo:Value} {a1 a2 a3:Option Addr} {c1 c2 c3:Nat} {m b o:List Int} (T:Tri (w.heap.size+2) W (.slice a1 m.length c1) (.slice a2 b.length c2) (.slice a3 o.length c3) m b o) (I:Wi w W gen vm vb vo):
 ToldC w (putG W (w.heap.size+1) (.int .i64 gen) (.slice a1 m.length c1) (.slice a2 b.length c2) (.slice a3 o.length c3)) (.returned (.agg (Qaj gen a1 m.length c1 a2 b.length c2 a3 o.length c3))) gen m b o:=by
 obtain⟨F,hG,hF⟩:=T.gp I.r;exact⟨a1,a2,a3,c1,c2,c3,F,rfl,I.bl.trans ((Qc0 W (w.heap.size+1) _ _ _ _).toBelow (by simp) I.bl.size),hG.off (Qc0 W (w.heap.size+1) _ _ _ _) (fun x hx=>by simpa using (hF x hx).2),fun x hx=>by have:=(hF x hx).1;omega,Qgb T.o1,Qgb T.o2⟩
theorem Qdk (gen:Int) (A B C:Option Addr) (ca cb cc:Nat) (m b o:List Int) (hm:m.length<=1048576) (hb:b.length<=1048576) (ho:o.length<=1048576) (w:World) (hA:At w A m) (hB:At w B b) (hC:At w C o):
 Calls Tryz.prog 211 #[.agg (Qaj gen A m.length ca B b.length cb C o.length cc)] w fun e w' =>ToldC w w' e gen m b o:=by
 have HA:=hidP hA;have HB:=hidP hB;have HC:=hidP hC;clear hA hB hC;go_enter Tryz.func211,Tryz.ntmps211;go_wp2_with fail;have I:Wi w ((w.alloc (.cells (Qaj gen A m.length ca B b.length cb C o.length cc) 80)).alloc (.cells Qcp 80)).drew gen (.slice A m.length ca) (.slice B b.length cb) (.slice C o.length cc):=⟨by repeat(first|exact Below.refl _ _|assumption|refine via0 (by assumption) ?_|refine Below.drew ?_|refine Qad ?_ _),(Blk.new w 80 (Qaj gen A m.length ca B b.length cb C o.length cc)).alloc _,by have:=Blk.new (w.alloc (.cells (Qaj gen A m.length ca B b.length cb C o.length cc) 80)) 80 Qcp;rw[World.size_alloc]at this;exact this⟩
 have T:=Tri.nil (w.heap.size+2) ((w.alloc (.cells (Qaj gen A m.length ca B b.length cb C o.length cc) 80)).alloc (.cells Qcp 80)).drew (by simp);refine wp_region_noPanic ?_;refine wp_region_held_drew (S:=fun(w' :World)=>w'.cell? ⟨w.heap.size,0,none⟩=some (.int .i64 gen)/\w'.cell? ⟨w.heap.size,1,none⟩=some (.slice A m.length ca)/\w'.cell? ⟨w.heap.size,2,none⟩=some (.slice B b.length cb)/\w'.cell? ⟨w.heap.size,3,none⟩=some (.slice C o.length cc)) (by kernel_rfl) ?_ (fun hH=> ?_)
 . exact I.s4
 refine ztk [0,1,3,4,7,8,11,12] ?_;repeat(refine ztn (h:= ?_);try simp only[zX,zY])
 refine zte ?_;refine zR3 2 6 10 (fun K hK=> ?_) (fun K hK=> ?_) (fun K hK=> ?_)
 focus
  simp only[zG];go_simp;have T:=T.new1 (g:=w.heap.size+1+1) (by simp);have I:=I.alloc (.cells #[] 3);refine hK.out _ _ I.s4 fun hH=> ?_;clear hK K;try simp only[zX,zY]
  refine zR3 5 6 10 (fun K hK=> ?_) (fun K hK=> ?_) (fun K hK=> ?_)
  focus
   simp only[zG];obtain⟨x1,y1,w1,hr1,T',hk1,hb1⟩:=T.app1 (cap:=ca) (HA.out.below I.bl) hm;have T:=T';clear T';rw[if_pos (by rfl)];refine Qag _ _ _ (by rfl) _ _ _ (by rfl) (by rfl) hr1 ?_;have I:=I.kept hk1 hb1;clear hr1 hk1 hb1;refine hK.out _ _ I.s4 fun hH=> ?_;clear hK K;try simp only[zX,zY]
   refine zR2 6 10 (fun K hK=> ?_) (fun K hK=> ?_)
   focus
    simp only[zG];go_simp;have T:=T.new2 (g:=w1.heap.size) (by simp);have I:=I.alloc (.cells #[] 3);refine hK.out _ _ I.s4 fun hH=> ?_;clear hK K;try simp only[zX,zY]
    refine zR2 9 10 (fun K hK=> ?_) (fun K hK=> ?_)
    focus
     simp only[zG];obtain⟨x2,y2,w2,hr2,T',hk2,hb2⟩:=T.app2 (cap:=cb) (HB.out.below I.bl) hb;have T:=T';clear T';rw[if_pos (by rfl)];refine Qag _ _ _ (by rfl) _ _ _ (by rfl) (by rfl) hr2 ?_;have I:=I.kept hk2 hb2;clear hr2 hk2 hb2;refine hK.out _ _ I.s4 fun hH=> ?_;clear hK K;try simp only[zX,zY]
     refine zR1 10 (fun K hK=> ?_);simp only[zG];go_simp;have T:=T.new3 (g:=w2.heap.size) (by simp);have I:=I.alloc (.cells #[] 3)
    rotate_left
    focus
     simp only[zG];go_simp;have T:=T.new3 (g:=w1.heap.size+1) (by simp);have I:=I.alloc (.cells #[] 3);refine hK.out _ _ I.s4 fun hH=> ?_;clear hK K;try simp only[zX,zY]
     refine zR1 9 (fun K hK=> ?_);simp only[zG];obtain⟨x2,y2,w2,hr2,T',hk2,hb2⟩:=T.app2 (cap:=cb) (HB.out.below I.bl) hb;have T:=T';clear T';rw[if_pos (by rfl)];refine Qag _ _ _ (by rfl) _ _ _ (by rfl) (by rfl) hr2 ?_;have I:=I.kept hk2 hb2;clear hr2 hk2 hb2
   rotate_left 2
   focus
    simp only[zG];go_simp;have T:=T.new3 (g:=w1.heap.size) (by simp);have I:=I.alloc (.cells #[] 3);refine hK.out _ _ I.s4 fun hH=> ?_;clear hK K;try simp only[zX,zY]
    refine zR1 6 (fun K hK=> ?_);simp only[zG];go_simp;have T:=T.new2 (g:=w1.heap.size+1) (by simp);have I:=I.alloc (.cells #[] 3);refine hK.out _ _ I.s4 fun hH=> ?_;clear hK K;try simp only[zX,zY]
    refine zR1 9 (fun K hK=> ?_);simp only[zG];obtain⟨x2,y2,w2,hr2,T',hk2,hb2⟩:=T.app2 (cap:=cb) (HB.out.below I.bl) hb;have T:=T';clear T';rw[if_pos (by rfl)];refine Qag _ _ _ (by rfl) _ _ _ (by rfl) (by rfl) hr2 ?_;have I:=I.kept hk2 hb2;clear hr2 hk2 hb2
  rotate_left 3
  focus
   simp only[zG];go_simp;have T:=T.new2 (g:=w.heap.size+1+1+1) (by simp);have I:=I.alloc (.cells #[] 3);refine hK.out _ _ I.s4 fun hH=> ?_;clear hK K;try simp only[zX,zY]
   refine zR2 5 10 (fun K hK=> ?_) (fun K hK=> ?_)
   focus
    simp only[zG];obtain⟨x1,y1,w1,hr1,T',hk1,hb1⟩:=T.app1 (cap:=ca) (HA.out.below I.bl) hm;have T:=T';clear T';rw[if_pos (by rfl)];refine Qag _ _ _ (by rfl) _ _ _ (by rfl) (by rfl) hr1 ?_;have I:=I.kept hk1 hb1;clear hr1 hk1 hb1;refine hK.out _ _ I.s4 fun hH=> ?_;clear hK K;try simp only[zX,zY]
    refine zR2 9 10 (fun K hK=> ?_) (fun K hK=> ?_)
    focus
     simp only[zG];obtain⟨x2,y2,w2,hr2,T',hk2,hb2⟩:=T.app2 (cap:=cb) (HB.out.below I.bl) hb;have T:=T';clear T';rw[if_pos (by rfl)];refine Qag _ _ _ (by rfl) _ _ _ (by rfl) (by rfl) hr2 ?_;have I:=I.kept hk2 hb2;clear hr2 hk2 hb2;refine hK.out _ _ I.s4 fun hH=> ?_;clear hK K;try simp only[zX,zY]
     refine zR1 10 (fun K hK=> ?_);simp only[zG];go_simp;have T:=T.new3 (g:=w2.heap.size) (by simp);have I:=I.alloc (.cells #[] 3)
    rotate_left
    focus
     simp only[zG];go_simp;have T:=T.new3 (g:=w1.heap.size) (by simp);have I:=I.alloc (.cells #[] 3);refine hK.out _ _ I.s4 fun hH=> ?_;clear hK K;try simp only[zX,zY]
     refine zR1 9 (fun K hK=> ?_);simp only[zG];obtain⟨x2,y2,w2,hr2,T',hk2,hb2⟩:=T.app2 (cap:=cb) (HB.out.below I.bl) hb;have T:=T';clear T';rw[if_pos (by rfl)];refine Qag _ _ _ (by rfl) _ _ _ (by rfl) (by rfl) hr2 ?_;have I:=I.kept hk2 hb2;clear hr2 hk2 hb2
   rotate_left 2
   focus
    simp only[zG];go_simp;have T:=T.new3 (g:=w.heap.size+1+1+1+1) (by simp);have I:=I.alloc (.cells #[] 3);refine hK.out _ _ I.s4 fun hH=> ?_;clear hK K;try simp only[zX,zY]
    refine zR1 5 (fun K hK=> ?_);simp only[zG];obtain⟨x1,y1,w1,hr1,T',hk1,hb1⟩:=T.app1 (cap:=ca) (HA.out.below I.bl) hm;have T:=T';clear T';rw[if_pos (by rfl)];refine Qag _ _ _ (by rfl) _ _ _ (by rfl) (by rfl) hr1 ?_;have I:=I.kept hk1 hb1;clear hr1 hk1 hb1;refine hK.out _ _ I.s4 fun hH=> ?_;clear hK K;try simp only[zX,zY]
    refine zR1 9 (fun K hK=> ?_);simp only[zG];obtain⟨x2,y2,w2,hr2,T',hk2,hb2⟩:=T.app2 (cap:=cb) (HB.out.below I.bl) hb;have T:=T';clear T';rw[if_pos (by rfl)];refine Qag _ _ _ (by rfl) _ _ _ (by rfl) (by rfl) hr2 ?_;have I:=I.kept hk2 hb2;clear hr2 hk2 hb2
  rotate_left 3
  focus
   simp only[zG];go_simp;have T:=T.new3 (g:=w.heap.size+1+1+1) (by simp);have I:=I.alloc (.cells #[] 3);refine hK.out _ _ I.s4 fun hH=> ?_;clear hK K;try simp only[zX,zY]
   refine zR2 5 6 (fun K hK=> ?_) (fun K hK=> ?_)
   focus
    simp only[zG];obtain⟨x1,y1,w1,hr1,T',hk1,hb1⟩:=T.app1 (cap:=ca) (HA.out.below I.bl) hm;have T:=T';clear T';rw[if_pos (by rfl)];refine Qag _ _ _ (by rfl) _ _ _ (by rfl) (by rfl) hr1 ?_;have I:=I.kept hk1 hb1;clear hr1 hk1 hb1;refine hK.out _ _ I.s4 fun hH=> ?_;clear hK K;try simp only[zX,zY]
    refine zR1 6 (fun K hK=> ?_);simp only[zG];go_simp;have T:=T.new2 (g:=w1.heap.size) (by simp);have I:=I.alloc (.cells #[] 3);refine hK.out _ _ I.s4 fun hH=> ?_;clear hK K;try simp only[zX,zY]
    refine zR1 9 (fun K hK=> ?_);simp only[zG];obtain⟨x2,y2,w2,hr2,T',hk2,hb2⟩:=T.app2 (cap:=cb) (HB.out.below I.bl) hb;have T:=T';clear T';rw[if_pos (by rfl)];refine Qag _ _ _ (by rfl) _ _ _ (by rfl) (by rfl) hr2 ?_;have I:=I.kept hk2 hb2;clear hr2 hk2 hb2
   rotate_left
   focus
    simp only[zG];go_simp;have T:=T.new2 (g:=w.heap.size+1+1+1+1) (by simp);have I:=I.alloc (.cells #[] 3);refine hK.out _ _ I.s4 fun hH=> ?_;clear hK K;try simp only[zX,zY]
    refine zR1 5 (fun K hK=> ?_);simp only[zG];obtain⟨x1,y1,w1,hr1,T',hk1,hb1⟩:=T.app1 (cap:=ca) (HA.out.below I.bl) hm;have T:=T';clear T';rw[if_pos (by rfl)];refine Qag _ _ _ (by rfl) _ _ _ (by rfl) (by rfl) hr1 ?_;have I:=I.kept hk1 hb1;clear hr1 hk1 hb1;refine hK.out _ _ I.s4 fun hH=> ?_;clear hK K;try simp only[zX,zY]
    refine zR1 9 (fun K hK=> ?_);simp only[zG];obtain⟨x2,y2,w2,hr2,T',hk2,hb2⟩:=T.app2 (cap:=cb) (HB.out.below I.bl) hb;have T:=T';clear T';rw[if_pos (by rfl)];refine Qag _ _ _ (by rfl) _ _ _ (by rfl) (by rfl) hr2 ?_;have I:=I.kept hk2 hb2;clear hr2 hk2 hb2
 rotate_left 8
 focus
  simp only[zG];go_simp;have T:=T.new2 (g:=w.heap.size+1+1) (by simp);have I:=I.alloc (.cells #[] 3);refine hK.out _ _ I.s4 fun hH=> ?_;clear hK K;try simp only[zX,zY]
  refine zR2 2 10 (fun K hK=> ?_) (fun K hK=> ?_)
  focus
   simp only[zG];go_simp;have T:=T.new1 (g:=w.heap.size+1+1+1) (by simp);have I:=I.alloc (.cells #[] 3);refine hK.out _ _ I.s4 fun hH=> ?_;clear hK K;try simp only[zX,zY]
   refine zR2 5 10 (fun K hK=> ?_) (fun K hK=> ?_)
   focus
    simp only[zG];obtain⟨x1,y1,w1,hr1,T',hk1,hb1⟩:=T.app1 (cap:=ca) (HA.out.below I.bl) hm;have T:=T';clear T';rw[if_pos (by rfl)];refine Qag _ _ _ (by rfl) _ _ _ (by rfl) (by rfl) hr1 ?_;have I:=I.kept hk1 hb1;clear hr1 hk1 hb1;refine hK.out _ _ I.s4 fun hH=> ?_;clear hK K;try simp only[zX,zY]
    refine zR2 9 10 (fun K hK=> ?_) (fun K hK=> ?_)
    focus
     simp only[zG];obtain⟨x2,y2,w2,hr2,T',hk2,hb2⟩:=T.app2 (cap:=cb) (HB.out.below I.bl) hb;have T:=T';clear T';rw[if_pos (by rfl)];refine Qag _ _ _ (by rfl) _ _ _ (by rfl) (by rfl) hr2 ?_;have I:=I.kept hk2 hb2;clear hr2 hk2 hb2;refine hK.out _ _ I.s4 fun hH=> ?_;clear hK K;try simp only[zX,zY]
     refine zR1 10 (fun K hK=> ?_);simp only[zG];go_simp;have T:=T.new3 (g:=w2.heap.size) (by simp);have I:=I.alloc (.cells #[] 3)
    rotate_left
    focus
     simp only[zG];go_simp;have T:=T.new3 (g:=w1.heap.size) (by simp);have I:=I.alloc (.cells #[] 3);refine hK.out _ _ I.s4 fun hH=> ?_;clear hK K;try simp only[zX,zY]
     refine zR1 9 (fun K hK=> ?_);simp only[zG];obtain⟨x2,y2,w2,hr2,T',hk2,hb2⟩:=T.app2 (cap:=cb) (HB.out.below I.bl) hb;have T:=T';clear T';rw[if_pos (by rfl)];refine Qag _ _ _ (by rfl) _ _ _ (by rfl) (by rfl) hr2 ?_;have I:=I.kept hk2 hb2;clear hr2 hk2 hb2
   rotate_left 2
   focus
    simp only[zG];go_simp;have T:=T.new3 (g:=w.heap.size+1+1+1+1) (by simp);have I:=I.alloc (.cells #[] 3);refine hK.out _ _ I.s4 fun hH=> ?_;clear hK K;try simp only[zX,zY]
    refine zR1 5 (fun K hK=> ?_);simp only[zG];obtain⟨x1,y1,w1,hr1,T',hk1,hb1⟩:=T.app1 (cap:=ca) (HA.out.below I.bl) hm;have T:=T';clear T';rw[if_pos (by rfl)];refine Qag _ _ _ (by rfl) _ _ _ (by rfl) (by rfl) hr1 ?_;have I:=I.kept hk1 hb1;clear hr1 hk1 hb1;refine hK.out _ _ I.s4 fun hH=> ?_;clear hK K;try simp only[zX,zY]
    refine zR1 9 (fun K hK=> ?_);simp only[zG];obtain⟨x2,y2,w2,hr2,T',hk2,hb2⟩:=T.app2 (cap:=cb) (HB.out.below I.bl) hb;have T:=T';clear T';rw[if_pos (by rfl)];refine Qag _ _ _ (by rfl) _ _ _ (by rfl) (by rfl) hr2 ?_;have I:=I.kept hk2 hb2;clear hr2 hk2 hb2
  rotate_left 3
  focus
   simp only[zG];go_simp;have T:=T.new3 (g:=w.heap.size+1+1+1) (by simp);have I:=I.alloc (.cells #[] 3);refine hK.out _ _ I.s4 fun hH=> ?_;clear hK K;try simp only[zX,zY]
   refine zR1 2 (fun K hK=> ?_);simp only[zG];go_simp;have T:=T.new1 (g:=w.heap.size+1+1+1+1) (by simp);have I:=I.alloc (.cells #[] 3);refine hK.out _ _ I.s4 fun hH=> ?_;clear hK K;try simp only[zX,zY]
   refine zR1 5 (fun K hK=> ?_);simp only[zG];obtain⟨x1,y1,w1,hr1,T',hk1,hb1⟩:=T.app1 (cap:=ca) (HA.out.below I.bl) hm;have T:=T';clear T';rw[if_pos (by rfl)];refine Qag _ _ _ (by rfl) _ _ _ (by rfl) (by rfl) hr1 ?_;have I:=I.kept hk1 hb1;clear hr1 hk1 hb1;refine hK.out _ _ I.s4 fun hH=> ?_;clear hK K;try simp only[zX,zY]
   refine zR1 9 (fun K hK=> ?_);simp only[zG];obtain⟨x2,y2,w2,hr2,T',hk2,hb2⟩:=T.app2 (cap:=cb) (HB.out.below I.bl) hb;have T:=T';clear T';rw[if_pos (by rfl)];refine Qag _ _ _ (by rfl) _ _ _ (by rfl) (by rfl) hr2 ?_;have I:=I.kept hk2 hb2;clear hr2 hk2 hb2
 rotate_left 4
 focus
  simp only[zG];go_simp;have T:=T.new3 (g:=w.heap.size+1+1) (by simp);have I:=I.alloc (.cells #[] 3);refine hK.out _ _ I.s4 fun hH=> ?_;clear hK K;try simp only[zX,zY]
  refine zR2 2 6 (fun K hK=> ?_) (fun K hK=> ?_)
  focus
   simp only[zG];go_simp;have T:=T.new1 (g:=w.heap.size+1+1+1) (by simp);have I:=I.alloc (.cells #[] 3);refine hK.out _ _ I.s4 fun hH=> ?_;clear hK K;try simp only[zX,zY]
   refine zR2 5 6 (fun K hK=> ?_) (fun K hK=> ?_)
   focus
    simp only[zG];obtain⟨x1,y1,w1,hr1,T',hk1,hb1⟩:=T.app1 (cap:=ca) (HA.out.below I.bl) hm;have T:=T';clear T';rw[if_pos (by rfl)];refine Qag _ _ _ (by rfl) _ _ _ (by rfl) (by rfl) hr1 ?_;have I:=I.kept hk1 hb1;clear hr1 hk1 hb1;refine hK.out _ _ I.s4 fun hH=> ?_;clear hK K;try simp only[zX,zY]
    refine zR1 6 (fun K hK=> ?_);simp only[zG];go_simp;have T:=T.new2 (g:=w1.heap.size) (by simp);have I:=I.alloc (.cells #[] 3);refine hK.out _ _ I.s4 fun hH=> ?_;clear hK K;try simp only[zX,zY]
    refine zR1 9 (fun K hK=> ?_);simp only[zG];obtain⟨x2,y2,w2,hr2,T',hk2,hb2⟩:=T.app2 (cap:=cb) (HB.out.below I.bl) hb;have T:=T';clear T';rw[if_pos (by rfl)];refine Qag _ _ _ (by rfl) _ _ _ (by rfl) (by rfl) hr2 ?_;have I:=I.kept hk2 hb2;clear hr2 hk2 hb2
   rotate_left
   focus
    simp only[zG];go_simp;have T:=T.new2 (g:=w.heap.size+1+1+1+1) (by simp);have I:=I.alloc (.cells #[] 3);refine hK.out _ _ I.s4 fun hH=> ?_;clear hK K;try simp only[zX,zY]
    refine zR1 5 (fun K hK=> ?_);simp only[zG];obtain⟨x1,y1,w1,hr1,T',hk1,hb1⟩:=T.app1 (cap:=ca) (HA.out.below I.bl) hm;have T:=T';clear T';rw[if_pos (by rfl)];refine Qag _ _ _ (by rfl) _ _ _ (by rfl) (by rfl) hr1 ?_;have I:=I.kept hk1 hb1;clear hr1 hk1 hb1;refine hK.out _ _ I.s4 fun hH=> ?_;clear hK K;try simp only[zX,zY]
    refine zR1 9 (fun K hK=> ?_);simp only[zG];obtain⟨x2,y2,w2,hr2,T',hk2,hb2⟩:=T.app2 (cap:=cb) (HB.out.below I.bl) hb;have T:=T';clear T';rw[if_pos (by rfl)];refine Qag _ _ _ (by rfl) _ _ _ (by rfl) (by rfl) hr2 ?_;have I:=I.kept hk2 hb2;clear hr2 hk2 hb2
  rotate_left 2
  focus
   simp only[zG];go_simp;have T:=T.new2 (g:=w.heap.size+1+1+1) (by simp);have I:=I.alloc (.cells #[] 3);refine hK.out _ _ I.s4 fun hH=> ?_;clear hK K;try simp only[zX,zY]
   refine zR1 2 (fun K hK=> ?_);simp only[zG];go_simp;have T:=T.new1 (g:=w.heap.size+1+1+1+1) (by simp);have I:=I.alloc (.cells #[] 3);refine hK.out _ _ I.s4 fun hH=> ?_;clear hK K;try simp only[zX,zY]
   refine zR1 5 (fun K hK=> ?_);simp only[zG];obtain⟨x1,y1,w1,hr1,T',hk1,hb1⟩:=T.app1 (cap:=ca) (HA.out.below I.bl) hm;have T:=T';clear T';rw[if_pos (by rfl)];refine Qag _ _ _ (by rfl) _ _ _ (by rfl) (by rfl) hr1 ?_;have I:=I.kept hk1 hb1;clear hr1 hk1 hb1;refine hK.out _ _ I.s4 fun hH=> ?_;clear hK K;try simp only[zX,zY]
   refine zR1 9 (fun K hK=> ?_);simp only[zG];obtain⟨x2,y2,w2,hr2,T',hk2,hb2⟩:=T.app2 (cap:=cb) (HB.out.below I.bl) hb;have T:=T';clear T';rw[if_pos (by rfl)];refine Qag _ _ _ (by rfl) _ _ _ (by rfl) (by rfl) hr2 ?_;have I:=I.kept hk2 hb2;clear hr2 hk2 hb2
 all_goals
  refine hK.out _ _ I.s4 fun hH=> ?_;clear hK K;try simp only[zX,zY]
  refine zR1 13 (fun K hK=> ?_);simp only[zG];obtain⟨x3,y3,w3,hr3,T',hk3,hb3⟩:=T.app3 (cap:=cc) (HC.out.below I.bl) ho;have T:=T';clear T';rw[if_pos (by rfl)];refine Qag _ _ _ (by rfl) _ _ _ (by rfl) (by rfl) hr3 ?_;have I:=I.kept hk3 hb3;clear hr3 hk3 hb3;obtain⟨r0,r1,r2,r3⟩:=I.r.row4;have f0:=I.r.thaw 0;have f1:=I.r.thaw 1;have f2:=I.r.thaw 2;have f3:=I.r.thaw 3;refine hK.out _ _ I.s4 fun hH=> ?_;clear hK K;try simp only[zX,zY]
  refine zt1 14 ?_;refine ztn (h:= ?_);try simp only[zX,zY]
  refine zte ?_;refine zR1 15 (fun K hK=> ?_);simp only[zG];go_simp;refine hK.out _ _ ((I.g.off (Qc0 w3 (w.heap.size+1) (.int .i64 gen) (.slice x1 m.length y1) (.slice x2 b.length y2) (.slice x3 o.length y3)) (by simp)).row4) fun hH=> ?_;clear hK K;try simp only[zX,zY]
  refine zdn ?_;generalize w3=W at*;go_wp2;have k0:Blk (W.setCell ⟨w.heap.size+1,0,none⟩ (.int .i64 gen)) (w.heap.size+1) 80 (Qaj gen none 0 0 none 0 0 none 0 0):=I.r.setAt 0 _;have s0:(W.setCell ⟨w.heap.size+1,0,none⟩ (.int .i64 gen)).cell? ⟨w.heap.size+1,0,none⟩=some (.int .i64 gen):=k0.row4.1;have k1:Blk ((W.setCell ⟨w.heap.size+1,0,none⟩ (.int .i64 gen)).setCell ⟨w.heap.size+1,1,none⟩ (.slice x1 m.length y1)) (w.heap.size+1) 80 (Qaj gen x1 m.length y1 none 0 0 none 0 0):=k0.setAt 1 _;have s1:((W.setCell ⟨w.heap.size+1,0,none⟩ (.int .i64 gen)).setCell ⟨w.heap.size+1,1,none⟩ (.slice x1 m.length y1)).cell? ⟨w.heap.size+1,1,none⟩=some (.slice x1 m.length y1):=k1.row4.2.1;have k2:Blk (((W.setCell ⟨w.heap.size+1,0,none⟩ (.int .i64 gen)).setCell ⟨w.heap.size+1,1,none⟩ (.slice x1 m.length y1)).setCell ⟨w.heap.size+1,2,none⟩ (.slice x2 b.length y2)) (w.heap.size+1) 80 (Qaj gen x1 m.length y1 x2 b.length y2 none 0 0):=k1.setAt 2 _;have s2:(((W.setCell ⟨w.heap.size+1,0,none⟩ (.int .i64 gen)).setCell ⟨w.heap.size+1,1,none⟩ (.slice x1 m.length y1)).setCell ⟨w.heap.size+1,2,none⟩ (.slice x2 b.length y2)).cell? ⟨w.heap.size+1,2,none⟩=some (.slice x2 b.length y2):=k2.row4.2.2.1;have k3:Blk ((((W.setCell ⟨w.heap.size+1,0,none⟩ (.int .i64 gen)).setCell ⟨w.heap.size+1,1,none⟩ (.slice x1 m.length y1)).setCell ⟨w.heap.size+1,2,none⟩ (.slice x2 b.length y2)).setCell ⟨w.heap.size+1,3,none⟩ (.slice x3 o.length y3)) (w.heap.size+1) 80 (Qaj gen x1 m.length y1 x2 b.length y2 x3 o.length y3):=k2.setAt 3 _
  have s3:((((W.setCell ⟨w.heap.size+1,0,none⟩ (.int .i64 gen)).setCell ⟨w.heap.size+1,1,none⟩ (.slice x1 m.length y1)).setCell ⟨w.heap.size+1,2,none⟩ (.slice x2 b.length y2)).setCell ⟨w.heap.size+1,3,none⟩ (.slice x3 o.length y3)).cell? ⟨w.heap.size+1,3,none⟩=some (.slice x3 o.length y3):=k3.row4.2.2.2;refine bodyPost_ret (v:= .agg (Qaj gen x1 m.length y1 x2 b.length y2 x3 o.length y3)) (by simp[results,Tryz.results211,go_sem,s0,s1,s2,s3]) rfl ?_;exact T.told I
end Go.Proofs.YtpippjjhelgnlaaGreat.Gen
