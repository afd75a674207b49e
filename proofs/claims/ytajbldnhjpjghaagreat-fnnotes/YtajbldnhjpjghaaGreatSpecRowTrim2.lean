/-
  spec.RowTrim at this seat, where the row is right.
-/
import Derived.Test.YtajbldnhjpjghaaGreatGrpJ2
set_option linter.unusedVariables false
set_option linter.unusedSimpArgs false
set_option maxRecDepth 100000
set_option maxHeartbeats 8000000
set_option maxRecDepth 100000
set_option maxHeartbeats 8000000
namespace Go.Proofs.YtajbldnhjpjghaaGreat.Items
open ChangeShapes WideShapes ChangeAt RowKit Shelf Base
theorem Qix (x:Int):IntKind.i64.wrap x=wrap64 x:=by rw[IntKind.wrap_i64];unfold wrap64;rfl
def Qsp (w wr:World) (B:Nat) (start next length keep:Int) (A:Option Addr) (cap:Nat) (l:List It):Prop:=
  ∃(m:List It) (st:Int) (a:Option Addr) (c n:Nat),Hid (Blk wr w.heap.size 134 (Qa5 start next A l.length cap))/\Hid (Blk wr (w.heap.size+1) 134 Qco)/\Hid (Blk wr B 134 (Qa5 st next a m.length c))/\
    Hid (wr.ownsRow (w.heap.size+1+1) 136 5 (.slice a m.length c) m.length (flat m))/\Hid (some B≠(Value.slice a m.length c).ownBlock)/\Hid (Below w.heap.size w wr)/\Hid (m.length<=80)/\Hid (Qkv m)/\Hid (up m)/\Hid (m.length<=n)/\Hid (trimF next length keep n st m=trimF next length keep l.length start l)
theorem In.drop {w:World} {b o:Nat}:∀(j:Nat) {l:List It},In w b o l->In w b (o+j*5) (l.drop j)
 |0,l,h=>by simpa using h
 |j+1,[],h=>by intro k v hv;simp[flat]at hv
 |j+1,x::l,h=>by
  have:=In.drop j h.tail;rw[List.drop_succ_cons,show o+(j+1) *5=o+5+j*5 by omega];exact this
theorem Qkm {w wr w3:World} {start next length keep st:Int} {A:Option Addr} {cap:Nat} {l t D:List It} {x:It} {B c n c' k k' :Nat} {a a' :Option Addr} (h1:1<=length) (h2:length<=9223372036854775807) (hoff:Qkv (x::t)) (hup:up (x::t)) (hg:keep<((x::t).length:Int))
 (hv:¬wrap64 (x.off.tdiv length)=wrap64 ((wrap64 (next - 1)).tdiv length)) (hlen:Qmm wr B=t.length+1) (hm:(x::t).length<=80) (hmn:(x::t).length<=n)
 (hd:trimF next length keep n st (x::t)=trimF next length keep l.length start l) (hBB:w.heap.size+1<B) (hD:D=(x::t).dropWhile (fun y=>decide (dv y.off length=dv x.off length))) (hk' :k' =D.length)
 (y0:Blk w3 w.heap.size 134 (Qa5 start next A l.length cap)) (y1:Blk w3 (w.heap.size+1) 134 Qco) (y2:Blk w3 B 134 (Qa5 st next a k c))
 (hown:w3.ownsRow (w.heap.size+1+1) 136 5 (.slice a' k' c') k' (flat D)) (hfar:some B≠(Value.slice a' k' c').ownBlock) (hB:Below w.heap.size w w3):
 Qsp w ((w3.setCell ⟨B,2,none⟩ (.slice a' k' c')).setCell ⟨B,0,none⟩ (.int .i64 (Qft x.off length))) B start next length keep A cap l/\
 Qmm ((w3.setCell ⟨B,2,none⟩ (.slice a' k' c')).setCell ⟨B,0,none⟩ (.int .i64 (Qft x.off length))) B<Qmm wr B:=by
 subst hk';have hx:=hoff x (by simp);have hsame:=Qpk hup hoff h1 h2;have hDt:D=t.dropWhile (fun y=>decide (dv y.off length=dv x.off length)):=by rw[hD];exact List.dropWhile_cons_of_pos (by simp)
 have hDl:D.length<=t.length:=by rw[hDt];exact Qsj _ _
 have z2:Blk _ B 134 (Qa5 (Qft x.off length) next a' D.length c'):=(y2.setAt 2 (.slice a' D.length c')).setAt 0 (.int .i64 (Qft x.off length));refine⟨⟨D,Qft x.off length,a',c',n - 1,(y0.other (by omega) _ _).other (by omega) _ _,(y1.other (by omega) _ _).other (by omega) _ _,z2,Qam (Qam hown hfar) hfar,hfar,Qav (Qav hB (by omega) _) (by omega) _,?_,?_,?_,?_,?_⟩,?_⟩
 . show _<=_;simp at hm;omega
 . show Qkv D;rw[hD];exact Qp7 hoff _
 . show up D;rw[hD];exact Qrm hup _
 . show _<=_;simp at hmn;omega
 . show _=_;rw[← hd];cases n with
   |zero=>simp at hmn
   |succ n=>
    simp only[trimF];rw[if_pos ⟨hg,fun h=>hv (by rw[Qix]at h;exact h)⟩,hsame,← hD];rfl
 . rw[Qlq z2.row.2.2,hlen];omega
theorem specRowTrim_yes (start next length keep:Int) (h1:1<=length) (h2:length<=9223372036854775807) (hk:0<=keep) (A:Option Addr) (cap:Nat) (l:List It) (hl:l.length<=1048576) (hs:∀x∈l,x.key.size<=9223372036854775807/\x.text.size<=9223372036854775807) (hn:I64 next)
 (hr:rowB start next l=true) (w:World) (hA:At w A l):
 Calls Tryz.prog 121 #[.agg (Qa5 start next A l.length cap),.int .i64 length,.int .i64 keep] w fun e w' =>∃v,e= .returned (.agg #[.int .i64 (trimF next length keep l.length start l).1,.int .i64 next,v])/\
  w'.ownsRow w.heap.size 136 5 v (trimF next length keep l.length start l).2.length (flat (trimF next length keep l.length start l).2)/\Below w.heap.size w w' :=by
 have HA:Hid (At w A l):=hA;have Hs:Hid (∀x∈l,x.key.size<=9223372036854775807/\x.text.size<=9223372036854775807):=hs;have Hn:Hid (I64 next):=hn;have HR:=hidP hr;have Hup:=hidP (Qrv hr);clear hA hs hn hr;go_enter Tryz.func121,Tryz.ntmps121;go_wp2_with fail;refine(l3Copy_any start next A cap l (by omega) _ (HA.out.below (Qad (Qad (Below.refl _ w) _) _))).mono ?_;rintro e w1 ⟨v,rfl,hown,g1⟩;have B1:Below w.heap.size w w1:=via0 g1 (Qad (Qad (Below.refl _ w) _) _);have p0:=((Blk.new w 134 (Qa5 start next A l.length cap)).alloc (.cells Qco 134)).below g1 (by simp;omega);have p1:=(Blk.new (w.alloc (.cells (Qa5 start next A l.length cap) 134)) 134 Qco).below g1 (by simp);rw[World.size_alloc]at p1;obtain⟨a,c,rfl,hc⟩:=Qao hown;simp only[World.size_alloc]at hown;have Hown:Hid (w1.ownsRow (w.heap.size+1+1) 136 5 (.slice a l.length c) l.length (flat l)):=hown;clear hown hc;obtain⟨u0,u1,u2⟩:=p0.row;have q0:=p0.lt;have q1:=p1.lt;have hx:¬length<1:=by omega
 have hy:¬keep<0:=by omega
 go_wp2_with fail;refine(Qcq start next _ _ l (by omega) Hs.out Hn.out.1 Hn.out.2 _ (HA.out.below (Qad B1 _))).mono ?_;rintro e w2 ⟨rfl,g2⟩;rw[HR.out];have B2:Below w.heap.size w w2:=via0 g2 (Qad B1 _);have r0:=(p0.alloc (.cells (Qa5 start next a l.length c) 134)).below g2 (p0.alloc _).lt;have r1:=(p1.alloc (.cells (Qa5 start next a l.length c) 134)).below g2 (p1.alloc _).lt;have r2:=(Blk.new w1 134 (Qa5 start next a l.length c)).below g2 (by simp);have far2:some w1.heap.size≠(Value.slice a l.length c).ownBlock:=fun h=>by have:=Qcn Hown.out h.symm;omega
 have S0:Hid (Qsp w w2 w1.heap.size start next length keep A cap l):=
  ⟨l,start,a,c,l.length,r0,r1,r2,Qas (Qau Hown.out _) g2,far2,B2,Hup.out.2.2,Hup.out.2.1,Hup.out.1,Nat.le_refl _,rfl⟩
 have hB1:w.heap.size+1<w1.heap.size:=q1;clear u0 u1 u2 p0 p1 r0 r1 r2 far2 Hown g1 g2 B1 B2 q0 q1 HA;generalize hBB:w1.heap.size=B at*;clear hBB;go_wp2_with fail
 go_loopw [] (fun wr=>Qsp w wr B start next length keep A cap l) (fun wr=>Qmm wr B)
 case atStart=>exact S0.out
 case round=>
  obtain⟨m,st,a,c,n,b0,b1,b2,hown,hfar,hB,hm,hoff,hup,hmn,hd⟩:=hrel;obtain⟨v0,v1,v2⟩:=b0.out.row;obtain⟨c0,c1,c2⟩:=b2.out.row;have q0:=b0.out.lt;have q1:=b1.out.lt;have q2:=b2.out.lt;have hlen:=Qlq c2;obtain⟨n0,n1,n2⟩:=b1.out.row;have k0:=b1.out.thaw 0;have k1:=b1.out.thaw 1;have k2:=b1.out.thaw 2;have far:=hidP (Qa9 hown.out (show w.heap.size+1<w.heap.size+1+1 by omega));by_cases hg:keep<(m.length:Int)
  . obtain⟨x,t,rfl⟩:∃x t,m=x::t:=(by cases m with|nil=>simp at hg;omega|cons x t=>exact⟨x,t,rfl⟩);obtain⟨b,o,rfl,hb,hin⟩:∃b o,a=some ⟨b,o,none⟩/\b<wr.heap.size/\In wr b o (x::t):=(Qc2 hown.out).resolve_left (by simp);obtain⟨x0,x1,x2,x3,x4⟩:=hin.get 0 (by simp);simp only[Nat.zero_mul,Nat.add_zero,List.getElem_cons_zero]at x0 x1 x2 x3 x4;have Hin:=hidP hin;clear hin;have hz:¬length=0:=(by omega);have Hg:=hidP hg;simp only[List.length_cons]at hg hlen c2;by_cases hv:wrap64 (x.off.tdiv length)=wrap64 ((wrap64 (next - 1)).tdiv length)
    . have E9:Hid (trimF next length keep l.length start l=(st,x::t)):=by
       show trimF next length keep l.length start l=(st,x::t)
       rw[← hd.out];cases n with
       |zero=>rfl
       |succ n=>simp only[trimF];rw[if_neg (fun h=>h.2 (by rw[Qix];exact hv))]
      go_wp2;have z:Blk _ (w.heap.size+1) 134 (Qa5 st next (some ⟨b,o,none⟩) (t.length+1) c):=((b1.out.setAt 0 (.int .i64 st)).setAt 1 (.int .i64 next)).setAt 2 (.slice (some ⟨b,o,none⟩) (t.length+1) c);obtain⟨e0,e1,e2⟩:=z.row;exact bodyPost_ret (v:= .agg (Qa5 st next (some ⟨b,o,none⟩) (t.length+1) c)) (by simp[results,Tryz.results121,go_sem,e0,e1,e2]) rfl
       ⟨_,by rw[E9.out],by rw[E9.out];exact Qat (Qam (Qam (Qam hown.out far.out) far.out) far.out) (by omega),Qav (Qav (Qav hB.out (by omega) _) (by omega) _) (by omega) _⟩
    . have Hv:=hidP hv;go_wp2_with fail
      go_loopw [9] (fun k wr' =>∃j:Nat,k= .int .i64 (j:Int)/\j<=t.length+1/\wr' =wr/\Hid (((x::t).drop j).dropWhile (fun y=>decide (dv y.off length=dv x.off length))=(x::t).dropWhile (fun y=>decide (dv y.off length=dv x.off length)))) (fun k _=>t.length+1 - (intOf k).toNat)
      case atStart=>exact⟨0,rfl,by omega,rfl,rfl⟩
      case round=>
       obtain⟨j,rfl,hj,rfl,hD⟩:=hrel;by_cases hc:j<t.length+1/\∀h:j<(x::t).length,wrap64 (((x::t)[j]).off.tdiv length)=wrap64 (x.off.tdiv length)
       . obtain⟨hlt,hy⟩:=hc;have hj0:(0:Int)<=(j:Int):=(by omega);have hj1:(j:Int)<(t.length:Int)+1:=(by omega);have hj2:(j:Int)<=1048576:=(by have:t.length+1<=80:=hm.out;omega);have hjl:j<(x::t).length:=(by simpa using hlt);obtain⟨y0,_,_,_,_⟩:=Hin.out.get j hjl;have hy' :=hy hjl;have hD' :Hid (((x::t).drop (j+1)).dropWhile (fun y=>decide (dv y.off length=dv x.off length))=(x::t).dropWhile (fun y=>decide (dv y.off length=dv x.off length))):=by
          show _=_;rw[← hD.out,List.drop_eq_getElem_cons hjl,List.dropWhile_cons_of_pos (by exact decide_eq_true hy')]
         clear hD hy;go_wp2;exact⟨⟨j+1,by go_num,by omega,trivial,hD'⟩,by simp[intOf];omega⟩
       . have hD' :Hid ((x::t).drop j=(x::t).dropWhile (fun y=>decide (dv y.off length=dv x.off length))):=by
          show _=_;rw[← hD.out];by_cases hlt:j<(x::t).length
          . rw[List.drop_eq_getElem_cons hlt,List.dropWhile_cons_of_neg];intro h;exact hc ⟨by simpa using hlt,fun _=>of_decide_eq_true h⟩
          . rw[List.drop_eq_nil_of_le (by omega)];rfl
         have Hc:=hidP hc;clear hD hc;have hcl:t.length+1<=c:=by
          rcases hown.out.2 with⟨h,_⟩|⟨g',c1,cur,h,_,_,h',_⟩
          . cases h
          . cases h;exact h'
         generalize hDD:(x::t).drop j=D at*;have hDl:D.length=t.length+1 - j:=(by rw[← hDD];simp);have hWB:Below w.heap.size w (wr.alloc (.cells #[] 136)):=Qad hB.out _;have hatD:At (wr.alloc (.cells #[] 136)) (if c=j then some ⟨b,o,none⟩else some ⟨b,o+j*5,none⟩) D:=by
          by_cases h:c=j
          . left;exact List.length_eq_zero_iff.1 (by omega)
          . rw[if_neg h];by_cases h0:D= []
            . exact .inl h0
            . exact .inr ⟨b,_,rfl,by simp;omega,by rw[← hDD];exact(Hin.out.drop j).below hb (Qad (Below.refl _ _) _)⟩
         obtain⟨v',w3,hr,hown3,hgrow,hat⟩:=Qc0 (w.heap.size+1+1) (.slice (some ⟨wr.heap.size,0,none⟩) 0 0) [] D (if c=j then some ⟨b,o,none⟩else some ⟨b,o+j*5,none⟩) (c - j) (wr.alloc (.cells #[] 136)) (by simp;omega)
          ⟨rfl,.inr ⟨wr.heap.size,0,#[],rfl,by omega,World.alloc_heap_new wr _,Nat.le_refl _,by simp[maxLen],rfl,rfl⟩⟩ hatD (by have:=hm.out;simp at this ⊢;omega)
         simp only[List.length_nil,Nat.zero_add,List.nil_append]at hown3;rw[hDl]at hr;have Y0:=(b0.out.alloc (.cells #[] 136)).kept hgrow (by intro h;have:w.heap.size=wr.heap.size:=Option.some.inj h;omega);have Y1:=(b1.out.alloc (.cells #[] 136)).kept hgrow (by intro h;have:w.heap.size+1=wr.heap.size:=Option.some.inj h;omega);have Y2:=(b2.out.alloc (.cells #[] 136)).kept hgrow (by intro h;have:B=wr.heap.size:=Option.some.inj h;omega);have B3:Below w.heap.size w w3:=hWB.grown hgrow hWB.size (fun k e=>by have:wr.heap.size=k:=Option.some.inj e;omega);obtain⟨a',c',rfl,_⟩:=Qao hown3;have hfar3:some B≠(Value.slice a' D.length c').ownBlock:=by
          rcases hat with e|e
          . rw[e];intro h;have:B=wr.heap.size:=Option.some.inj h;omega
          . rw[e];intro h;have:=Option.some.inj h;simp at this;omega
         have RND:=hidP (Qkm h1 h2 hoff.out hup.out Hg.out Hv.out hlen hm.out hmn.out hd.out hB1 hD'.out hDl.symm Y0 Y1 Y2 (by rw[← hDl];exact hown3) (by rw[← hDl];exact hfar3) B3);obtain⟨i0,i1,i2⟩:=Y2.row;have j0:=Y2.thaw 0;have j1:=Y2.thaw 1;have j2:=Y2.thaw 2;rw[hDl]at hr;clear hgrow hat hown3 hfar3 hatD hWB B3 Y0 Y1 Y2 hDD hDl hD';by_cases hcj:c=j
         . rw[if_pos hcj]at hr;have hlt:¬j<t.length+1:=(by omega);have hj' :j=t.length+1:=(by omega);have hc' :c=t.length+1:=(by omega);clear hcj hj hcl;subst hj' hc';have RND' :=RND.out;rw[Nat.sub_self]at hr RND';have RND2:=hidP RND';clear RND RND';go_wp2_with (at_builtin;refine Qac rfl _ _ _ rfl _ _ _ rfl rfl hr ?_);exact RND2.out
         . rw[if_neg hcj]at hr;by_cases hlt:j<t.length+1
           . have hj0:(0:Int)<=(j:Int):=(by omega);have hj1:(j:Int)<(t.length:Int)+1:=(by omega);obtain⟨y0,_,_,_,_⟩:=Hin.out.get j (by simpa using hlt);have hy' :¬wrap64 (((x::t)[j]'(by simpa using hlt)).off.tdiv length)=wrap64 (x.off.tdiv length):=fun h=>Hc.out ⟨hlt,fun _=>h⟩
             go_wp2_with (at_builtin;refine Qac rfl _ _ _ rfl _ _ _ rfl rfl hr ?_);exact RND.out
           . go_wp2_with (at_builtin;refine Qac rfl _ _ _ rfl _ _ _ rfl rfl hr ?_);exact RND.out
  . have E9:Hid (trimF next length keep l.length start l=(st,m)):=by
     show trimF next length keep l.length start l=(st,m)
     rw[← hd.out];cases n with
     |zero=>rfl
     |succ n=>cases m with
      |nil=>rfl
      |cons y t=>simp only[trimF];rw[if_neg (fun h=>by have:=h.1;omega)]
    go_wp2;have z:Blk _ (w.heap.size+1) 134 (Qa5 st next a m.length c):=((b1.out.setAt 0 (.int .i64 st)).setAt 1 (.int .i64 next)).setAt 2 (.slice a m.length c);obtain⟨e0,e1,e2⟩:=z.row;exact bodyPost_ret (v:= .agg (Qa5 st next a m.length c)) (by simp[results,Tryz.results121,go_sem,e0,e1,e2]) rfl
     ⟨_,by rw[E9.out],by rw[E9.out];exact Qat (Qam (Qam (Qam hown.out far.out) far.out) far.out) (by omega),Qav (Qav (Qav hB.out (by omega) _) (by omega) _) (by omega) _⟩
theorem Qfw (start next:Int) (i:Nat) (A:Option Addr) (cap:Nat) (l:List It) (hl:l.length<=1048576) (hi:i<l.length) (w:World) (hA:At w A l):
 Calls Tryz.prog 131 #[.agg (Qa5 start next A l.length cap),.int .i64 (i:Int)] w fun e w' =>e= .returned (.bool (Qeg l[i].key.toList (l.drop (i+1))))/\Below w.heap.size w w' :=by
 obtain⟨b,o,rfl,hb,hin⟩:∃b o,A=some ⟨b,o,none⟩/\b<w.heap.size/\In w b o l:=hA.resolve_left (fun h=>by rw[h]at hi;simp at hi);have Hin:=hidP hin;clear hA hin;have hi0:(0:Int)<=(i:Int):=by omega
 have hi1:(i:Int)<(l.length:Int):=by omega
 have hi2:(i:Int)<=1048576:=by omega
 go_enter Tryz.func131,Tryz.ntmps131;go_wp2;have P0:=Blk.new w 134 (Qa5 start next (some ⟨b,o,none⟩) l.length cap)
 go_loopw [5] (fun k w' =>∃n:Nat,k= .int .i64 (n:Int)/\i+1<=n/\n<=l.length/\Hid (Blk w' w.heap.size 134 (Qa5 start next (some ⟨b,o,none⟩) l.length cap))/\Below w.heap.size w w' /\Hid (Qeg l[i].key.toList (l.drop n)=Qeg l[i].key.toList (l.drop (i+1)))) (fun k _=>l.length - (intOf k).toNat)
 case atStart=>exact⟨i+1,by go_num,Nat.le_refl _,hi,P0,Qad (Below.refl _ _) _,rfl⟩
 case round=>
  obtain⟨n,rfl,hn1,hn2,b0,hbl,hk⟩:=hrel;obtain⟨s0,s1,s2⟩:=b0.out.row;by_cases hlt:n<l.length
  . have hn0:(0:Int)<=(n:Int):=(by omega);have hn3:(n:Int)<(l.length:Int):=(by omega);obtain⟨c0,c1,c2,c3,c4⟩:=(Hin.out.below hb hbl).get n hlt;obtain⟨d0,d1,d2,d3,d4⟩:=(Hin.out.below hb hbl).get i hi;have hst:=Qk7 (key:=l[i].key.toList) hlt;by_cases hx:l[n].key.toList=l[i].key.toList
    . have hF:Hid (Qeg l[i].key.toList (l.drop (i+1))=true):=(by show _=_;rw[← hk.out,hst];simp[hx]);have hx' :(l[n].key.toList==l[i].key.toList)=true:=(by simpa using hx);clear hst hx;go_wp2
      go_region_held3 (fun w' =>w'.cell? ⟨w.heap.size,2,none⟩=some (.slice (some ⟨b,o,none⟩) l.length cap)/\w'.cell? ⟨b,o+n*5+1,none⟩=some (.string l[n].key)/\w'.cell? ⟨b,o+i*5+1,none⟩=some (.string l[i].key)) (first|exact⟨s2,c1,d1⟩|go_keep) (fail)
      all_goals
       go_wp2;go_ret;exact⟨by rw[hF.out];rfl,hbl.drew⟩
    . have hx' :(l[n].key.toList==l[i].key.toList)=false:=(by simpa using hx);have hF:Hid (Qeg l[i].key.toList (l.drop (n+1))=Qeg l[i].key.toList (l.drop (i+1))):=(by show _=_;rw[← hk.out,hst,hx'];rfl);clear hst hx;go_wp2
      go_region_held3 (fun w' =>w'.cell? ⟨w.heap.size,2,none⟩=some (.slice (some ⟨b,o,none⟩) l.length cap)/\w'.cell? ⟨b,o+n*5+1,none⟩=some (.string l[n].key)/\w'.cell? ⟨b,o+i*5+1,none⟩=some (.string l[i].key)) (first|exact⟨s2,c1,d1⟩|go_keep) (fail)
      all_goals
       go_wp2;exact⟨⟨n+1,by go_num,by omega,by omega,b0.out.drew,hbl.drew,hF⟩,by simp[intOf];omega⟩
  . have hF:Hid (Qeg l[i].key.toList (l.drop (i+1))=false):=(by show _=_;rw[← hk.out,List.drop_eq_nil_of_le (by omega)];rfl);go_wp2;go_ret;exact⟨by rw[hF.out];rfl,hbl⟩
end Go.Proofs.YtajbldnhjpjghaaGreat.Items
