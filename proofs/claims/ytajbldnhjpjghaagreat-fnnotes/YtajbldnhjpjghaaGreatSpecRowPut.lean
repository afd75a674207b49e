/-
  spec.RowPut at this seat.
-/
import Derived.Test.YtajbldnhjpjghaaGreatGrpSt
import Derived.Test.YtajbldnhjpjghaaGreatSpecRowOk2
set_option linter.unusedVariables false
set_option linter.unusedSimpArgs false
set_option maxRecDepth 100000
set_option maxHeartbeats 8000000
set_option maxRecDepth 100000
set_option maxHeartbeats 8000000
namespace Go.Proofs.YtajbldnhjpjghaaGreat.Items
open ChangeShapes WideShapes ChangeAt RowKit Shelf Base
def putB (start next:Int) (l:List It) (x:It):Bool:=rowB start next l&&rowB start (wrap64 (next+1)) (l++ [x])
theorem specRowPut_no (start next who time:Int) (key text:ByteArray) (A:Option Addr) (cap:Nat) (l:List It) (hl:l.length<=1048576) (hs:∀x∈l,x.key.size<=9223372036854775807/\x.text.size<=9223372036854775807) (hn:I64 next)
 (h1:rowB start next l=false) (w:World) (hA:At w A l):
 Calls Tryz.prog 127 #[.agg (Qa5 start next A l.length cap),.string key,.string text,.int .i64 who,.int .i64 time] w fun e w' =>∃v,e= .returned (.tuple #[.agg #[.int .i64 start,.int .i64 next,v],.int .i64 0,.bool false])/\
  w'.ownsRow w.heap.size 136 5 v l.length (flat l)/\Below w.heap.size w w' :=by
 have HA:Hid (At w A l):=hA;have Hs:Hid (∀x∈l,x.key.size<=9223372036854775807/\x.text.size<=9223372036854775807):=hs;have Hn:Hid (I64 next):=hn;have H1:Hid (rowB start next l=false):=h1;clear hA hs hn h1;go_enter Tryz.func127,Tryz.ntmps127;go_wp2_with fail;refine(l3Copy_any start next A cap l (by omega) _ (HA.out.below (Qad (Qad (Below.refl _ w) _) _))).mono ?_;rintro e w1 ⟨v,rfl,hown,g1⟩;have B1:Below w.heap.size w w1:=via0 g1 (Qad (Qad (Below.refl _ w) _) _);have p0:=((Blk.new w 134 (Qa5 start next A l.length cap)).alloc (.cells Qco 134)).below g1 (by simp;omega);have p1:=(Blk.new (w.alloc (.cells (Qa5 start next A l.length cap) 134)) 134 Qco).below g1 (by simp);rw[World.size_alloc]at p1;obtain⟨a,c,rfl,hc⟩:=Qao hown;simp only[World.size_alloc]at hown;have Hown:Hid (w1.ownsRow (w.heap.size+1+1) 136 5 (.slice a l.length c) l.length (flat l)):=hown;clear hown hc;obtain⟨u0,u1,u2⟩:=p0.row;have q0:=p0.lt;have q1:=p1.lt;go_wp2_with fail;refine(Qcq start next _ _ l (by omega) Hs.out Hn.out.1 Hn.out.2 _ (HA.out.below (Qad B1 _))).mono ?_;rintro e w2 ⟨rfl,g2⟩;rw[H1.out];have B2:Below w.heap.size w w2:=via0 g2 (Qad B1 _);have r1:=(p1.alloc (.cells (Qa5 start next a l.length c) 134)).below g2 (p1.alloc _).lt;have r2:=(Blk.new w1 134 (Qa5 start next a l.length c)).below g2 (by simp);have Hown2:Hid (w2.ownsRow (w.heap.size+1+1) 136 5 (.slice a l.length c) l.length (flat l)):=Qas (Qau Hown.out _) g2;clear u0 u1 u2;obtain⟨u0,u1,u2⟩:=r2.row;obtain⟨n0,n1,n2⟩:=r1.row;have k0:=r1.thaw 0;have k1:=r1.thaw 1;have k2:=r1.thaw 2;go_wp2;have z:Blk _ (w.heap.size+1) 134 (Qa5 start next a l.length c):=((r1.setAt 0 (.int .i64 start)).setAt 1 (.int .i64 next)).setAt 2 (.slice a l.length c);obtain⟨e0,e1,e2⟩:=z.row
 have far:some (w.heap.size+1)≠(Value.slice a l.length c).ownBlock:=Qa9 Hown2.out (by omega);exact bodyPost_ret (v:= .tuple #[.agg (Qa5 start next a l.length c),.int .i64 0,.bool false]) (by simp[results,Tryz.results127,go_sem,e0,e1,e2]) rfl
  ⟨_,rfl,Qat (Qam (Qam (Qam Hown2.out far) far) far) (by omega),Qav (Qav (Qav B2 (by omega) _) (by omega) _) (by omega) _⟩
theorem Qlv {W:World} {B C:Nat} {t t' :TypeId} {a b c p q r a' b' c' :Value} (h:Blk W C t' #[a,b,c]) (h0:Blk W B t #[p,q,r]) (h' :Blk W (B+1) t #[a',b',c']):
 W.cell? ⟨C,0,none⟩=some a/\W.cell? ⟨C,1,none⟩=some b/\W.cell? ⟨C,2,none⟩=some c/\W.cell? ⟨B,1,none⟩=some q/\
  (W.cell? ⟨B+1,0,none⟩).isSome=true/\(W.cell? ⟨B+1,1,none⟩).isSome=true/\(W.cell? ⟨B+1,2,none⟩).isSome=true/\
  W.frozen? ⟨B+1,0,none⟩=false/\W.frozen? ⟨B+1,1,none⟩=false/\W.frozen? ⟨B+1,2,none⟩=false:=by
 obtain⟨h0',h1,h2⟩:=h.row;obtain⟨_,g1,_⟩:=h0.row;obtain⟨s0,s1,s2,s3,s4,s5⟩:=h'.spots;exact⟨h0',h1,h2,g1,s0,s1,s2,s3,s4,s5⟩
theorem specRowPut_yes (start next who time:Int) (key text:ByteArray) (A:Option Addr) (cap:Nat) (l:List It) (hl:l.length<=1048576) (hs:∀x∈l,x.key.size<=9223372036854775807/\x.text.size<=9223372036854775807) (hn:I64 next)
 (hk:key.size<=9223372036854775807) (ht:text.size<=9223372036854775807)
 (h1:rowB start next l=true) (w:World) (hA:At w A l):
 Calls Tryz.prog 127 #[.agg (Qa5 start next A l.length cap),.string key,.string text,.int .i64 who,.int .i64 time] w fun e w' =>
  (rowB start (wrap64 (next+1)) (l++ [(⟨next,key,text,who,time⟩:It)])=true/\∃v,e= .returned (.tuple #[.agg #[.int .i64 start,.int .i64 (wrap64 (next+1)),v],.int .i64 next,.bool true])/\w'.ownsRow w.heap.size 136 5 v (l.length+1) (flat (l++ [(⟨next,key,text,who,time⟩:It)]))/\Below w.heap.size w w')∨
  (rowB start (wrap64 (next+1)) (l++ [(⟨next,key,text,who,time⟩:It)])=false/\∃v,e= .returned (.tuple #[.agg #[.int .i64 start,.int .i64 next,v],.int .i64 0,.bool false])/\w'.ownsRow w.heap.size 136 5 v l.length (flat l)/\Below w.heap.size w w'):=by
 have HA:Hid (At w A l):=hA;have Hs:Hid (∀x∈l,x.key.size<=9223372036854775807/\x.text.size<=9223372036854775807):=hs;have Hn:Hid (I64 next):=hn;have H1:Hid (rowB start next l=true):=h1;clear hA hs hn h1;go_enter Tryz.func127,Tryz.ntmps127;go_wp2_with fail;refine(l3Copy_any start next A cap l (by omega) _ (HA.out.below (Qad (Qad (Below.refl _ w) _) _))).mono ?_;rintro e w1 ⟨v,rfl,hown,g1⟩;have B1:Below w.heap.size w w1:=via0 g1 (Qad (Qad (Below.refl _ w) _) _);have p0:=((Blk.new w 134 (Qa5 start next A l.length cap)).alloc (.cells Qco 134)).below g1 (by simp;omega);have p1:=(Blk.new (w.alloc (.cells (Qa5 start next A l.length cap) 134)) 134 Qco).below g1 (by simp);rw[World.size_alloc]at p1;obtain⟨a,c,rfl,hc⟩:=Qao hown;simp only[World.size_alloc]at hown;have Hown:Hid (w1.ownsRow (w.heap.size+1+1) 136 5 (.slice a l.length c) l.length (flat l)):=hown;clear hown hc;obtain⟨u0,u1,u2⟩:=p0.row;have q0:=p0.lt;have q1:=p1.lt;go_wp2_with fail;refine(Qcq start next _ _ l (by omega) Hs.out Hn.out.1 Hn.out.2 _ (HA.out.below (Qad B1 _))).mono ?_;rintro e w2 ⟨rfl,g2⟩;rw[H1.out];have B2:Below w.heap.size w w2:=via0 g2 (Qad B1 _);have r0:=(p0.alloc (.cells (Qa5 start next a l.length c) 134)).below g2 (p0.alloc _).lt;have r1:=(p1.alloc (.cells (Qa5 start next a l.length c) 134)).below g2 (p1.alloc _).lt;have r2:=(Blk.new w1 134 (Qa5 start next a l.length c)).below g2 (by simp);have Hown2:Hid (w2.ownsRow (w.heap.size+1+1) 136 5 (.slice a l.length c) l.length (flat l)):=Qas (Qau Hown.out _) g2;have far0:some w.heap.size≠(Value.slice a l.length c).ownBlock:=Qa9 Hown2.out (by omega);have far1:some (w.heap.size+1)≠(Value.slice a l.length c).ownBlock:=Qa9 Hown2.out (by omega);have far2:some w1.heap.size≠(Value.slice a l.length c).ownBlock:=fun h=>by have:=Qcn Hown.out h.symm;omega
 have hb2:Below w2.heap.size w2 (w2.alloc (.cells (Qbs next key text who time) 136)):=Qad (Below.refl _ _) _;have bx:=Blk.new w2 136 (Qbs next key text who time);obtain⟨v',w3,hr,hown3,hgrow,hat⟩:=Qc0 (w.heap.size+1+1) (.slice a l.length c) l [(⟨next,key,text,who,time⟩:It)] (some ⟨w2.heap.size,0,none⟩) 1 (w2.alloc (.cells (Qbs next key text who time) 136)) (by have:=r0.lt;simp;omega) (Qau Hown2.out _)
  (.inr ⟨w2.heap.size,0,rfl,by simp,fun j u hu=>bx.cell (i:=0+j) (by simpa [flat,It.cs]using hu)⟩) (by simp;omega)
 simp only[List.length_cons,List.length_nil,Nat.zero_add]at hown3 hr;obtain⟨a',c',rfl,hc'⟩:=Qao hown3;have t0:=(r0.alloc _).kept hgrow far0;have t1:=(r1.alloc _).kept hgrow far1;have t2:=(r2.alloc _).kept hgrow far2;have B3:Below w.heap.size w w3:=(Qad B2 _).grown hgrow (Qad B2 _).size (fun k e=>by
  rcases Hown2.out.2 with⟨e',_⟩|⟨g,c1,cur,e',hB,_⟩
  . rw[e']at e;cases e
  . rw[e']at e;have:g=k:=(by simpa [Value.ownBlock]using e);omega)
 have sz2:(w2.alloc (.cells (Qbs next key text who time) 136)).heap.size=w2.heap.size+1:=World.size_alloc _ _;have fa:∀k,k<w2.heap.size->some k≠(Value.slice a l.length c).ownBlock->some k≠(Value.slice a' (l.length+1) c').ownBlock:=fun k hk hne=>by
  rcases hat with e|e
  . rw[e];exact hne
  . rw[e];intro h;have:=Option.some.inj h;omega
 have Fa0:Hid (some w.heap.size≠(Value.slice a' (l.length+1) c').ownBlock):=fa _ r0.lt far0;have Fa1:Hid (some (w.heap.size+1)≠(Value.slice a' (l.length+1) c').ownBlock):=fa _ r1.lt far1;have Fa2:Hid (some w1.heap.size≠(Value.slice a' (l.length+1) c').ownBlock):=fa _ r2.lt far2;have Hown3:Hid (w3.ownsRow (w.heap.size+1+1) 136 5 (.slice a' (l.length+1) c') (l.length+1) (flat (l++ [(⟨next,key,text,who,time⟩:It)]))):=hown3;have Bg:Hid (Below w.heap.size w w3):=B3;clear u0 u1 u2 hgrow hat hown3 far0 far1 far2 fa hb2 bx sz2 hc' B3;obtain⟨u0,u1,u2⟩:=r0.row;obtain⟨m0,m1,m2⟩:=r2.row;obtain⟨i0,i1,i2⟩:=t0.row;obtain⟨n0,n1,n2⟩:=t2.row;have k0:=t2.thaw 0;have k1:=t2.thaw 1;have k2:=t2.thaw 2;have q2:=r0.lt;have q3:=r2.lt;have hne:w1.heap.size≠w.heap.size:=by omega
 go_wp2_with (at_builtin;refine Qac rfl _ _ _ rfl _ _ _ rfl rfl hr ?_);have Hown4:Hid (((w3.setCell ⟨w1.heap.size,2,none⟩ (.slice a' (l.length+1) c')).setCell ⟨w1.heap.size,1,none⟩ (.int .i64 (wrap64 (next+1)))).ownsRow (w.heap.size+1+1) 136 5 (.slice a' (l.length+1) c') (l.length+1) (flat (l++ [(⟨next,key,text,who,time⟩:It)]))):=Qam (Qam Hown3.out Fa2.out) Fa2.out;have B4:Below w.heap.size w ((w3.setCell ⟨w1.heap.size,2,none⟩ (.slice a' (l.length+1) c')).setCell ⟨w1.heap.size,1,none⟩ (.int .i64 (wrap64 (next+1)))):=Qav (Qav Bg.out (by omega) _) (by omega) _;have v0:=(t0.other (B' :=w1.heap.size) (by omega) 2 (.slice a' (l.length+1) c')).other (B' :=w1.heap.size) (by omega) 1 (.int .i64 (wrap64 (next+1)));have v1:=(t1.other (B' :=w1.heap.size) (by omega) 2 (.slice a' (l.length+1) c')).other (B' :=w1.heap.size) (by omega) 1 (.int .i64 (wrap64 (next+1)));have v2:Blk _ w1.heap.size 134 (Qa5 start (wrap64 (next+1)) a' (l.length+1) c'):=(t2.setAt 2 (.slice a' (l.length+1) c')).setAt 1 (.int .i64 (wrap64 (next+1)));have e9:(l++ [(⟨next,key,text,who,time⟩:It)]).length=l.length+1:=by simp
 have hw:=Qrf (wrap64_wf (next+1));have hok:=Qcq start (wrap64 (next+1)) a' c' (l++ [(⟨next,key,text,who,time⟩:It)]) (by rw[e9];omega) (fun y hy=>by
  rcases List.mem_append.1 hy with h|h
  . exact Hs.out y h
  . simp at h;subst h;exact⟨hk,ht⟩) hw.1 hw.2 _ (Qc2 (by rw[e9];exact Hown4.out))
 rw[e9]at hok;refine hok.mono ?_;rintro e w5 ⟨rfl,g5⟩;have B5:Below w.heap.size w w5:=via0 g5 B4;have y0:=v0.below g5 v0.lt;have y1:=v1.below g5 v1.lt;have y2:=v2.below g5 v2.lt;have Hown5:Hid (w5.ownsRow (w.heap.size+1+1) 136 5 (.slice a' (l.length+1) c') (l.length+1) (flat (l++ [(⟨next,key,text,who,time⟩:It)]))):=Qas Hown4.out g5;clear hok u0 u1 u2 m0 m1 m2 i0 i1 i2 n0 n1 n2 k0 k1 k2 hr hw e9 v0 v1 v2 t0 t1 t2 r0 r1 r2 p0 p1 g5 Hown4 Hown3 Hown2 Hown Fa0 Bg B4 B2 B1 g2 g1;obtain⟨u0,u1,u2⟩:=y0.row;obtain⟨m0,m1,m2⟩:=y2.row;have q5:=y0.lt;have q6:=y1.lt;cases h2:rowB start (wrap64 (next+1)) (l++ [(⟨next,key,text,who,time⟩:It)])
 . go_wp2_with fail;refine(l3Copy_any start next A cap l (by omega) _ (HA.out.below B5)).mono ?_;rintro e w6 ⟨v6,rfl,hown6,g6⟩;obtain⟨a6,c6,rfl,_⟩:=Qao hown6;have z1:=y1.below g6 y1.lt;obtain⟨n0,n1,n2⟩:=z1.row;have k0:=z1.thaw 0;have k1:=z1.thaw 1;have k2:=z1.thaw 2;have far:some (w.heap.size+1)≠(Value.slice a6 l.length c6).ownBlock:=Qa9 hown6 q6;have Hown6:Hid (w6.ownsRow w5.heap.size 136 5 (.slice a6 l.length c6) l.length (flat l)):=hown6;have Far:Hid (some (w.heap.size+1)≠(Value.slice a6 l.length c6).ownBlock):=far;clear hown6 far;go_wp2;have z:Blk _ (w.heap.size+1) 134 (Qa5 start next a6 l.length c6):=((z1.setAt 0 (.int .i64 start)).setAt 1 (.int .i64 next)).setAt 2 (.slice a6 l.length c6);obtain⟨e0,e1,e2⟩:=z.row;exact bodyPost_ret (v:= .tuple #[.agg (Qa5 start next a6 l.length c6),.int .i64 0,.bool false]) (by simp[results,Tryz.results127,go_sem,e0,e1,e2]) rfl
    (.inr ⟨h2,_,rfl,Qat (Qam (Qam (Qam Hown6.out Far.out) Far.out) Far.out) (by omega),Qav (Qav (Qav (via0 g6 B5) (by omega) _) (by omega) _) (by omega) _⟩)
 . go_wp2_with fail;have z0:=((y0.other (B' :=w.heap.size+1) (by omega) 0 (.int .i64 start)).other (B' :=w.heap.size+1) (by omega) 1 (.int .i64 (wrap64 (next+1)))).other (B' :=w.heap.size+1) (by omega) 2 (.slice a' (l.length+1) c');have z2:=((y2.other (B' :=w.heap.size+1) (by omega) 0 (.int .i64 start)).other (B' :=w.heap.size+1) (by omega) 1 (.int .i64 (wrap64 (next+1)))).other (B' :=w.heap.size+1) (by omega) 2 (.slice a' (l.length+1) c');have z1:Blk _ (w.heap.size+1) 134 (Qa5 start (wrap64 (next+1)) a' (l.length+1) c'):=((y1.setAt 0 (.int .i64 start)).setAt 1 (.int .i64 (wrap64 (next+1)))).setAt 2 (.slice a' (l.length+1) c');have SW:=Qlv y2 y0 y1;have SD:=Qlv y2.drew y0.drew y1.drew;have SZ:=Qlv z2 z0 z1;have SE:=Qlv z2.drew z0.drew z1.drew;obtain⟨e0,e1,e2⟩:=z1.row;obtain⟨n0,n1,n2⟩:=y1.row;have k0:=y1.thaw 0;have k1:=y1.thaw 1;have k2:=y1.thaw 2;have H2:Hid (rowB start (wrap64 (next+1)) (l++ [(⟨next,key,text,who,time⟩:It)])=true):=h2;clear h2 z0 z1 z2 y0 y1 y2
   go_region_held3 (fun w' =>w'.cell? ⟨w1.heap.size,0,none⟩=some (.int .i64 start)/\w'.cell? ⟨w1.heap.size,1,none⟩=some (.int .i64 (wrap64 (next+1)))/\w'.cell? ⟨w1.heap.size,2,none⟩=some (.slice a' (l.length+1) c')/\w'.cell? ⟨w.heap.size,1,none⟩=some (.int .i64 next)/\
    (w'.cell? ⟨w.heap.size+1,0,none⟩).isSome=true/\(w'.cell? ⟨w.heap.size+1,1,none⟩).isSome=true/\(w'.cell? ⟨w.heap.size+1,2,none⟩).isSome=true/\
    w'.frozen? ⟨w.heap.size+1,0,none⟩=false/\w'.frozen? ⟨w.heap.size+1,1,none⟩=false/\w'.frozen? ⟨w.heap.size+1,2,none⟩=false)
    (first|with_reducible exact SD|with_reducible exact SE|with_reducible exact SZ|with_reducible exact SW)
    (fail)
   all_goals
    clear SW SD SZ SE n0 n1 n2 k0 k1 k2;go_wp2;exact bodyPost_ret (v:= .tuple #[.agg (Qa5 start (wrap64 (next+1)) a' (l.length+1) c'),.int .i64 next,.bool true]) (by simp[results,Tryz.results127,go_sem,e0,e1,e2]) rfl
     (.inl ⟨H2.out,_,rfl,Qat (Qam (Qam (Qam Hown5.out Fa1.out) Fa1.out) Fa1.out) (by omega),Below.drew (Qav (Qav (Qav B5 (by omega) _) (by omega) _) (by omega) _)⟩)
end Go.Proofs.YtajbldnhjpjghaaGreat.Items
namespace Go.Proofs.YtajbldnhjpjghaaGreat.Gen
open ChangeShapes WideShapes ChangeAt RowKit Joins Deep Base
open Items (It)
def rpOk (start next:Int) (l:List It) (key text:ByteArray) (who time:Int):Bool:=Items.putB start next l ⟨next,key,text,who,time⟩
def rpL (start next:Int) (l:List It) (key text:ByteArray) (who time:Int):List It:=if rpOk start next l key text who time then l++ [⟨next,key,text,who,time⟩]else l
def rpX (start next:Int) (l:List It) (key text:ByteArray) (who time:Int):Int:=if rpOk start next l key text who time then wrap64 (next+1)else next
def rpN (start next:Int) (l:List It) (key text:ByteArray) (who time:Int):Int:=if rpOk start next l key text who time then next else 0
theorem Qhf (start next who time:Int) (key text:ByteArray) (A:Option Addr) (cap:Nat) (l:List It) (hl:l.length<=1000000) (hs:∀x∈l,x.key.size<=9223372036854775807/\x.text.size<=9223372036854775807) (hn:Items.I64 next) (hk:key.size<=9223372036854775807) (ht:text.size<=9223372036854775807) (w:World) (hA:At w A l):
 Calls Tryz.prog 127 #[.agg (Qa5 start next A l.length cap),.string key,.string text,.int .i64 who,.int .i64 time] w fun e w' =>∃a c,e= .returned (.tuple #[.agg (Qa5 start (rpX start next l key text who time) a (rpL start next l key text who time).length c),.int .i64 (rpN start next l key text who time),.bool (rpOk start next l key text who time)])/\
  w'.ownsRow w.heap.size 136 5 (.slice a (rpL start next l key text who time).length c) (rpL start next l key text who time).length (flat (rpL start next l key text who time))/\Below w.heap.size w w' :=by
 cases h1:Items.rowB start next l with
 |false=>
  have e:rpOk start next l key text who time=false:=by simp[rpOk,Items.putB,h1]
  refine(Items.specRowPut_no start next who time key text A cap l (by omega) hs hn h1 w hA).mono ?_;rintro e' w' ⟨v,rfl,ho,hb⟩;obtain⟨a,c,rfl,_⟩:=Qao ho;rw[show rpL start next l key text who time=l by simp[rpL,e],e,show rpX start next l key text who time=next by simp[rpX,e],show rpN start next l key text who time=0 by simp[rpN,e]];exact⟨a,c,rfl,ho,hb⟩
 |true=>
  refine(Items.specRowPut_yes start next who time key text A cap l (by omega) hs hn hk ht h1 w hA).mono ?_;rintro e' w' (⟨h2,v,rfl,ho,hb⟩|⟨h2,v,rfl,ho,hb⟩)
  . have e:rpOk start next l key text who time=true:=by simp[rpOk,Items.putB,h1,h2]
    obtain⟨a,c,rfl,_⟩:=Qao ho;have hL:rpL start next l key text who time=l++ [⟨next,key,text,who,time⟩]:=by simp[rpL,e]
    have hn2:l.length+1=(l++ [(⟨next,key,text,who,time⟩:It)]).length:=(by simp);rw[hL,e,show rpX start next l key text who time=wrap64 (next+1)by simp[rpX,e],show rpN start next l key text who time=next by simp[rpN,e],← hn2];exact⟨a,c,rfl,ho,hb⟩
  . have e:rpOk start next l key text who time=false:=by simp[rpOk,Items.putB,h1,h2]
    obtain⟨a,c,rfl,_⟩:=Qao ho;rw[show rpL start next l key text who time=l by simp[rpL,e],e,show rpX start next l key text who time=next by simp[rpX,e],show rpN start next l key text who time=0 by simp[rpN,e]];exact⟨a,c,rfl,ho,hb⟩
def putD (epoch last:Int) (l:List Mk) (ep seq:Int):Bool:=decide (askC epoch last l ep seq=0)
def putE (epoch last:Int) (l:List Mk) (ep seq:Int):Int:=if putD epoch last l ep seq then ep else epoch
def putS (epoch last:Int) (l:List Mk) (ep seq:Int):Int:=if putD epoch last l ep seq then seq else last
def putB (epoch:Int) (l:List Mk) (ep:Int):List Mk:=if ep>epoch then []else l
def Qjr (window:Int) (L:List Mk):List Mk:=L.drop (L.length - window.toNat)
def putM (window epoch last:Int) (l:List Mk) (ep seq off:Int):List Mk:=if putD epoch last l ep seq then Qjr window (putB epoch l ep++ [⟨seq,off⟩])else l
theorem Qm8 {epoch last:Int} {l:List Mk} {ep seq:Int} (h:askC epoch last l ep seq=0):epoch<=ep:=by
 unfold askC at h;split at h
 . omega
 . omega
theorem Qko (row who epoch last window ep seq off:Int) (hw:I64 window) (A:Option Addr) (cap:Nat) (l:List Mk) (hl:l.length<=1048576) (w:World) (hA:At w A l):
 Calls Tryz.prog 129 #[.agg (Qal row who epoch last A l.length cap),.int .i64 window,.int .i64 ep,.int .i64 seq,.int .i64 off] w fun e w' =>∃v,e= .returned (.agg #[.int .i64 row,.int .i64 who,.int .i64 (putE epoch last l ep seq),.int .i64 (putS epoch last l ep seq),v])/\w'.ownsRow w.heap.size 141 2 v (putM window epoch last l ep seq off).length (flat (putM window epoch last l ep seq off))/\Below w.heap.size w w' :=by
 have HA:Hid (At w A l):=hA;have Hw:=hidP hw;clear hA hw;go_enter Tryz.func129,Tryz.ntmps129;go_wp2_with fail;refine(Qbb row who epoch last A cap l hl _ (HA.out.below (Qad (Qad (Below.refl _ w) _) _))).mono ?_;rintro e w1 ⟨v,rfl,hown,g1⟩;have B1:Below w.heap.size w w1:=via0 g1 (Qad (Qad (Below.refl _ w) _) _);have p0:=((Blk.new w 139 (Qal row who epoch last A l.length cap)).alloc (.cells Qdz 139)).below g1 (by simp;omega);have p1:=(Blk.new (w.alloc (.cells (Qal row who epoch last A l.length cap) 139)) 139 Qdz).below g1 (by simp);rw[World.size_alloc]at p1;obtain⟨a,c,rfl,hc⟩:=Qao hown;simp only[World.size_alloc]at hown;have Hown:=hidP hown;clear hown hc;obtain⟨u0,u1,u2,u3,u4⟩:=p0.row5;have q0:=p0.lt;have q1:=p1.lt;go_wp2_with fail;refine(Qda row who epoch last ep seq A cap l hl _ (HA.out.below (Qad B1 _))).mono ?_;rintro e w2 ⟨rfl,g2⟩;have B2:Below w.heap.size w w2:=via0 g2 (Qad B1 _);have r0:=(p0.alloc (.cells (Qal row who epoch last a l.length c) 139)).below g2 (p0.alloc _).lt;have r1:=(p1.alloc (.cells (Qal row who epoch last a l.length c) 139)).below g2 (p1.alloc _).lt;have r2:=(Blk.new w1 139 (Qal row who epoch last a l.length c)).below g2 (by simp);have far2:some w1.heap.size≠(Value.slice a l.length c).ownBlock:=fun h=>by have:=Qcn Hown.out h.symm;omega
 have Hown2:=hidP (Qas (Qau Hown.out (.cells (Qal row who epoch last a l.length c) 139)) g2);have far1:some (w.heap.size+1)≠(Value.slice a l.length c).ownBlock:=Qa9 Hown2.out (by omega);have HB2:=hidP B2;clear u0 u1 u2 u3 u4 p0 p1 Hown g1 g2 B1 B2;generalize hBB:w1.heap.size=B at*;clear hBB;have q2:=r2.lt;have q3:=r0.lt;have q4:=r1.lt;obtain⟨c0,c1,c2,c3,c4⟩:=r2.row5;obtain⟨u0,u1,u2,u3,u4⟩:=r0.row5;obtain⟨n0,n1,n2,n3,n4⟩:=r1.row5;have k0:=r1.thaw 0;have k1:=r1.thaw 1;have k2:=r1.thaw 2;have k3:=r1.thaw 3;have k4:=r1.thaw 4;have j2:=r2.thaw 2;have j3:=r2.thaw 3;have j4:=r2.thaw 4;have hne:B≠w.heap.size+1:=by omega
 have hne' :w.heap.size+1≠B:=by omega
 by_cases hd:askC epoch last l ep seq=0
 . have hep:=Qm8 hd;have HE:Hid (putE epoch last l ep seq=ep):=(by show _=_;simp[putE,putD,hd]);have HS:Hid (putS epoch last l ep seq=seq):=(by show _=_;simp[putS,putD,hd]);have HM:Hid (putM window epoch last l ep seq off=Qjr window (putB epoch l ep++ [⟨seq,off⟩])):=(by show _=_;simp[putM,putD,hd]);rw[hd];clear hd;by_cases he:ep>epoch
   . have HB:Hid (putB epoch l ep= []):=(by show _=_;simp[putB,he]);have hx:¬ep=epoch:=(by omega);clear hep;have hX:At ((((w2.setCell ⟨B,4,none⟩ (.slice none 0 0)).setCell ⟨B,2,none⟩ (.int .i64 ep)).setCell ⟨B,3,none⟩ (.int .i64 seq)).alloc (.cells (l1II seq off) 141)) (some ⟨w2.heap.size,0,none⟩) ([⟨seq,off⟩]:List Mk):=by
      have bx:=Blk.new (((w2.setCell ⟨B,4,none⟩ (.slice none 0 0)).setCell ⟨B,2,none⟩ (.int .i64 ep)).setCell ⟨B,3,none⟩ (.int .i64 seq)) 141 (l1II seq off);have e:(((w2.setCell ⟨B,4,none⟩ (.slice none 0 0)).setCell ⟨B,2,none⟩ (.int .i64 ep)).setCell ⟨B,3,none⟩ (.int .i64 seq)).heap.size=w2.heap.size:=(by simp);rw[e]at bx;exact .inr ⟨w2.heap.size,0,rfl,by simp,fun j u hu=>bx.cell (i:=0+j) (by simpa [flat,Cel.cs]using hu)⟩
     have hWB:Below w.heap.size w ((((w2.setCell ⟨B,4,none⟩ (.slice none 0 0)).setCell ⟨B,2,none⟩ (.int .i64 ep)).setCell ⟨B,3,none⟩ (.int .i64 seq)).alloc (.cells (l1II seq off) 141)):=Qad (Qav (Qav (Qav HB2.out (by omega) _) (by omega) _) (by omega) _) _;obtain⟨v',w3,hr,hown3,hgrow,hat⟩:=Qki (w.heap.size+1+1) (.slice none 0 0) [] [⟨seq,off⟩] (some ⟨w2.heap.size,0,none⟩) 1 ((((w2.setCell ⟨B,4,none⟩ (.slice none 0 0)).setCell ⟨B,2,none⟩ (.int .i64 ep)).setCell ⟨B,3,none⟩ (.int .i64 seq)).alloc (.cells (l1II seq off) 141)) (by simp;omega) (World.ownsRow_nil _ _ _ _) hX (by first|(simp;done)|(simp;omega));simp only[List.length_cons,List.length_nil,Nat.zero_add]at hown3 hr;have far3:some B≠(Value.slice none 0 0).ownBlock:=(by simp[Value.ownBlock]);have Y1:=((((r1.other (B' :=B) (by omega) 4 (.slice none 0 0)).other (B' :=B) (by omega) 2 (.int .i64 ep)).other (B' :=B) (by omega) 3 (.int .i64 seq)).alloc (.cells (l1II seq off) 141)).kept hgrow (by simp[Value.ownBlock]);have Y2:=((((r2.setAt 4 (.slice none 0 0)).setAt 2 (.int .i64 ep)).setAt 3 (.int .i64 seq)).alloc (.cells (l1II seq off) 141)).kept hgrow far3;have hsz:((((w2.setCell ⟨B,4,none⟩ (.slice none 0 0)).setCell ⟨B,2,none⟩ (.int .i64 ep)).setCell ⟨B,3,none⟩ (.int .i64 seq)).alloc (.cells (l1II seq off) 141)).heap.size=w2.heap.size+1:=(by simp);have B3:=hidP (hWB.grown hgrow hWB.size (fun k e=>by cases e));obtain⟨g,c',hgB,hg3,hnc,hmc,rfl⟩:∃g c',w.heap.size+1+1<=g/\g<w3.heap.size/\1<=c' /\c' <=maxLen/\v' = .slice (some ⟨g,0,none⟩) (1) c' :=by
      rcases hown3.2 with⟨_,h⟩|⟨g,c1,cur,e1,hB,hb,h1,h2,_⟩
      . omega
      . exact⟨g,c1,hB,Blk.lt (show Blk w3 g _ cur from hb),h1,h2,e1⟩
     have hgB' :g≠B:=fun h=>by
      rcases hat with e|e
      . exact far3 (by rw[← e,← h];rfl)
      . rw[hsz]at e;have:g=w2.heap.size+1:=Option.some.inj e;omega
     have hw3:w2.heap.size<=w3.heap.size:=(by have:=hgrow.size;rw[hsz]at this;omega);unfold maxLen at hmc;have eL:Qjr window (putB epoch l ep++ [⟨seq,off⟩])=([]++ [⟨seq,off⟩]:List Mk).drop ((1) - window.toNat):=(by rw[HB.out];simp[Qjr]);have EL:=hidP eL;have Z2:Blk _ B 139 (Qal row who ep seq (some ⟨g,0,none⟩) (1) c'):=(Y2.setAt 4 (.slice (some ⟨g,0,none⟩) (1) c')).drew;have Z1:=(Y1.other (B' :=B) (by omega) 4 (.slice (some ⟨g,0,none⟩) (1) c')).drew;have ownB:some B≠(Value.slice (some ⟨g,0,none⟩) (1) c').ownBlock:=fun h=>hgB' (by have:B=g:=Option.some.inj h;exact this.symm)
     have Z0:Hid ((w3.setCell ⟨B,4,none⟩ (.slice (some ⟨g,0,none⟩) (1) c')).drew.ownsRow (w.heap.size+1+1) 141 2 (.slice (some ⟨g,0,none⟩) (1) c') (1) (flat ([]++ [(⟨seq,off⟩:Mk)]))):=Qam hown3 ownB;have B4:Hid (Below w.heap.size w (w3.setCell ⟨B,4,none⟩ (.slice (some ⟨g,0,none⟩) (1) c')).drew):=(Qav B3.out (by omega) _).drew;have SD:=hidP Z2.row5.2.2.2.2;obtain⟨i0,i1,i2,i3,i4⟩:=Y2.row5;have x4:=Y2.thaw 4;have hm0:0<=mx window 0:=(by unfold mx;split<;>omega);have hm1:mx window 0<=9223372036854775807:=(by have:=Hw.out.2;unfold mx;split<;>omega);have hmax:∀W,Calls Tryz.prog 132 (l1II window 0) W fun e w' =>e= .returned (.int .i64 (mx window 0))/\w' =W:=fun W=>Qod window 0 W
     have Hmax:=hidP hmax;have hMt:window.toNat=(mx window 0).toNat:=(by unfold mx;split<;>omega);generalize hM:mx window 0=M at*;clear hX hWB hown3 hgrow hat hsz eL hmax hM;by_cases hlt:M<1
     . obtain⟨J,hJ⟩:∃J:Int,IntKind.i64.wrap (1 - M)=J:=⟨_,rfl⟩
       have hJ1:J=1 - M:=(by rw[← hJ,IntKind.wrap_i64];omega);have hJ0:0<=J:=(by omega);have hJn:J<=1:=(by omega);have HJ2:Hid ((1) - window.toNat=J.toNat):=(by show _=_;rw[hJ1];omega);have HJ3:=hidP hJ;clear hJ1 hJ hMt;go_wp2_with (at_builtin;refine Qac rfl _ _ _ rfl _ _ _ rfl rfl hr ?_);refine wp_region_noPanic ?_;refine wp_region_held_drew (S:=fun w' =>w'.cell? ⟨B,4,none⟩=some (.slice (some ⟨g,0,none⟩) (1) c')) (by kernel_rfl) ?_ (fun hH=> ?_)
       . exact SD.out
       refine ztk [0,1,2,3] ?_;repeat(refine ztn (h:= ?_);try simp only[zX,zY])
       refine zte ?_;refine zR1 4 (fun K hK=> ?_);simp only[zG];go_simp
       (go_at_call 132;refine(Hmax.out _).mono ?_;rintro e w4 ⟨rfl,rfl⟩)
       refine hK.out _ _ SD.out fun hH=> ?_;clear hK K;try simp only[zX,zY]
       refine zt1 5 ?_;refine ztn (h:= ?_);try simp only[zX,zY]
       refine zte ?_;refine zdn ?_;clear SD i0 i1 i2 i3 i4 x4 Y1 Y2 B3;generalize (w3.setCell ⟨B,4,none⟩ (.slice (some ⟨g,0,none⟩) (1) c')).drew=W5 at*;obtain⟨i0,i1,i2,i3,i4⟩:=Z2.row5;have x4:=Z2.thaw 4;have FD:=Qh4 (α:=Mk) (j:=J.toNat) (L:= []++ [⟨seq,off⟩]) (by simp) Z0.out (by omega);have hat6:=FD.at;change At W5 (if c' =J.toNat then some ⟨g,0,none⟩else some ⟨g,J.toNat*2,none⟩) _ at hat6;generalize hDD:([]++ [⟨seq,off⟩]:List Mk).drop J.toNat=D at*;have hDl:D.length=1 - J.toNat:=(by rw[← hDD];simp);have hWB:Below w.heap.size w (W5.alloc (.cells #[] 141)).drew:=(Qad B4.out _).drew;have hb5:w.heap.size+1<W5.heap.size:=Z1.lt;obtain⟨v6,w6,hr6,hown6,hgrow6,hat7⟩:=Qki (w.heap.size+1+1) (.slice (some ⟨W5.heap.size,0,none⟩) 0 0) [] D (if c' =J.toNat then some ⟨g,0,none⟩else some ⟨g,J.toNat*2,none⟩) (c' - J.toNat) (W5.alloc (.cells #[] 141)).drew (by show _<=(W5.alloc (.cells #[] 141)).heap.size;simp;omega)
        ⟨rfl,.inr ⟨W5.heap.size,0,#[],rfl,by omega,Qfk W5 _,Nat.le_refl _,by simp[maxLen],rfl,rfl⟩⟩ (hat6.below (Below.drew (Qad (Below.refl _ _) _))) (by simp;omega)
       simp only[List.length_nil,Nat.zero_add,List.nil_append]at hown6;have qB:=Z2.lt;have V1:=((Z1.alloc (.cells #[] 141)).drew).kept hgrow6 (by intro h;have:w.heap.size+1=W5.heap.size:=Option.some.inj h;omega);have V2:=((Z2.alloc (.cells #[] 141)).drew).kept hgrow6 (by intro h;have:B=W5.heap.size:=Option.some.inj h;omega);have B6:=hidP (hWB.grown hgrow6 hWB.size (fun k e=>by have:W5.heap.size=k:=Option.some.inj e;omega));obtain⟨a6,c6,rfl,_⟩:=Qao hown6;have hsz6:(W5.alloc (.cells #[] 141)).drew.heap.size=W5.heap.size+1:=World.size_alloc _ _;have far6:∀k,k<W5.heap.size->some k≠(Value.slice a6 D.length c6).ownBlock:=fun k hk=>by
        rcases hat7 with e|e
        . rw[e];intro h;have:k=W5.heap.size:=Option.some.inj h;omega
        . rw[e];intro h;have:=Option.some.inj h;omega
       have FB:=hidP (far6 B qB);have F1:=hidP (far6 (w.heap.size+1) hb5);rw[hDl]at hr6;have HD9:=hidP hDD;have HOWN6:=hidP hown6;have HDL:=hidP hDl;have hSA0:=(Z2.alloc (.cells #[] 141)).drew.row5.2.2.2.2;have hS60:=V2.row5.2.2.2.2;clear hgrow6 hat7 hown6 far6 hWB hat6 FD hDD hsz6 hr;obtain⟨m0,m1,m2,m3,m4⟩:=V1.row5;have y0:=V1.thaw 0;have y1:=V1.thaw 1;have y2:=V1.thaw 2;have y3:=V1.thaw 3;have y4:=V1.thaw 4;have z4:=V2.thaw 4;rw[hDl]at FB F1 HOWN6;clear hDl;have hJ:=HJ3.out;obtain⟨PA,hPA⟩:∃p:Option Addr,(if c' =J.toNat then some (⟨g,0,none⟩:Addr)else some ⟨g,J.toNat*2,none⟩)=p:=⟨_,rfl⟩
       have hcut:∀W:World,(Instr.slice 137 (.slice (some ⟨g,0,none⟩) (1) c') (some (.int .i64 J)) none none).run Tryz.prog W= .ok (.slice PA (1 - J.toNat) (c' - J.toNat)) W:=fun W=>by
        clear hr6;rw[← hPA];by_cases hcj:c' =J.toNat
        . rw[if_pos hcj];go_simp
        . rw[if_neg hcj];go_simp
       rw[hPA]at hr6;have hH:(fun w' =>w'.cell? ⟨B,4,none⟩=some (.slice (some ⟨g,0,none⟩) (1) c')) W5.drew:=i4;have hSA:(fun w' =>w'.cell? ⟨B,4,none⟩=some (.slice (some ⟨g,0,none⟩) (1) c')) (W5.alloc (.cells #[] 141)).drew:=hSA0;have hS6:(fun w' =>w'.cell? ⟨B,4,none⟩=some (.slice (some ⟨g,0,none⟩) (1) c')) w6:=hS60;clear hSA0 hS60;go_wp2_with fail;refine wp_region_noPanic ?_;refine Qby 12 (fun w' =>w'.cell? ⟨B,4,none⟩=some (.slice (some ⟨g,0,none⟩) (1) c')) (by kernel_rfl) ?_;refine zpk [1,2,3,4,5,6] ?_;repeat(refine zpn (h:= ?_);try simp only[zX,zY])
       refine zpe ?_;refine Qht (i:=0) (j:=7) (by kernel_rfl) rfl rfl (fun K hK=> ?_) (fun K hK=> ?_)
       focus
        simp only[zG];go_simp;refine hK.out _ _ (.inr hSA) ?_;clear hK K
        try simp only[zX,zY]
        refine Qa0 (i:=7) (by kernel_rfl) rfl (fun K hK=> ?_);simp only[zG];go_simp
        go_at_call 132
        refine(Hmax.out _).mono ?_;rintro e w4 ⟨rfl,rfl⟩;refine hK.out _ _ (.inr hSA) ?_;clear hK K
        try simp only[zX,zY]
        refine zpk [8,9] ?_;repeat(refine zpn (h:= ?_);try simp only[zX,zY])
        refine zpe ?_
       rotate_left
       focus
        simp only[zG];go_simp
        go_at_call 132
        refine(Hmax.out _).mono ?_;rintro e w4 ⟨rfl,rfl⟩;refine hK.out _ _ (.inr hH) ?_;clear hK K
        try simp only[zX,zY]
        refine zpk [8,9] ?_;repeat(refine zpn (h:= ?_);try simp only[zX,zY])
        refine zpe ?_;refine Qa0 (i:=0) (by kernel_rfl) rfl (fun K hK=> ?_);simp only[zG];go_simp;refine hK.out _ _ (.inr hSA) ?_;clear hK K
        try simp only[zX,zY]
       all_goals
        refine Qa0 (i:=10) (by kernel_rfl) rfl (fun K hK=> ?_);simp only[zG];rw[if_pos (by rfl)];refine Qai _ _ _ (by rfl) _ _ _ (by rfl) (by rfl) hr6 ?_;refine hK.out _ _ (.inr hS6) ?_;clear hK K
        try simp only[zX,zY]
        refine zp1 11 ?_;refine zpn (h:= ?_);try simp only[zX,zY]
        refine zpe ?_;refine Qa0 (i:=12) (by kernel_rfl) rfl (fun K hK=> ?_);simp only[zG];go_simp;refine hK.out _ _ (.inl rfl) ?_;clear hK K
        try simp only[zX,zY]
        refine Qcl (by kernel_rfl) ?_ _;refine NoPanic.normal ?_;clear hH hSA hS6 hJ;obtain⟨o0,o1,o2,o3,o4⟩:=V2.row5;go_wp2;have z:Blk _ (w.heap.size+1) 139 (Qal row who ep seq a6 (1 - J.toNat) c6):=(((((V1.other (B' :=B) (by omega) 4 (.slice a6 (1 - J.toNat) c6)).setAt 0 (.int .i64 row)).setAt 1 (.int .i64 who)).setAt 2 (.int .i64 ep)).setAt 3 (.int .i64 seq)).setAt 4 (.slice a6 (1 - J.toNat) c6);obtain⟨e0,e1,e2,e3,e4⟩:=z.row5;exact bodyPost_ret (v:= .agg (Qal row who ep seq a6 (1 - J.toNat) c6)) (by simp[results,Tryz.results129,go_sem,e0,e1,e2,e3,e4]) rfl
         ⟨_,by rw[HE.out,HS.out],by
          rw[HM.out,EL.out,HJ2.out,HD9.out];exact Qhy (α:=Mk) (l:=D) HDL.out.symm (Qat (Qam (Qam (Qam (Qam (Qam (Qam HOWN6.out FB.out) F1.out) F1.out) F1.out) F1.out) F1.out) (show w.heap.size<=w.heap.size+1+1 by omega)),
         Qav (Qav (Qav (Qav (Qav (Qav B6.out (by omega) _) (by omega) _) (by omega) _) (by omega) _) (by omega) _) (by omega) _⟩
     . have hj:(1) - window.toNat=0:=(by omega);go_wp2_with (at_builtin;refine Qac rfl _ _ _ rfl _ _ _ rfl rfl hr ?_);refine wp_region_noPanic ?_;refine wp_region_held_drew (S:=fun w' =>w'.cell? ⟨B,4,none⟩=some (.slice (some ⟨g,0,none⟩) (1) c')) (by kernel_rfl) ?_ (fun hH=> ?_)
       . exact SD.out
       refine ztk [0,1,2,3] ?_;repeat(refine ztn (h:= ?_);try simp only[zX,zY])
       refine zte ?_;refine zR1 4 (fun K hK=> ?_);simp only[zG];go_simp
       (go_at_call 132;refine(Hmax.out _).mono ?_;rintro e w4 ⟨rfl,rfl⟩)
       refine hK.out _ _ SD.out fun hH=> ?_;clear hK K;try simp only[zX,zY]
       refine zt1 5 ?_;refine ztn (h:= ?_);try simp only[zX,zY]
       refine zte ?_;refine zdn ?_;clear SD i0 i1 i2 i3 i4 x4 Y1 Y2 B3;generalize (w3.setCell ⟨B,4,none⟩ (.slice (some ⟨g,0,none⟩) (1) c')).drew=W5 at*;obtain⟨i0,i1,i2,i3,i4⟩:=Z2.row5;obtain⟨m0,m1,m2,m3,m4⟩:=Z1.row5;have y0:=Z1.thaw 0;have y1:=Z1.thaw 1;have y2:=Z1.thaw 2;have y3:=Z1.thaw 3;have y4:=Z1.thaw 4;go_wp2;have z:Blk _ (w.heap.size+1) 139 (Qal row who ep seq (some ⟨g,0,none⟩) (1) c'):=((((Z1.setAt 0 (.int .i64 row)).setAt 1 (.int .i64 who)).setAt 2 (.int .i64 ep)).setAt 3 (.int .i64 seq)).setAt 4 (.slice (some ⟨g,0,none⟩) (1) c');obtain⟨e0,e1,e2,e3,e4⟩:=z.row5;have far9:some (w.heap.size+1)≠(Value.slice (some ⟨g,0,none⟩) (1) c').ownBlock:=Qa9 Z0.out (by omega);exact bodyPost_ret (v:= .agg (Qal row who ep seq (some ⟨g,0,none⟩) (1) c')) (by simp[results,Tryz.results129,go_sem,e0,e1,e2,e3,e4]) rfl
        ⟨_,by rw[HE.out,HS.out],by
         rw[HM.out,EL.out,hj];exact Qhy (α:=Mk) (l:= []++ [⟨seq,off⟩]) (by simp) (Qat (Qam (Qam (Qam (Qam (Qam Z0.out far9) far9) far9) far9) far9) (show w.heap.size<=w.heap.size+1+1 by omega)),
        Qav (Qav (Qav (Qav (Qav B4.out (by omega) _) (by omega) _) (by omega) _) (by omega) _) (by omega) _⟩
   . have hx:ep=epoch:=(by omega);have HB:Hid (putB epoch l ep=l):=(by show _=_;simp[putB,he]);clear he hep;subst hx;have hX:At ((((w2).setCell ⟨B,2,none⟩ (.int .i64 ep)).setCell ⟨B,3,none⟩ (.int .i64 seq)).alloc (.cells (l1II seq off) 141)) (some ⟨w2.heap.size,0,none⟩) ([⟨seq,off⟩]:List Mk):=by
      have bx:=Blk.new (((w2).setCell ⟨B,2,none⟩ (.int .i64 ep)).setCell ⟨B,3,none⟩ (.int .i64 seq)) 141 (l1II seq off);have e:(((w2).setCell ⟨B,2,none⟩ (.int .i64 ep)).setCell ⟨B,3,none⟩ (.int .i64 seq)).heap.size=w2.heap.size:=(by simp);rw[e]at bx;exact .inr ⟨w2.heap.size,0,rfl,by simp,fun j u hu=>bx.cell (i:=0+j) (by simpa [flat,Cel.cs]using hu)⟩
     have hWB:Below w.heap.size w ((((w2).setCell ⟨B,2,none⟩ (.int .i64 ep)).setCell ⟨B,3,none⟩ (.int .i64 seq)).alloc (.cells (l1II seq off) 141)):=Qad (Qav (Qav (HB2.out) (by omega) _) (by omega) _) _;obtain⟨v',w3,hr,hown3,hgrow,hat⟩:=Qki (w.heap.size+1+1) (.slice a l.length c) l [⟨seq,off⟩] (some ⟨w2.heap.size,0,none⟩) 1 ((((w2).setCell ⟨B,2,none⟩ (.int .i64 ep)).setCell ⟨B,3,none⟩ (.int .i64 seq)).alloc (.cells (l1II seq off) 141)) (by simp;omega) (Qau (Qam (Qam Hown2.out far2) far2) _) hX (by first|(simp;done)|(simp;omega));simp only[List.length_cons,List.length_nil,Nat.zero_add]at hown3 hr;have far3:some B≠(Value.slice a l.length c).ownBlock:=far2;have Y1:=((((r1).other (B' :=B) (by omega) 2 (.int .i64 ep)).other (B' :=B) (by omega) 3 (.int .i64 seq)).alloc (.cells (l1II seq off) 141)).kept hgrow (far1);have Y2:=(((r2.setAt 2 (.int .i64 ep)).setAt 3 (.int .i64 seq)).alloc (.cells (l1II seq off) 141)).kept hgrow far3;have hsz:((((w2).setCell ⟨B,2,none⟩ (.int .i64 ep)).setCell ⟨B,3,none⟩ (.int .i64 seq)).alloc (.cells (l1II seq off) 141)).heap.size=w2.heap.size+1:=(by simp);have B3:=hidP (hWB.grown hgrow hWB.size (fun k e=>by exact Nat.le_of_not_lt fun h=>Qa9 Hown2.out (show k<w.heap.size+1+1 by omega) e.symm));obtain⟨g,c',hgB,hg3,hnc,hmc,rfl⟩:∃g c',w.heap.size+1+1<=g/\g<w3.heap.size/\l.length+1<=c' /\c' <=maxLen/\v' = .slice (some ⟨g,0,none⟩) (l.length+1) c' :=by
      rcases hown3.2 with⟨_,h⟩|⟨g,c1,cur,e1,hB,hb,h1,h2,_⟩
      . omega
      . exact⟨g,c1,hB,Blk.lt (show Blk w3 g _ cur from hb),h1,h2,e1⟩
     have hgB' :g≠B:=fun h=>by
      rcases hat with e|e
      . exact far3 (by rw[← e,← h];rfl)
      . rw[hsz]at e;have:g=w2.heap.size+1:=Option.some.inj e;omega
     have hw3:w2.heap.size<=w3.heap.size:=(by have:=hgrow.size;rw[hsz]at this;omega);unfold maxLen at hmc;have eL:Qjr window (putB ep l ep++ [⟨seq,off⟩])=(l++ [⟨seq,off⟩]:List Mk).drop ((l.length+1) - window.toNat):=(by rw[HB.out];simp[Qjr]);have EL:=hidP eL;have Z2:Blk _ B 139 (Qal row who ep seq (some ⟨g,0,none⟩) (l.length+1) c'):=(Y2.setAt 4 (.slice (some ⟨g,0,none⟩) (l.length+1) c')).drew;have Z1:=(Y1.other (B' :=B) (by omega) 4 (.slice (some ⟨g,0,none⟩) (l.length+1) c')).drew;have ownB:some B≠(Value.slice (some ⟨g,0,none⟩) (l.length+1) c').ownBlock:=fun h=>hgB' (by have:B=g:=Option.some.inj h;exact this.symm)
     have Z0:Hid ((w3.setCell ⟨B,4,none⟩ (.slice (some ⟨g,0,none⟩) (l.length+1) c')).drew.ownsRow (w.heap.size+1+1) 141 2 (.slice (some ⟨g,0,none⟩) (l.length+1) c') (l.length+1) (flat (l++ [(⟨seq,off⟩:Mk)]))):=Qam hown3 ownB;have B4:Hid (Below w.heap.size w (w3.setCell ⟨B,4,none⟩ (.slice (some ⟨g,0,none⟩) (l.length+1) c')).drew):=(Qav B3.out (by omega) _).drew;have SD:=hidP Z2.row5.2.2.2.2;obtain⟨i0,i1,i2,i3,i4⟩:=Y2.row5;have x4:=Y2.thaw 4;have hm0:0<=mx window 0:=(by unfold mx;split<;>omega);have hm1:mx window 0<=9223372036854775807:=(by have:=Hw.out.2;unfold mx;split<;>omega);have hmax:∀W,Calls Tryz.prog 132 (l1II window 0) W fun e w' =>e= .returned (.int .i64 (mx window 0))/\w' =W:=fun W=>Qod window 0 W
     have Hmax:=hidP hmax;have hMt:window.toNat=(mx window 0).toNat:=(by unfold mx;split<;>omega);generalize hM:mx window 0=M at*;clear hX hWB hown3 hgrow hat hsz eL hmax hM;by_cases hlt:M<(l.length:Int)+1
     . obtain⟨J,hJ⟩:∃J:Int,IntKind.i64.wrap ((l.length:Int)+1 - M)=J:=⟨_,rfl⟩
       have hJ1:J=(l.length:Int)+1 - M:=(by rw[← hJ,IntKind.wrap_i64];omega);have hJ0:0<=J:=(by omega);have hJn:J<=(l.length:Int)+1:=(by omega);have HJ2:Hid ((l.length+1) - window.toNat=J.toNat):=(by show _=_;rw[hJ1];omega);have HJ3:=hidP hJ;clear hJ1 hJ hMt;go_wp2_with (at_builtin;refine Qac rfl _ _ _ rfl _ _ _ rfl rfl hr ?_);refine wp_region_noPanic ?_;refine wp_region_held_drew (S:=fun w' =>w'.cell? ⟨B,4,none⟩=some (.slice (some ⟨g,0,none⟩) (l.length+1) c')) (by kernel_rfl) ?_ (fun hH=> ?_)
       . exact SD.out
       refine ztk [0,1,2,3] ?_;repeat(refine ztn (h:= ?_);try simp only[zX,zY])
       refine zte ?_;refine zR1 4 (fun K hK=> ?_);simp only[zG];go_simp
       (go_at_call 132;refine(Hmax.out _).mono ?_;rintro e w4 ⟨rfl,rfl⟩)
       refine hK.out _ _ SD.out fun hH=> ?_;clear hK K;try simp only[zX,zY]
       refine zt1 5 ?_;refine ztn (h:= ?_);try simp only[zX,zY]
       refine zte ?_;refine zdn ?_;clear SD i0 i1 i2 i3 i4 x4 Y1 Y2 B3;generalize (w3.setCell ⟨B,4,none⟩ (.slice (some ⟨g,0,none⟩) (l.length+1) c')).drew=W5 at*;obtain⟨i0,i1,i2,i3,i4⟩:=Z2.row5;have x4:=Z2.thaw 4;have FD:=Qh4 (α:=Mk) (j:=J.toNat) (L:=l++ [⟨seq,off⟩]) (by simp) Z0.out (by omega);have hat6:=FD.at;change At W5 (if c' =J.toNat then some ⟨g,0,none⟩else some ⟨g,J.toNat*2,none⟩) _ at hat6;generalize hDD:(l++ [⟨seq,off⟩]:List Mk).drop J.toNat=D at*;have hDl:D.length=l.length+1 - J.toNat:=(by rw[← hDD];simp);have hWB:Below w.heap.size w (W5.alloc (.cells #[] 141)).drew:=(Qad B4.out _).drew;have hb5:w.heap.size+1<W5.heap.size:=Z1.lt;obtain⟨v6,w6,hr6,hown6,hgrow6,hat7⟩:=Qki (w.heap.size+1+1) (.slice (some ⟨W5.heap.size,0,none⟩) 0 0) [] D (if c' =J.toNat then some ⟨g,0,none⟩else some ⟨g,J.toNat*2,none⟩) (c' - J.toNat) (W5.alloc (.cells #[] 141)).drew (by show _<=(W5.alloc (.cells #[] 141)).heap.size;simp;omega)
        ⟨rfl,.inr ⟨W5.heap.size,0,#[],rfl,by omega,Qfk W5 _,Nat.le_refl _,by simp[maxLen],rfl,rfl⟩⟩ (hat6.below (Below.drew (Qad (Below.refl _ _) _))) (by simp;omega)
       simp only[List.length_nil,Nat.zero_add,List.nil_append]at hown6;have qB:=Z2.lt;have V1:=((Z1.alloc (.cells #[] 141)).drew).kept hgrow6 (by intro h;have:w.heap.size+1=W5.heap.size:=Option.some.inj h;omega);have V2:=((Z2.alloc (.cells #[] 141)).drew).kept hgrow6 (by intro h;have:B=W5.heap.size:=Option.some.inj h;omega);have B6:=hidP (hWB.grown hgrow6 hWB.size (fun k e=>by have:W5.heap.size=k:=Option.some.inj e;omega));obtain⟨a6,c6,rfl,_⟩:=Qao hown6;have hsz6:(W5.alloc (.cells #[] 141)).drew.heap.size=W5.heap.size+1:=World.size_alloc _ _;have far6:∀k,k<W5.heap.size->some k≠(Value.slice a6 D.length c6).ownBlock:=fun k hk=>by
        rcases hat7 with e|e
        . rw[e];intro h;have:k=W5.heap.size:=Option.some.inj h;omega
        . rw[e];intro h;have:=Option.some.inj h;omega
       have FB:=hidP (far6 B qB);have F1:=hidP (far6 (w.heap.size+1) hb5);rw[hDl]at hr6;have HD9:=hidP hDD;have HOWN6:=hidP hown6;have HDL:=hidP hDl;have hSA0:=(Z2.alloc (.cells #[] 141)).drew.row5.2.2.2.2;have hS60:=V2.row5.2.2.2.2;clear hgrow6 hat7 hown6 far6 hWB hat6 FD hDD hsz6 hr;obtain⟨m0,m1,m2,m3,m4⟩:=V1.row5;have y0:=V1.thaw 0;have y1:=V1.thaw 1;have y2:=V1.thaw 2;have y3:=V1.thaw 3;have y4:=V1.thaw 4;have z4:=V2.thaw 4;rw[hDl]at FB F1 HOWN6;clear hDl;have hJ:=HJ3.out;obtain⟨PA,hPA⟩:∃p:Option Addr,(if c' =J.toNat then some (⟨g,0,none⟩:Addr)else some ⟨g,J.toNat*2,none⟩)=p:=⟨_,rfl⟩
       have hcut:∀W:World,(Instr.slice 137 (.slice (some ⟨g,0,none⟩) (l.length+1) c') (some (.int .i64 J)) none none).run Tryz.prog W= .ok (.slice PA (l.length+1 - J.toNat) (c' - J.toNat)) W:=fun W=>by
        clear hr6;rw[← hPA];by_cases hcj:c' =J.toNat
        . rw[if_pos hcj];go_simp
        . rw[if_neg hcj];go_simp
       rw[hPA]at hr6;have hH:(fun w' =>w'.cell? ⟨B,4,none⟩=some (.slice (some ⟨g,0,none⟩) (l.length+1) c')) W5.drew:=i4;have hSA:(fun w' =>w'.cell? ⟨B,4,none⟩=some (.slice (some ⟨g,0,none⟩) (l.length+1) c')) (W5.alloc (.cells #[] 141)).drew:=hSA0;have hS6:(fun w' =>w'.cell? ⟨B,4,none⟩=some (.slice (some ⟨g,0,none⟩) (l.length+1) c')) w6:=hS60;clear hSA0 hS60;go_wp2_with fail;refine wp_region_noPanic ?_;refine Qby 12 (fun w' =>w'.cell? ⟨B,4,none⟩=some (.slice (some ⟨g,0,none⟩) (l.length+1) c')) (by kernel_rfl) ?_;refine zpk [1,2,3,4,5,6] ?_;repeat(refine zpn (h:= ?_);try simp only[zX,zY])
       refine zpe ?_;refine Qht (i:=0) (j:=7) (by kernel_rfl) rfl rfl (fun K hK=> ?_) (fun K hK=> ?_)
       focus
        simp only[zG];go_simp;refine hK.out _ _ (.inr hSA) ?_;clear hK K
        try simp only[zX,zY]
        refine Qa0 (i:=7) (by kernel_rfl) rfl (fun K hK=> ?_);simp only[zG];go_simp
        go_at_call 132
        refine(Hmax.out _).mono ?_;rintro e w4 ⟨rfl,rfl⟩;refine hK.out _ _ (.inr hSA) ?_;clear hK K
        try simp only[zX,zY]
        refine zpk [8,9] ?_;repeat(refine zpn (h:= ?_);try simp only[zX,zY])
        refine zpe ?_
       rotate_left
       focus
        simp only[zG];go_simp
        go_at_call 132
        refine(Hmax.out _).mono ?_;rintro e w4 ⟨rfl,rfl⟩;refine hK.out _ _ (.inr hH) ?_;clear hK K
        try simp only[zX,zY]
        refine zpk [8,9] ?_;repeat(refine zpn (h:= ?_);try simp only[zX,zY])
        refine zpe ?_;refine Qa0 (i:=0) (by kernel_rfl) rfl (fun K hK=> ?_);simp only[zG];go_simp;refine hK.out _ _ (.inr hSA) ?_;clear hK K
        try simp only[zX,zY]
       all_goals
        refine Qa0 (i:=10) (by kernel_rfl) rfl (fun K hK=> ?_);simp only[zG];rw[if_pos (by rfl)];refine Qai _ _ _ (by rfl) _ _ _ (by rfl) (by rfl) hr6 ?_;refine hK.out _ _ (.inr hS6) ?_;clear hK K
        try simp only[zX,zY]
        refine zp1 11 ?_;refine zpn (h:= ?_);try simp only[zX,zY]
        refine zpe ?_;refine Qa0 (i:=12) (by kernel_rfl) rfl (fun K hK=> ?_);simp only[zG];go_simp;refine hK.out _ _ (.inl rfl) ?_;clear hK K
        try simp only[zX,zY]
        refine Qcl (by kernel_rfl) ?_ _;refine NoPanic.normal ?_;clear hH hSA hS6 hJ;obtain⟨o0,o1,o2,o3,o4⟩:=V2.row5;go_wp2;have z:Blk _ (w.heap.size+1) 139 (Qal row who ep seq a6 (l.length+1 - J.toNat) c6):=(((((V1.other (B' :=B) (by omega) 4 (.slice a6 (l.length+1 - J.toNat) c6)).setAt 0 (.int .i64 row)).setAt 1 (.int .i64 who)).setAt 2 (.int .i64 ep)).setAt 3 (.int .i64 seq)).setAt 4 (.slice a6 (l.length+1 - J.toNat) c6);obtain⟨e0,e1,e2,e3,e4⟩:=z.row5;exact bodyPost_ret (v:= .agg (Qal row who ep seq a6 (l.length+1 - J.toNat) c6)) (by simp[results,Tryz.results129,go_sem,e0,e1,e2,e3,e4]) rfl
         ⟨_,by rw[HE.out,HS.out],by
          rw[HM.out,EL.out,HJ2.out,HD9.out];exact Qhy (α:=Mk) (l:=D) HDL.out.symm (Qat (Qam (Qam (Qam (Qam (Qam (Qam HOWN6.out FB.out) F1.out) F1.out) F1.out) F1.out) F1.out) (show w.heap.size<=w.heap.size+1+1 by omega)),
         Qav (Qav (Qav (Qav (Qav (Qav B6.out (by omega) _) (by omega) _) (by omega) _) (by omega) _) (by omega) _) (by omega) _⟩
     . have hj:(l.length+1) - window.toNat=0:=(by omega);go_wp2_with (at_builtin;refine Qac rfl _ _ _ rfl _ _ _ rfl rfl hr ?_);refine wp_region_noPanic ?_;refine wp_region_held_drew (S:=fun w' =>w'.cell? ⟨B,4,none⟩=some (.slice (some ⟨g,0,none⟩) (l.length+1) c')) (by kernel_rfl) ?_ (fun hH=> ?_)
       . exact SD.out
       refine ztk [0,1,2,3] ?_;repeat(refine ztn (h:= ?_);try simp only[zX,zY])
       refine zte ?_;refine zR1 4 (fun K hK=> ?_);simp only[zG];go_simp
       (go_at_call 132;refine(Hmax.out _).mono ?_;rintro e w4 ⟨rfl,rfl⟩)
       refine hK.out _ _ SD.out fun hH=> ?_;clear hK K;try simp only[zX,zY]
       refine zt1 5 ?_;refine ztn (h:= ?_);try simp only[zX,zY]
       refine zte ?_;refine zdn ?_;clear SD i0 i1 i2 i3 i4 x4 Y1 Y2 B3;generalize (w3.setCell ⟨B,4,none⟩ (.slice (some ⟨g,0,none⟩) (l.length+1) c')).drew=W5 at*;obtain⟨i0,i1,i2,i3,i4⟩:=Z2.row5;obtain⟨m0,m1,m2,m3,m4⟩:=Z1.row5;have y0:=Z1.thaw 0;have y1:=Z1.thaw 1;have y2:=Z1.thaw 2;have y3:=Z1.thaw 3;have y4:=Z1.thaw 4;go_wp2;have z:Blk _ (w.heap.size+1) 139 (Qal row who ep seq (some ⟨g,0,none⟩) (l.length+1) c'):=((((Z1.setAt 0 (.int .i64 row)).setAt 1 (.int .i64 who)).setAt 2 (.int .i64 ep)).setAt 3 (.int .i64 seq)).setAt 4 (.slice (some ⟨g,0,none⟩) (l.length+1) c');obtain⟨e0,e1,e2,e3,e4⟩:=z.row5;have far9:some (w.heap.size+1)≠(Value.slice (some ⟨g,0,none⟩) (l.length+1) c').ownBlock:=Qa9 Z0.out (by omega);exact bodyPost_ret (v:= .agg (Qal row who ep seq (some ⟨g,0,none⟩) (l.length+1) c')) (by simp[results,Tryz.results129,go_sem,e0,e1,e2,e3,e4]) rfl
        ⟨_,by rw[HE.out,HS.out],by
         rw[HM.out,EL.out,hj];exact Qhy (α:=Mk) (l:=l++ [⟨seq,off⟩]) (by simp) (Qat (Qam (Qam (Qam (Qam (Qam Z0.out far9) far9) far9) far9) far9) (show w.heap.size<=w.heap.size+1+1 by omega)),
        Qav (Qav (Qav (Qav (Qav B4.out (by omega) _) (by omega) _) (by omega) _) (by omega) _) (by omega) _⟩
 . have HE:Hid (putE epoch last l ep seq=epoch):=(by show _=_;simp[putE,putD,hd]);have HS:Hid (putS epoch last l ep seq=last):=(by show _=_;simp[putS,putD,hd]);have HM:Hid (putM window epoch last l ep seq off=l):=(by show _=_;simp[putM,putD,hd]);generalize hC:askC epoch last l ep seq=C at*;generalize hO:askO epoch last l ep seq=O at*;clear hC hO;go_wp2;have z:Blk _ (w.heap.size+1) 139 (Qal row who epoch last a l.length c):=((((r1.setAt 0 (.int .i64 row)).setAt 1 (.int .i64 who)).setAt 2 (.int .i64 epoch)).setAt 3 (.int .i64 last)).setAt 4 (.slice a l.length c);obtain⟨e0,e1,e2,e3,e4⟩:=z.row5;exact bodyPost_ret (v:= .agg (Qal row who epoch last a l.length c)) (by simp[results,Tryz.results129,go_sem,e0,e1,e2,e3,e4]) rfl
    ⟨_,by rw[HE.out,HS.out],by rw[HM.out];exact id (Qat (Qam (Qam (Qam (Qam (Qam Hown2.out far1) far1) far1) far1) far1) (by omega)),Qav (Qav (Qav (Qav (Qav HB2.out (by omega) _) (by omega) _) (by omega) _) (by omega) _) (by omega) _⟩
end Go.Proofs.YtajbldnhjpjghaaGreat.Gen
