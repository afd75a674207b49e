/-
  spec.RowPut at this seat.
-/
import Derived.Test.YtajbldnhjpjghaaGreatDoorKNw2
import Derived.Test.YtajbldnhjpjghaaGreatDoorSpecRowOk2
set_option linter.unusedVariables false
set_option linter.unusedSimpArgs false
set_option maxRecDepth 100000
set_option maxHeartbeats 8000000
set_option maxRecDepth 100000
set_option maxHeartbeats 8000000
namespace Go.Proofs.YtajbldnhjpjghaaGreatDoor.Items
open ChangeShapes WideShapes ChangeAt RowKit Shelf Base
def putB (start next:Int) (l:List It) (x:It):Bool:=rowB start next l&&rowB start (wrap64 (next+1)) (l++ [x])
theorem specRowPut_no (start next who time:Int) (key text:ByteArray) (A:Option Addr) (cap:Nat) (l:List It) (hl:l.length<=1048576) (hs:∀x∈l,x.key.size<=9223372036854775807/\x.text.size<=9223372036854775807) (hn:I64 next)
 (h1:rowB start next l=false) (w:World) (hA:At w A l):
 Calls Tryz.prog 127 #[.agg (Qa2 start next A l.length cap),.string key,.string text,.int .i64 who,.int .i64 time] w fun e w' =>∃v,e= .returned (.tuple #[.agg #[.int .i64 start,.int .i64 next,v],.int .i64 0,.bool false])/\
  w'.ownsRow w.heap.size 160 5 v l.length (flat l)/\Below w.heap.size w w' :=by
 have HA:Hid (At w A l):=hA;have Hs:Hid (∀x∈l,x.key.size<=9223372036854775807/\x.text.size<=9223372036854775807):=hs;have Hn:Hid (I64 next):=hn;have H1:Hid (rowB start next l=false):=h1;clear hA hs hn h1;go_enter Tryz.func127,Tryz.ntmps127;go_wp2_with fail;refine(l3Copy_any start next A cap l (by omega) _ (HA.out.below (Qad (Qad (Below.refl _ w) _) _))).mono ?_;rintro e w1 ⟨v,rfl,hown,g1⟩;have B1:Below w.heap.size w w1:=via0 g1 (Qad (Qad (Below.refl _ w) _) _);have p0:=((Blk.new w 157 (Qa2 start next A l.length cap)).alloc (.cells Qcg 157)).below g1 (by simp;omega);have p1:=(Blk.new (w.alloc (.cells (Qa2 start next A l.length cap) 157)) 157 Qcg).below g1 (by simp);rw[World.size_alloc]at p1;obtain⟨a,c,rfl,hc⟩:=Qan hown;simp only[World.size_alloc]at hown;have Hown:Hid (w1.ownsRow (w.heap.size+1+1) 160 5 (.slice a l.length c) l.length (flat l)):=hown;clear hown hc;obtain⟨u0,u1,u2⟩:=p0.row;have q0:=p0.lt;have q1:=p1.lt;go_wp2_with fail;refine(Qci start next _ _ l (by omega) Hs.out Hn.out.1 Hn.out.2 _ (HA.out.below (Qad B1 _))).mono ?_;rintro e w2 ⟨rfl,g2⟩;rw[H1.out];have B2:Below w.heap.size w w2:=via0 g2 (Qad B1 _);have r1:=(p1.alloc (.cells (Qa2 start next a l.length c) 157)).below g2 (p1.alloc _).lt;have r2:=(Blk.new w1 157 (Qa2 start next a l.length c)).below g2 (by simp);have Hown2:Hid (w2.ownsRow (w.heap.size+1+1) 160 5 (.slice a l.length c) l.length (flat l)):=Qar (Qav Hown.out _) g2;clear u0 u1 u2;obtain⟨u0,u1,u2⟩:=r2.row;obtain⟨n0,n1,n2⟩:=r1.row;have k0:=r1.thaw 0;have k1:=r1.thaw 1;have k2:=r1.thaw 2;go_wp2;have z:Blk _ (w.heap.size+1) 157 (Qa2 start next a l.length c):=((r1.setAt 0 (.int .i64 start)).setAt 1 (.int .i64 next)).setAt 2 (.slice a l.length c);obtain⟨e0,e1,e2⟩:=z.row
 have far:some (w.heap.size+1)≠(Value.slice a l.length c).ownBlock:=Qa6 Hown2.out (by omega);exact bodyPost_ret (v:= .tuple #[.agg (Qa2 start next a l.length c),.int .i64 0,.bool false]) (by simp[results,Tryz.results127,go_sem,e0,e1,e2]) rfl
  ⟨_,rfl,Qax (Qal (Qal (Qal Hown2.out far) far) far) (by omega),Qas (Qas (Qas B2 (by omega) _) (by omega) _) (by omega) _⟩
theorem held10 {W:World} {B C:Nat} {t t' :TypeId} {a b c p q r a' b' c' :Value} (h:Blk W C t' #[a,b,c]) (h0:Blk W B t #[p,q,r]) (h' :Blk W (B+1) t #[a',b',c']):
 W.cell? ⟨C,0,none⟩=some a/\W.cell? ⟨C,1,none⟩=some b/\W.cell? ⟨C,2,none⟩=some c/\W.cell? ⟨B,1,none⟩=some q/\
  (W.cell? ⟨B+1,0,none⟩).isSome=true/\(W.cell? ⟨B+1,1,none⟩).isSome=true/\(W.cell? ⟨B+1,2,none⟩).isSome=true/\
  W.frozen? ⟨B+1,0,none⟩=false/\W.frozen? ⟨B+1,1,none⟩=false/\W.frozen? ⟨B+1,2,none⟩=false:=by
 obtain⟨h0',h1,h2⟩:=h.row;obtain⟨_,g1,_⟩:=h0.row;obtain⟨s0,s1,s2,s3,s4,s5⟩:=h'.spots;exact⟨h0',h1,h2,g1,s0,s1,s2,s3,s4,s5⟩
theorem specRowPut_yes (start next who time:Int) (key text:ByteArray) (A:Option Addr) (cap:Nat) (l:List It) (hl:l.length<=1048576) (hs:∀x∈l,x.key.size<=9223372036854775807/\x.text.size<=9223372036854775807) (hn:I64 next)
 (hk:key.size<=9223372036854775807) (ht:text.size<=9223372036854775807)
 (h1:rowB start next l=true) (w:World) (hA:At w A l):
 Calls Tryz.prog 127 #[.agg (Qa2 start next A l.length cap),.string key,.string text,.int .i64 who,.int .i64 time] w fun e w' =>
  (rowB start (wrap64 (next+1)) (l++ [(⟨next,key,text,who,time⟩:It)])=true/\∃v,e= .returned (.tuple #[.agg #[.int .i64 start,.int .i64 (wrap64 (next+1)),v],.int .i64 next,.bool true])/\w'.ownsRow w.heap.size 160 5 v (l.length+1) (flat (l++ [(⟨next,key,text,who,time⟩:It)]))/\Below w.heap.size w w')∨
  (rowB start (wrap64 (next+1)) (l++ [(⟨next,key,text,who,time⟩:It)])=false/\∃v,e= .returned (.tuple #[.agg #[.int .i64 start,.int .i64 next,v],.int .i64 0,.bool false])/\w'.ownsRow w.heap.size 160 5 v l.length (flat l)/\Below w.heap.size w w'):=by
 have HA:Hid (At w A l):=hA;have Hs:Hid (∀x∈l,x.key.size<=9223372036854775807/\x.text.size<=9223372036854775807):=hs;have Hn:Hid (I64 next):=hn;have H1:Hid (rowB start next l=true):=h1;clear hA hs hn h1;go_enter Tryz.func127,Tryz.ntmps127;go_wp2_with fail;refine(l3Copy_any start next A cap l (by omega) _ (HA.out.below (Qad (Qad (Below.refl _ w) _) _))).mono ?_;rintro e w1 ⟨v,rfl,hown,g1⟩;have B1:Below w.heap.size w w1:=via0 g1 (Qad (Qad (Below.refl _ w) _) _);have p0:=((Blk.new w 157 (Qa2 start next A l.length cap)).alloc (.cells Qcg 157)).below g1 (by simp;omega);have p1:=(Blk.new (w.alloc (.cells (Qa2 start next A l.length cap) 157)) 157 Qcg).below g1 (by simp);rw[World.size_alloc]at p1;obtain⟨a,c,rfl,hc⟩:=Qan hown;simp only[World.size_alloc]at hown;have Hown:Hid (w1.ownsRow (w.heap.size+1+1) 160 5 (.slice a l.length c) l.length (flat l)):=hown;clear hown hc;obtain⟨u0,u1,u2⟩:=p0.row;have q0:=p0.lt;have q1:=p1.lt;go_wp2_with fail;refine(Qci start next _ _ l (by omega) Hs.out Hn.out.1 Hn.out.2 _ (HA.out.below (Qad B1 _))).mono ?_;rintro e w2 ⟨rfl,g2⟩;rw[H1.out];have B2:Below w.heap.size w w2:=via0 g2 (Qad B1 _);have r0:=(p0.alloc (.cells (Qa2 start next a l.length c) 157)).below g2 (p0.alloc _).lt;have r1:=(p1.alloc (.cells (Qa2 start next a l.length c) 157)).below g2 (p1.alloc _).lt;have r2:=(Blk.new w1 157 (Qa2 start next a l.length c)).below g2 (by simp);have Hown2:Hid (w2.ownsRow (w.heap.size+1+1) 160 5 (.slice a l.length c) l.length (flat l)):=Qar (Qav Hown.out _) g2;have far0:some w.heap.size≠(Value.slice a l.length c).ownBlock:=Qa6 Hown2.out (by omega);have far1:some (w.heap.size+1)≠(Value.slice a l.length c).ownBlock:=Qa6 Hown2.out (by omega);have far2:some w1.heap.size≠(Value.slice a l.length c).ownBlock:=fun h=>by have:=Qcf Hown.out h.symm;omega
 have hb2:Below w2.heap.size w2 (w2.alloc (.cells (Qbm next key text who time) 160)):=Qad (Below.refl _ _) _;have bx:=Blk.new w2 160 (Qbm next key text who time);obtain⟨v',w3,hr,hown3,hgrow,hat⟩:=Qcw (w.heap.size+1+1) (.slice a l.length c) l [(⟨next,key,text,who,time⟩:It)] (some ⟨w2.heap.size,0,none⟩) 1 (w2.alloc (.cells (Qbm next key text who time) 160)) (by have:=r0.lt;simp;omega) (Qav Hown2.out _)
  (.inr ⟨w2.heap.size,0,rfl,by simp,fun j u hu=>bx.cell (i:=0+j) (by simpa [flat,It.cs]using hu)⟩) (by simp;omega)
 simp only[List.length_cons,List.length_nil,Nat.zero_add]at hown3 hr;obtain⟨a',c',rfl,hc'⟩:=Qan hown3;have t0:=(r0.alloc _).kept hgrow far0;have t1:=(r1.alloc _).kept hgrow far1;have t2:=(r2.alloc _).kept hgrow far2;have B3:Below w.heap.size w w3:=(Qad B2 _).grown hgrow (Qad B2 _).size (fun k e=>by
  rcases Hown2.out.2 with⟨e',_⟩|⟨g,c1,cur,e',hB,_⟩
  . rw[e']at e;cases e
  . rw[e']at e;have:g=k:=(by simpa [Value.ownBlock]using e);omega)
 have sz2:(w2.alloc (.cells (Qbm next key text who time) 160)).heap.size=w2.heap.size+1:=World.size_alloc _ _;have fa:∀k,k<w2.heap.size->some k≠(Value.slice a l.length c).ownBlock->some k≠(Value.slice a' (l.length+1) c').ownBlock:=fun k hk hne=>by
  rcases hat with e|e
  . rw[e];exact hne
  . rw[e];intro h;have:=Option.some.inj h;omega
 have Fa0:Hid (some w.heap.size≠(Value.slice a' (l.length+1) c').ownBlock):=fa _ r0.lt far0;have Fa1:Hid (some (w.heap.size+1)≠(Value.slice a' (l.length+1) c').ownBlock):=fa _ r1.lt far1;have Fa2:Hid (some w1.heap.size≠(Value.slice a' (l.length+1) c').ownBlock):=fa _ r2.lt far2;have Hown3:Hid (w3.ownsRow (w.heap.size+1+1) 160 5 (.slice a' (l.length+1) c') (l.length+1) (flat (l++ [(⟨next,key,text,who,time⟩:It)]))):=hown3;have Bg:Hid (Below w.heap.size w w3):=B3;clear u0 u1 u2 hgrow hat hown3 far0 far1 far2 fa hb2 bx sz2 hc' B3;obtain⟨u0,u1,u2⟩:=r0.row;obtain⟨m0,m1,m2⟩:=r2.row;obtain⟨i0,i1,i2⟩:=t0.row;obtain⟨n0,n1,n2⟩:=t2.row;have k0:=t2.thaw 0;have k1:=t2.thaw 1;have k2:=t2.thaw 2;have q2:=r0.lt;have q3:=r2.lt;have hne:w1.heap.size≠w.heap.size:=by omega
 go_wp2_with (at_builtin;refine Qac rfl _ _ _ rfl _ _ _ rfl rfl hr ?_);have Hown4:Hid (((w3.setCell ⟨w1.heap.size,2,none⟩ (.slice a' (l.length+1) c')).setCell ⟨w1.heap.size,1,none⟩ (.int .i64 (wrap64 (next+1)))).ownsRow (w.heap.size+1+1) 160 5 (.slice a' (l.length+1) c') (l.length+1) (flat (l++ [(⟨next,key,text,who,time⟩:It)]))):=Qal (Qal Hown3.out Fa2.out) Fa2.out;have B4:Below w.heap.size w ((w3.setCell ⟨w1.heap.size,2,none⟩ (.slice a' (l.length+1) c')).setCell ⟨w1.heap.size,1,none⟩ (.int .i64 (wrap64 (next+1)))):=Qas (Qas Bg.out (by omega) _) (by omega) _;have v0:=(t0.other (B' :=w1.heap.size) (by omega) 2 (.slice a' (l.length+1) c')).other (B' :=w1.heap.size) (by omega) 1 (.int .i64 (wrap64 (next+1)));have v1:=(t1.other (B' :=w1.heap.size) (by omega) 2 (.slice a' (l.length+1) c')).other (B' :=w1.heap.size) (by omega) 1 (.int .i64 (wrap64 (next+1)));have v2:Blk _ w1.heap.size 157 (Qa2 start (wrap64 (next+1)) a' (l.length+1) c'):=(t2.setAt 2 (.slice a' (l.length+1) c')).setAt 1 (.int .i64 (wrap64 (next+1)));have e9:(l++ [(⟨next,key,text,who,time⟩:It)]).length=l.length+1:=by simp
 have hw:=i64_of (wrap64_wf (next+1));have hok:=Qci start (wrap64 (next+1)) a' c' (l++ [(⟨next,key,text,who,time⟩:It)]) (by rw[e9];omega) (fun y hy=>by
  rcases List.mem_append.1 hy with h|h
  . exact Hs.out y h
  . simp at h;subst h;exact⟨hk,ht⟩) hw.1 hw.2 _ (Qc7 (by rw[e9];exact Hown4.out))
 rw[e9]at hok;refine hok.mono ?_;rintro e w5 ⟨rfl,g5⟩;have B5:Below w.heap.size w w5:=via0 g5 B4;have y0:=v0.below g5 v0.lt;have y1:=v1.below g5 v1.lt;have y2:=v2.below g5 v2.lt;have Hown5:Hid (w5.ownsRow (w.heap.size+1+1) 160 5 (.slice a' (l.length+1) c') (l.length+1) (flat (l++ [(⟨next,key,text,who,time⟩:It)]))):=Qar Hown4.out g5;clear hok u0 u1 u2 m0 m1 m2 i0 i1 i2 n0 n1 n2 k0 k1 k2 hr hw e9 v0 v1 v2 t0 t1 t2 r0 r1 r2 p0 p1 g5 Hown4 Hown3 Hown2 Hown Fa0 Bg B4 B2 B1 g2 g1;obtain⟨u0,u1,u2⟩:=y0.row;obtain⟨m0,m1,m2⟩:=y2.row;have q5:=y0.lt;have q6:=y1.lt;cases h2:rowB start (wrap64 (next+1)) (l++ [(⟨next,key,text,who,time⟩:It)])
 . go_wp2_with fail;refine(l3Copy_any start next A cap l (by omega) _ (HA.out.below B5)).mono ?_;rintro e w6 ⟨v6,rfl,hown6,g6⟩;obtain⟨a6,c6,rfl,_⟩:=Qan hown6;have z1:=y1.below g6 y1.lt;obtain⟨n0,n1,n2⟩:=z1.row;have k0:=z1.thaw 0;have k1:=z1.thaw 1;have k2:=z1.thaw 2;have far:some (w.heap.size+1)≠(Value.slice a6 l.length c6).ownBlock:=Qa6 hown6 q6;have Hown6:Hid (w6.ownsRow w5.heap.size 160 5 (.slice a6 l.length c6) l.length (flat l)):=hown6;have Far:Hid (some (w.heap.size+1)≠(Value.slice a6 l.length c6).ownBlock):=far;clear hown6 far;go_wp2;have z:Blk _ (w.heap.size+1) 157 (Qa2 start next a6 l.length c6):=((z1.setAt 0 (.int .i64 start)).setAt 1 (.int .i64 next)).setAt 2 (.slice a6 l.length c6);obtain⟨e0,e1,e2⟩:=z.row;exact bodyPost_ret (v:= .tuple #[.agg (Qa2 start next a6 l.length c6),.int .i64 0,.bool false]) (by simp[results,Tryz.results127,go_sem,e0,e1,e2]) rfl
    (.inr ⟨h2,_,rfl,Qax (Qal (Qal (Qal Hown6.out Far.out) Far.out) Far.out) (by omega),Qas (Qas (Qas (via0 g6 B5) (by omega) _) (by omega) _) (by omega) _⟩)
 . go_wp2_with fail;have z0:=((y0.other (B' :=w.heap.size+1) (by omega) 0 (.int .i64 start)).other (B' :=w.heap.size+1) (by omega) 1 (.int .i64 (wrap64 (next+1)))).other (B' :=w.heap.size+1) (by omega) 2 (.slice a' (l.length+1) c');have z2:=((y2.other (B' :=w.heap.size+1) (by omega) 0 (.int .i64 start)).other (B' :=w.heap.size+1) (by omega) 1 (.int .i64 (wrap64 (next+1)))).other (B' :=w.heap.size+1) (by omega) 2 (.slice a' (l.length+1) c');have z1:Blk _ (w.heap.size+1) 157 (Qa2 start (wrap64 (next+1)) a' (l.length+1) c'):=((y1.setAt 0 (.int .i64 start)).setAt 1 (.int .i64 (wrap64 (next+1)))).setAt 2 (.slice a' (l.length+1) c');have SW:=held10 y2 y0 y1;have SD:=held10 y2.drew y0.drew y1.drew;have SZ:=held10 z2 z0 z1;have SE:=held10 z2.drew z0.drew z1.drew;obtain⟨e0,e1,e2⟩:=z1.row;obtain⟨n0,n1,n2⟩:=y1.row;have k0:=y1.thaw 0;have k1:=y1.thaw 1;have k2:=y1.thaw 2;have H2:Hid (rowB start (wrap64 (next+1)) (l++ [(⟨next,key,text,who,time⟩:It)])=true):=h2;clear h2 z0 z1 z2 y0 y1 y2
   go_region_held3 (fun w' =>w'.cell? ⟨w1.heap.size,0,none⟩=some (.int .i64 start)/\w'.cell? ⟨w1.heap.size,1,none⟩=some (.int .i64 (wrap64 (next+1)))/\w'.cell? ⟨w1.heap.size,2,none⟩=some (.slice a' (l.length+1) c')/\w'.cell? ⟨w.heap.size,1,none⟩=some (.int .i64 next)/\
    (w'.cell? ⟨w.heap.size+1,0,none⟩).isSome=true/\(w'.cell? ⟨w.heap.size+1,1,none⟩).isSome=true/\(w'.cell? ⟨w.heap.size+1,2,none⟩).isSome=true/\
    w'.frozen? ⟨w.heap.size+1,0,none⟩=false/\w'.frozen? ⟨w.heap.size+1,1,none⟩=false/\w'.frozen? ⟨w.heap.size+1,2,none⟩=false)
    (first|with_reducible exact SD|with_reducible exact SE|with_reducible exact SZ|with_reducible exact SW)
    (fail)
   all_goals
    clear SW SD SZ SE n0 n1 n2 k0 k1 k2;go_wp2;exact bodyPost_ret (v:= .tuple #[.agg (Qa2 start (wrap64 (next+1)) a' (l.length+1) c'),.int .i64 next,.bool true]) (by simp[results,Tryz.results127,go_sem,e0,e1,e2]) rfl
     (.inl ⟨H2.out,_,rfl,Qax (Qal (Qal (Qal Hown5.out Fa1.out) Fa1.out) Fa1.out) (by omega),Below.drew (Qas (Qas (Qas B5 (by omega) _) (by omega) _) (by omega) _)⟩)
end Go.Proofs.YtajbldnhjpjghaaGreatDoor.Items
namespace Go.Proofs.YtajbldnhjpjghaaGreatDoor.Gen
open ChangeShapes WideShapes ChangeAt RowKit Joins Deep Base
open Items (It)
def rpOk (start next:Int) (l:List It) (key text:ByteArray) (who time:Int):Bool:=Items.putB start next l ⟨next,key,text,who,time⟩
def rpL (start next:Int) (l:List It) (key text:ByteArray) (who time:Int):List It:=if rpOk start next l key text who time then l++ [⟨next,key,text,who,time⟩]else l
def rpX (start next:Int) (l:List It) (key text:ByteArray) (who time:Int):Int:=if rpOk start next l key text who time then wrap64 (next+1)else next
def rpN (start next:Int) (l:List It) (key text:ByteArray) (who time:Int):Int:=if rpOk start next l key text who time then next else 0
theorem Qhl (start next who time:Int) (key text:ByteArray) (A:Option Addr) (cap:Nat) (l:List It) (hl:l.length<=1000000) (hs:∀x∈l,x.key.size<=9223372036854775807/\x.text.size<=9223372036854775807) (hn:Items.I64 next) (hk:key.size<=9223372036854775807) (ht:text.size<=9223372036854775807) (w:World) (hA:At w A l):
 Calls Tryz.prog 127 #[.agg (Qa2 start next A l.length cap),.string key,.string text,.int .i64 who,.int .i64 time] w fun e w' =>∃a c,e= .returned (.tuple #[.agg (Qa2 start (rpX start next l key text who time) a (rpL start next l key text who time).length c),.int .i64 (rpN start next l key text who time),.bool (rpOk start next l key text who time)])/\
  w'.ownsRow w.heap.size 160 5 (.slice a (rpL start next l key text who time).length c) (rpL start next l key text who time).length (flat (rpL start next l key text who time))/\Below w.heap.size w w' :=by
 cases h1:Items.rowB start next l with
 |false=>
  have e:rpOk start next l key text who time=false:=by simp[rpOk,Items.putB,h1]
  refine(Items.specRowPut_no start next who time key text A cap l (by omega) hs hn h1 w hA).mono ?_;rintro e' w' ⟨v,rfl,ho,hb⟩;obtain⟨a,c,rfl,_⟩:=Qan ho;rw[show rpL start next l key text who time=l by simp[rpL,e],e,show rpX start next l key text who time=next by simp[rpX,e],show rpN start next l key text who time=0 by simp[rpN,e]];exact⟨a,c,rfl,ho,hb⟩
 |true=>
  refine(Items.specRowPut_yes start next who time key text A cap l (by omega) hs hn hk ht h1 w hA).mono ?_;rintro e' w' (⟨h2,v,rfl,ho,hb⟩|⟨h2,v,rfl,ho,hb⟩)
  . have e:rpOk start next l key text who time=true:=by simp[rpOk,Items.putB,h1,h2]
    obtain⟨a,c,rfl,_⟩:=Qan ho;have hL:rpL start next l key text who time=l++ [⟨next,key,text,who,time⟩]:=by simp[rpL,e]
    have hn2:l.length+1=(l++ [(⟨next,key,text,who,time⟩:It)]).length:=(by simp);rw[hL,e,show rpX start next l key text who time=wrap64 (next+1)by simp[rpX,e],show rpN start next l key text who time=next by simp[rpN,e],← hn2];exact⟨a,c,rfl,ho,hb⟩
  . have e:rpOk start next l key text who time=false:=by simp[rpOk,Items.putB,h1,h2]
    obtain⟨a,c,rfl,_⟩:=Qan ho;rw[show rpL start next l key text who time=l by simp[rpL,e],e,show rpX start next l key text who time=next by simp[rpX,e],show rpN start next l key text who time=0 by simp[rpN,e]];exact⟨a,c,rfl,ho,hb⟩
def putD (epoch last:Int) (l:List Mk) (ep seq:Int):Bool:=decide (askC epoch last l ep seq=0)
def putE (epoch last:Int) (l:List Mk) (ep seq:Int):Int:=if putD epoch last l ep seq then ep else epoch
def putS (epoch last:Int) (l:List Mk) (ep seq:Int):Int:=if putD epoch last l ep seq then seq else last
def putB (epoch:Int) (l:List Mk) (ep:Int):List Mk:=if ep>epoch then []else l
def Qj2 (window:Int) (L:List Mk):List Mk:=L.drop (L.length - window.toNat)
def putM (window epoch last:Int) (l:List Mk) (ep seq off:Int):List Mk:=if putD epoch last l ep seq then Qj2 window (putB epoch l ep++ [⟨seq,off⟩])else l
theorem askC_epoch {epoch last:Int} {l:List Mk} {ep seq:Int} (h:askC epoch last l ep seq=0):epoch<=ep:=by
 unfold askC at h;split at h
 . omega
 . omega
end Go.Proofs.YtajbldnhjpjghaaGreatDoor.Gen
