/-
  spec.RowPack at this seat.
-/
import Derived.Test.YtajbldnhjpjghaaGreatSpecRowTrim2
set_option linter.unusedVariables false
set_option linter.unusedSimpArgs false
set_option maxRecDepth 100000
set_option maxHeartbeats 8000000
set_option maxRecDepth 100000
set_option maxHeartbeats 8000000
namespace Go.Proofs.YtajbldnhjpjghaaGreat.Items
open ChangeShapes WideShapes ChangeAt RowKit Shelf Base
theorem Qrs (start next length:Int) (A:Option Addr) (cap:Nat) (l:List It) (hl:l.length<=1048576) (hs:∀x∈l,x.key.size<=9223372036854775807/\x.text.size<=9223372036854775807) (hn:I64 next)
 (h1:packB start next length l=false) (w:World) (hA:At w A l):
 Calls Tryz.prog 122 #[.agg (Qa5 start next A l.length cap),.int .i64 length] w fun e w' =>∃v,e= .returned (.agg #[.int .i64 start,.int .i64 next,v])/\w'.ownsRow w.heap.size 136 5 v l.length (flat l)/\Below w.heap.size w w' :=by
 have HA:Hid (At w A l):=hA;have Hs:=hidP hs;have Hn:=hidP hn;clear hA hs hn;have B0:Below w.heap.size w ((w.alloc (.cells (Qa5 start next A l.length cap) 134)).alloc (.cells Qco 134)):=Qad (Qad (Below.refl _ _) _) _;have p0:=(Blk.new w 134 (Qa5 start next A l.length cap)).alloc (.cells Qco 134);have p1:=Blk.new (w.alloc (.cells (Qa5 start next A l.length cap) 134)) 134 Qco;rw[World.size_alloc]at p1;have tail:∀w1:World,Below w.heap.size w w1->Blk w1 (w.heap.size+1) 134 Qco->Calls Tryz.prog 106 #[.agg (Qa5 start next A l.length cap)] w1 fun e w2=>∃a c,e= .returned (.agg (Qa5 start next a l.length c))/\Hid (w2.ownsRow w1.heap.size 136 5 (.slice a l.length c) l.length (flat l))/\Hid (Below w.heap.size w w2)/\Hid (Blk w2 (w.heap.size+1) 134 Qco)/\Hid (some (w.heap.size+1)≠(Value.slice a l.length c).ownBlock):=by
  intro w1 hw b1;refine(l3Copy_any start next A cap l hl _ (HA.out.below hw)).mono ?_;rintro e w2 ⟨v,rfl,hown,g2⟩;obtain⟨a,c,rfl,_⟩:=Qao hown;exact⟨a,c,rfl,hown,via0 g2 hw,b1.below g2 b1.lt,Qa9 hown b1.lt⟩
 have Tail:=hidP tail;clear tail;by_cases hx:length<1
 . go_enter Tryz.func122,Tryz.ntmps122;go_wp2_with fail;refine(Tail.out _ B0 p1).mono ?_;rintro e w2 ⟨a,c,rfl,Hown,B2,z1,Far⟩;obtain⟨n0,n1,n2⟩:=z1.out.row;have k0:=z1.out.thaw 0;have k1:=z1.out.thaw 1;have k2:=z1.out.thaw 2;go_wp2;have z:Blk _ (w.heap.size+1) 134 (Qa5 start next a l.length c):=((z1.out.setAt 0 (.int .i64 start)).setAt 1 (.int .i64 next)).setAt 2 (.slice a l.length c);obtain⟨e0,e1,e2⟩:=z.row;exact bodyPost_ret (v:= .agg (Qa5 start next a l.length c)) (by simp[results,Tryz.results122,go_sem,e0,e1,e2]) rfl
    ⟨_,rfl,Qat (Qam (Qam (Qam Hown.out Far.out) Far.out) Far.out) B0.size,Qav (Qav (Qav B2.out (by omega) _) (by omega) _) (by omega) _⟩
 have hr:rowB start next l=false:=by
  simp only[packB,Bool.and_eq_false_iff,decide_eq_false_iff_not]at h1;rcases h1 with h|h
  . omega
  . exact h
 have HR:=hidP hr;clear hr h1;go_enter Tryz.func122,Tryz.ntmps122;go_wp2_with fail;refine(Qcq start next A cap l (by omega) Hs.out Hn.out.1 Hn.out.2 _ (HA.out.below B0)).mono ?_;rintro e w1 ⟨rfl,g1⟩;rw[HR.out];have B1:Below w.heap.size w w1:=via0 g1 B0;have r0:=p0.below g1 p0.lt;have r1:=p1.below g1 p1.lt;obtain⟨u0,u1,u2⟩:=r0.row;go_wp2_with fail;refine(Tail.out _ B1 r1).mono ?_;rintro e w2 ⟨a,c,rfl,Hown,B2,z1,Far⟩;obtain⟨n0,n1,n2⟩:=z1.out.row;have k0:=z1.out.thaw 0;have k1:=z1.out.thaw 1;have k2:=z1.out.thaw 2;clear u0 u1 u2;go_wp2;have z:Blk _ (w.heap.size+1) 134 (Qa5 start next a l.length c):=((z1.out.setAt 0 (.int .i64 start)).setAt 1 (.int .i64 next)).setAt 2 (.slice a l.length c);obtain⟨e0,e1,e2⟩:=z.row;exact bodyPost_ret (v:= .agg (Qa5 start next a l.length c)) (by simp[results,Tryz.results122,go_sem,e0,e1,e2]) rfl
  ⟨_,rfl,Qat (Qam (Qam (Qam Hown.out Far.out) Far.out) Far.out) B1.size,Qav (Qav (Qav B2.out (by omega) _) (by omega) _) (by omega) _⟩
def Qtz (w wr:World) (B:Nat) (start next length:Int) (A:Option Addr) (cap:Nat) (l:List It) (n:Nat):Prop:=
  ∃(M:List It) (a:Option Addr) (c:Nat),Blk wr w.heap.size 134 (Qa5 start next A l.length cap)/\Blk wr (w.heap.size+1) 134 Qco/\Blk wr B 134 (Qa5 start next a M.length c)/\
    wr.ownsRow (w.heap.size+1+1) 136 5 (.slice a M.length c) M.length (flat M)/\some B≠(Value.slice a M.length c).ownBlock/\Below w.heap.size w wr/\M.length<=n/\M++packF (IntKind.i64.wrap (next - 1)) length (l.drop n)=packF (IntKind.i64.wrap (next - 1)) length l
theorem specPack_yes (start next length:Int) (A:Option Addr) (cap:Nat) (l:List It) (hl:l.length<=1048576) (hs:∀x∈l,x.key.size<=9223372036854775807/\x.text.size<=9223372036854775807) (hn:I64 next)
 (h1:packB start next length l=true) (w:World) (hA:At w A l):
 Calls Tryz.prog 122 #[.agg (Qa5 start next A l.length cap),.int .i64 length] w fun e w' =>∃v,e= .returned (.agg #[.int .i64 start,.int .i64 next,v])/\w'.ownsRow w.heap.size 136 5 v (packF (IntKind.i64.wrap (next - 1)) length l).length (flat (packF (IntKind.i64.wrap (next - 1)) length l))/\Below w.heap.size w w' :=by
 have HA:Hid (At w A l):=hA;have Hs:=hidP hs;have Hn:=hidP hn;simp only[packB,Bool.and_eq_true,decide_eq_true_eq]at h1;obtain⟨h1,hr⟩:=h1;have HR:=hidP hr;clear hA hs hn hr;have B0:Below w.heap.size w ((w.alloc (.cells (Qa5 start next A l.length cap) 134)).alloc (.cells Qco 134)):=Qad (Qad (Below.refl _ _) _) _;have p0:=(Blk.new w 134 (Qa5 start next A l.length cap)).alloc (.cells Qco 134);have p1:=Blk.new (w.alloc (.cells (Qa5 start next A l.length cap) 134)) 134 Qco;rw[World.size_alloc]at p1;have hx:¬length<1:=by omega
 have hz:¬length=0:=by omega
 go_enter Tryz.func122,Tryz.ntmps122;go_wp2_with fail;refine(Qcq start next A cap l (by omega) Hs.out Hn.out.1 Hn.out.2 _ (HA.out.below B0)).mono ?_;rintro e w1 ⟨rfl,g1⟩;rw[HR.out];have B1:Below w.heap.size w w1:=via0 g1 B0;have r0:=p0.below g1 p0.lt;have r1:=p1.below g1 p1.lt;have q1:=r1.lt;obtain⟨u0,u1,u2⟩:=r0.row;go_wp2_with fail;have S0:Hid (Qtz w (w1.alloc (.cells (Qa5 start next none 0 0) 134)) w1.heap.size start next length A cap l 0):=
  ⟨[],none,0,r0.alloc _,r1.alloc _,Blk.new w1 _ _,World.ownsRow_nil _ _ _ _,by simp[Value.ownBlock],Qad B1 _,Nat.le_refl _,by simp⟩
 generalize w1.alloc (.cells (Qa5 start next none 0 0) 134)=W0 at*;generalize hBB:w1.heap.size=B at*;have hB1:w.heap.size+1<B:=q1;clear hBB u0 u1 u2 r0 r1 p0 p1 B0 B1 g1 q1
 go_loopw [6] (fun i wr=>∃n:Nat,i= .int .i64 (n:Int)/\n<=l.length/\Qtz w wr B start next length A cap l n) (fun i _=>l.length - (intOf i).toNat)
 case atStart=>exact⟨0,rfl,by omega,S0.out⟩
 case round=>
  obtain⟨n,rfl,hn,M,a,c,b0,b1,bB,hown,hfar,hB,hM,hpk⟩:=hrel;have hpk:=hidP hpk;have hown:=hidP hown;have hB:=hidP hB;obtain⟨v0,v1,v2⟩:=b0.row;obtain⟨m0,m1,m2⟩:=bB.row;by_cases hlt:n<l.length
  . obtain⟨b,o,rfl,hb,hin⟩:∃b o,A=some ⟨b,o,none⟩/\b<w.heap.size/\In w b o l:=HA.out.resolve_left (fun h=>by rw[h]at hlt;simp at hlt);have Hin:=hidP hin;obtain⟨x0,x1,x2,x3,x4⟩:=(hin.below hb hB.out).get n hlt;have hi0:(0:Int)<=(n:Int):=(by omega);have hi1:(n:Int)<(l.length:Int):=(by omega);clear hin;go_wp2_with fail;have bX:=Blk.new wr 136 (Qbs l[n].off l[n].key l[n].text l[n].who l[n].time);have HB1:=hidP (Qad hB.out (.cells (Qbs l[n].off l[n].key l[n].text l[n].who l[n].time) 136));have Hown:=hidP (Qau hown.out (.cells (Qbs l[n].off l[n].key l[n].text l[n].who l[n].time) 136));have b0:=b0.alloc (.cells (Qbs l[n].off l[n].key l[n].text l[n].who l[n].time) 136);have b1:=b1.alloc (.cells (Qbs l[n].off l[n].key l[n].text l[n].who l[n].time) 136);have bB:=bB.alloc (.cells (Qbs l[n].off l[n].key l[n].text l[n].who l[n].time) 136);generalize wr.alloc (.cells (Qbs l[n].off l[n].key l[n].text l[n].who l[n].time) 136)=W1 at*;generalize hXX:wr.heap.size=X at*;clear v0 v1 v2 m0 m1 m2 x0 x1 x2 x3 x4 hXX;obtain⟨v0,v1,v2⟩:=b0.row;obtain⟨x0,x1,x2,x3,x4⟩:=bX.item;have qX:=bX.lt;have q0:=b0.lt;have SE:Hid ((fun w' =>w'.cell? ⟨w.heap.size,0,none⟩=some (.int .i64 start)/\w'.cell? ⟨w.heap.size,1,none⟩=some (.int .i64 next)/\w'.cell? ⟨w.heap.size,2,none⟩=some (.slice (some ⟨b,o,none⟩) l.length cap)/\w'.cell? ⟨X,0,none⟩=some (.int .i64 l[n].off)/\w'.cell? ⟨X,1,none⟩=some (.string l[n].key)) W1.drew):=⟨v0,v1,v2,x0,x1⟩
    have SK:∀w2,Below W1.drew.heap.size W1.drew w2->(fun w' =>w'.cell? ⟨w.heap.size,0,none⟩=some (.int .i64 start)/\w'.cell? ⟨w.heap.size,1,none⟩=some (.int .i64 next)/\w'.cell? ⟨w.heap.size,2,none⟩=some (.slice (some ⟨b,o,none⟩) l.length cap)/\w'.cell? ⟨X,0,none⟩=some (.int .i64 l[n].off)/\w'.cell? ⟨X,1,none⟩=some (.string l[n].key)) w2:=fun w2 g=>by
     obtain⟨k1,_⟩:=Qeh g;exact⟨(k1 _ _ q0).trans v0,(k1 _ _ q0).trans v1,(k1 _ _ q0).trans v2,(k1 _ _ qX).trans x0,(k1 _ _ qX).trans x1⟩
    by_cases hE:l[n].key.toList= []
    . have G:Hid (l[n].key.toList.isEmpty=true):=(by show _=_;simp[hE]);have HST:Hid (Qej (IntKind.i64.wrap (next - 1)) length l[n] (l.drop (n+1))=true):=(by show _=_;simp[Qej,hE]);clear hE;refine wp_region_noPanic ?_;refine wp_region_held_drew (S:=fun w' =>w'.cell? ⟨w.heap.size,0,none⟩=some (.int .i64 start)/\w'.cell? ⟨w.heap.size,1,none⟩=some (.int .i64 next)/\w'.cell? ⟨w.heap.size,2,none⟩=some (.slice (some ⟨b,o,none⟩) l.length cap)/\w'.cell? ⟨X,0,none⟩=some (.int .i64 l[n].off)/\w'.cell? ⟨X,1,none⟩=some (.string l[n].key)) (by kernel_rfl) ?_ (fun hH=> ?_)
      . exact SE.out
      refine ztk [0,1] ?_;repeat(refine ztn (h:= ?_);try simp only[zX,zY])
      refine zte ?_;refine' wpAnyH_take (i:=2) (v:=_) rfl (by kernel_rfl) (by kernel_rfl) (by kernel_rfl) (fun _ _ _ h=>h) (Or.inl ⟨by rfl,?hy3⟩) (by assumption) ?rest3
      case hy3=>(intro w hSw;(try dsimp only at hSw);go_simp<;>((first|rw[G.out]|simp only[G.out]|skip)<;>with_reducible rfl))
      try simp only[zX,zY]
      refine ztk [3,4,5,6,7,8,9,10,11,12,13,14,15,16,17,18,19,20] ?_;repeat((first|refine ztn (h:= ?_)|refine ztu (h:= ?_));try simp only[zX,zY])
      refine zte ?_;refine zdn ?_;have c0:=b0.drew;have c1:=b1.drew;have cB:=bB.drew;have cX:=bX.drew;have HOW:Hid (W1.drew.ownsRow (w.heap.size+1+1) 136 5 (.slice a M.length c) M.length (flat M)):=Hown.out;have HB2:=hidP HB1.out.drew;generalize W1.drew=W2 at*;clear SE SK;obtain⟨m0,m1,m2⟩:=cB.row;obtain⟨x0,x1,x2,x3,x4⟩:=cX.item;have th:=cB.thaw 2;have qB:=cB.lt;have qX:=cX.lt;have q0:=c0.lt;have q1:=c1.lt;have bx:=Blk.new W2 136 (Qbs l[n].off l[n].key l[n].text l[n].who l[n].time);have far0:some w.heap.size≠(Value.slice a M.length c).ownBlock:=Qa9 HOW.out (by omega);have far1:some (w.heap.size+1)≠(Value.slice a M.length c).ownBlock:=Qa9 HOW.out (by omega);obtain⟨v',w3,hr,hown3,hgrow,hat⟩:=Qc0 (w.heap.size+1+1) (.slice a M.length c) M [l[n]] (some ⟨W2.heap.size,0,none⟩) 1 (W2.alloc (.cells (Qbs l[n].off l[n].key l[n].text l[n].who l[n].time) 136)) (by simp;omega) (Qau HOW.out _) (.inr ⟨W2.heap.size,0,rfl,by simp,fun j u hu=>bx.cell (i:=0+j) (by simpa [flat,It.cs]using hu)⟩) (by simp;omega);simp only[List.length_cons,List.length_nil,Nat.zero_add]at hown3 hr;obtain⟨a',c',rfl,_⟩:=Qao hown3;have sz2:(W2.alloc (.cells (Qbs l[n].off l[n].key l[n].text l[n].who l[n].time) 136)).heap.size=W2.heap.size+1:=World.size_alloc _ _;have farB:some B≠(Value.slice a' (M.length+1) c').ownBlock:=by
       rcases hat with e|e
       . rw[e];exact hfar
       . rw[e,sz2];intro h;have:B=W2.heap.size+1:=Option.some.inj h;omega
      have e0:=(c0.alloc _).kept hgrow far0;have e1:=(c1.alloc _).kept hgrow far1;have eB:=(cB.alloc _).kept hgrow hfar;have B3:=hidP ((Qad HB2.out _).grown hgrow (Qad HB2.out _).size (fun k e=>Nat.le_of_not_lt fun h=>Qa9 HOW.out (show k<w.heap.size+1+1 by omega) e.symm));have Hown3:=hidP hown3;obtain⟨i0,i1,i2⟩:=eB.row;have th3:=eB.thaw 2;clear hgrow hat hown3 bx far0 far1;go_wp2_with (at_builtin;refine Qac rfl _ _ _ rfl _ _ _ rfl rfl hr ?_);have zB:Blk _ B 134 (Qa5 start next a' (M.length+1) c'):=eB.setAt 2 (.slice a' (M.length+1) c');have el:(M++ [l[n]]).length=M.length+1:=(by simp);refine⟨⟨n+1,by go_num,by omega,M++ [l[n]],a',c',e0.other (by omega) _ _,e1.other (by omega) _ _,by rw[el];exact zB,by rw[el];exact Qam Hown3.out farB,by rw[el];exact farB,Qav B3.out (by omega) _,by rw[el];omega,?_⟩,by simp[intOf];omega⟩;rw[List.append_assoc,List.singleton_append,← Qgt hlt HST.out];exact hpk.out
    have G:Hid (l[n].key.toList.isEmpty=false):=(by show _=_;simpa using hE);have Gq:Hid ((l[n].key.toList== [])=false):=(by show _=_;simpa using hE);cases hK:Qeg l[n].key.toList (l.drop (n+1))
    . have HK:=hidP hK;have HST:Hid (Qej (IntKind.i64.wrap (next - 1)) length l[n] (l.drop (n+1))=true):=(by show _=_;simp[Qej,hK]);clear hE hK;refine wp_region_noPanic ?_;refine wp_region_held_drew (S:=fun w' =>w'.cell? ⟨w.heap.size,0,none⟩=some (.int .i64 start)/\w'.cell? ⟨w.heap.size,1,none⟩=some (.int .i64 next)/\w'.cell? ⟨w.heap.size,2,none⟩=some (.slice (some ⟨b,o,none⟩) l.length cap)/\w'.cell? ⟨X,0,none⟩=some (.int .i64 l[n].off)/\w'.cell? ⟨X,1,none⟩=some (.string l[n].key)) (by kernel_rfl) ?_ (fun hH=> ?_)
      . exact SE.out
      refine ztk [0,1] ?_;repeat(refine ztn (h:= ?_);try simp only[zX,zY])
      refine zte ?_;refine' wpAnyH_take (i:=2) (v:=_) rfl (by kernel_rfl) (by kernel_rfl) (by kernel_rfl) (fun _ _ _ h=>h) (Or.inl ⟨by rfl,?hy10⟩) (by assumption) ?rest10
      case hy10=>(intro w hSw;(try dsimp only at hSw);go_simp<;>((first|rw[G.out]|simp only[G.out]|skip)<;>with_reducible rfl))
      try simp only[zX,zY]
      refine ztk [3,4,5] ?_;repeat(refine ztn (h:= ?_);try simp only[zX,zY])
      refine zte ?_;refine zR1 6 (fun K hK=> ?_);simp only[zG];go_simp
      (go_at_call 131;refine(Qfw start next n (some ⟨b,o,none⟩) cap l (by omega) hlt _ (.inr ⟨b,o,rfl,Nat.lt_of_lt_of_le hb HB1.out.drew.size,Hin.out.below hb HB1.out.drew⟩)).mono ?_;rw[HK.out];rintro e w2 ⟨rfl,g2⟩)
      refine hK.out _ _ (SK w2 g2) fun hH=> ?_;clear hK K;try simp only[zX,zY]
      refine ztk [7,8,9,10,11,12,13,14,15,16,17,18,19,20] ?_;repeat((first|refine ztn (h:= ?_)|refine ztu (h:= ?_));try simp only[zX,zY])
      refine zte ?_;refine zdn ?_;have c0:=b0.drew.below g2 b0.drew.lt;have c1:=b1.drew.below g2 b1.drew.lt;have cB:=bB.drew.below g2 bB.drew.lt;have cX:=bX.drew.below g2 bX.drew.lt;have HOW:Hid (w2.ownsRow (w.heap.size+1+1) 136 5 (.slice a M.length c) M.length (flat M)):=Qas (show W1.drew.ownsRow _ _ _ _ _ _ from Hown.out) g2;have HB2:=hidP (via0 g2 HB1.out.drew);generalize w2=W2 at*;clear SE SK;obtain⟨m0,m1,m2⟩:=cB.row;obtain⟨x0,x1,x2,x3,x4⟩:=cX.item;have th:=cB.thaw 2;have qB:=cB.lt;have qX:=cX.lt;have q0:=c0.lt;have q1:=c1.lt;have bx:=Blk.new W2 136 (Qbs l[n].off l[n].key l[n].text l[n].who l[n].time);have far0:some w.heap.size≠(Value.slice a M.length c).ownBlock:=Qa9 HOW.out (by omega);have far1:some (w.heap.size+1)≠(Value.slice a M.length c).ownBlock:=Qa9 HOW.out (by omega);obtain⟨v',w3,hr,hown3,hgrow,hat⟩:=Qc0 (w.heap.size+1+1) (.slice a M.length c) M [l[n]] (some ⟨W2.heap.size,0,none⟩) 1 (W2.alloc (.cells (Qbs l[n].off l[n].key l[n].text l[n].who l[n].time) 136)) (by simp;omega) (Qau HOW.out _) (.inr ⟨W2.heap.size,0,rfl,by simp,fun j u hu=>bx.cell (i:=0+j) (by simpa [flat,It.cs]using hu)⟩) (by simp;omega);simp only[List.length_cons,List.length_nil,Nat.zero_add]at hown3 hr;obtain⟨a',c',rfl,_⟩:=Qao hown3;have sz2:(W2.alloc (.cells (Qbs l[n].off l[n].key l[n].text l[n].who l[n].time) 136)).heap.size=W2.heap.size+1:=World.size_alloc _ _;have farB:some B≠(Value.slice a' (M.length+1) c').ownBlock:=by
       rcases hat with e|e
       . rw[e];exact hfar
       . rw[e,sz2];intro h;have:B=W2.heap.size+1:=Option.some.inj h;omega
      have e0:=(c0.alloc _).kept hgrow far0;have e1:=(c1.alloc _).kept hgrow far1;have eB:=(cB.alloc _).kept hgrow hfar;have B3:=hidP ((Qad HB2.out _).grown hgrow (Qad HB2.out _).size (fun k e=>Nat.le_of_not_lt fun h=>Qa9 HOW.out (show k<w.heap.size+1+1 by omega) e.symm));have Hown3:=hidP hown3;obtain⟨i0,i1,i2⟩:=eB.row;have th3:=eB.thaw 2;clear hgrow hat hown3 bx far0 far1;go_wp2_with (at_builtin;refine Qac rfl _ _ _ rfl _ _ _ rfl rfl hr ?_);have zB:Blk _ B 134 (Qa5 start next a' (M.length+1) c'):=eB.setAt 2 (.slice a' (M.length+1) c');have el:(M++ [l[n]]).length=M.length+1:=(by simp);refine⟨⟨n+1,by go_num,by omega,M++ [l[n]],a',c',e0.other (by omega) _ _,e1.other (by omega) _ _,by rw[el];exact zB,by rw[el];exact Qam Hown3.out farB,by rw[el];exact farB,Qav B3.out (by omega) _,by rw[el];omega,?_⟩,by simp[intOf];omega⟩;rw[List.append_assoc,List.singleton_append,← Qgt hlt HST.out];exact hpk.out
    have HK:=hidP hK;cases hV:(dv l[n].off length==dv (IntKind.i64.wrap (next - 1)) length)
    . have HV:Hid ((IntKind.i64.wrap (l[n].off.tdiv length)==IntKind.i64.wrap ((IntKind.i64.wrap (next - 1)).tdiv length))=false):=(by show _=_;rw[Qpr (l[n].off.tdiv length),Qpr ((IntKind.i64.wrap (next - 1)).tdiv length)];exact hV);have HST:Hid (Qej (IntKind.i64.wrap (next - 1)) length l[n] (l.drop (n+1))=false):=(by show _=_;simp only[Qej,hK,hV,Gq.out];rfl);clear hE hK hV;refine wp_region_noPanic ?_;refine wp_region_held_drew (S:=fun w' =>w'.cell? ⟨w.heap.size,0,none⟩=some (.int .i64 start)/\w'.cell? ⟨w.heap.size,1,none⟩=some (.int .i64 next)/\w'.cell? ⟨w.heap.size,2,none⟩=some (.slice (some ⟨b,o,none⟩) l.length cap)/\w'.cell? ⟨X,0,none⟩=some (.int .i64 l[n].off)/\w'.cell? ⟨X,1,none⟩=some (.string l[n].key)) (by kernel_rfl) ?_ (fun hH=> ?_)
      . exact SE.out
      refine ztk [0,1] ?_;repeat(refine ztn (h:= ?_);try simp only[zX,zY])
      refine zte ?_;refine' wpAnyH_take (i:=2) (v:=_) rfl (by kernel_rfl) (by kernel_rfl) (by kernel_rfl) (fun _ _ _ h=>h) (Or.inl ⟨by rfl,?hy20⟩) (by assumption) ?rest20
      case hy20=>(intro w hSw;(try dsimp only at hSw);go_simp<;>((first|rw[G.out]|simp only[G.out]|skip)<;>with_reducible rfl))
      try simp only[zX,zY]
      refine ztk [3,4,5] ?_;repeat(refine ztn (h:= ?_);try simp only[zX,zY])
      refine zte ?_;refine zR1 6 (fun K hK=> ?_);simp only[zG];go_simp
      (go_at_call 131;refine(Qfw start next n (some ⟨b,o,none⟩) cap l (by omega) hlt _ (.inr ⟨b,o,rfl,Nat.lt_of_lt_of_le hb HB1.out.drew.size,Hin.out.below hb HB1.out.drew⟩)).mono ?_;rw[HK.out];rintro e w2 ⟨rfl,g2⟩)
      refine hK.out _ _ (SK w2 g2) fun hH=> ?_;clear hK K;try simp only[zX,zY]
      refine ztk [7,8,9,10,11,12,13,14,15,16,17,18] ?_;repeat(refine ztn (h:= ?_);try simp only[zX,zY])
      refine zte ?_;refine' wpAnyH_take (i:=19) (v:=_) rfl (by kernel_rfl) (by kernel_rfl) (by kernel_rfl) (fun _ _ _ h=>h) (Or.inl ⟨by rfl,?hy36⟩) (by assumption) ?rest36
      case hy36=>(intro w hSw;(try dsimp only at hSw);go_simp<;>((first|rw[HV.out]|simp only[HV.out]|skip)<;>with_reducible rfl))
      try simp only[zX,zY]
      refine zt1 20 ?_;refine ztn (h:= ?_);try simp only[zX,zY]
      refine zte ?_;refine zdn ?_;have c0:=b0.drew.below g2 b0.drew.lt;have c1:=b1.drew.below g2 b1.drew.lt;have cB:=bB.drew.below g2 bB.drew.lt;have cX:=bX.drew.below g2 bX.drew.lt;have HOW:Hid (w2.ownsRow (w.heap.size+1+1) 136 5 (.slice a M.length c) M.length (flat M)):=Qas (show W1.drew.ownsRow _ _ _ _ _ _ from Hown.out) g2;have HB2:=hidP (via0 g2 HB1.out.drew);generalize w2=W2 at*;clear SE SK;go_wp2;refine⟨⟨n+1,by go_num,by omega,M,a,c,c0,c1,cB,HOW.out,hfar,HB2.out,by omega,?_⟩,by simp[intOf];omega⟩;rw[← Qp6 hlt HST.out];exact hpk.out
    . have HV:Hid ((IntKind.i64.wrap (l[n].off.tdiv length)==IntKind.i64.wrap ((IntKind.i64.wrap (next - 1)).tdiv length))=true):=(by show _=_;rw[Qpr (l[n].off.tdiv length),Qpr ((IntKind.i64.wrap (next - 1)).tdiv length)];exact hV);have HST:Hid (Qej (IntKind.i64.wrap (next - 1)) length l[n] (l.drop (n+1))=true):=(by show _=_;simp only[Qej,hK,hV,Gq.out];rfl);clear hE hK hV;refine wp_region_noPanic ?_;refine wp_region_held_drew (S:=fun w' =>w'.cell? ⟨w.heap.size,0,none⟩=some (.int .i64 start)/\w'.cell? ⟨w.heap.size,1,none⟩=some (.int .i64 next)/\w'.cell? ⟨w.heap.size,2,none⟩=some (.slice (some ⟨b,o,none⟩) l.length cap)/\w'.cell? ⟨X,0,none⟩=some (.int .i64 l[n].off)/\w'.cell? ⟨X,1,none⟩=some (.string l[n].key)) (by kernel_rfl) ?_ (fun hH=> ?_)
      . exact SE.out
      refine ztk [0,1] ?_;repeat(refine ztn (h:= ?_);try simp only[zX,zY])
      refine zte ?_;refine' wpAnyH_take (i:=2) (v:=_) rfl (by kernel_rfl) (by kernel_rfl) (by kernel_rfl) (fun _ _ _ h=>h) (Or.inl ⟨by rfl,?hy40⟩) (by assumption) ?rest40
      case hy40=>(intro w hSw;(try dsimp only at hSw);go_simp<;>((first|rw[G.out]|simp only[G.out]|skip)<;>with_reducible rfl))
      try simp only[zX,zY]
      refine ztk [3,4,5] ?_;repeat(refine ztn (h:= ?_);try simp only[zX,zY])
      refine zte ?_;refine zR1 6 (fun K hK=> ?_);simp only[zG];go_simp
      (go_at_call 131;refine(Qfw start next n (some ⟨b,o,none⟩) cap l (by omega) hlt _ (.inr ⟨b,o,rfl,Nat.lt_of_lt_of_le hb HB1.out.drew.size,Hin.out.below hb HB1.out.drew⟩)).mono ?_;rw[HK.out];rintro e w2 ⟨rfl,g2⟩)
      refine hK.out _ _ (SK w2 g2) fun hH=> ?_;clear hK K;try simp only[zX,zY]
      refine ztk [7,8,9,10,11,12,13,14,15,16,17,18] ?_;repeat(refine ztn (h:= ?_);try simp only[zX,zY])
      refine zte ?_;refine' wpAnyH_take (i:=19) (v:=_) rfl (by kernel_rfl) (by kernel_rfl) (by kernel_rfl) (fun _ _ _ h=>h) (Or.inl ⟨by rfl,?hy56⟩) (by assumption) ?rest56
      case hy56=>(intro w hSw;(try dsimp only at hSw);go_simp<;>((first|rw[HV.out]|simp only[HV.out]|skip)<;>with_reducible rfl))
      try simp only[zX,zY]
      refine zt1 20 ?_;refine ztn (h:= ?_);try simp only[zX,zY]
      refine zte ?_;refine zdn ?_;have c0:=b0.drew.below g2 b0.drew.lt;have c1:=b1.drew.below g2 b1.drew.lt;have cB:=bB.drew.below g2 bB.drew.lt;have cX:=bX.drew.below g2 bX.drew.lt;have HOW:Hid (w2.ownsRow (w.heap.size+1+1) 136 5 (.slice a M.length c) M.length (flat M)):=Qas (show W1.drew.ownsRow _ _ _ _ _ _ from Hown.out) g2;have HB2:=hidP (via0 g2 HB1.out.drew);generalize w2=W2 at*;clear SE SK;obtain⟨m0,m1,m2⟩:=cB.row;obtain⟨x0,x1,x2,x3,x4⟩:=cX.item;have th:=cB.thaw 2;have qB:=cB.lt;have qX:=cX.lt;have q0:=c0.lt;have q1:=c1.lt;have bx:=Blk.new W2 136 (Qbs l[n].off l[n].key l[n].text l[n].who l[n].time);have far0:some w.heap.size≠(Value.slice a M.length c).ownBlock:=Qa9 HOW.out (by omega);have far1:some (w.heap.size+1)≠(Value.slice a M.length c).ownBlock:=Qa9 HOW.out (by omega);obtain⟨v',w3,hr,hown3,hgrow,hat⟩:=Qc0 (w.heap.size+1+1) (.slice a M.length c) M [l[n]] (some ⟨W2.heap.size,0,none⟩) 1 (W2.alloc (.cells (Qbs l[n].off l[n].key l[n].text l[n].who l[n].time) 136)) (by simp;omega) (Qau HOW.out _) (.inr ⟨W2.heap.size,0,rfl,by simp,fun j u hu=>bx.cell (i:=0+j) (by simpa [flat,It.cs]using hu)⟩) (by simp;omega);simp only[List.length_cons,List.length_nil,Nat.zero_add]at hown3 hr;obtain⟨a',c',rfl,_⟩:=Qao hown3;have sz2:(W2.alloc (.cells (Qbs l[n].off l[n].key l[n].text l[n].who l[n].time) 136)).heap.size=W2.heap.size+1:=World.size_alloc _ _;have farB:some B≠(Value.slice a' (M.length+1) c').ownBlock:=by
       rcases hat with e|e
       . rw[e];exact hfar
       . rw[e,sz2];intro h;have:B=W2.heap.size+1:=Option.some.inj h;omega
      have e0:=(c0.alloc _).kept hgrow far0;have e1:=(c1.alloc _).kept hgrow far1;have eB:=(cB.alloc _).kept hgrow hfar;have B3:=hidP ((Qad HB2.out _).grown hgrow (Qad HB2.out _).size (fun k e=>Nat.le_of_not_lt fun h=>Qa9 HOW.out (show k<w.heap.size+1+1 by omega) e.symm));have Hown3:=hidP hown3;obtain⟨i0,i1,i2⟩:=eB.row;have th3:=eB.thaw 2;clear hgrow hat hown3 bx far0 far1;go_wp2_with (at_builtin;refine Qac rfl _ _ _ rfl _ _ _ rfl rfl hr ?_);have zB:Blk _ B 134 (Qa5 start next a' (M.length+1) c'):=eB.setAt 2 (.slice a' (M.length+1) c');have el:(M++ [l[n]]).length=M.length+1:=(by simp);refine⟨⟨n+1,by go_num,by omega,M++ [l[n]],a',c',e0.other (by omega) _ _,e1.other (by omega) _ _,by rw[el];exact zB,by rw[el];exact Qam Hown3.out farB,by rw[el];exact farB,Qav B3.out (by omega) _,by rw[el];omega,?_⟩,by simp[intOf];omega⟩;rw[List.append_assoc,List.singleton_append,← Qgt hlt HST.out];exact hpk.out
  . have hEnd:Hid (packF (IntKind.i64.wrap (next - 1)) length l=M):=(by show _=_;rw[← hpk.out,List.drop_eq_nil_of_le (by omega)];simp[packF]);obtain⟨n0,n1,n2⟩:=b1.row;have k0:=b1.thaw 0;have k1:=b1.thaw 1;have k2:=b1.thaw 2;have far:=hidP (Qa9 hown.out (show w.heap.size+1<w.heap.size+1+1 by omega));have hne:B≠w.heap.size+1:=(by omega);have hne' :w.heap.size+1≠B:=(by omega);go_wp2;have z:Blk _ (w.heap.size+1) 134 (Qa5 start next a M.length c):=((b1.setAt 0 (.int .i64 start)).setAt 1 (.int .i64 next)).setAt 2 (.slice a M.length c);obtain⟨e0,e1,e2⟩:=z.row;exact bodyPost_ret (v:= .agg (Qa5 start next a M.length c)) (by simp[results,Tryz.results122,go_sem,e0,e1,e2]) rfl
     ⟨_,rfl,by rw[hEnd.out];exact Qat (Qam (Qam (Qam hown.out far.out) far.out) far.out) (by omega),Qav (Qav (Qav hB.out (by omega) _) (by omega) _) (by omega) _⟩
end Go.Proofs.YtajbldnhjpjghaaGreat.Items
namespace Go.Proofs.YtajbldnhjpjghaaGreat.Gen
open ChangeShapes WideShapes ChangeAt RowKit Joins Deep Base
open Items (It)
structure Cq where
  who:Int
  seq:Int
  op:Int
  a:Int
  b:Int
  c:Int
  key:ByteArray
  text:ByteArray
def mofQ (l:List PM) (row who:Int):PM:=match l.find? (fun x=>x.row==row&&x.who==who)with
  |some x=>x
  |none=>⟨row,who,0, -1,[]⟩
theorem Qra (l:List MC) (row who:Int):mofP l row who=mofQ (l.map MC.p) row who:=by
 unfold mofP mofQ;rw[List.find?_map];have:((fun x:PM=>x.row==row&&x.who==who) ∘ MC.p)=(fun x:MC=>x.row==row&&x.who==who):=by funext x;rfl
 rw[this];cases l.find? (fun x:MC=>x.row==row&&x.who==who)<;>rfl
theorem Qqa {l:List PM} {row who:Int}:mofQ l row who∈l∨mofQ l row who=⟨row,who,0, -1,[]⟩:=by
 unfold mofQ;cases h:l.find? (fun x=>x.row==row&&x.who==who)with
 |none=>exact .inr rfl
 |some x=>exact .inl (List.mem_of_find?_eq_some h)
def noAn (code n:Int):An:=⟨code,n,⟨#[]⟩,⟨#[]⟩⟩
def rowQ (p:PK) (n:Nat):PR:=p.rs.getD n ⟨0,0,[]⟩
def grpQ (p:PK) (n:Nat):PG:=p.gs.getD n ⟨0,[],[],[]⟩
def putQ (p:PK) (wi:Int) (c:Cq):PK × An:=
  let n:=c.a.toNat
  let r:=rowQ p n
  let m:=mofQ p.ms c.a c.who
  if rpOk r.start r.next r.its c.key c.text c.who p.time then
    ({p with rs:=p.rs.set n ⟨r.start,rpX r.start r.next r.its c.key c.text c.who p.time,rpL r.start r.next r.its c.key c.text c.who p.time⟩,ms:=setS p.ms ⟨m.row,m.who,putE m.epoch m.last m.ms c.c c.b,putS m.epoch m.last m.ms c.c c.b,putM wi m.epoch m.last m.ms c.c c.b (rpN r.start r.next r.its c.key c.text c.who p.time)⟩},noAn 0 (rpN r.start r.next r.its c.key c.text c.who p.time))
  else(p,noAn 8 0)
def Qph (p:PK) (c:Cq):PK × An:=
  let m:=mofQ p.ms c.a c.who
  if c.b<=m.epoch then(p,noAn 4 m.epoch)else({p with ms:=setS p.ms ⟨c.a,c.who,c.b, -1,[]⟩},noAn 0 c.b)
def getA (r:PR) (off:Int):An:=
  if Items.getHow r.start r.its off=1 then noAn 6 0 else if Items.getHow r.start r.its off=2 then noAn 7 0
  else⟨0,(Items.getIt r.start r.its off).off,(Items.getIt r.start r.its off).key,(Items.getIt r.start r.its off).text⟩
def Qd9 (wi le ke:Int) (p:PK) (c:Cq):PK × An:=
  let n:=c.a.toNat
  let r:=rowQ p n
  let m:=mofQ p.ms c.a c.who
  if c.op=1 then
    (if askC m.epoch m.last m.ms c.c c.b=0 then putQ p wi c
     else if askC m.epoch m.last m.ms c.c c.b=1 then(p,noAn 1 (askO m.epoch m.last m.ms c.c c.b))
     else(p,noAn (askC m.epoch m.last m.ms c.c c.b) 0))
  else if c.op=3 then Qph p c
  else if c.op=2 then(p,getA r c.b)
  else if c.op=9 then
    ({p with rs:=p.rs.set n ⟨(Items.trimF r.next le ke r.its.length r.start r.its).1,r.next,(Items.trimF r.next le ke r.its.length r.start r.its).2⟩},noAn 0 (Items.trimF r.next le ke r.its.length r.start r.its).1)
  else({p with rs:=p.rs.set n ⟨r.start,r.next,Items.packL r.start r.next le r.its⟩},noAn 0 r.start)
def Qe7 (ro:Int) (p:PK) (c:Cq):PK × An:=
  let n:=c.a.toNat
  let g:=grpQ p n
  if c.op=4 then({p with gs:=p.gs.set n ⟨Qf4 g.gen g.m c.who,Qew g.m c.who,Qf5 g.m g.b c.who p.time,g.o⟩},noAn 0 (Qf4 g.gen g.m c.who))
  else if c.op=5 then({p with gs:=p.gs.set n ⟨Qen g.gen g.m c.who,Qc6 g.m c.who g.m,Qc6 g.m c.who g.b,g.o⟩},noAn 0 (Qen g.gen g.m c.who))
  else if c.op=6 then
    (if Qfi g.m g.o c.who c.b c.c then {p with gs:=p.gs.set n ⟨g.gen,g.m,g.b,Qif g.m g.o c.who c.b c.c⟩}else p,if Qfi g.m g.o c.who c.b c.c then noAn 0 c.c else noAn 9 0)
  else(p,if ro<=c.b then noAn 5 0 else noAn 0 (g.o.getD c.b.toNat 0))
def Qdl (ro wi le ke:Int) (p:PK) (c:Cq):PK × An:=
  if c.op=8 then({p with time:=min 100000 (p.time+c.a),gs:=p.gs.map (tkP (min 100000 (p.time+c.a)))},noAn 0 (min 100000 (p.time+c.a)))
  else if inB c.op 4 7=true then(if 2<=c.a then(p,noAn 9 0)else Qe7 ro p c)
  else if ro<=c.a then(p,noAn 5 0)else Qd9 wi le ke p c
def doQ (ro wi le ke:Int) (p:PK) (c:Cq):PK × An:=
  if c.who<0 then(p,noAn 0 0)
  else if c.seq<=p.ds.getD c.who.toNat 0 then(p,p.ls.getD c.who.toNat zAn)
  else({(Qdl ro wi le ke p c).1 with ds:=(Qdl ro wi le ke p c).1.ds.set c.who.toNat c.seq,ls:=(Qdl ro wi le ke p c).1.ls.set c.who.toNat (Qdl ro wi le ke p c).2},(Qdl ro wi le ke p c).2)
def In2 (x hi:Int):Prop:=0<=x/\x<=hi
structure MpR (m:PM):Prop where
  row:In2 m.row 100000
  who:In2 m.who 3
  epoch:In2 m.epoch 100000
  last: -1<=m.last/\m.last<=100000
  ms:∀y∈m.ms,In2 y.seq 100000/\In2 y.off 100000
  len:m.ms.length<=5
structure GpR (R N:Nat) (g:PG):Prop where
  gen:In2 g.gen 100000
  m:∀y∈g.m,In2 y 3
  b:∀y∈g.b,In2 y 100000
  o:∀y∈g.o,In2 y 100000
  same:g.b.length=g.m.length
  len:g.m.length<=N
  ol:g.o.length=R
structure AnP (a:An):Prop where
  code:In2 a.code 9
  n: -1<=a.n/\a.n<=100000
  key:a.key.size<=30
  text:a.text.size<=30
structure Kin (R N:Nat) (p:PK):Prop where
  rl:p.rs.length=R
  ri:∀r∈p.rs,Items.rowB r.start r.next r.its=true
  ml:p.ms.length<=N
  mi:∀m∈p.ms,MpR m
  gl:p.gs.length=2
  gi:∀g∈p.gs,GpR R N g
  t:In2 p.time 100000
  dl:p.ds.length=4
  di:∀y∈p.ds,In2 y 100000
  ll:p.ls.length=4
  li:∀a∈p.ls,AnP a
structure CqR (x:Cq):Prop where
  who:In2 x.who 3
  seq:In2 x.seq 100000
  op:1<=x.op/\x.op<=10
  a:In2 x.a 100000
  b:In2 x.b 100000
  c:In2 x.c 100000
  key:x.key.size<=30
  text:x.text.size<=30
theorem GpR.mono {R N M:Nat} {g:PG} (h:GpR R N g) (hN:N<=M):GpR R M g:=⟨h.gen,h.m,h.b,h.o,h.same,Nat.le_trans h.len hN,h.ol⟩
theorem Kin.mono {R N M:Nat} {p:PK} (h:Kin R N p) (hN:N<=M):Kin R M p:=⟨h.rl,h.ri,Nat.le_trans h.ml hN,h.mi,h.gl,fun g hg=>(h.gi g hg).mono hN,h.t,h.dl,h.di,h.ll,h.li⟩
theorem Qc4 {code n:Int} (h:In2 code 9) (hn: -1<=n/\n<=100000):AnP (noAn code n):=⟨h,hn,by show(0:Nat)<=30;omega,by show(0:Nat)<=30;omega⟩
theorem Qsr:AnP zAn:=⟨⟨by decide,by decide⟩,⟨by decide,by decide⟩,by decide,by decide⟩
theorem Qeu {α:Type} {l:List α} {n:Nat} {d:α} (h:n<l.length):l.getD n d∈l:=by simp[h]
theorem Qpz {l:List PM} {m x:PM} (h:x∈setS l m):x∈l∨x=m:=by
 have key:∀(k:List PM) (s:List PM × Bool),x∈(k.foldl (Qei m) s).1->x∈s.1∨x∈k∨x=m:=by
  intro k
  induction k with
  |nil=>intro s hs;exact .inl hs
  |cons a k ih=>
   intro s hs;rcases ih _ hs with h1|h1|h1
   . unfold Qei at h1;split at h1
     . split at h1
       . exact .inl h1
       . rcases List.mem_append.1 h1 with h2|h2
         . exact .inl h2
         . exact .inr (.inr (by simpa using h2))
     . split at h1
       . simp only[List.mem_append,List.mem_singleton]at h1;rcases h1 with(h2|h2)|h2
         . exact .inl h2
         . exact .inr (.inr h2)
         . exact .inr (.inl (by simp[h2]))
       . rcases List.mem_append.1 h1 with h2|h2
         . exact .inl h2
         . exact .inr (.inl (by rw[List.mem_singleton]at h2;simp[h2]))
   . exact .inr (.inl (by simp[h1]))
   . exact .inr (.inr h1)
 unfold setS at h;split at h
 . rcases key l ([],false) h with h1|h1|h1
   . simp at h1
   . exact .inl h1
   . exact .inr h1
 . rcases List.mem_append.1 h with h|h
   . rcases key l ([],false) h with h1|h1|h1
     . simp at h1
     . exact .inl h1
     . exact .inr h1
   . exact .inr (by simpa using h)
theorem Qp0 (l:List PM) (m:PM):(setS l m).length<=l.length+1:=by
 have key:∀(k:List PM) (s:List PM × Bool),(k.foldl (Qei m) s).1.length+(if(k.foldl (Qei m) s).2 then 0 else 1)<=s.1.length+(if s.2 then 0 else 1)+k.length:=by
  intro k
  induction k with
  |nil=>intro s;exact Nat.le_refl _
  |cons a k ih=>
   intro s;refine Nat.le_trans (ih _) ?_;have:(Qei m s a).1.length+(if(Qei m s a).2 then 0 else 1)<=s.1.length+(if s.2 then 0 else 1)+1:=by
    obtain⟨s1,s2⟩:=s;unfold Qei;cases s2<;>simp only[Bool.false_eq_true,if_false,if_true]<;>(repeat' split)<;>simp_all<;>omega
   simp only[List.foldl_cons,List.length_cons];omega
 have h:=key l ([],false);unfold setS Qex;simp only[List.length_nil,Bool.false_eq_true,if_false]at h;split
 . rename_i h2;rw[if_pos h2]at h;omega
 . rename_i h2;rw[if_neg h2]at h;simp only[List.length_append,List.length_singleton];omega
theorem Qs5 {R N:Nat} {p:PK} (h:Kin R N p) {c:Cq} (hc:CqR c):MpR (mofQ p.ms c.a c.who):=by
 rcases Qqa (l:=p.ms) (row:=c.a) (who:=c.who)with h1|h1
 . exact h.mi _ h1
 . rw[h1];exact⟨hc.a,hc.who,⟨by show(0:Int)<=0;omega,by show(0:Int)<=100000;omega⟩,⟨by show(-1:Int)<= -1;omega,by show(-1:Int)<=100000;omega⟩,by simp,by simp⟩
theorem Kin.setR {R N:Nat} {p:PK} (h:Kin R N p) (n:Nat) (r:PR) (hr:Items.rowB r.start r.next r.its=true):Kin R N {p with rs:=p.rs.set n r}:=
 ⟨by simpa using h.rl,fun x hx=>by rcases List.mem_or_eq_of_mem_set hx with h1|rfl;exact h.ri x h1;exact hr,h.ml,h.mi,h.gl,h.gi,h.t,h.dl,h.di,h.ll,h.li⟩
theorem Kin.setM {R N:Nat} {p:PK} (h:Kin R N p) (m:PM) (hm:MpR m):Kin R (N+1) {p with ms:=setS p.ms m}:=
 ⟨h.rl,h.ri,Nat.le_trans (Qp0 _ _) (Nat.succ_le_succ h.ml),fun x hx=>by rcases Qpz hx with h1|rfl;exact h.mi x h1;exact hm,h.gl,fun g hg=>(h.gi g hg).mono (Nat.le_succ _),h.t,h.dl,h.di,h.ll,h.li⟩
theorem Kin.setG {R N M:Nat} {p:PK} (h:Kin R N p) (hN:N<=M) (n:Nat) (g:PG) (hg:GpR R M g):Kin R M {p with gs:=p.gs.set n g}:=
 ⟨h.rl,h.ri,Nat.le_trans h.ml hN,h.mi,by simpa using h.gl,fun x hx=>by rcases List.mem_or_eq_of_mem_set hx with h1|rfl;exact(h.gi x h1).mono hN;exact hg,h.t,h.dl,h.di,h.ll,h.li⟩
theorem Kin.setDL {R N:Nat} {p:PK} (h:Kin R N p) (n:Nat) (s:Int) (hs:In2 s 100000) (a:An) (ha:AnP a):Kin R N {p with ds:=p.ds.set n s,ls:=p.ls.set n a}:=
 ⟨h.rl,h.ri,h.ml,h.mi,h.gl,h.gi,h.t,by simpa using h.dl,fun x hx=>by rcases List.mem_or_eq_of_mem_set hx with h1|rfl;exact h.di x h1;exact hs,by simpa using h.ll,fun x hx=>by rcases List.mem_or_eq_of_mem_set hx with h1|rfl;exact h.li x h1;exact ha⟩
theorem Qsx {R N:Nat} {p:PK} (h:Kin R N p) {n:Nat} (hn:n<R):Items.rowB (rowQ p n).start (rowQ p n).next (rowQ p n).its=true:=
 h.ri _ (Qeu (by rw[h.rl];exact hn))
theorem Qtn {R N:Nat} {p:PK} (h:Kin R N p) {n:Nat} (hn:n<2):GpR R N (grpQ p n):=h.gi _ (Qeu (by rw[h.gl];exact hn))
theorem Qdn {st nx:Int} {l:List It} (h:Items.rowB st nx l=true):In2 st 100000/\In2 nx 100000/\l.length<=80/\∀x∈l,In2 x.off 100000/\In2 x.who 3/\In2 x.time 100000/\x.key.size<=30/\x.text.size<=30:=by
 obtain⟨h1,h2,h3,h4,h5,h6⟩:=(Items.rowB_iff st nx l).1 h;refine⟨⟨h3,by omega⟩,⟨by omega,h5⟩,h6,fun x hx=> ?_⟩;obtain⟨g1,g2,g3⟩:=h1 x hx;simp only[Items.itemB,Items.partB,Items.textB,Items.inB,Bool.and_eq_true,decide_eq_true_eq]at g1;exact⟨⟨by omega,by omega⟩,⟨g1.1.2.1,g1.1.2.2⟩,⟨g1.2.1,g1.2.2⟩,g1.1.1.1.2,g1.1.1.2.2⟩
theorem Qj5 {α:Type} {l:List α} {n:Nat} {d:α} (h:l.length<=n):l.getD n d=d:=by simp[List.getD_eq_getElem?_getD,List.getElem?_eq_none h]
theorem Qp3 {st nx:Int} {l:List It} {key text:ByteArray} {who time:Int} (h:Items.rowB st nx l=true):Items.rowB st (rpX st nx l key text who time) (rpL st nx l key text who time)=true:=by
 unfold rpX rpL;split
 . rename_i h1;unfold rpOk Items.putB at h1;rw[Bool.and_eq_true]at h1;exact h1.2
 . exact h
theorem Qsw {st nx:Int} {l:List It} {key text:ByteArray} {who time:Int} (h:Items.rowB st nx l=true):In2 (rpN st nx l key text who time) 100000:=by
 unfold rpN;split
 . exact(Qdn h).2.1
 . exact⟨by omega,by omega⟩
theorem Qsz {wi:Int} (hw:1<=wi/\wi<=5) {m:PM} (hm:MpR m) {c:Cq} (hc:CqR c) {off:Int} (ho:In2 off 100000):MpR ⟨m.row,m.who,putE m.epoch m.last m.ms c.c c.b,putS m.epoch m.last m.ms c.c c.b,putM wi m.epoch m.last m.ms c.c c.b off⟩:=by
 refine⟨hm.row,hm.who,?_,?_,?_,?_⟩
 . show In2 (putE _ _ _ _ _) _;unfold putE;split
   . exact hc.c
   . exact hm.epoch
 . show -1<=putS _ _ _ _ _/\putS _ _ _ _ _<=100000;unfold putS;split
   . have:=hc.b;unfold In2 at this;omega
   . exact hm.last
 . intro y hy;simp only[putM]at hy;split at hy
   . have hy2:=List.mem_of_mem_drop hy;rcases List.mem_append.1 hy2 with h|h
     . unfold putB at h;split at h
       . simp at h
       . exact hm.ms y h
     . rw[List.mem_singleton]at h;subst h;exact⟨hc.b,ho⟩
   . exact hm.ms y hy
 . show(putM _ _ _ _ _ _ _).length<=5;unfold putM;split
   . unfold Qjr;rw[List.length_drop];have hz:wi.toNat<=5:=(by omega);have hl:(putB m.epoch m.ms c.c++ [(⟨c.b,off⟩:Mk)]).length<=6:=by
      have:=hm.len;unfold putB;split<;>simp<;>omega
     omega
   . exact hm.len
theorem Qrn {g:Int} (h:In2 g 100000):In2 (upF g) 100000:=by
 obtain⟨h1,h2⟩:=h;unfold upF;split
 . exact⟨h1,h2⟩
 . exact⟨by omega,by omega⟩
theorem Qj0 (n:Nat) (x:Int) (l:List Int):(Qdv n x l).length=l.length+1:=by unfold Qdv;simp;omega
theorem Qjz {n:Nat} {x y:Int} {l:List Int} (h:y∈Qdv n x l):y=x∨y∈l:=by
 unfold Qdv at h;rcases List.mem_append.1 h with h|h
 . exact .inr (List.mem_of_mem_take h)
 . rcases List.mem_cons.1 h with h|h
   . exact .inl h
   . exact .inr (List.mem_of_mem_drop h)
theorem Qtj {R N:Nat} {g:PG} (h:GpR R N g) {who time:Int} (hw:In2 who 3) (ht:In2 time 100000):GpR R (N+1) ⟨Qf4 g.gen g.m who,Qew g.m who,Qf5 g.m g.b who time,g.o⟩:=by
 cases hm:mAt g.m who with
 |none=>
  refine⟨?_,?_,?_,h.o,?_,?_,h.ol⟩
  . show In2 (Qf4 _ _ _) _;simp only[Qf4,hm];exact Qrn h.gen
  . intro y hy;simp only[Qew,hm]at hy;rcases Qjz hy with rfl|h1;exact hw;exact h.m y h1
  . intro y hy;simp only[Qf5,hm]at hy;rcases Qjz hy with rfl|h1;exact ht;exact h.b y h1
  . show(Qf5 _ _ _ _).length=(Qew _ _).length;simp only[Qf5,Qew,hm,Qj0,h.same]
  . show(Qew _ _).length<=_;simp only[Qew,hm,Qj0];have:=h.len;omega
 |some i=>
  refine⟨?_,?_,?_,h.o,?_,?_,h.ol⟩
  . show In2 (Qf4 _ _ _) _;simp only[Qf4,hm];exact h.gen
  . intro y hy;simp only[Qew,hm]at hy;exact h.m y hy
  . intro y hy;simp only[Qf5,hm]at hy;rcases List.mem_or_eq_of_mem_set hy with h1|rfl;exact h.b y h1;exact ht
  . show(Qf5 _ _ _ _).length=(Qew _ _).length;simp only[Qf5,Qew,hm,List.length_set];exact h.same
  . show(Qew _ _).length<=_;simp only[Qew,hm];have:=h.len;omega
theorem Qr8 {R N:Nat} {g:PG} (h:GpR R N g) {who:Int}:GpR R N ⟨Qen g.gen g.m who,Qc6 g.m who g.m,Qc6 g.m who g.b,g.o⟩:=by
 cases hm:mAt g.m who with
 |none=>
  have e:∀l,Qc6 g.m who l=l:=fun l=>by simp only[Qc6,hm]
  have e2:Qen g.gen g.m who=g.gen:=by simp only[Qen,hm]
  rw[e,e,e2];exact h
 |some i=>
  have hi:=Qof hm;have hs:=h.same;refine⟨?_,?_,?_,h.o,?_,?_,h.ol⟩
  . show In2 (Qen _ _ _) _;simp only[Qen,hm];exact Qrn h.gen
  . intro y hy;simp only[Qc6,hm]at hy;exact h.m y (List.mem_of_mem_eraseIdx hy)
  . intro y hy;simp only[Qc6,hm]at hy;exact h.b y (List.mem_of_mem_eraseIdx hy)
  . show(Qc6 _ _ _).length=(Qc6 _ _ _).length;simp only[Qc6,hm,List.length_eraseIdx];rw[hs]
  . show(Qc6 _ _ _).length<=_;simp only[Qc6,hm,List.length_eraseIdx];have:=h.len;split<;>omega
theorem Qs9 {R N:Nat} {g:PG} (h:GpR R N g) {who row off:Int} (ho:In2 off 100000):GpR R N ⟨g.gen,g.m,g.b,Qif g.m g.o who row off⟩:=by
 refine⟨h.gen,h.m,h.b,?_,h.same,h.len,?_⟩
 . intro y hy;simp only[Qif]at hy;split at hy
   . rcases List.mem_or_eq_of_mem_set hy with h1|rfl
     . exact h.o y h1
     . exact ho
   . exact h.o y hy
 . show(Qif _ _ _ _ _).length=R;unfold Qif;split
   . rw[List.length_set];exact h.ol
   . exact h.ol
theorem Qss {R N:Nat} {g:PG} (h:GpR R N g) (T:Int):GpR R N (tkP T g):=by
 have hs:=h.same;have hx:Qd6 g.m g.b= []:=by unfold Qd6;exact List.drop_of_length_le (by omega)
 have hmb:∀x∈mbs g.m g.b,x.who∈g.m/\x.beat∈g.b/\x.has=true:=by
  intro x hx;unfold mbs at hx;obtain⟨i,hi,rfl⟩:=List.mem_map.1 hx;rw[List.mem_range]at hi;have hi2:i<g.b.length:=by omega
  refine⟨?_,?_,?_⟩
  . show g.m.getD i 0∈g.m;exact Qeu hi
  . show g.b.getD i 0∈g.b;exact Qeu hi2
  . show decide (i<g.b.length)=true;exact decide_eq_true hi2
 have hk:∀x∈Qd0 T (mbs g.m g.b),x∈mbs g.m g.b:=fun x hx=>(List.mem_filter.1 hx).1
 have hbf:Qc5 (Qd0 T (mbs g.m g.b))=(Qd0 T (mbs g.m g.b)).map Mb.beat:=by
  unfold Qc5;rw[List.filter_eq_self.2 (fun x hx=>(hmb x (hk x hx)).2.2)]
 have hl:(Qd0 T (mbs g.m g.b)).length<=g.m.length:=by
  have:(Qd0 T (mbs g.m g.b)).length<=(mbs g.m g.b).length:=List.length_filter_le _ _;rw[Qb2]at this;exact this
 refine⟨?_,?_,?_,h.o,?_,?_,h.ol⟩
 . show In2 (Qfb _ _ _ _) _;unfold Qfb;split
   . exact Qrn h.gen
   . exact h.gen
 . intro y hy;simp only[tkP,Qfp]at hy;obtain⟨x,hx,rfl⟩:=List.mem_map.1 hy;exact h.m _ (hmb x (hk x hx)).1
 . intro y hy;simp only[tkP,Qgl,hx,List.append_nil,hbf]at hy;obtain⟨x,hx,rfl⟩:=List.mem_map.1 hy;exact h.b _ (hmb x (hk x hx)).2.1
 . show(Qgl _ _ _).length=(Qfp _ _ _).length;simp only[Qgl,Qfp,hx,List.append_nil,hbf,List.length_map]
 . show(Qfp _ _ _).length<=N;simp only[Qfp,List.length_map];exact Nat.le_trans hl h.len
theorem Qub {r:PR} (h:Items.rowB r.start r.next r.its=true) (off:Int):AnP (getA r off):=by
 unfold getA;split
 . exact Qc4 ⟨by omega,by omega⟩ ⟨by omega,by omega⟩
 . split
   . exact Qc4 ⟨by omega,by omega⟩ ⟨by omega,by omega⟩
   . have hg:Items.getIt r.start r.its off∈r.its∨Items.getIt r.start r.its off=Items.It.zero:=by
      unfold Items.getIt;split
      . exact .inr rfl
      . unfold Items.findFrom;cases hf:(List.drop 0 r.its).find? (fun x=>decide (off<=x.off))with
        |none=>exact .inr rfl
        |some x=>exact .inl (by have:=List.mem_of_find?_eq_some hf;simpa using this)
     rcases hg with hg|hg
     . obtain⟨g1,g2,g3,g4,g5⟩:=(Qdn h).2.2.2 _ hg;unfold In2 at g1;exact⟨⟨by show(0:Int)<=0;omega,by show(0:Int)<=9;omega⟩,⟨by show -1<=(Items.getIt r.start r.its off).off;omega,by show(Items.getIt r.start r.its off).off<=100000;omega⟩,g4,g5⟩
     . rw[hg];exact⟨⟨by show(0:Int)<=0;omega,by show(0:Int)<=9;omega⟩,⟨by show(-1:Int)<=0;omega,by show(0:Int)<=100000;omega⟩,by show(0:Nat)<=30;omega,by show(0:Nat)<=30;omega⟩
theorem Qrj (epoch last:Int) (l:List Mk) (ep seq:Int):In2 (askC epoch last l ep seq) 4:=by
 unfold askC upC
 repeat' split
 all_goals exact⟨by omega,by omega⟩
theorem Qtu {m:PM} (hm:MpR m) (ep seq:Int): -1<=askO m.epoch m.last m.ms ep seq/\askO m.epoch m.last m.ms ep seq<=100000:=by
 unfold askO;split
 . omega
 . split
   . omega
   . split
     . omega
     . unfold upO;split
       . rename_i i hi;have hx:i∈m.ms:=(by unfold Qbz at hi;have:=List.mem_of_find?_eq_some hi;simpa using this);have:=(hm.ms i hx).2;unfold In2 at this;omega
       . omega
theorem Qru {R N:Nat} {p:PK} (h:Kin R N p) {wi le ke:Int} (hw:1<=wi/\wi<=5) (hle:1<=le/\le<=100) {c:Cq} (hc:CqR c) (ha:c.a.toNat<R):Kin R (N+1) (Qd9 wi le ke p c).1/\AnP (Qd9 wi le ke p c).2:=by
 have hr:=Qsx h ha;have hm:=Qs5 h hc;have h1:=h.mono (Nat.le_succ N);have hN0:∀code:Int,In2 code 9->AnP (noAn code 0):=fun code hcode=>Qc4 hcode ⟨by omega,by omega⟩
 unfold Qd9;simp only;split
 . split
   . unfold putQ;simp only;split
     . refine⟨((h.setR c.a.toNat _ ?_).setM _ (Qsz hw hm hc (Qsw hr))),Qc4 ⟨by omega,by omega⟩ ?_⟩
       . exact Qp3 hr
       . have:=Qsw (key:=c.key) (text:=c.text) (who:=c.who) (time:=p.time) hr;unfold In2 at this;omega
     . exact⟨h1,hN0 8 ⟨by omega,by omega⟩⟩
   . split
     . exact⟨h1,Qc4 ⟨by omega,by omega⟩ (Qtu hm _ _)⟩
     . refine⟨h1,hN0 _ ?_⟩;have:=Qrj (mofQ p.ms c.a c.who).epoch (mofQ p.ms c.a c.who).last (mofQ p.ms c.a c.who).ms c.c c.b;unfold In2 at this ⊢;omega
 . split
   . unfold Qph;simp only;split
     . refine⟨h1,Qc4 ⟨by omega,by omega⟩ ?_⟩;have:=hm.epoch;unfold In2 at this;omega
     . refine⟨h.setM _ ⟨hc.a,hc.who,hc.b,⟨by show(-1:Int)<= -1;omega,by show(-1:Int)<=100000;omega⟩,by simp,by simp⟩,Qc4 ⟨by omega,by omega⟩ ?_⟩;have:=hc.b;unfold In2 at this;omega
   . split
     . exact⟨h1,Qub hr c.b⟩
     . split
       . have ht:=(Items.right_trim (rowQ p c.a.toNat).next le ke hle.1 (by omega) (rowQ p c.a.toNat).its.length (rowQ p c.a.toNat).start (rowQ p c.a.toNat).its hr).1;refine⟨(h.setR c.a.toNat _ ht).mono (Nat.le_succ N),Qc4 ⟨by omega,by omega⟩ ?_⟩;have:=(Qdn ht).1;unfold In2 at this;omega
       . have hp:Items.rowB (rowQ p c.a.toNat).start (rowQ p c.a.toNat).next (Items.packL (rowQ p c.a.toNat).start (rowQ p c.a.toNat).next le (rowQ p c.a.toNat).its)=true:=by
          unfold Items.packL;split
          . exact Items.right_pack hr
          . exact hr
         refine⟨(h.setR c.a.toNat _ hp).mono (Nat.le_succ N),Qc4 ⟨by omega,by omega⟩ ?_⟩;have:=(Qdn hr).1;unfold In2 at this;omega
theorem Qse {R N:Nat} {p:PK} (h:Kin R N p) {ro:Int} {c:Cq} (hc:CqR c) (ha:c.a.toNat<2):Kin R (N+1) (Qe7 ro p c).1/\AnP (Qe7 ro p c).2:=by
 have hg:=Qtn h ha;have h1:=h.mono (Nat.le_succ N);have hin:∀{z:Int},In2 z 100000-> -1<=z/\z<=100000:=fun hz=>by unfold In2 at hz;omega
 unfold Qe7;simp only;split
 . have hj:=Qtj hg hc.who h.t;exact⟨h.setG (Nat.le_succ N) _ _ hj,Qc4 ⟨by omega,by omega⟩ (hin hj.gen)⟩
 . split
   . have hl:=Qr8 (who:=c.who) hg;exact⟨(h.setG (Nat.le_refl N) _ _ hl).mono (Nat.le_succ N),Qc4 ⟨by omega,by omega⟩ (hin hl.gen)⟩
   . split
     . have hk:=Qs9 (who:=c.who) (row:=c.b) hg hc.c;refine⟨?_,?_⟩
       . split
         . exact(h.setG (Nat.le_refl N) _ _ hk).mono (Nat.le_succ N)
         . exact h1
       . split
         . exact Qc4 ⟨by omega,by omega⟩ (hin hc.c)
         . exact Qc4 ⟨by omega,by omega⟩ ⟨by omega,by omega⟩
     . refine⟨h1,?_⟩;split
       . exact Qc4 ⟨by omega,by omega⟩ ⟨by omega,by omega⟩
       . refine Qc4 ⟨by omega,by omega⟩ ?_;by_cases hb:c.b.toNat<(grpQ p c.a.toNat).o.length
         . exact hin (hg.o _ (Qeu hb))
         . rw[Qj5 (by omega)];omega
theorem Qn9 {R N:Nat} {p:PK} (h:Kin R N p) {ro wi le ke:Int} (hro:ro=R) (hw:1<=wi/\wi<=5) (hle:1<=le/\le<=100) {c:Cq} (hc:CqR c):Kin R (N+1) (Qdl ro wi le ke p c).1/\AnP (Qdl ro wi le ke p c).2:=by
 have h1:=h.mono (Nat.le_succ N);have ht:=h.t;have ha:=hc.a;unfold In2 at ht ha;unfold Qdl;split
 . refine⟨⟨h1.rl,h1.ri,h1.ml,h1.mi,by simpa using h1.gl,fun g hg=> ?_,⟨by show 0<=min 100000 (p.time+c.a);omega,by show min 100000 (p.time+c.a)<=100000;omega⟩,h1.dl,h1.di,h1.ll,h1.li⟩,Qc4 ⟨by omega,by omega⟩ ⟨by omega,by omega⟩⟩;obtain⟨g0,hg0,rfl⟩:=List.mem_map.1 hg;exact Qss (h1.gi g0 hg0) _
 . split
   . split
     . exact⟨h1,Qc4 ⟨by omega,by omega⟩ ⟨by omega,by omega⟩⟩
     . exact Qse h hc (by omega)
   . split
     . exact⟨h1,Qc4 ⟨by omega,by omega⟩ ⟨by omega,by omega⟩⟩
     . exact Qru h hw hle hc (by omega)
theorem Qud {R N:Nat} {p:PK} (h:Kin R N p) {ro wi le ke:Int} (hro:ro=R) (hw:1<=wi/\wi<=5) (hle:1<=le/\le<=100) {c:Cq} (hc:c.who<0∨CqR c):Kin R (N+1) (doQ ro wi le ke p c).1/\AnP (doQ ro wi le ke p c).2:=by
 have h1:=h.mono (Nat.le_succ N);unfold doQ;split
 . exact⟨h1,Qc4 ⟨by omega,by omega⟩ ⟨by omega,by omega⟩⟩
 . rename_i hn;have hc:CqR c:=hc.resolve_left hn;split
   . refine⟨h1,?_⟩;by_cases hb:c.who.toNat<p.ls.length
     . exact h.li _ (Qeu hb)
     . rw[Qj5 (by omega)];exact Qsr
   . obtain⟨g1,g2⟩:=Qn9 (ke:=ke) h hro hw hle hc;exact⟨g1.setDL _ _ hc.seq _ g2,g2⟩
theorem Qol (ro wi le ke:Int) (rA:Option Addr) (rc:Nat) (rs:List RC) (mA:Option Addr) (mc:Nat) (ms:List MC) (gA:Option Addr) (gc:Nat) (gs:List GC) (time:Int) (dA:Option Addr) (dc:Nat) (ds:List Int) (lA:Option Addr) (lc:Nat) (ls:List An) (who seq ca cb cc:Int) (key text:ByteArray) (S:Nat->Prop) (w:World) (hS:∀b,S b->b<w.heap.size) (p:PK) (a:An)
 (hc:Calls Tryz.prog 118 #[.agg (Qaj ro wi le ke),.agg (Qaa rA rs.length rc mA ms.length mc gA gs.length gc time dA ds.length dc lA ls.length lc),.agg (Qab who seq 1 ca cb cc key text)] (((((w.alloc (.cells (Qaj ro wi le ke) 96)).alloc (.cells (Qaa rA rs.length rc mA ms.length mc gA gs.length gc time dA ds.length dc lA ls.length lc) 102)).alloc (.cells (Qab who seq 1 ca cb cc key text) 55)).alloc (.cells Qae 102)).alloc (.cells Qaq 145)) fun e w' =>Qci S (((((w.alloc (.cells (Qaj ro wi le ke) 96)).alloc (.cells (Qaa rA rs.length rc mA ms.length mc gA gs.length gc time dA ds.length dc lA ls.length lc) 102)).alloc (.cells (Qab who seq 1 ca cb cc key text) 55)).alloc (.cells Qae 102)).alloc (.cells Qaq 145)) w' e p a):
 Calls Tryz.prog 112 #[.agg (Qaj ro wi le ke),.agg (Qaa rA rs.length rc mA ms.length mc gA gs.length gc time dA ds.length dc lA ls.length lc),.agg (Qab who seq 1 ca cb cc key text)] w fun e w' =>Qci S w w' e p a:=by
 have HC:=hidP hc;clear hc;obtain⟨I0,S0,B0⟩:=Qba ro wi le ke rA rc rs mA mc ms gA gc gs time dA dc ds lA lc ls who seq 1 ca cb cc key text S w hS;go_enter Tryz.func112,Tryz.ntmps112;go_upto_region 1 with fail;generalize ((((w.alloc (.cells (Qaj ro wi le ke) 96)).alloc (.cells (Qaa rA rs.length rc mA ms.length mc gA gs.length gc time dA ds.length dc lA ls.length lc) 102)).alloc (.cells (Qab who seq 1 ca cb cc key text) 55)).alloc (.cells Qae 102)).alloc (.cells Qaq 145)=X0 at HC I0 S0 B0 ⊢;obtain⟨k0,k1,k2,k3,k4,k5⟩:=I0.k.row6;obtain⟨c0,c1,c2,c3,c4,c5,c6,c7⟩:=I0.c.row8c;obtain⟨n0,n1,n2,n3⟩:=S0.row4;go_wp2_with fail;clear k0 k1 k2 k3 k4 k5 c0 c1 c2 c3 c4 c5 c6 c7 n0 n1 n2 n3;refine HC.out.mono ?_;rintro e w1 ⟨y,br,bg,bd,bl,rfl,hp,hq1,ho⟩;clear HC;obtain(⟨rA9,rc9,rs9,mA9,mc9,ms9,gA9,gc9,gs9,time9,dA9,dc9,ds9,lA9,lc9,ls9⟩:KC):=y;obtain⟨ac,aN,ak,ax⟩:=a;subst hp;simp only[KC.cells];have l0:w.heap.size+1+1+1+1<X0.heap.size:=I0.r2.lt;have l1:X0.heap.size<=w1.heap.size:=ho.size;have I2:=((I0.turn ho (fun b e=> .inl e)).alloc (.cells (Qaa rA9 rs9.length rc9 mA9 ms9.length mc9 gA9 gs9.length gc9 time9 dA9 ds9.length dc9 lA9 ls9.length lc9) 102)).alloc (.cells (Qax ac aN ak ax) 145);have E8:Blk ((w1.alloc (.cells (Qaa rA9 rs9.length rc9 mA9 ms9.length mc9 gA9 gs9.length gc9 time9 dA9 ds9.length dc9 lA9 ls9.length lc9) 102)).alloc (.cells (Qax ac aN ak ax) 145)) w1.heap.size 102 (Qaa rA9 rs9.length rc9 mA9 ms9.length mc9 gA9 gs9.length gc9 time9 dA9 ds9.length dc9 lA9 ls9.length lc9):=(Blk.new w1 102 (Qaa rA9 rs9.length rc9 mA9 ms9.length mc9 gA9 gs9.length gc9 time9 dA9 ds9.length dc9 lA9 ls9.length lc9)).alloc (.cells (Qax ac aN ak ax) 145)
 have N3:Blk ((w1.alloc (.cells (Qaa rA9 rs9.length rc9 mA9 ms9.length mc9 gA9 gs9.length gc9 time9 dA9 ds9.length dc9 lA9 ls9.length lc9) 102)).alloc (.cells (Qax ac aN ak ax) 145)) (w1.heap.size+1) 145 (Qax ac aN ak ax):=by have:=Blk.new (w1.alloc (.cells (Qaa rA9 rs9.length rc9 mA9 ms9.length mc9 gA9 gs9.length gc9 time9 dA9 ds9.length dc9 lA9 ls9.length lc9) 102)) 145 (Qax ac aN ak ax);simpa using this
 have I3:Bx S w ((w1.alloc (.cells (Qaa rA9 rs9.length rc9 mA9 ms9.length mc9 gA9 gs9.length gc9 time9 dA9 ds9.length dc9 lA9 ls9.length lc9) 102)).alloc (.cells (Qax ac aN ak ax) 145)) w1.heap.size (w.heap.size+1+1) (w.heap.size+1+1+1) (w.heap.size+1+1+1+1) (Qaa rA9 rs9.length rc9 mA9 ms9.length mc9 gA9 gs9.length gc9 time9 dA9 ds9.length dc9 lA9 ls9.length lc9) (Qab who seq 1 ca cb cc key text):=⟨I2.off,E8,I2.c,I2.r1,I2.r2,by omega,by omega,I2.s⟩
 have Q3:Hid (KQ ((w1.alloc (.cells (Qaa rA9 rs9.length rc9 mA9 ms9.length mc9 gA9 gs9.length gc9 time9 dA9 ds9.length dc9 lA9 ls9.length lc9) 102)).alloc (.cells (Qax ac aN ak ax) 145)) (⟨rA9,rc9,rs9,mA9,mc9,ms9,gA9,gc9,gs9,time9,dA9,dc9,ds9,lA9,lc9,ls9⟩:KC) (fun b=>S b∨(w.heap.size<=b/\b≠(w.heap.size+1+1+1)/\b≠(w.heap.size+1+1+1+1))) br bg bd bl):=
  ((hq1.below (Qad (Below.refl _ _) (.cells (Qaa rA9 rs9.length rc9 mA9 ms9.length mc9 gA9 gs9.length gc9 time9 dA9 ds9.length dc9 lA9 ls9.length lc9) 102))).below (Qad (Below.refl _ _) (.cells (Qax ac aN ak ax) 145))).mono (fun b _ hb=>hb.imp id (fun h=>⟨by omega,by omega,by omega⟩))
 clear I0 S0 B0 hq1 ho I2 E8;go_upto_region 5 with fail;generalize ((w1.alloc (.cells (Qaa rA9 rs9.length rc9 mA9 ms9.length mc9 gA9 gs9.length gc9 time9 dA9 ds9.length dc9 lA9 ls9.length lc9) 102)).alloc (.cells (Qax ac aN ak ax) 145))=X3 at I3 N3 Q3 ⊢;obtain⟨n0,n1,n2,n3⟩:=N3.row4;have ln:=N3.lt;have J:=I3.drew;have QQ:=hidP (Q3.out.below (Below.refl _ _).drew);have M0:X3.drew.cell? ⟨(w1.heap.size+1),0,none⟩=some (.int .i64 ac):=n0;have M1:X3.drew.cell? ⟨(w1.heap.size+1),1,none⟩=some (.int .i64 aN):=n1;have M2:X3.drew.cell? ⟨(w1.heap.size+1),2,none⟩=some (.string ak):=n2;have M3:X3.drew.cell? ⟨(w1.heap.size+1),3,none⟩=some (.string ax):=n3;refine wp_region_noPanic ?_;refine wp_region_held_drew (S:=(fun(V:World)=>Blk V w1.heap.size 102 (Qaa rA9 rs9.length rc9 mA9 ms9.length mc9 gA9 gs9.length gc9 time9 dA9 ds9.length dc9 lA9 ls9.length lc9)/\V.cell? ⟨(w1.heap.size+1),0,none⟩=some (.int .i64 ac)/\V.cell? ⟨(w1.heap.size+1),1,none⟩=some (.int .i64 aN)/\V.cell? ⟨(w1.heap.size+1),2,none⟩=some (.string ak)/\V.cell? ⟨(w1.heap.size+1),3,none⟩=some (.string ax))) (by kernel_rfl) (show(fun(V:World)=>Blk V w1.heap.size 102 (Qaa rA9 rs9.length rc9 mA9 ms9.length mc9 gA9 gs9.length gc9 time9 dA9 ds9.length dc9 lA9 ls9.length lc9)/\V.cell? ⟨(w1.heap.size+1),0,none⟩=some (.int .i64 ac)/\V.cell? ⟨(w1.heap.size+1),1,none⟩=some (.int .i64 aN)/\V.cell? ⟨(w1.heap.size+1),2,none⟩=some (.string ak)/\V.cell? ⟨(w1.heap.size+1),3,none⟩=some (.string ax)) _ from⟨J.k,M0,M1,M2,M3⟩) (fun hH=> ?_);generalize X3.drew=XX at J QQ M0 M1 M2 M3 hH ⊢;refine zt1 0 ?_;refine ztn (hS:=hH) (hy:=fun w' hSw=>Qa2 rfl rfl hSw.1 Tryz.underlying102 (by kernel_rfl)) (h:= ?_);try simp only[zX,zY]
 refine zte ?_;refine ztk [1] ?_;repeat(refine ztn (hS:=hH) (hy:=by intro w' hSw;have hC:=hSw.1.row6;(try dsimp only at hSw);go_simp<;>with_reducible rfl) (h:= ?_);try simp only[zX,zY])
 refine zte ?_;have TT:=hidP (Bx.tell J (y:=(⟨rA9,rc9,rs9,mA9,mc9,ms9,gA9,gc9,gs9,time9,dA9,dc9,ds9,lA9,lc9,ls9⟩:KC)) (br:=br) (bg:=bg) (bd:=bd) (bl:=bl) QQ.out (⟨(ac),(aN),(ak),(ax)⟩:An) (hv:=rfl) rfl);refine end2 2 3 J.r1 J.r2 (fun e=>J.ne.2.2.2.2.2 e.symm) ⟨(J.k.otherRow J.ne.2.1 _),(Qan M0 (by show w1.heap.size+1≠_;omega) _),(Qan M1 (by show w1.heap.size+1≠_;omega) _),(Qan M2 (by show w1.heap.size+1≠_;omega) _),(Qan M3 (by show w1.heap.size+1≠_;omega) _)⟩ ⟨((J.k.otherRow J.ne.2.1 _).otherRow J.ne.2.2.1 _),(Qan (Qan M0 (by show w1.heap.size+1≠_;omega) _) (by show w1.heap.size+1≠_;omega) _),(Qan (Qan M1 (by show w1.heap.size+1≠_;omega) _) (by show w1.heap.size+1≠_;omega) _),(Qan (Qan M2 (by show w1.heap.size+1≠_;omega) _) (by show w1.heap.size+1≠_;omega) _),(Qan (Qan M3 (by show w1.heap.size+1≠_;omega) _) (by show w1.heap.size+1≠_;omega) _)⟩ ?_;go_wp2;exact bodyPost_ret (v:= .tuple #[.agg (Qaa rA9 rs9.length rc9 mA9 ms9.length mc9 gA9 gs9.length gc9 time9 dA9 ds9.length dc9 lA9 ls9.length lc9),.agg (Qax (ac) (aN) ak ax)]) (Qbu Tryz.results112 rfl rfl ((J.r1.row _).otherRow J.ne.2.2.2.2.2 _) ((J.r2.otherRow (fun e=>J.ne.2.2.2.2.2 e.symm) _).row _) Tryz.underlying102 Tryz.underlying145 (by kernel_rfl) (by kernel_rfl)) rfl TT.out
theorem Qg5 (ro wi le ke:Int) (rA:Option Addr) (rc:Nat) (rs:List RC) (mA:Option Addr) (mc:Nat) (ms:List MC) (gA:Option Addr) (gc:Nat) (gs:List GC) (time:Int) (dA:Option Addr) (dc:Nat) (ds:List Int) (lA:Option Addr) (lc:Nat) (ls:List An) (who seq ca cb cc:Int) (key text:ByteArray) (S:Nat->Prop) (w:World) (hS:∀b,S b->b<w.heap.size) (p:PK) (a:An)
 (hc:Calls Tryz.prog 119 #[.agg (Qaa rA rs.length rc mA ms.length mc gA gs.length gc time dA ds.length dc lA ls.length lc),.agg (Qab who seq 3 ca cb cc key text)] (((((w.alloc (.cells (Qaj ro wi le ke) 96)).alloc (.cells (Qaa rA rs.length rc mA ms.length mc gA gs.length gc time dA ds.length dc lA ls.length lc) 102)).alloc (.cells (Qab who seq 3 ca cb cc key text) 55)).alloc (.cells Qae 102)).alloc (.cells Qaq 145)) fun e w' =>Qci S (((((w.alloc (.cells (Qaj ro wi le ke) 96)).alloc (.cells (Qaa rA rs.length rc mA ms.length mc gA gs.length gc time dA ds.length dc lA ls.length lc) 102)).alloc (.cells (Qab who seq 3 ca cb cc key text) 55)).alloc (.cells Qae 102)).alloc (.cells Qaq 145)) w' e p a):
 Calls Tryz.prog 112 #[.agg (Qaj ro wi le ke),.agg (Qaa rA rs.length rc mA ms.length mc gA gs.length gc time dA ds.length dc lA ls.length lc),.agg (Qab who seq 3 ca cb cc key text)] w fun e w' =>Qci S w w' e p a:=by
 have HC:=hidP hc;clear hc;obtain⟨I0,S0,B0⟩:=Qba ro wi le ke rA rc rs mA mc ms gA gc gs time dA dc ds lA lc ls who seq 3 ca cb cc key text S w hS;go_enter Tryz.func112,Tryz.ntmps112;go_upto_region 1 with fail;generalize ((((w.alloc (.cells (Qaj ro wi le ke) 96)).alloc (.cells (Qaa rA rs.length rc mA ms.length mc gA gs.length gc time dA ds.length dc lA ls.length lc) 102)).alloc (.cells (Qab who seq 3 ca cb cc key text) 55)).alloc (.cells Qae 102)).alloc (.cells Qaq 145)=X0 at HC I0 S0 B0 ⊢;obtain⟨k0,k1,k2,k3,k4,k5⟩:=I0.k.row6;obtain⟨c0,c1,c2,c3,c4,c5,c6,c7⟩:=I0.c.row8c;obtain⟨n0,n1,n2,n3⟩:=S0.row4;go_wp2_with fail;clear k0 k1 k2 k3 k4 k5 c0 c1 c2 c3 c4 c5 c6 c7 n0 n1 n2 n3;refine HC.out.mono ?_;rintro e w1 ⟨y,br,bg,bd,bl,rfl,hp,hq1,ho⟩;clear HC;obtain(⟨rA9,rc9,rs9,mA9,mc9,ms9,gA9,gc9,gs9,time9,dA9,dc9,ds9,lA9,lc9,ls9⟩:KC):=y;obtain⟨ac,aN,ak,ax⟩:=a;subst hp;simp only[KC.cells];have l0:w.heap.size+1+1+1+1<X0.heap.size:=I0.r2.lt;have l1:X0.heap.size<=w1.heap.size:=ho.size;have I2:=((I0.turn ho (fun b e=> .inl e)).alloc (.cells (Qaa rA9 rs9.length rc9 mA9 ms9.length mc9 gA9 gs9.length gc9 time9 dA9 ds9.length dc9 lA9 ls9.length lc9) 102)).alloc (.cells (Qax ac aN ak ax) 145);have E8:Blk ((w1.alloc (.cells (Qaa rA9 rs9.length rc9 mA9 ms9.length mc9 gA9 gs9.length gc9 time9 dA9 ds9.length dc9 lA9 ls9.length lc9) 102)).alloc (.cells (Qax ac aN ak ax) 145)) w1.heap.size 102 (Qaa rA9 rs9.length rc9 mA9 ms9.length mc9 gA9 gs9.length gc9 time9 dA9 ds9.length dc9 lA9 ls9.length lc9):=(Blk.new w1 102 (Qaa rA9 rs9.length rc9 mA9 ms9.length mc9 gA9 gs9.length gc9 time9 dA9 ds9.length dc9 lA9 ls9.length lc9)).alloc (.cells (Qax ac aN ak ax) 145)
 have N3:Blk ((w1.alloc (.cells (Qaa rA9 rs9.length rc9 mA9 ms9.length mc9 gA9 gs9.length gc9 time9 dA9 ds9.length dc9 lA9 ls9.length lc9) 102)).alloc (.cells (Qax ac aN ak ax) 145)) (w1.heap.size+1) 145 (Qax ac aN ak ax):=by have:=Blk.new (w1.alloc (.cells (Qaa rA9 rs9.length rc9 mA9 ms9.length mc9 gA9 gs9.length gc9 time9 dA9 ds9.length dc9 lA9 ls9.length lc9) 102)) 145 (Qax ac aN ak ax);simpa using this
 have I3:Bx S w ((w1.alloc (.cells (Qaa rA9 rs9.length rc9 mA9 ms9.length mc9 gA9 gs9.length gc9 time9 dA9 ds9.length dc9 lA9 ls9.length lc9) 102)).alloc (.cells (Qax ac aN ak ax) 145)) w1.heap.size (w.heap.size+1+1) (w.heap.size+1+1+1) (w.heap.size+1+1+1+1) (Qaa rA9 rs9.length rc9 mA9 ms9.length mc9 gA9 gs9.length gc9 time9 dA9 ds9.length dc9 lA9 ls9.length lc9) (Qab who seq 3 ca cb cc key text):=⟨I2.off,E8,I2.c,I2.r1,I2.r2,by omega,by omega,I2.s⟩
 have Q3:Hid (KQ ((w1.alloc (.cells (Qaa rA9 rs9.length rc9 mA9 ms9.length mc9 gA9 gs9.length gc9 time9 dA9 ds9.length dc9 lA9 ls9.length lc9) 102)).alloc (.cells (Qax ac aN ak ax) 145)) (⟨rA9,rc9,rs9,mA9,mc9,ms9,gA9,gc9,gs9,time9,dA9,dc9,ds9,lA9,lc9,ls9⟩:KC) (fun b=>S b∨(w.heap.size<=b/\b≠(w.heap.size+1+1+1)/\b≠(w.heap.size+1+1+1+1))) br bg bd bl):=
  ((hq1.below (Qad (Below.refl _ _) (.cells (Qaa rA9 rs9.length rc9 mA9 ms9.length mc9 gA9 gs9.length gc9 time9 dA9 ds9.length dc9 lA9 ls9.length lc9) 102))).below (Qad (Below.refl _ _) (.cells (Qax ac aN ak ax) 145))).mono (fun b _ hb=>hb.imp id (fun h=>⟨by omega,by omega,by omega⟩))
 clear I0 S0 B0 hq1 ho I2 E8;go_upto_region 8 with fail;generalize ((w1.alloc (.cells (Qaa rA9 rs9.length rc9 mA9 ms9.length mc9 gA9 gs9.length gc9 time9 dA9 ds9.length dc9 lA9 ls9.length lc9) 102)).alloc (.cells (Qax ac aN ak ax) 145))=X3 at I3 N3 Q3 ⊢;obtain⟨n0,n1,n2,n3⟩:=N3.row4;have ln:=N3.lt;have mkS:∀V:World,Blk V w1.heap.size 102 (Qaa rA9 rs9.length rc9 mA9 ms9.length mc9 gA9 gs9.length gc9 time9 dA9 ds9.length dc9 lA9 ls9.length lc9)->V.cell? ⟨(w1.heap.size+1),0,none⟩=some (.int .i64 ac)->V.cell? ⟨(w1.heap.size+1),1,none⟩=some (.int .i64 aN)->V.cell? ⟨(w1.heap.size+1),2,none⟩=some (.string ak)->V.cell? ⟨(w1.heap.size+1),3,none⟩=some (.string ax)->(fun(V:World)=>V.cell? ⟨w1.heap.size,0,none⟩=some (.slice rA9 rs9.length rc9)/\V.cell? ⟨w1.heap.size,1,none⟩=some (.slice mA9 ms9.length mc9)/\V.cell? ⟨w1.heap.size,2,none⟩=some (.slice gA9 gs9.length gc9)/\V.cell? ⟨w1.heap.size,3,none⟩=some (.int .i64 time9)/\V.cell? ⟨w1.heap.size,4,none⟩=some (.slice dA9 ds9.length dc9)/\V.cell? ⟨w1.heap.size,5,none⟩=some (.slice lA9 ls9.length lc9)/\V.cell? ⟨(w1.heap.size+1),0,none⟩=some (.int .i64 ac)/\V.cell? ⟨(w1.heap.size+1),1,none⟩=some (.int .i64 aN)/\V.cell? ⟨(w1.heap.size+1),2,none⟩=some (.string ak)/\V.cell? ⟨(w1.heap.size+1),3,none⟩=some (.string ax)) V:=fun V hk hm0 hm1 hm2 hm3=>by obtain⟨a0,a1,a2,a3,a4,a5⟩:=hk.row6;exact⟨a0,a1,a2,a3,a4,a5,hm0,hm1,hm2,hm3⟩
 have SW:=mkS _ I3.k.drew (n0) (n1) (n2) (n3);have J:=I3.drew;have QQ:=hidP (Q3.out.below (Below.refl _ _).drew);have M0:X3.drew.cell? ⟨(w1.heap.size+1),0,none⟩=some (.int .i64 ac)/\(w1.heap.size+1)<X3.drew.heap.size:=⟨n0,ln⟩
 have M1:X3.drew.cell? ⟨(w1.heap.size+1),1,none⟩=some (.int .i64 aN)/\(w1.heap.size+1)<X3.drew.heap.size:=⟨n1,ln⟩
 have M2:X3.drew.cell? ⟨(w1.heap.size+1),2,none⟩=some (.string ak)/\(w1.heap.size+1)<X3.drew.heap.size:=⟨n2,ln⟩
 have M3:X3.drew.cell? ⟨(w1.heap.size+1),3,none⟩=some (.string ax)/\(w1.heap.size+1)<X3.drew.heap.size:=⟨n3,ln⟩
 refine wp_region_noPanic ?_;refine wp_region_held_drew (S:=(fun(V:World)=>V.cell? ⟨w1.heap.size,0,none⟩=some (.slice rA9 rs9.length rc9)/\V.cell? ⟨w1.heap.size,1,none⟩=some (.slice mA9 ms9.length mc9)/\V.cell? ⟨w1.heap.size,2,none⟩=some (.slice gA9 gs9.length gc9)/\V.cell? ⟨w1.heap.size,3,none⟩=some (.int .i64 time9)/\V.cell? ⟨w1.heap.size,4,none⟩=some (.slice dA9 ds9.length dc9)/\V.cell? ⟨w1.heap.size,5,none⟩=some (.slice lA9 ls9.length lc9)/\V.cell? ⟨(w1.heap.size+1),0,none⟩=some (.int .i64 ac)/\V.cell? ⟨(w1.heap.size+1),1,none⟩=some (.int .i64 aN)/\V.cell? ⟨(w1.heap.size+1),2,none⟩=some (.string ak)/\V.cell? ⟨(w1.heap.size+1),3,none⟩=some (.string ax))) (by kernel_rfl) ?_ (fun hH=> ?_)
 . exact SW
 clear SW hH;generalize X3.drew=XX at J QQ M0 M1 M2 M3 ⊢;have hH:=mkS XX J.k M0.1 M1.1 M2.1 M3.1;have TT:=hidP (Bx.told J (y:=(⟨rA9,rc9,rs9,mA9,mc9,ms9,gA9,gc9,gs9,time9,dA9,dc9,ds9,lA9,lc9,ls9⟩:KC)) (br:=br) (bg:=bg) (bd:=bd) (bl:=bl) (QQ.out) (⟨(ac),(aN),(ak),(ax)⟩:An) (hv:=rfl));obtain⟨z0,z1,z2,z3,z4,z5⟩:=J.r1.row6;have f0:=J.r1.thaw 0;have f1:=J.r1.thaw 1;have f2:=J.r1.thaw 2;have f3:=J.r1.thaw 3;have f4:=J.r1.thaw 4;have f5:=J.r1.thaw 5;obtain⟨k0,k1,k2,k3,k4,k5⟩:=J.k.row6;have R2:=J.r2.only (Qaw _ (w.heap.size+1+1+1) (.slice rA9 rs9.length rc9) (.slice mA9 ms9.length mc9) (.slice gA9 gs9.length gc9) (.int .i64 time9) (.slice dA9 ds9.length dc9) (.slice lA9 ls9.length lc9)) (fun e=>J.ne.2.2.2.2.2 e.symm);obtain⟨y0,y1,y2,y3⟩:=R2.row4;have ee0:=R2.thaw 0;have ee1:=R2.thaw 1;have ee2:=R2.thaw 2;have ee3:=R2.thaw 3;have C1:=Qbh J.r1 (.slice rA9 rs9.length rc9) (.slice mA9 ms9.length mc9) (.slice gA9 gs9.length gc9) (.int .i64 time9) (.slice dA9 ds9.length dc9) (.slice lA9 ls9.length lc9);have B1:=(Qbv J.r1 (.slice rA9 rs9.length rc9) (.slice mA9 ms9.length mc9) (.slice gA9 gs9.length gc9) (.int .i64 time9) (.slice dA9 ds9.length dc9) (.slice lA9 ls9.length lc9)).only (Qa1 _ (w.heap.size+1+1+1+1) (.int .i64 (ac)) (.int .i64 (aN)) (.string ak) (.string ax)) (fun e=>J.ne.2.2.2.2.2 e);have C2:=Qbt R2 (.int .i64 (ac)) (.int .i64 (aN)) (.string ak) (.string ax);obtain⟨s0,s1,s2,s3,s4,s5⟩:=C1;obtain⟨t0,t1,t2,t3⟩:=C2;obtain⟨q0,q1,q2,q3,q4,q5⟩:=B1.row6;have hne12:(w.heap.size+1+1+1)≠(w.heap.size+1+1+1+1):=J.ne.2.2.2.2.2;have hne21:(w.heap.size+1+1+1+1)≠(w.heap.size+1+1+1):=fun e=>J.ne.2.2.2.2.2 e.symm
 have SK:=hidP (mkS _ (J.k.only (Qaw _ (w.heap.size+1+1+1) (.slice rA9 rs9.length rc9) (.slice mA9 ms9.length mc9) (.slice gA9 gs9.length gc9) (.int .i64 time9) (.slice dA9 ds9.length dc9) (.slice lA9 ls9.length lc9)) J.ne.2.1) (((Qaw XX (w.heap.size+1+1+1) (.slice rA9 rs9.length rc9) (.slice mA9 ms9.length mc9) (.slice gA9 gs9.length gc9) (.int .i64 time9) (.slice dA9 ds9.length dc9) (.slice lA9 ls9.length lc9)).cell (p:=⟨(w1.heap.size+1),0,none⟩) M0.2 (by show w1.heap.size+1≠_;omega)).trans M0.1) (((Qaw XX (w.heap.size+1+1+1) (.slice rA9 rs9.length rc9) (.slice mA9 ms9.length mc9) (.slice gA9 gs9.length gc9) (.int .i64 time9) (.slice dA9 ds9.length dc9) (.slice lA9 ls9.length lc9)).cell (p:=⟨(w1.heap.size+1),1,none⟩) M1.2 (by show w1.heap.size+1≠_;omega)).trans M1.1) (((Qaw XX (w.heap.size+1+1+1) (.slice rA9 rs9.length rc9) (.slice mA9 ms9.length mc9) (.slice gA9 gs9.length gc9) (.int .i64 time9) (.slice dA9 ds9.length dc9) (.slice lA9 ls9.length lc9)).cell (p:=⟨(w1.heap.size+1),2,none⟩) M2.2 (by show w1.heap.size+1≠_;omega)).trans M2.1) (((Qaw XX (w.heap.size+1+1+1) (.slice rA9 rs9.length rc9) (.slice mA9 ms9.length mc9) (.slice gA9 gs9.length gc9) (.int .i64 time9) (.slice dA9 ds9.length dc9) (.slice lA9 ls9.length lc9)).cell (p:=⟨(w1.heap.size+1),3,none⟩) M3.2 (by show w1.heap.size+1≠_;omega)).trans M3.1))
 have SN:=hidP (mkS _ ((J.k.only (Qaw _ (w.heap.size+1+1+1) (.slice rA9 rs9.length rc9) (.slice mA9 ms9.length mc9) (.slice gA9 gs9.length gc9) (.int .i64 time9) (.slice dA9 ds9.length dc9) (.slice lA9 ls9.length lc9)) J.ne.2.1).only (Qa1 _ (w.heap.size+1+1+1+1) (.int .i64 (ac)) (.int .i64 (aN)) (.string ak) (.string ax)) J.ne.2.2.1) (((Qa1 (putK XX (w.heap.size+1+1+1) (.slice rA9 rs9.length rc9) (.slice mA9 ms9.length mc9) (.slice gA9 gs9.length gc9) (.int .i64 time9) (.slice dA9 ds9.length dc9) (.slice lA9 ls9.length lc9)) (w.heap.size+1+1+1+1) (.int .i64 (ac)) (.int .i64 (aN)) (.string ak) (.string ax)).cell (p:=⟨(w1.heap.size+1),0,none⟩) (Nat.lt_of_lt_of_le M0.2 (Qaw XX (w.heap.size+1+1+1) (.slice rA9 rs9.length rc9) (.slice mA9 ms9.length mc9) (.slice gA9 gs9.length gc9) (.int .i64 time9) (.slice dA9 ds9.length dc9) (.slice lA9 ls9.length lc9)).size) (by show w1.heap.size+1≠_;omega)).trans (((Qaw XX (w.heap.size+1+1+1) (.slice rA9 rs9.length rc9) (.slice mA9 ms9.length mc9) (.slice gA9 gs9.length gc9) (.int .i64 time9) (.slice dA9 ds9.length dc9) (.slice lA9 ls9.length lc9)).cell (p:=⟨(w1.heap.size+1),0,none⟩) M0.2 (by show w1.heap.size+1≠_;omega)).trans M0.1)) (((Qa1 (putK XX (w.heap.size+1+1+1) (.slice rA9 rs9.length rc9) (.slice mA9 ms9.length mc9) (.slice gA9 gs9.length gc9) (.int .i64 time9) (.slice dA9 ds9.length dc9) (.slice lA9 ls9.length lc9)) (w.heap.size+1+1+1+1) (.int .i64 (ac)) (.int .i64 (aN)) (.string ak) (.string ax)).cell (p:=⟨(w1.heap.size+1),1,none⟩) (Nat.lt_of_lt_of_le M1.2 (Qaw XX (w.heap.size+1+1+1) (.slice rA9 rs9.length rc9) (.slice mA9 ms9.length mc9) (.slice gA9 gs9.length gc9) (.int .i64 time9) (.slice dA9 ds9.length dc9) (.slice lA9 ls9.length lc9)).size) (by show w1.heap.size+1≠_;omega)).trans (((Qaw XX (w.heap.size+1+1+1) (.slice rA9 rs9.length rc9) (.slice mA9 ms9.length mc9) (.slice gA9 gs9.length gc9) (.int .i64 time9) (.slice dA9 ds9.length dc9) (.slice lA9 ls9.length lc9)).cell (p:=⟨(w1.heap.size+1),1,none⟩) M1.2 (by show w1.heap.size+1≠_;omega)).trans M1.1)) (((Qa1 (putK XX (w.heap.size+1+1+1) (.slice rA9 rs9.length rc9) (.slice mA9 ms9.length mc9) (.slice gA9 gs9.length gc9) (.int .i64 time9) (.slice dA9 ds9.length dc9) (.slice lA9 ls9.length lc9)) (w.heap.size+1+1+1+1) (.int .i64 (ac)) (.int .i64 (aN)) (.string ak) (.string ax)).cell (p:=⟨(w1.heap.size+1),2,none⟩) (Nat.lt_of_lt_of_le M2.2 (Qaw XX (w.heap.size+1+1+1) (.slice rA9 rs9.length rc9) (.slice mA9 ms9.length mc9) (.slice gA9 gs9.length gc9) (.int .i64 time9) (.slice dA9 ds9.length dc9) (.slice lA9 ls9.length lc9)).size) (by show w1.heap.size+1≠_;omega)).trans (((Qaw XX (w.heap.size+1+1+1) (.slice rA9 rs9.length rc9) (.slice mA9 ms9.length mc9) (.slice gA9 gs9.length gc9) (.int .i64 time9) (.slice dA9 ds9.length dc9) (.slice lA9 ls9.length lc9)).cell (p:=⟨(w1.heap.size+1),2,none⟩) M2.2 (by show w1.heap.size+1≠_;omega)).trans M2.1)) (((Qa1 (putK XX (w.heap.size+1+1+1) (.slice rA9 rs9.length rc9) (.slice mA9 ms9.length mc9) (.slice gA9 gs9.length gc9) (.int .i64 time9) (.slice dA9 ds9.length dc9) (.slice lA9 ls9.length lc9)) (w.heap.size+1+1+1+1) (.int .i64 (ac)) (.int .i64 (aN)) (.string ak) (.string ax)).cell (p:=⟨(w1.heap.size+1),3,none⟩) (Nat.lt_of_lt_of_le M3.2 (Qaw XX (w.heap.size+1+1+1) (.slice rA9 rs9.length rc9) (.slice mA9 ms9.length mc9) (.slice gA9 gs9.length gc9) (.int .i64 time9) (.slice dA9 ds9.length dc9) (.slice lA9 ls9.length lc9)).size) (by show w1.heap.size+1≠_;omega)).trans (((Qaw XX (w.heap.size+1+1+1) (.slice rA9 rs9.length rc9) (.slice mA9 ms9.length mc9) (.slice gA9 gs9.length gc9) (.int .i64 time9) (.slice dA9 ds9.length dc9) (.slice lA9 ls9.length lc9)).cell (p:=⟨(w1.heap.size+1),3,none⟩) M3.2 (by show w1.heap.size+1≠_;omega)).trans M3.1)))
 clear mkS QQ;refine ztk [0,1] ?_;repeat(refine ztn (hS:=hH) (h:= ?_);try simp only[zX,zY])
 refine zte ?_;refine zR1 2 (fun K hK=> ?_);simp only[zG];go_simp
 skip
 refine hK.out _ _ SK.out fun hH=> ?_;clear hK K;try simp only[zX,zY]
 refine zR1 3 (fun K hK=> ?_);simp only[zG];go_simp
 skip
 refine hK.out _ _ SN.out fun hH=> ?_;clear hK K;try simp only[zX,zY]
 refine zdn ?_;go_wp2;exact bodyPost_ret (v:= .tuple #[.agg (Qaa rA9 rs9.length rc9 mA9 ms9.length mc9 gA9 gs9.length gc9 time9 dA9 ds9.length dc9 lA9 ls9.length lc9),.agg (Qax (ac) (aN) ak ax)]) (by simp[results,Tryz.results112,go_sem,s0,s1,s2,s3,s4,s5,t0,t1,t2,t3,q0,q1,q2,q3,q4,q5]) rfl TT.out
end Go.Proofs.YtajbldnhjpjghaaGreat.Gen
