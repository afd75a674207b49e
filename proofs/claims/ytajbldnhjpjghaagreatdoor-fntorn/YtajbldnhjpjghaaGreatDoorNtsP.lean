/-
  Notes one behind the other, as lists alone (cut out of NNs). No condition.
-/
import Derived.Test.YtajbldnhjpjghaaGreatDoorNSO
import Derived.Test.YtajbldnhjpjghaaGreatDoorNS2
set_option linter.unusedVariables false
set_option linter.unusedSimpArgs false
set_option maxRecDepth 100000
set_option maxHeartbeats 8000000
set_option maxRecDepth 100000
set_option maxHeartbeats 8000000
namespace Go.Proofs.YtajbldnhjpjghaaGreatDoor.Gen
open ChangeShapes WideShapes ChangeAt RowKit Joins Deep Base
def Qbf (l:List UInt8):Nat->Nat->List Nt × Nat
  |0,c=>([],c)
  |n+1,c=>match ofN l (c:Int)with
    |none=>([],c)
    |some (x,d)=>(x::(Qbf l n d).1,(Qbf l n d).2)
def Qcl (l:List UInt8):List Nt × Nat:=Qbf l (l.length+1) 0
theorem getNt_len {L:List UInt8} {i:Int} {x:Nt} {c:Nat} (h:Qck L i=some (x,c)):x.l.length<=L.length:=by
 rw[nt_link]at h;cases hg:GLr L i with
 |none=>rw[hg]at h;cases h
 |some p=>
 rw[hg]at h;simp only at h;cases ht:getT L (p.2:Int)with
 |none=>rw[ht]at h;cases h
 |some t=>
 rw[ht]at h;simp only[Option.map_some,Option.some.injEq,Prod.mk.injEq]at h;obtain⟨rfl,_⟩:=h;unfold GLr at hg;cases hq:Q4 L i with
 |none=>rw[hq]at hg;cases hg
 |some q=>
 rw[hq]at hg;simp only at hg;exact(Qfu (fun i x c h=>Qeh h) hg).2.2
theorem Qg0 {l:List UInt8} {c:Nat} {x:Nt} {d:Nat} (h:ofN l (c:Int)=some (x,d)):c+x.l.length+1<=d/\d<=l.length:=by
 unfold ofN at h;cases hg:getN l (c:Int)with
 |none=>
  have:Qdo l (c:Int)=none:=by unfold Qdo getT;rw[hg]
  rw[this]at h;cases h
 |some q=>
 obtain⟨n,c1⟩:=q;have h1:=Qbi hg;rw[Qiu hg]at h;split at h
 . cases h
 . rename_i L d' he;split at he
   . rename_i hc;simp only[Option.some.injEq,Prod.mk.injEq]at he;obtain⟨rfl,rfl⟩:=he;split at h
     . cases h
     . rename_i y e hn;split at h
       . simp only[Option.some.injEq,Prod.mk.injEq]at h;obtain⟨rfl,rfl⟩:=h;have h2:=getNt_len hn;rw[List.length_take]at h2;omega
       . cases h
   . cases he
theorem ofN_past {l:List UInt8} {c:Nat} (h:l.length<=c):ofN l (c:Int)=none:=by
 unfold ofN Qdo getT;rw[Qkc (by omega)]
theorem Qlc {l:List UInt8} (n:Nat) {c:Nat} (h:ofN l (c:Int)=none):Qbf l n c=([],c):=by
 cases n with
 |zero=>rfl
 |succ n=>simp[Qbf,h]
def LkN (l:List UInt8) (xs:List NC) (c:Nat):Prop:=c<=l.length/\∃n,l.length<c+n/\(Qcl l).1=xs.map NC.p++(Qbf l n c).1/\(Qcl l).2=(Qbf l n c).2/\xs.length<=c
theorem LkN.start (l:List UInt8):LkN l [] 0:=⟨by omega,l.length+1,by omega,by simp[Qcl],rfl,by simp⟩
theorem LkN.stop {l:List UInt8} {xs:List NC} {c:Nat} (h:LkN l xs c) (hn:ofN l (c:Int)=none):xs.map NC.p=(Qcl l).1/\(Qcl l).2=c:=by
 obtain⟨_,n,_,h1,h2,_⟩:=h;rw[Qlc n hn]at h1 h2;exact⟨by simpa using h1.symm,h2⟩
theorem LkN.step {l:List UInt8} {xs:List NC} {c d:Nat} {y:NC} (h:LkN l xs c) (hn:ofN l (c:Int)=some (y.p,d)):LkN l (xs++ [y]) d:=by
 obtain⟨h0,n,h1,h2,h3,h4⟩:=h;have hd:=Qg0 hn;obtain⟨m,rfl⟩:∃m,n=m+1:=⟨n - 1,by omega⟩
 simp only[Qbf,hn]at h2 h3;exact⟨hd.2,m,by omega,by rw[h2];simp,h3,by simp;omega⟩
def ToldN (w:World) (l:List UInt8) (e:Ending) (w' :World):Prop:=∃(xs:List NC) (a:Option Addr) (cp:Nat),e= .returned (.tuple #[.slice a xs.length cp,.int .i64 ((Qcl l).2:Int)])/\Below w.heap.size w w' /\Own Qg3 w' a xs (fun b=>w.heap.size<=b/\b<w'.heap.size)/\xs.map NC.p=(Qcl l).1
theorem Qij (A:Option Addr) (cap:Nat) (l:List UInt8) (hl:l.length<=1048576) (hcap:l.length<=cap) (hcm:cap<=9223372036854775807) (w:World) (hA:At w A l):
 Calls Tryz.prog 7 #[.slice A l.length cap] w fun e w' =>ToldN w l e w' :=by
 have HA:=hidP hA;have K0:Hid (GO (α:=NC) Qg3 31 w (w.alloc (.cells #[] 31)) (.slice (some ⟨w.heap.size,0,none⟩) ([]:List NC).length 0) []):=hidP (GO.start (Qad (Below.refl _ w) _) ⟨by simp[flat],.inr ⟨w.heap.size,0,#[],rfl,Nat.le_refl _,Blk.new w 31 #[],Nat.le_refl _,by simp[maxLen],rfl,rfl⟩⟩);clear hA;go_enter Tryz.func7,Tryz.ntmps7;go_wp2
 go_loopw [4,5] (fun v i W=>∃(c cp:Nat) (a:Option Addr) (xs:List NC),i= .int .i64 (c:Int)/\v= .slice a (List.length xs) cp/\Hid (GO Qg3 31 w W (.slice a xs.length cp) xs)/\Hid (LkN l xs c)) (fun _ i _=>l.length - (intOf i).toNat)
 case atStart=>exact⟨0,0,_,[],rfl,rfl,K0,LkN.start l⟩
 case round=>
  clear K0;obtain⟨c,cp,a,xs,rfl,rfl,KK,LK⟩:=hrel;have hcl:=LK.out.1;by_cases hlt:c<l.length
  . have hlt' :(c:Int)<(l.length:Int):=(by omega);go_wp2_with fail;refine(Qhm A cap l hl hcap hcm (c:Int) ⟨by omega,by omega⟩ _ (HA.out.below KK.out.bl)).mono ?_;rintro e w1 ⟨g1,h1⟩;rcases h1 with⟨x,d,aa,cc,hg,hown,rfl⟩|⟨hg,rfl⟩
    . have hd:=Qg0 hg;have gA:Below wr.heap.size wr (w1.alloc (.cells (Qai x.kind x.term x.vote x.prev aa (List.length x.l) cc x.snap) 31)):=Qad g1 _;have hsub:Qg3 (w1.alloc (.cells (Qai x.kind x.term x.vote x.prev aa (List.length x.l) cc x.snap) 31)) (⟨x.kind,x.term,x.vote,x.prev,aa,cc,x.l,x.snap⟩:NC) (fun b=>wr.heap.size<=b/\b<w1.heap.size):=(Qek hown).below (Qad (Below.refl _ w1) _);have hxl:xs.length<=2000000:=(by obtain⟨_,_,_,_,_,h⟩:=LK.out;omega);obtain⟨a2,c2,W2,hr,K2,kp⟩:=KK.out.app Qct (pg:=Tryz.prog) (z:= .agg Qaf) Tryz.underlying25 infoNC rfl (by decide) (by decide) gA (⟨x.kind,x.term,x.vote,x.prev,aa,cc,x.l,x.snap⟩:NC) hsub (fun y hy=>⟨hy.1,by have:=hy.2;simp;omega⟩) (Qai x.kind x.term x.vote x.prev aa (List.length x.l) cc x.snap) rfl hxl;rw[World.size_alloc]at hr;have HL2:Hid (LkN l (xs++ [(⟨x.kind,x.term,x.vote,x.prev,aa,cc,x.l,x.snap⟩:NC)]) d):=hidP (LK.out.step hg);have hln:(xs++ [(⟨x.kind,x.term,x.vote,x.prev,aa,cc,x.l,x.snap⟩:NC)]).length=xs.length+1:=(by simp);have HK2:Hid (GO Qg3 31 w W2 (.slice a2 (xs++ [(⟨x.kind,x.term,x.vote,x.prev,aa,cc,x.l,x.snap⟩:NC)]).length c2) (xs++ [(⟨x.kind,x.term,x.vote,x.prev,aa,cc,x.l,x.snap⟩:NC)])):=hidP (by rw[hln];exact K2);clear KK LK K2 kp gA hsub hown g1 hxl;go_wp2_with (at_builtin;refine Qac rfl _ _ _ rfl _ _ _ rfl rfl hr ?_);exact⟨⟨d,c2,a2,xs++ [(⟨x.kind,x.term,x.vote,x.prev,aa,cc,x.l,x.snap⟩:NC)],rfl,by rw[hln],HK2,HL2⟩,by simp[intOf];omega⟩
    . obtain⟨e1,e2⟩:=LK.out.stop hg;have HO:=hidP ((KK.out.below Qct (Qad g1 (.cells Qaf 31))).toOwn);have HB:=hidP (KK.out.below Qct (Qad g1 (.cells Qaf 31))).bl;have HE1:=hidP e1;have HE2:=hidP e2;clear KK LK g1 e1 e2;go_wp2;refine bodyPost_ret (v:= .tuple #[.slice a xs.length cp,.int .i64 (c:Int)]) (by simp[results,Tryz.results7,go_sem]) rfl ?_;exact⟨xs,a,cp,by rw[HE2.out],HB.out,HO.out,HE1.out⟩
  . have hlt' :¬(c:Int)<(l.length:Int):=(by omega);obtain⟨e1,e2⟩:=LK.out.stop (ofN_past (by omega));have HE1:=hidP e1;have HE2:=hidP e2;clear e1 e2;go_wp2;refine bodyPost_ret (v:= .tuple #[.slice a xs.length cp,.int .i64 (c:Int)]) (by simp[results,Tryz.results7,go_sem]) rfl ?_;exact⟨xs,a,cp,by rw[HE2.out],KK.out.bl,KK.out.toOwn,HE1.out⟩
theorem Qff (A:Option Addr) (cap:Nat) (l:List UInt8) (hl:l.length<=1048576) (hcap:l.length<=cap) (hcm:cap<=9223372036854775807) (w:World) (hA:At w A l) (hgl:w.cell? ⟨0,0,none⟩=some (.iface 127 (.agg #[.pointer (some ⟨1,40,none⟩)]))):
 Calls Tryz.prog 6 #[.slice A l.length cap] w fun e w' =>ToldN w l e w' :=by
 have h0:0<w.heap.size:=by
  rcases Nat.eq_zero_or_pos w.heap.size with h0|h
  . simp[World.cell?,h0]at hgl
  . exact h
 have HB0:Hid (Below w.heap.size w (w.alloc (.cells #[.int .i64 0] 38))):=hidP (Qad (Below.refl _ w) _);have HP0:=hidP (Blk.new w 38 #[.int .i64 0]);have HG:Hid (∀W:World,Below w.heap.size w W->W.cell? ⟨0,0,none⟩=some (.iface 127 (.agg #[.pointer (some ⟨1,40,none⟩)]))):=hidP (fun W g=>(World.cell?_of_block (a:=⟨0,0,none⟩) (g.block 0 h0)).trans hgl);have HA:=hidP (hA.below HB0.out);have hs0:Hid ((w.alloc (.cells #[.int .i64 0] 38)).heap.size=w.heap.size+1):=hidP (by simp);have K0:Hid (GO (α:=NC) Qg3 31 (w.alloc (.cells #[.int .i64 0] 38)) (w.alloc (.cells #[.int .i64 0] 38)) (.slice none ([]:List NC).length 0) []):=hidP (GO.start (Below.refl _ _) (World.ownsRow_nil _ _ _ _));clear hA hgl h0;go_enter Tryz.func6,Tryz.ntmps6;go_wp2;generalize w.alloc (.cells #[.int .i64 0] 38)=W0 at*
 go_loopw [4,6] (fun v i W=>∃(c cp:Nat) (a:Option Addr) (xs:List NC),i= .int .i64 (c:Int)/\v= .slice a (List.length xs) cp/\Hid (GO Qg3 31 W0 W (.slice a xs.length cp) xs)/\Hid (LkN l xs c)) (fun _ i _=>l.length+1 - (intOf i).toNat)
 case atStart=>exact⟨0,0,_,[],rfl,rfl,K0,LkN.start l⟩
 case round=>
  clear K0;obtain⟨c,cp,a,xs,rfl,rfl,KK,LK⟩:=hrel;have hcl:=LK.out.1;go_wp2_with fail;refine(noteAt_any A cap l hl hcap hcm (c:Int) ⟨by omega,by omega⟩ _ (HA.out.below KK.out.bl)).mono ?_;rintro e w1 ⟨g1,h1⟩;rcases h1 with⟨x,d,aa,cc,hg,hown,rfl⟩|⟨hg,rfl⟩
  . have hd:=Qg0 hg;have gA:Below wr.heap.size wr (w1.alloc (.cells (Qai x.kind x.term x.vote x.prev aa (List.length x.l) cc x.snap) 31)):=Qad g1 _;have hsub:Qg3 (w1.alloc (.cells (Qai x.kind x.term x.vote x.prev aa (List.length x.l) cc x.snap) 31)) (⟨x.kind,x.term,x.vote,x.prev,aa,cc,x.l,x.snap⟩:NC) (fun b=>wr.heap.size<=b/\b<w1.heap.size):=(Qek hown).below (Qad (Below.refl _ w1) _);have hxl:xs.length<=2000000:=(by obtain⟨_,_,_,_,_,h⟩:=LK.out;omega);obtain⟨a2,c2,W2,hr,K2,kp⟩:=KK.out.app Qct (pg:=Tryz.prog) (z:= .agg Qaf) Tryz.underlying25 infoNC rfl (by decide) (by decide) gA (⟨x.kind,x.term,x.vote,x.prev,aa,cc,x.l,x.snap⟩:NC) hsub (fun y hy=>⟨hy.1,by have:=hy.2;simp;omega⟩) (Qai x.kind x.term x.vote x.prev aa (List.length x.l) cc x.snap) rfl hxl;rw[World.size_alloc]at hr;have HL2:Hid (LkN l (xs++ [(⟨x.kind,x.term,x.vote,x.prev,aa,cc,x.l,x.snap⟩:NC)]) d):=hidP (LK.out.step hg);have hln:(xs++ [(⟨x.kind,x.term,x.vote,x.prev,aa,cc,x.l,x.snap⟩:NC)]).length=xs.length+1:=(by simp);have HK2:Hid (GO Qg3 31 W0 W2 (.slice a2 (xs++ [(⟨x.kind,x.term,x.vote,x.prev,aa,cc,x.l,x.snap⟩:NC)]).length c2) (xs++ [(⟨x.kind,x.term,x.vote,x.prev,aa,cc,x.l,x.snap⟩:NC)])):=hidP (by rw[hln];exact K2);clear KK LK K2 kp gA hsub hown g1 hxl;go_wp2_with fail;refine(as_nil _ _).mono ?_;rintro e w2 ⟨rfl,rfl⟩;go_wp2_with (at_builtin;refine Qac rfl _ _ _ rfl _ _ _ rfl rfl hr ?_);exact⟨⟨d,c2,a2,xs++ [(⟨x.kind,x.term,x.vote,x.prev,aa,cc,x.l,x.snap⟩:NC)],rfl,by rw[hln],HK2,HL2⟩,by simp[intOf];omega⟩
  . obtain⟨e1,e2⟩:=LK.out.stop hg;have K1:=KK.out.below Qct (Qad g1 (.cells Qaf 31));have pb:=HP0.out.below K1.bl HP0.out.lt;have hc0:=pb.row1;have hf0:=pb.thaw 0;have hgc:=HG.out _ (via0 K1.bl HB0.out);have HK1:=hidP K1;have Hpb:=hidP pb;have HE1:=hidP e1;have HE2:=hidP e2;clear KK LK g1 e1 e2 K1 pb hg;have HAs:=hidP (as_hit (c:Int) w.heap.size (.int .i64 0) _ hgc hc0 hf0);clear hc0 hf0 hgc;go_wp2_with fail;refine HAs.out.mono ?_;rintro e w3 ⟨rfl,rfl⟩;have gs:=Qad (Qad (Qad (Qad (Below.refl _ (w1.alloc (.cells Qaf 31))) (.cells #[.pointer (some ⟨w.heap.size,0,none⟩)] 44)) (.cells #[.pointer (some ⟨1,44,none⟩),.pointer (some ⟨(w1.alloc (.cells Qaf 31)).heap.size,0,none⟩),.int .u64 150] 70)) (.cells #[.pointer (some ⟨1,44,none⟩),.pointer (some ⟨(w1.alloc (.cells Qaf 31)).heap.size,0,none⟩),.int .u64 150] 70)) (.cells #[.int .i64 (c:Int)] 38);have K4:=HK1.out.below Qct gs;have p4:=(Hpb.out.below gs Hpb.out.lt).setAt 0 (.int .i64 (c:Int));have hlt4:=(Hpb.out.below gs Hpb.out.lt).lt;clear HAs gs HK1 Hpb;generalize hW4:((((w1.alloc (.cells Qaf 31)).alloc (.cells #[.pointer (some ⟨w.heap.size,0,none⟩)] 44)).alloc (.cells #[.pointer (some ⟨1,44,none⟩),.pointer (some ⟨(w1.alloc (.cells Qaf 31)).heap.size,0,none⟩),.int .u64 150] 70)).alloc (.cells #[.pointer (some ⟨1,44,none⟩),.pointer (some ⟨(w1.alloc (.cells Qaf 31)).heap.size,0,none⟩),.int .u64 150] 70)).alloc (.cells #[.int .i64 (c:Int)] 38)=W4 at*;have o4:=(Only.refl w.heap.size W4).set 0 (.int .i64 (c:Int));have d0:(W4.setCell ⟨w.heap.size,0,none⟩ (.int .i64 (c:Int))).cell? ⟨w.heap.size,0,none⟩=some (.int .i64 (c:Int)):=p4.cell (i:=0) rfl;have q0:=p4.lt;have HBz:=hidP ((via0 K4.bl HB0.out).trans (o4.toBelow (Nat.le_refl _) (via0 K4.bl HB0.out).size))
    have HOz:=hidP ((K4.toOwn.offp Qct (Offp.of_only o4) (fun y hy e=>by have:=hs0.out;have:=hy.1;omega)).mono (T:=fun b=>w.heap.size<=b/\b<(W4.setCell ⟨w.heap.size,0,none⟩ (.int .i64 (c:Int))).heap.size) (fun y hy=>⟨by have:=hs0.out;have:=hy.1;omega,Nat.lt_of_lt_of_le hy.2 o4.size⟩));clear hW4 K4 p4 o4 hlt4;generalize W4.setCell ⟨w.heap.size,0,none⟩ (.int .i64 (c:Int))=W5 at*;go_wp2_with fail
    go_quiet (fail)
    go_wp2;refine bodyPost_ret (v:= .tuple #[.slice a xs.length cp,.int .i64 (c:Int)]) (by simp[results,Tryz.results6,go_sem]) rfl ?_;exact⟨xs,a,cp,by rw[HE2.out],below_drewN HBz.out _,HOz.out.below Qct (below_drewN (Below.refl _ _) _),HE1.out⟩
end Go.Proofs.YtajbldnhjpjghaaGreatDoor.Gen
namespace Go.Proofs.YtajbldnhjpjghaaGreatDoor.Gen.Bk
open ChangeShapes WideShapes ChangeAt RowKit Joins Deep Base Gen
theorem getC_at {l p r:List UInt8} {who seq op a b c:Int} {k t:ByteArray} (R:CmR who seq op a b c k t) (h:l=p++(cmB who seq op a b c k t++r)):getC l (p.length:Int)=some ((⟨who,seq,op,a,b,c,k,t⟩:Cm),(p++cmB who seq op a b c k t).length):=by
 obtain⟨w0,s0,o0,a0,b0,c0,k0,t0⟩:=R;have hl' :l=p++(numI (who+1)++(numI seq++(numI op++(numI a++(numI b++(numI c++(txtB k++(txtB t++r)))))))):=by rw[h];simp[cmB,Qbj]
 have e1:q1 l (some (p.length:Int))=some ((who+1).toNat,(p++numI (who+1)).length):=by
  show nS l (some (p.length:Int))=_;exact Qld (r:=numI seq++(numI op++(numI a++(numI b++(numI c++(txtB k++(txtB t++(r)))))))) (by rw[hl'];try simp only[List.append_assoc]) (by omega) (by omega)
 have e2:q2 l (some (p.length:Int))=some (seq.toNat,(p++numI (who+1)++numI seq).length):=by
  show nS l (nO (q1 l (some (p.length:Int))))=_;rw[e1,Qey];exact Qld (r:=numI op++(numI a++(numI b++(numI c++(txtB k++(txtB t++(r))))))) (by rw[hl'];try simp only[List.append_assoc]) (by omega) (by omega)
 have e3:q3 l (some (p.length:Int))=some (op.toNat,(p++numI (who+1)++numI seq++numI op).length):=by
  show nS l (nO (q2 l (some (p.length:Int))))=_;rw[e2,Qey];exact Qld (r:=numI a++(numI b++(numI c++(txtB k++(txtB t++(r)))))) (by rw[hl'];try simp only[List.append_assoc]) (by omega) (by omega)
 have e4:q4 l (some (p.length:Int))=some (a.toNat,(p++numI (who+1)++numI seq++numI op++numI a).length):=by
  show nS l (nO (q3 l (some (p.length:Int))))=_;rw[e3,Qey];exact Qld (r:=numI b++(numI c++(txtB k++(txtB t++(r))))) (by rw[hl'];try simp only[List.append_assoc]) (by omega) (by omega)
 have e5:q5 l (some (p.length:Int))=some (b.toNat,(p++numI (who+1)++numI seq++numI op++numI a++numI b).length):=by
  show nS l (nO (q4 l (some (p.length:Int))))=_;rw[e4,Qey];exact Qld (r:=numI c++(txtB k++(txtB t++(r)))) (by rw[hl'];try simp only[List.append_assoc]) (by omega) (by omega)
 have e6:q6 l (some (p.length:Int))=some (c.toNat,(p++numI (who+1)++numI seq++numI op++numI a++numI b++numI c).length):=by
  show nS l (nO (q5 l (some (p.length:Int))))=_;rw[e5,Qey];exact Qld (r:=txtB k++(txtB t++(r))) (by rw[hl'];try simp only[List.append_assoc]) (by omega) (by omega)
 have e7:q7 l (some (p.length:Int))=some (k,(p++numI (who+1)++numI seq++numI op++numI a++numI b++numI c++txtB k).length):=by
  show tS l (nO (q6 l (some (p.length:Int))))=_;rw[e6,Qey];exact tS_at (r:=txtB t++(r)) (by rw[hl'];try simp only[List.append_assoc]) (by omega)
 have e8:q8 l (some (p.length:Int))=some (t,(p++numI (who+1)++numI seq++numI op++numI a++numI b++numI c++txtB k++txtB t).length):=by
  show tS l (nO (q7 l (some (p.length:Int))))=_;rw[e7,Qey];exact tS_at (r:=r) (by rw[hl'];try simp only[List.append_assoc]) (by omega)
 have hc:cmOf l (some (p.length:Int))=⟨who,seq,op,a,b,c,k,t⟩:=by
  unfold cmOf;rw[e1,e2,e3,e4,e5,e6,e7,e8];simp only[nV_some,tV_some];congr 1<;>omega
 unfold getC;rw[e8,hc];simp only[Option.map_some];congr 2;simp[cmB,Qbj,List.append_assoc]
theorem bytes_getC {l:List UInt8} {i:Int} {x:Cm} {c:Nat} (h:getC l i=some (x,c)):∃j:Nat,i=(j:Int)/\j<=c/\c<=l.length/\cmB x.who x.seq x.op x.a x.b x.c x.k x.t=(l.drop j).take (c - j):=by
 unfold getC at h;cases e8:q8 l (some i)with
 |none=>rw[e8]at h;cases h
 |some p=>
  obtain⟨t,c'⟩:=p;rw[e8]at h;simp only[Option.map_some,Option.some.injEq,Prod.mk.injEq]at h;obtain⟨rfl,rfl⟩:=h;obtain⟨j7,o7,l8,m8,b8⟩:=tS_inv (show tS l (nO (q7 l (some i)))=_ from e8);obtain⟨k,e7⟩:=Qg6 o7;obtain⟨j6,o6,l7,m7,b7⟩:=tS_inv (show tS l (nO (q6 l (some i)))=_ from e7);obtain⟨n6,e6⟩:=Qg6 o6;obtain⟨j5,o5,_,l6,m6,b6⟩:=Qg5 (show nS l (nO (q5 l (some i)))=_ from e6);obtain⟨n5,e5⟩:=Qg6 o5;obtain⟨j4,o4,_,l5,m5,b5⟩:=Qg5 (show nS l (nO (q4 l (some i)))=_ from e5);obtain⟨n4,e4⟩:=Qg6 o4;obtain⟨j3,o3,_,l4,m4,b4⟩:=Qg5 (show nS l (nO (q3 l (some i)))=_ from e4);obtain⟨n3,e3⟩:=Qg6 o3;obtain⟨j2,o2,_,l3,m3,b3⟩:=Qg5 (show nS l (nO (q2 l (some i)))=_ from e3);obtain⟨n2,e2⟩:=Qg6 o2;obtain⟨j1,o1,_,l2,m2,b2⟩:=Qg5 (show nS l (nO (q1 l (some i)))=_ from e2);obtain⟨n1,e1⟩:=Qg6 o1;obtain⟨j0,o0,_,l1,m1,b1⟩:=Qg5 (show nS l (some i)=_ from e1);have hi:i=(j0:Int):=by simpa using o0
  refine⟨j0,hi,by omega,m8,?_⟩;have hx:cmOf l (some i)=⟨(n1:Int) - 1,n2,n3,n4,n5,n6,k,t⟩:=by
   unfold cmOf;rw[e1,e2,e3,e4,e5,e6,e7,e8];rfl
  rw[hx];simp only[cmB,Qbj,List.flatMap_cons,List.flatMap_nil,List.append_nil];rw[show(n1:Int) - 1+1=n1 by omega,b1,b2,b3,b4,b5,b6,b7,b8];rw[Qbg l (by omega:j4<=j5) (by omega:j5<=j6),Qbg l (by omega:j3<=j4) (by omega:j4<=j6),Qbg l (by omega:j2<=j3) (by omega:j3<=j6),Qbg l (by omega:j1<=j2) (by omega:j2<=j6),Qbg l (by omega:j0<=j1) (by omega:j1<=j6),Qbg l (by omega:j0<=j6) l7,Qbg l (by omega:j0<=j7) l8]
theorem getEnt_at {l p r:List UInt8} {x:En} (hx:entF x=true) (h:l=p++(enB x++r)):Qbk l (p.length:Int)=some (x,(p++enB x).length):=by
 simp only[entF,Bool.and_eq_true]at hx;obtain⟨ht,hc⟩:=hx;have ht' :0<=x.term/\x.term<=300:=by simp[inB]at ht;omega
 have R:=Qgz (show CmdOk.okB x.who x.seq x.op x.a x.b x.c x.key x.text=true from hc);have h1:=Qe2 (n:=x.term) (l:=l) (p:=p) (r:=cmB x.who x.seq x.op x.a x.b x.c x.key x.text++r) (by rw[h];simp[enB]) (by omega) (by omega);have h2:=getC_at (p:=p++numI x.term) (r:=r) (l:=l) R (by rw[h];simp[enB]);unfold Qbk;rw[h1];simp only[];rw[h2];simp only[];have e:((x.term.toNat:Nat):Int)=x.term:=by omega
 rw[e];simp[enB]
theorem getNt_at {l p r:List UInt8} {x:Nt} (hx:x.ok=true) (h:l=p++(Qco x.kind x.term x.vote x.prev x.l x.snap++r)):Qck l (p.length:Int)=some (x,(p++Qco x.kind x.term x.vote x.prev x.l x.snap).length):=by
 obtain⟨kind,term,vote,prev,L,snap⟩:=x;simp only[Nt.ok,Qee,Bool.and_eq_true,decide_eq_true_eq]at hx;obtain⟨⟨⟨⟨⟨⟨ho,ht⟩,hv⟩,hp⟩,hL⟩,hE⟩,hs⟩:=hx;have hk:0<=kind/\kind<=3:=by
  unfold ownB at ho;by_cases h1:kind=1
  . omega
  . by_cases h2:kind=2
    . omega
    . by_cases h3:kind=3
      . omega
      . simp[h1,h2,h3]at ho
 have ht' :0<=term/\term<=300:=by simp[inB]at ht;omega
 have hv' : -1<=vote/\vote<=4:=by simp[inB]at hv;omega
 have hp' :0<=prev/\prev<=300:=by simp[inB]at hp;omega
 have hl' :l=p++(numI kind++(numI term++(numI (vote+1)++(numI prev++(numI (L.length:Int)++(L.flatMap enB++(txtB snap++r))))))):=by rw[h];simp[Qco,ensB,Qbj]
 have e1:=Qe2 (n:=kind) (p:=p) (r:=numI term++(numI (vote+1)++(numI prev++(numI (L.length:Int)++(L.flatMap enB++(txtB snap++r)))))) (l:=l) (by rw[hl']) (by omega) (by omega);have e2:=Qe2 (n:=term) (p:=p++numI kind) (r:=numI (vote+1)++(numI prev++(numI (L.length:Int)++(L.flatMap enB++(txtB snap++r))))) (l:=l) (by rw[hl'];try simp only[List.append_assoc]) (by omega) (by omega);have e3:=Qe2 (n:=vote+1) (p:=p++numI kind++numI term) (r:=numI prev++(numI (L.length:Int)++(L.flatMap enB++(txtB snap++r)))) (l:=l) (by rw[hl'];try simp only[List.append_assoc]) (by omega) (by omega);have e4:=Qe2 (n:=prev) (p:=p++numI kind++numI term++numI (vote+1)) (r:=numI (L.length:Int)++(L.flatMap enB++(txtB snap++r))) (l:=l) (by rw[hl'];try simp only[List.append_assoc]) (by omega) (by omega);have e5:=list_at (get:=Qbk l) (f:=enB) L (p++numI kind++numI term++numI (vote+1)++numI prev) (txtB snap++r) (by omega) (fun y hy p r h=>getEnt_at (List.all_eq_true.1 hE y hy) h) (by rw[hl'];try simp only[List.append_assoc]);have e6:=getT_at (s:=snap) (p:=p++numI kind++numI term++numI (vote+1)++numI prev++(numI (L.length:Int)++L.flatMap enB)) (r:=r) (l:=l) (by rw[hl'];try simp only[List.append_assoc]) (by omega);unfold Qck;rw[e1];simp only[];rw[e2];simp only[];rw[e3];simp only[];rw[e4];simp only[];rw[e5];simp only[];rw[e6];simp only[];have k1:((kind.toNat:Nat):Int)=kind:=by omega
 have k2:((term.toNat:Nat):Int)=term:=by omega
 have k3:(((vote+1).toNat:Nat):Int) - 1=vote:=by omega
 have k4:((prev.toNat:Nat):Int)=prev:=by omega
 rw[k1,k2,k3,k4];simp[Qco,ensB,Qbj]
theorem getFr_at {l p r L:List UInt8} (hL:L.length<=2147483647) (h:l=p++(Qb4 L++r)):Qdo l (p.length:Int)=some (L,(p++Qb4 L).length):=by
 have h1:=Qe2 (n:=(L.length:Int)) (p:=p) (r:=L++(sumB 4 (sumN L)++r)) (l:=l) (by rw[h,Qcp hL];simp[Qb4]) (by omega) (by omega);rw[Int.toNat_natCast]at h1;rw[Qcp hL]at h1;have hl:l=(p++numB L.length)++(L++(sumB 4 (sumN L)++r)):=by rw[h];simp[Qb4]
 have d1:(l.drop (p++numB L.length).length).take L.length=L:=by rw[hl,List.drop_left,List.take_left]
 have d2:(l.drop ((p++numB L.length).length+L.length)).take 4=sumB 4 (sumN L):=by
  have e:(p++numB L.length).length+L.length=(p++numB L.length++L).length:=by simp;omega
  have hl2:l=(p++numB L.length++L)++(sumB 4 (sumN L)++r):=by rw[hl];simp
  rw[e,hl2,List.drop_left];exact List.take_left' (Qb1 _ _)
 have hlen:(p++numB L.length).length+L.length+4<=l.length:=by rw[hl];simp[Qb1];omega
 rw[Qiu h1,d1,d2,if_pos ⟨hlen,rfl⟩];congr 2;simp[Qb4,Qb1];omega
theorem ofN_at {l p r:List UInt8} {x:Nt} (hx:x.ok=true) (hB:(Qco x.kind x.term x.vote x.prev x.l x.snap).length<=2147483647) (h:l=p++(Qb4 (Qco x.kind x.term x.vote x.prev x.l x.snap)++r)):ofN l (p.length:Int)=some (x,(p++Qb4 (Qco x.kind x.term x.vote x.prev x.l x.snap)).length):=by
 have h2:=getNt_at (p:= []) (r:= []) (l:=Qco x.kind x.term x.vote x.prev x.l x.snap) hx (by simp);unfold ofN;rw[getFr_at hB h];simp only[];have h3:Qck (Qco x.kind x.term x.vote x.prev x.l x.snap) 0=some (x,(Qco x.kind x.term x.vote x.prev x.l x.snap).length):=by simpa using h2
 rw[h3];simp[hx]
theorem getEnt_inv {l:List UInt8} {i:Nat} {x:En} {c:Nat} (h:Qbk l (i:Int)=some (x,c)):i<=c/\c<=l.length/\enB x=(l.drop i).take (c - i):=by
 unfold Qbk at h;cases h1:getN l (i:Int)with
 |none=>simp[h1]at h
 |some p1=>
 obtain⟨n1,c1⟩:=p1;cases h2:getC l (c1:Int)with
 |none=>simp[h1,h2]at h
 |some p2=>
 obtain⟨y,c2⟩:=p2;simp only[h1,h2,Option.some.injEq,Prod.mk.injEq]at h;obtain⟨rfl,rfl⟩:=h;have k1:=Qd6 h1;obtain⟨j,e,k2,k3,k4⟩:=bytes_getC h2;obtain rfl:c1=j:=by omega
 refine⟨by omega,k3,?_⟩;show numI (n1:Int)++cmB y.who y.seq y.op y.a y.b y.c y.k y.t=_;rw[k1.2.2.2,k4];exact Qbg l k1.2.1 k2
theorem getNt_inv {l:List UInt8} {i:Nat} {x:Nt} {c:Nat} (h:Qck l (i:Int)=some (x,c)):i<=c/\c<=l.length/\Qco x.kind x.term x.vote x.prev x.l x.snap=(l.drop i).take (c - i):=by
 unfold Qck at h;cases h1:getN l (i:Int)with
 |none=>simp[h1]at h
 |some p1=>
 obtain⟨n1,c1⟩:=p1;cases h2:getN l (c1:Int)with
 |none=>simp[h1,h2]at h
 |some p2=>
 obtain⟨n2,c2⟩:=p2;cases h3:getN l (c2:Int)with
 |none=>simp[h1,h2,h3]at h
 |some p3=>
 obtain⟨n3,c3⟩:=p3;cases h4:getN l (c3:Int)with
 |none=>simp[h1,h2,h3,h4]at h
 |some p4=>
 obtain⟨n4,c4⟩:=p4;cases h5:Qbx l (Qbk l) (c4:Int)with
 |none=>simp[h1,h2,h3,h4,h5]at h
 |some p5=>
 obtain⟨xs,c5⟩:=p5;cases h6:getT l (c5:Int)with
 |none=>simp[h1,h2,h3,h4,h5,h6]at h
 |some p6=>
 obtain⟨s6,c6⟩:=p6;simp only[h1,h2,h3,h4,h5,h6,Option.some.injEq,Prod.mk.injEq]at h;obtain⟨rfl,rfl⟩:=h;have k1:=Qd6 h1;have k2:=Qd6 h2;have k3:=Qd6 h3;have k4:=Qd6 h4;unfold Qbx at h5;cases h7:getN l (c4:Int)with
 |none=>simp[h7]at h5
 |some p7=>
 obtain⟨n7,c7⟩:=p7;rw[h7]at h5;have k7:=Qd6 h7;have k5:=many_inv (f:=enB) (fun i x c h=>getEnt_inv h) n7 c7 k7.2.2.1 h5;have k6:=getT_inv h6;refine⟨by omega,k6.2.1,?_⟩;have e7:numI (xs.length:Int)=(l.drop c4).take (c7 - c4):=by rw[k5.2.2.1];exact k7.2.2.2
 have e3:numI ((n3:Int) - 1+1)=(l.drop c2).take (c3 - c2):=by rw[show(n3:Int) - 1+1=n3 by omega];exact k3.2.2.2
 show Qbj [(n1:Int),(n2:Int),(n3:Int) - 1+1,(n4:Int)]++((numI (xs.length:Int)++xs.flatMap enB)++txtB s6)=_;have eN:Qbj [(n1:Int),(n2:Int),(n3:Int) - 1+1,(n4:Int)]=numI (n1:Int)++(numI (n2:Int)++(numI ((n3:Int) - 1+1)++numI (n4:Int))):=by simp[Qbj]
 rw[eN,k1.2.2.2,k2.2.2.2,e3,k4.2.2.2,e7,k5.2.2.2,k6.2.2];rw[Qbg l k7.2.1 k5.1,Qbg l (by omega:c4<=c5) k6.1,Qbg l k3.2.1 k4.2.1,Qbg l k2.2.1 (by omega:c2<=c4),Qbg l k1.2.1 (by omega:c1<=c4),Qbg l (by omega:i<=c4) (by omega:c4<=c6)]
theorem getFr_inv {l:List UInt8} {i:Nat} {L:List UInt8} {c:Nat} (h:Qdo l (i:Int)=some (L,c)):i<=c/\c<=l.length/\L.length<=2147483647/\Qb4 L=(l.drop i).take (c - i):=by
 cases h1:getN l (i:Int)with
 |none=>
  unfold Qdo getT at h;rw[h1]at h;cases h
 |some p=>
 obtain⟨n,d⟩:=p;rw[Qiu h1]at h;have k1:=Qd6 h1;by_cases hc:d+n+4<=l.length/\sumB 4 (sumN ((l.drop d).take n))=(l.drop (d+n)).take 4
 . rw[if_pos hc]at h;simp only[Option.some.injEq,Prod.mk.injEq]at h;obtain⟨rfl,rfl⟩:=h;have hn:((l.drop d).take n).length=n:=(by simp;omega);refine⟨by omega,hc.1,by rw[hn];exact k1.1,?_⟩;unfold Qb4;rw[hn,hc.2,← Qcp k1.1,k1.2.2.2];have s1:=Qbg l (show d<=d+n by omega) (show d+n<=d+n+4 by omega);rw[show d+n - d=n by omega,show d+n+4 - (d+n)=4 by omega]at s1;rw[s1];exact Qbg l k1.2.1 (by omega)
 . rw[if_neg hc]at h;cases h
theorem ofN_inv {l:List UInt8} {i:Nat} {x:Nt} {c:Nat} (h:ofN l (i:Int)=some (x,c)):i<=c/\c<=l.length/\x.ok=true/\Qb4 (Qco x.kind x.term x.vote x.prev x.l x.snap)=(l.drop i).take (c - i):=by
 unfold ofN at h;cases h1:Qdo l (i:Int)with
 |none=>rw[h1]at h;cases h
 |some p=>
 obtain⟨L,d⟩:=p;rw[h1]at h;simp only[]at h;cases h2:Qck L 0 with
 |none=>rw[h2]at h;cases h
 |some q=>
 obtain⟨y,e⟩:=q;rw[h2]at h;simp only[]at h;by_cases hc:e=L.length/\y.ok=true
 . rw[if_pos hc]at h;simp only[Option.some.injEq,Prod.mk.injEq]at h;obtain⟨rfl,rfl⟩:=h;have k1:=getFr_inv h1;have k2:=getNt_inv (i:=0) h2;have eb:Qco y.kind y.term y.vote y.prev y.l y.snap=L:=(by rw[k2.2.2,hc.1];simp);exact⟨k1.1,k1.2.1,hc.2,by rw[eb];exact k1.2.2.2⟩
 . rw[if_neg hc]at h;cases h
end Go.Proofs.YtajbldnhjpjghaaGreatDoor.Gen.Bk
namespace Go.Proofs.YtajbldnhjpjghaaGreatDoor.Gen
open ChangeShapes WideShapes ChangeAt RowKit Joins Deep Base
theorem spill {L:List UInt8} {i:Int} {x:Nt} {c:Nat} (hL:L.length<=200000) (h:ofN L i=some (x,c)) (r:List UInt8):c<=L.length/\x.ok=true/\ofN (L.take c++r) i=some (x,c):=by
 obtain⟨j,rfl⟩:∃j:Nat,i=(j:Int):=by
  by_cases hi:i<0
  . exfalso;unfold ofN Qdo getT at h;rw[getN_neg hi]at h;simp at h
  . exact⟨i.toNat,by omega⟩
 obtain⟨h1,h2,h3,h4⟩:=Bk.ofN_inv h;generalize hB:Qco x.kind x.term x.vote x.prev x.l x.snap=B at h4;have hf:(Qb4 B).length=c - j:=by rw[h4,List.length_take,List.length_drop];omega
 have hb:B.length<=2147483647:=by
  have:B.length<=(Qb4 B).length:=by unfold Qb4;simp only[List.length_append];omega
  omega
 have hj:(L.take j).length=j:=by rw[List.length_take];omega
 have e:L.take c++r=L.take j++(Qb4 B++r):=by
  rw[h4,← List.append_assoc,← List.take_add,Nat.add_sub_cancel' h1]
 subst hB;have h5:=Bk.ofN_at (l:=L.take c++r) (p:=L.take j) (r:=r) h3 hb e;rw[hj]at h5;rw[List.length_append,hj,hf,Nat.add_sub_cancel' h1]at h5;exact⟨h2,h3,h5⟩
theorem of_cut {L:List UInt8} (hL:L.length<=200000) {m:Nat} {i:Int} {x:Nt} {c:Nat} (h:ofN (L.take m) i=some (x,c)):c<=m/\ofN L i=some (x,c):=by
 obtain⟨h1,_,h3⟩:=spill (by rw[List.length_take];omega) h (L.drop c);rw[List.length_take]at h1;rw[List.take_take,Nat.min_eq_left (by omega),List.take_append_drop]at h3;exact⟨by omega,h3⟩
theorem to_cut {L:List UInt8} (hL:L.length<=200000) {m:Nat} {i:Int} {x:Nt} {c:Nat} (h:ofN L i=some (x,c)) (hc:c<=m):ofN (L.take m) i=some (x,c):=by
 obtain⟨_,_,h3⟩:=spill hL h ((L.take m).drop c);have e:L.take c=(L.take m).take c:=by rw[List.take_take,Nat.min_eq_left hc]
 rw[e,List.take_append_drop]at h3;exact h3
theorem Qh5 {L:List UInt8} (hL:L.length<=200000) {m:Nat}:∀(n n' c:Nat),n<=n' ->∃r,(Qbf L n' c).1=(Qbf (L.take m) n c).1++r
 |0,n',c,_=>⟨_,rfl⟩
 |n+1,n',c,h=>by
  obtain⟨k,rfl⟩:∃k,n' =k+1:=⟨n' - 1,by omega⟩
  cases hx:ofN (L.take m) (c:Int)with
  |none=>exact⟨(Qbf L (k+1) c).1,by simp[Qbf,hx]⟩
  |some p=>
   obtain⟨x,d⟩:=p;obtain⟨r,hr⟩:=Qh5 hL (m:=m) n k d (by omega);exact⟨r,by simp only[Qbf,hx,(of_cut hL hx).2,List.cons_append,hr]⟩
theorem Qfc {L:List UInt8}:∀(n c:Nat),c<=(Qbf L n c).2
 |0,c=>Nat.le_refl _
 |n+1,c=>by
  cases hx:ofN L (c:Int)with
  |none=>simp[Qbf,hx]
  |some p=>
   obtain⟨x,d⟩:=p;have h1:=Qg0 hx;have h2:=Qfc (L:=L) n d;simp only[Qbf,hx];omega
theorem Qh7 {L:List UInt8} {m:Nat}:∀(n c:Nat),c<=m->(Qbf (L.take m) n c).2<=m
 |0,c,h=>h
 |n+1,c,h=>by
  cases hx:ofN (L.take m) (c:Int)with
  |none=>simp only[Qbf,hx];exact h
  |some p=>
   obtain⟨x,d⟩:=p;have h1:=(Qg0 hx).2;rw[List.length_take]at h1;simp only[Qbf,hx];exact Qh7 n d (by omega)
theorem Qh8 {L:List UInt8} (hL:L.length<=200000) {m:Nat}:∀(n n' c:Nat),n<=n' ->m<c+n->(Qbf L n' c).2<=m->(Qbf (L.take m) n c).1=(Qbf L n' c).1
 |0,n',c,_,h1,h2=>by have:=Qfc (L:=L) n' c;omega
 |n+1,n',c,h,h1,h2=>by
  obtain⟨k,rfl⟩:∃k,n' =k+1:=⟨n' - 1,by omega⟩
  cases hx:ofN L (c:Int)with
  |none=>
   have:ofN (L.take m) (c:Int)=none:=by
    cases hy:ofN (L.take m) (c:Int)with
    |none=>rfl
    |some p=>rw[(of_cut hL (x:=p.1) (c:=p.2) hy).2]at hx;cases hx
   simp only[Qbf,hx,this]
  |some p=>
   obtain⟨x,d⟩:=p;simp only[Qbf,hx]at h2;have h3:=Qfc (L:=L) k d;have h4:=Qg0 hx;have ih:=Qh8 hL n k d (by omega) (by omega) h2;have hy:=to_cut hL (m:=m) hx (by omega);simp only[Qbf,hx,hy,ih]
theorem notes_torn {L:List UInt8} (hL:L.length<=200000) {m:Nat} (hm:m<=L.length):(Qcl (L.take m)).2<=m/\(∃r,(Qcl L).1=(Qcl (L.take m)).1++r)/\((Qcl L).2<=m->(Qcl (L.take m)).1=(Qcl L).1):=by
 have e:(L.take m).length=m:=by rw[List.length_take];omega
 unfold Qcl;rw[e];exact⟨Qh7 _ _ (by omega),Qh5 hL _ _ _ (by omega),Qh8 hL _ _ _ (by omega) (by omega)⟩
def ntB (x:Nt):List UInt8:=Qdf x.kind x.term x.vote x.prev x.l x.snap
theorem Qf1 (L:List UInt8):∀(n c:Nat),c<=L.length->(Qbf L n c).1.flatMap ntB=(L.drop c).take ((Qbf L n c).2 - c)/\(Qbf L n c).2<=L.length
 |0,c,h=>by simp[Qbf,h]
 |n+1,c,h=>by
  cases hx:ofN L (c:Int)with
  |none=>simp[Qbf,hx,h]
  |some p=>
   obtain⟨x,d⟩:=p;obtain⟨h1,h2,h3,h4⟩:=Bk.ofN_inv hx;obtain⟨i1,i2⟩:=Qf1 L n d h2;have h5:=Qfc (L:=L) n d;simp only[Qbf,hx,List.flatMap_cons];refine⟨?_,i2⟩;have e:ntB x=Qb4 (Qco x.kind x.term x.vote x.prev x.l x.snap):=(by unfold ntB Qdf;exact if_pos h3);rw[e,h4,i1,show(Qbf L n d).2 - c=(d - c)+((Qbf L n d).2 - d)by omega,List.take_add,List.drop_drop,Nat.add_sub_cancel' h1]
theorem Qlb (L:List UInt8):(Qcl L).1.flatMap ntB=L.take (Qcl L).2/\(Qcl L).2<=L.length:=by
 have h:=Qf1 L (L.length+1) 0 (by omega);simpa [Qcl]using h
theorem Qjv {L:List UInt8} (hL:L.length<=200000):∀(n c:Nat),∀x∈(Qbf L n c).1,x.ok=true
 |0,c,x,hx=>by simp[Qbf]at hx
 |n+1,c,x,hx=>by
  cases h:ofN L (c:Int)with
  |none=>simp[Qbf,h]at hx
  |some p=>
   obtain⟨y,d⟩:=p;simp only[Qbf,h,List.mem_cons]at hx;rcases hx with rfl|hx
   . exact(spill hL h []).2.1
   . exact Qjv hL n d x hx
theorem notes_ok {L:List UInt8} (hL:L.length<=200000):∀x∈(Qcl L).1,x.ok=true:=Qjv hL _ _
theorem Qh6 (L:List UInt8):∀(n c:Nat),c<=L.length->(Qbf L n c).1.length+c<=(Qbf L n c).2/\(Qbf L n c).2<=L.length
 |0,c,hc=>by simp[Qbf];omega
 |n+1,c,hc=>by
  cases h:ofN L (c:Int)with
  |none=>simp[Qbf,h];omega
  |some p=>
   obtain⟨x,d⟩:=p;have h1:=Qg0 h;have h2:=Qh6 L n d h1.2;simp only[Qbf,h,List.length_cons];omega
theorem notes_len (L:List UInt8):(Qcl L).1.length<=L.length/\(Qcl L).2<=L.length:=by
 have h:=Qh6 L (L.length+1) 0 (by omega);unfold Qcl;omega
def upB (P:List Nt) (n:Nat):List UInt8:=(P.take n).flatMap ntB
theorem up_next (P:List Nt) (n:Nat) (h:n<P.length):upB P (n+1)=upB P n++ntB P[n]:=by
 unfold upB;rw[List.take_succ_eq_append_getElem h,List.flatMap_append];simp
theorem up_all (P:List Nt) (n:Nat) (h:P.length<=n):upB P n=P.flatMap ntB:=by
 unfold upB;rw[List.take_of_length_le h]
theorem up_le (P:List Nt) (n:Nat):(upB P n).length<=(P.flatMap ntB).length:=by
 have e:P.flatMap ntB=upB P n++(P.drop n).flatMap ntB:=by
  unfold upB;rw[← List.flatMap_append,List.take_append_drop]
 rw[e,List.length_append];omega
end Go.Proofs.YtajbldnhjpjghaaGreatDoor.Gen
