/-
  spec.GroupJoin of a client that is one, at groups that have as many beats as members: what it answers. No condition besides but that there are at most 1048576 members.
-/
import Derived.Test.YtajbldnhjpjghaaGreatKPt2
set_option linter.unusedVariables false
set_option linter.unusedSimpArgs false
set_option maxRecDepth 100000
set_option maxHeartbeats 8000000
set_option maxRecDepth 100000
set_option maxHeartbeats 8000000
namespace Go.Proofs.YtajbldnhjpjghaaGreat.Gen
open ChangeShapes WideShapes ChangeAt RowKit Joins Deep Base
theorem Qi2 (gen who time:Int) (hg:I64 gen) (hw:0<=who/\who<=3) (A B C:Option Addr) (ca cb cc:Nat) (m b o:List Int) (hm:m.length<=1000000) (hbm:b.length=m.length) (ho:o.length<=1048576) (hca:m.length<=ca/\ca<=9223372036854775807) (hcb:b.length<=cb/\cb<=9223372036854775807) (w:World) (hA:At w A m) (hB:At w B b) (hC:At w C o):
 Calls Tryz.prog 115 #[.agg (Qak gen A m.length ca B b.length cb C o.length cc),.int .i64 who,.int .i64 time] w fun e w' =>Qiv w w' e (Qf4 gen m who) (Qew m who) (Qf5 m b who time) o:=by
 have HA:=hidP hA;have HBM:=hidP hbm;have hb' :b.length<=1000000:=by omega
 clear hbm;have HB:=hidP hB;have HC:=hidP hC;clear hA hB hC;have I0:Wi w ((w.alloc (.cells (Qak gen A m.length ca B b.length cb C o.length cc) 143)).alloc (.cells Qcu 143)) gen (.slice A m.length ca) (.slice B b.length cb) (.slice C o.length cc):=⟨by repeat(first|exact Below.refl _ _|assumption|refine via0 (by assumption) ?_|refine Below.drew ?_|refine Qad ?_ _),(Blk.new w 143 (Qak gen A m.length ca B b.length cb C o.length cc)).alloc _,by have:=Blk.new (w.alloc (.cells (Qak gen A m.length ca B b.length cb C o.length cc) 143)) 143 Qcu;rw[World.size_alloc]at this;exact this⟩
 have hin:inB who 0 3=true:=by simp[inB];exact hw
 have hJM:Hid (Qew m who=match mAt m who with|none=>Qdv (Qhl m who) who m|some _=>m):=rfl;have hJB:Hid (Qf5 m b who time=match mAt m who with|none=>Qdv (Qhl m who) time b|some i=>b.set i time):=rfl;have hJG:Hid (Qf4 gen m who=match mAt m who with|none=>upF gen|some _=>gen):=rfl;have hZ:Hid (mAtZ m who=match mAt m who with|none=> -1|some i=>(i:Int)):=rfl;have hL:Hid (∀i,mAt m who=some i->i<m.length):=fun i h=>Qof h
 have HCt:Hid (∀W:World,Below w.heap.size w W->Calls Tryz.prog 123 #[.agg (Qak gen A m.length ca B b.length cb C o.length cc),.int .i64 who] W fun e w' =>e= .returned (.int .i64 (mAtZ m who))/\Below W.heap.size W w'):=fun W g=>Qlr gen who A B C ca cb cc m b o (by omega) W (HA.out.below g)
 generalize Qew m who=JM at hJM ⊢;generalize Qf5 m b who time=JB at hJB ⊢;generalize Qf4 gen m who=JG at hJG ⊢;generalize mAtZ m who=z at hZ HCt;generalize mAt m who=mo at hZ hL hJM hJB hJG;obtain⟨ca1,ca2⟩:=hca;obtain⟨cb1,cb2⟩:=hcb;go_enter Tryz.func115,Tryz.ntmps115;go_wp2_with fail;generalize (w.alloc (.cells (Qak gen A m.length ca B b.length cb C o.length cc) 143)).alloc (.cells Qcu 143)=X0 at I0 ⊢;refine(Qdp gen A B C ca cb cc m b o (by omega) (by omega) ho _ (HA.out.below I0.bl) (HB.out.below I0.bl) (HC.out.below I0.bl)).mono ?_;rintro e w2 ⟨a1,a2,a3,c1,c2,c3,F,rfl,g2,hG,hF,k1,k2⟩;have zr:=I0.r.lt;have zr2:=Nat.lt_of_lt_of_le zr g2.size;have I2:=(I0.below g2).alloc (.cells (Qak gen a1 m.length c1 a2 b.length c2 a3 o.length c3) 143);have P2:=Blk.new w2 143 (Qak gen a1 m.length c1 a2 b.length c2 a3 o.length c3);have G2:=hG.alloc (.cells (Qak gen a1 m.length c1 a2 b.length c2 a3 o.length c3) 143);have HF:Hid (∀x∈F,w.heap.size+1<x/\x≠w2.heap.size):=fun x hx=>by have:=hF x hx;have:=hG.lt x hx;exact⟨by omega,by omega⟩
 obtain⟨k11,k12⟩:=k1;obtain⟨k21,k22⟩:=k2;clear hG hF g2 I0 zr;obtain⟨u0,u1,u2,u3⟩:=I2.s4;go_wp2_with fail;generalize w2.alloc (.cells (Qak gen a1 m.length c1 a2 b.length c2 a3 o.length c3) 143)=X2 at I2 P2 G2 u0 u1 u2 u3 ⊢;generalize w2.heap.size=P at P2 HF zr2 ⊢;refine(Qcf _ _ _ _).mono ?_;rintro e w3 ⟨rfl,rfl⟩;rw[hin];go_wp2_with fail;refine(HCt.out _ I2.bl).mono ?_;rintro e w4 ⟨rfl,g4⟩;have I4:=I2.below g4;have P4:=P2.below g4 P2.lt;have G4:=hidP (G2.below g4);clear g4 u0 u1 u2 u3 I2 P2 G2;have hne1:P≠w.heap.size+1:=by omega
 have hne2:w.heap.size+1≠P:=by omega
 have hne3:P≠w.heap.size:=by omega
 have hne4:w.heap.size≠P:=by omega
 cases mo with
 |some i=>
  have ez:z=(i:Int):=hZ.out;have eM:JM=m:=hJM.out;have eB:Hid (JB=b.set i time):=hJB.out;have eG:JG=gen:=hJG.out;have hi:=hL.out i rfl;have hib:(i:Int)<(b.length:Int):=by have:=HBM.out;omega
  have hi0:(0:Int)<=(i:Int):=by omega
  have hlt:i<b.length:=by have:=HBM.out;omega
  subst ez eM eG;obtain⟨p0,p1,p2,p3⟩:=P4.row4;go_upto_region 7 with fail;obtain⟨b3,o3,e3,hb3,lb3,fz3,⟨v3,hv3⟩,hT3⟩:=Qoy G4.out hlt;subst e3;obtain⟨l3,l3'⟩:=HF.out b3 hb3;have hnp:P≠b3:=fun e=>l3' e.symm
  have hnr:w.heap.size+1≠b3:=by omega
  have hnr' :b3≠w.heap.size+1:=by omega
  have k5:Off [b3] w4 (w4.setCell ⟨b3,o3+i,none⟩ (.int .i64 time)):=Off.of_only ((Only.refl b3 w4).set _ _);have I5:=I4.off k5 l3;have P5:=P4.off k5 (by simpa using hnp);obtain⟨y0,y1,y2,y3⟩:=P5.row4;obtain⟨r0,r1,r2,r3⟩:=I5.r.row4;have f0:=I5.r.thaw 0;have f1:=I5.r.thaw 1;have f2:=I5.r.thaw 2;have f3:=I5.r.thaw 3;obtain⟨s0,s1,s2,s3⟩:=Qcr I5.r (.int .i64 JG) (.slice a1 JM.length c1) (.slice (some ⟨b3,o3,none⟩) b.length c2) (.slice a3 o.length c3);have hle:(b.set i time).length=b.length:=List.length_set;have T' :=Qc1 (gen' :=JG) (c1:=c1) (c2:=c2) (c3:=c3) I5 (hT3 time) (fun x hx=>by have:=HF.out x hx;omega);rw[hle]at T';have T:=hidP T';clear P4 P5 I4 I5 G4 k5 hT3 T' hle lb3;go_wp2;exact bodyPost_ret (v:= .agg (Qak JG a1 JM.length c1 (some ⟨b3,o3,none⟩) b.length c2 a3 o.length c3)) (by simp[results,Tryz.results115,go_sem,s0,s1,s2,s3]) rfl (by rw[eB.out];exact T.out)
 |none=>
  have ez:z= -1:=hZ.out;have eM:Hid (JM=Qdv (Qhl m who) who m):=hJM.out;have eB:Hid (JB=Qdv (Qhl m who) time b):=hJB.out;have eG:Hid (JG=upF gen):=hJG.out;subst ez;obtain⟨u0,u1,u2,u3⟩:=I4.s4;go_wp2
  go_loopw [8] (fun i W=>∃n:Nat,i= .int .i64 (n:Int)/\n<=m.length/\Hid (W=w4)/\Hid (∀x∈m.take n,x<who)) (fun i _=>m.length - (intOf i).toNat)
  case atStart=>exact⟨0,rfl,by omega,hidP rfl,by show ∀x∈_,_;simp⟩
  case round=>
   obtain⟨n,rfl,hn,hWr,hlow⟩:=hrel;have hWr' :=hWr.out;subst hWr';by_cases hgo:∃h:n<m.length,m[n]<who
   . obtain⟨hlt,hlw⟩:=hgo;obtain⟨b',o',rfl,hbs,hinA⟩:∃b o,A=some ⟨b,o,none⟩/\b<w.heap.size/\In w b o m:=by
      rcases HA.out with h|h
      . subst h;simp at hlt
      . exact h
     have cA:=(hinA.below hbs I4.bl).getInt n hlt;have hi0:(0:Int)<=(n:Int):=(by omega);have hi1:(n:Int)<(m.length:Int):=(by omega);have hi2:(n:Int)<(b.length:Int):=(by have:=HBM.out;omega);go_wp2;refine⟨⟨n+1,by go_num,by omega,(by first|exact hidP rfl|exact hidP trivial),?_⟩,by simp[intOf];omega⟩;show ∀x∈_,_;intro x hx;rw[List.take_succ_eq_append_getElem hlt,List.mem_append]at hx;rcases hx with hx|hx
     . exact hlow.out x hx
     . simp at hx;subst hx;exact hlw
   . have hnb:n<=b.length:=(by have:=HBM.out;omega);have hN:Hid (Qhl m who=n):=Qlt m who n hn hlow.out (fun h h2=>hgo ⟨h,h2⟩);have hex:n=m.length∨∃h:n<m.length,¬m[n]<who:=by
      by_cases h:n<m.length
      . exact .inr ⟨h,fun h2=>hgo ⟨h,h2⟩⟩
      . exact .inl (by omega)
     clear hgo;rcases hex with hx|⟨hlt,hlw⟩
     . have hi1:¬(n:Int)<(m.length:Int):=(by omega);clear hx;go_upto_region 12 with fail;clear hi1;obtain⟨x1,y1,wa,x2,y2,wb,x3,y3,wc,hr1,hr2,hr3,b1,b2,b3,ow⟩:=Qgc wr A (cutI A ca n) ca (ca - n) n (m.length - n) (m.take n) (m.drop n) who (by simp;omega) (by simp) (by simp;omega) (by simp;omega) (Qfx (HA.out.below I4.bl) n) (Qit (HA.out.below I4.bl) n ca1);have hct:∀W:World,(Instr.slice 63 (.slice A m.length ca) none (some (.int .i64 (n:Int))) none).run Tryz.prog W= .ok (.slice A n ca) W:=fun W=>Qiq A m.length ca n (by omega) ca2 W
       have hcf:∀W:World,(Instr.slice 63 (.slice A m.length ca) (some (.int .i64 (n:Int))) none none).run Tryz.prog W= .ok (.slice (cutI A ca n) (m.length - n) (ca - n)) W:=fun W=>Qfn A m.length ca n hn ca1 ca2 W
       have J4:Wo w wr gen (.slice A m.length ca) (.slice B b.length cb) (.slice C o.length cc) P a1 a2 a3 c1 c2 c3 m b o:=⟨I4,P4,⟨F,G4.out,fun x hx=>by have:=HF.out x hx;exact⟨by omega,this.2,by omega⟩⟩,zr2,⟨k11,k12⟩,⟨k21,k22⟩⟩
       have eln:n+1+(m.length - n)=(Qdv n who m).length:=(by simp[Qdv];omega);have K5:=J4.rep1 (l:=Qdv n who m) b3 ow eln;rw[← eln]at K5;obtain⟨N1,hN1⟩:∃N1,N1=n+1+(m.length - n):=⟨_,rfl⟩
       rw[← hN1]at K5 hr3 eln;have V3:=P4.below b3 P4.lt;obtain⟨q0,q1,q2,q3⟩:=V3.row4;have q4:=V3.thaw 1;have Sa:=(I4.alloc (.cells #[] 3)).s4;have Sb:=(I4.below b2).s4;obtain⟨sa0,sa1,sa2,sa3⟩:=Sa;obtain⟨sb0,sb1,sb2,sb3⟩:=Sb;have HK5:=hidP K5;have HE1:=hidP eln;clear V3 J4 K5 ow eln hN1 u0 u1 u2 u3 G4 I4 P4 b1 b2 b3;go_upto_region 13 with(at_builtin;refine Qac rfl _ _ _ rfl _ _ _ rfl rfl hr1 ?_)
       go_upto_region 14 with(at_builtin;refine Qac rfl _ _ _ rfl _ _ _ rfl rfl hr2 ?_)
       go_upto_region 15 with(at_builtin;refine Qac rfl _ _ _ rfl _ _ _ rfl rfl hr3 ?_)
       generalize wc.setCell ⟨P,1,none⟩ (.slice x3 N1 y3)=X5 at HK5 ⊢;clear hr1 hr2 hr3 hct hcf q0 q1 q2 q3 q4 sa0 sa1 sa2 sa3 sb0 sb1 sb2 sb3;have I6:=HK5.out.i;have P6:=HK5.out.p;rw[← HE1.out]at P6;obtain⟨u1',v1',wa',u2',v2',wb',u3',v3',wc',hs1,hs2,hs3,d1,d2,d3,ow'⟩:=Qgc X5 B (cutI B cb n) cb (cb - n) n (b.length - n) (b.take n) (b.drop n) time (by simp;omega) (by simp) (by simp;omega) (by simp;omega) (Qfx (HB.out.below I6.bl) n) (Qit (HB.out.below I6.bl) n cb1);have hct:∀W:World,(Instr.slice 63 (.slice B b.length cb) none (some (.int .i64 (n:Int))) none).run Tryz.prog W= .ok (.slice B n cb) W:=fun W=>Qiq B b.length cb n (by omega) cb2 W
       have hcf:∀W:World,(Instr.slice 63 (.slice B b.length cb) (some (.int .i64 (n:Int))) none none).run Tryz.prog W= .ok (.slice (cutI B cb n) (b.length - n) (cb - n)) W:=fun W=>Qfn B b.length cb n (by omega) cb1 cb2 W
       have elm:n+1+(b.length - n)=(Qdv n time b).length:=(by simp[Qdv];omega);have K7:=HK5.out.rep2 (l:=Qdv n time b) d3 ow' elm;rw[← elm]at K7;obtain⟨N2,hN2⟩:∃N2,N2=n+1+(b.length - n):=⟨_,rfl⟩
       rw[← hN2]at K7 hs3 elm;have V3:=P6.below d3 P6.lt;obtain⟨q0,q1,q2,q3⟩:=V3.row4;have q4:=V3.thaw 2;obtain⟨sa0,sa1,sa2,sa3⟩:=(I6.alloc (.cells #[] 3)).s4;obtain⟨sb0,sb1,sb2,sb3⟩:=(I6.below d2).s4;have HK7:=hidP K7;have HE2:=hidP elm;clear V3 K7 ow' elm hN2 HK5 I6 P6 d1 d2 d3;go_upto_region 16 with(at_builtin;refine Qac rfl _ _ _ rfl _ _ _ rfl rfl hs1 ?_)
       go_upto_region 17 with(at_builtin;refine Qac rfl _ _ _ rfl _ _ _ rfl rfl hs2 ?_)
       go_upto_region 18 with(at_builtin;refine Qac rfl _ _ _ rfl _ _ _ rfl rfl hs3 ?_)
       generalize wc'.setCell ⟨P,2,none⟩ (.slice u3' N2 v3')=X7 at HK7 ⊢;clear hs1 hs2 hs3 hct hcf q0 q1 q2 q3 q4 sa0 sa1 sa2 sa3 sb0 sb1 sb2 sb3;obtain⟨u0,u1,u2,u3⟩:=HK7.out.i.s4;go_wp2_with fail;refine(Qgb gen hg _).mono ?_;rintro e w9 ⟨rfl,h9⟩;subst w9;obtain⟨F8,hG8,hF8⟩:=HK7.out.f;have P8:=HK7.out.p;rw[← HE1.out,← HE2.out]at P8;have k3:Off [P] X7 (X7.setCell ⟨P,0,none⟩ (.int .i64 (upF gen))):=Qb4 (Off.refl _ _) _ 0 _ (by simp);have I9:=HK7.out.i.off k3 zr2;have P9:Blk (X7.setCell ⟨P,0,none⟩ (.int .i64 (upF gen))) P 143 (Qak (upF gen) x3 N1 y3 u3' N2 v3' a3 o.length c3):=P8.setAt 0 _;have G9:=hG8.off k3 (fun x hx=>by have:=(hF8 x hx).2.1;simpa using this);obtain⟨x0',x1',x2',x3'⟩:=P8.row4;obtain⟨t0,t1,t2,t3⟩:=P9.row4;have yy0:=P8.thaw 0;obtain⟨r0,r1,r2,r3⟩:=I9.r.row4;have f0:=I9.r.thaw 0;have f1:=I9.r.thaw 1;have f2:=I9.r.thaw 2;have f3:=I9.r.thaw 3;obtain⟨s0,s1,s2,s3⟩:=Qcr I9.r (.int .i64 (upF gen)) (.slice x3 N1 y3) (.slice u3' N2 v3') (.slice a3 o.length c3);have T' :=Qc1 (gen' :=upF gen) (c1:=y3) (c2:=v3') (c3:=c3) I9 G9 (fun x hx=>by have:=hF8 x hx;exact⟨this.1,this.2.2⟩);rw[← HE1.out,← HE2.out]at T';have T:=hidP T';clear T' P8 P9 I9 G9 k3 hG8 hF8;go_wp2;exact bodyPost_ret (v:= .agg (Qak (upF gen) x3 N1 y3 u3' N2 v3' a3 o.length c3)) (by simp[results,Tryz.results115,go_sem,s0,s1,s2,s3]) rfl (by rw[eM.out,eB.out,eG.out,hN.out];exact T.out)
     . obtain⟨b',o',rfl,hbs,hinA⟩:∃b o,A=some ⟨b,o,none⟩/\b<w.heap.size/\In w b o m:=by
        rcases HA.out with h|h
        . subst h;simp at hlt
        . exact h
       have cA:=(hinA.below hbs I4.bl).getInt n hlt;have hi0:(0:Int)<=(n:Int):=(by omega);have hi1:(n:Int)<(m.length:Int):=(by omega);have hi2:(n:Int)<(b.length:Int):=(by have:=HBM.out;omega);go_upto_region 12 with fail;clear cA hi0 hi1 hi2 hlw;generalize (some ⟨b',o',none⟩:Option Addr)=A at*;obtain⟨x1,y1,wa,x2,y2,wb,x3,y3,wc,hr1,hr2,hr3,b1,b2,b3,ow⟩:=Qgc wr A (cutI A ca n) ca (ca - n) n (m.length - n) (m.take n) (m.drop n) who (by simp;omega) (by simp) (by simp;omega) (by simp;omega) (Qfx (HA.out.below I4.bl) n) (Qit (HA.out.below I4.bl) n ca1);have hct:∀W:World,(Instr.slice 63 (.slice A m.length ca) none (some (.int .i64 (n:Int))) none).run Tryz.prog W= .ok (.slice A n ca) W:=fun W=>Qiq A m.length ca n (by omega) ca2 W
       have hcf:∀W:World,(Instr.slice 63 (.slice A m.length ca) (some (.int .i64 (n:Int))) none none).run Tryz.prog W= .ok (.slice (cutI A ca n) (m.length - n) (ca - n)) W:=fun W=>Qfn A m.length ca n hn ca1 ca2 W
       have J4:Wo w wr gen (.slice A m.length ca) (.slice B b.length cb) (.slice C o.length cc) P a1 a2 a3 c1 c2 c3 m b o:=⟨I4,P4,⟨F,G4.out,fun x hx=>by have:=HF.out x hx;exact⟨by omega,this.2,by omega⟩⟩,zr2,⟨k11,k12⟩,⟨k21,k22⟩⟩
       have eln:n+1+(m.length - n)=(Qdv n who m).length:=(by simp[Qdv];omega);have K5:=J4.rep1 (l:=Qdv n who m) b3 ow eln;rw[← eln]at K5;obtain⟨N1,hN1⟩:∃N1,N1=n+1+(m.length - n):=⟨_,rfl⟩
       rw[← hN1]at K5 hr3 eln;have V3:=P4.below b3 P4.lt;obtain⟨q0,q1,q2,q3⟩:=V3.row4;have q4:=V3.thaw 1;have Sa:=(I4.alloc (.cells #[] 3)).s4;have Sb:=(I4.below b2).s4;obtain⟨sa0,sa1,sa2,sa3⟩:=Sa;obtain⟨sb0,sb1,sb2,sb3⟩:=Sb;have HK5:=hidP K5;have HE1:=hidP eln;clear V3 J4 K5 ow eln hN1 u0 u1 u2 u3 G4 I4 P4 b1 b2 b3;go_upto_region 13 with(at_builtin;refine Qac rfl _ _ _ rfl _ _ _ rfl rfl hr1 ?_)
       go_upto_region 14 with(at_builtin;refine Qac rfl _ _ _ rfl _ _ _ rfl rfl hr2 ?_)
       go_upto_region 15 with(at_builtin;refine Qac rfl _ _ _ rfl _ _ _ rfl rfl hr3 ?_)
       generalize wc.setCell ⟨P,1,none⟩ (.slice x3 N1 y3)=X5 at HK5 ⊢;clear hr1 hr2 hr3 hct hcf q0 q1 q2 q3 q4 sa0 sa1 sa2 sa3 sb0 sb1 sb2 sb3;have I6:=HK5.out.i;have P6:=HK5.out.p;rw[← HE1.out]at P6;obtain⟨u1',v1',wa',u2',v2',wb',u3',v3',wc',hs1,hs2,hs3,d1,d2,d3,ow'⟩:=Qgc X5 B (cutI B cb n) cb (cb - n) n (b.length - n) (b.take n) (b.drop n) time (by simp;omega) (by simp) (by simp;omega) (by simp;omega) (Qfx (HB.out.below I6.bl) n) (Qit (HB.out.below I6.bl) n cb1);have hct:∀W:World,(Instr.slice 63 (.slice B b.length cb) none (some (.int .i64 (n:Int))) none).run Tryz.prog W= .ok (.slice B n cb) W:=fun W=>Qiq B b.length cb n (by omega) cb2 W
       have hcf:∀W:World,(Instr.slice 63 (.slice B b.length cb) (some (.int .i64 (n:Int))) none none).run Tryz.prog W= .ok (.slice (cutI B cb n) (b.length - n) (cb - n)) W:=fun W=>Qfn B b.length cb n (by omega) cb1 cb2 W
       have elm:n+1+(b.length - n)=(Qdv n time b).length:=(by simp[Qdv];omega);have K7:=HK5.out.rep2 (l:=Qdv n time b) d3 ow' elm;rw[← elm]at K7;obtain⟨N2,hN2⟩:∃N2,N2=n+1+(b.length - n):=⟨_,rfl⟩
       rw[← hN2]at K7 hs3 elm;have V3:=P6.below d3 P6.lt;obtain⟨q0,q1,q2,q3⟩:=V3.row4;have q4:=V3.thaw 2;obtain⟨sa0,sa1,sa2,sa3⟩:=(I6.alloc (.cells #[] 3)).s4;obtain⟨sb0,sb1,sb2,sb3⟩:=(I6.below d2).s4;have HK7:=hidP K7;have HE2:=hidP elm;clear V3 K7 ow' elm hN2 HK5 I6 P6 d1 d2 d3;go_upto_region 16 with(at_builtin;refine Qac rfl _ _ _ rfl _ _ _ rfl rfl hs1 ?_)
       go_upto_region 17 with(at_builtin;refine Qac rfl _ _ _ rfl _ _ _ rfl rfl hs2 ?_)
       go_upto_region 18 with(at_builtin;refine Qac rfl _ _ _ rfl _ _ _ rfl rfl hs3 ?_)
       generalize wc'.setCell ⟨P,2,none⟩ (.slice u3' N2 v3')=X7 at HK7 ⊢;clear hs1 hs2 hs3 hct hcf q0 q1 q2 q3 q4 sa0 sa1 sa2 sa3 sb0 sb1 sb2 sb3;obtain⟨u0,u1,u2,u3⟩:=HK7.out.i.s4;go_wp2_with fail;refine(Qgb gen hg _).mono ?_;rintro e w9 ⟨rfl,h9⟩;subst w9;obtain⟨F8,hG8,hF8⟩:=HK7.out.f;have P8:=HK7.out.p;rw[← HE1.out,← HE2.out]at P8;have k3:Off [P] X7 (X7.setCell ⟨P,0,none⟩ (.int .i64 (upF gen))):=Qb4 (Off.refl _ _) _ 0 _ (by simp);have I9:=HK7.out.i.off k3 zr2;have P9:Blk (X7.setCell ⟨P,0,none⟩ (.int .i64 (upF gen))) P 143 (Qak (upF gen) x3 N1 y3 u3' N2 v3' a3 o.length c3):=P8.setAt 0 _;have G9:=hG8.off k3 (fun x hx=>by have:=(hF8 x hx).2.1;simpa using this);obtain⟨x0',x1',x2',x3'⟩:=P8.row4;obtain⟨t0,t1,t2,t3⟩:=P9.row4;have yy0:=P8.thaw 0;obtain⟨r0,r1,r2,r3⟩:=I9.r.row4;have f0:=I9.r.thaw 0;have f1:=I9.r.thaw 1;have f2:=I9.r.thaw 2;have f3:=I9.r.thaw 3;obtain⟨s0,s1,s2,s3⟩:=Qcr I9.r (.int .i64 (upF gen)) (.slice x3 N1 y3) (.slice u3' N2 v3') (.slice a3 o.length c3);have T' :=Qc1 (gen' :=upF gen) (c1:=y3) (c2:=v3') (c3:=c3) I9 G9 (fun x hx=>by have:=hF8 x hx;exact⟨this.1,this.2.2⟩);rw[← HE1.out,← HE2.out]at T';have T:=hidP T';clear T' P8 P9 I9 G9 k3 hG8 hF8;go_wp2;exact bodyPost_ret (v:= .agg (Qak (upF gen) x3 N1 y3 u3' N2 v3' a3 o.length c3)) (by simp[results,Tryz.results115,go_sem,s0,s1,s2,s3]) rfl (by rw[eM.out,eB.out,eG.out,hN.out];exact T.out)
end Go.Proofs.YtajbldnhjpjghaaGreat.Gen
namespace Go.Proofs.YtajbldnhjpjghaaGreat.Items
open ChangeShapes WideShapes ChangeAt RowKit Shelf Base
def dv (off len:Int):Int:=wrap64 (Int.tdiv off len)
def Qmm (W:World) (B:Nat):Nat:=match W.cell? ⟨B,2,none⟩with|some (.slice _ n _)=>n|_=>0
theorem Qlq {W:World} {B n c:Nat} {a:Option Addr} (h:W.cell? ⟨B,2,none⟩=some (.slice a n c)):Qmm W B=n:=by simp[Qmm,h]
theorem In.tail {w:World} {b o:Nat} {x:It} {l:List It} (h:In w b o (x::l)):In w b (o+5) l:=fun j v hv=>by
 have:=h (5+j) v (by rw[Qcv,List.getElem?_append_right (by rw[It.cs_length];omega),It.cs_length];simpa using hv);rwa [← Nat.add_assoc]at this
def Qft (off length:Int):Int:=wrap64 (wrap64 (dv off length+1) *length)
theorem Ql1 {off length:Int} (h0:0<=off) (h1:off<=100000) (h2:1<=length) (h3:length<=9223372036854775807):Qft off length=(off / length+1) *length/\off<(off / length+1) *length:=by
 have e1:Int.tdiv off length=off / length:=Int.tdiv_eq_ediv_of_nonneg h0;have q0:0<=off / length:=Int.ediv_nonneg h0 (by omega);have q1:off / length<=off:=Int.ediv_le_self _ h0;have q2:off / length*length<=off:=Int.ediv_mul_le _ (by omega);have lt:off<(off / length+1) *length:=Int.lt_ediv_add_one_mul_self off (by omega);have ex:(off / length+1) *length=off / length*length+length:=by rw[Int.add_mul,Int.one_mul]
 have up:(off / length+1) *length<=9223372036854775807:=by
  by_cases hz:off / length=0
  . rw[hz];omega
  . have:length<=off:=by
     have hq:1<=off / length:=(by omega);have:1*length<=off / length*length:=Int.mul_le_mul_of_nonneg_right hq (by omega);omega
    omega
 refine⟨?_,lt⟩;have w1:dv off length=off / length:=by unfold dv;rw[e1];unfold wrap64;omega
 have w2:wrap64 (off / length+1)=off / length+1:=by unfold wrap64;omega
 unfold Qft;rw[w1,w2];have:0<=(off / length+1) *length:=by omega
 generalize (off / length+1) *length=z at*;unfold wrap64;omega
def Qkv (l:List It):Prop:=∀x∈l,0<=x.off/\x.off<=100000
def trimF (next length keep:Int):Nat->Int->List It->Int × List It
  |0,st,m=>(st,m)
  |n+1,st,[]=>(st,[])
  |n+1,st,x::t=>if keep<((x::t).length:Int)/\¬dv x.off length=dv (IntKind.i64.wrap (next - 1)) length then trimF next length keep n (Qft x.off length) ((x::t).dropWhile fun y=>decide (y.off<Qft x.off length))else(st,x::t)
theorem hidP {p:Prop} (h:p):Hid p:=h
theorem Qsj (p:It->Bool) (l:List It):(l.dropWhile p).length<=l.length:=(List.dropWhile_sublist p).length_le
def up (l:List It):Prop:=l.Pairwise fun x y=>x.off<y.off
theorem Ql3 (start nb:Int):∀(l:List It) (p:Option Int),Qfv start nb p l=true->up l/\(∀x∈l,start<=x.off/\x.off<=nb)/\(∀o,p=some o->∀x∈l,o<x.off)
 | [],p,h=>⟨List.Pairwise.nil,by simp,by simp⟩
 |y::l,p,h=>by
  have hs:Qfv start nb (some y.off) l=true/\(start<=y.off/\y.off<=nb)/\(∀o,p=some o->o<y.off):=by
   cases p with
   |none=>simp only[Qfv,Bool.and_eq_true,inB,decide_eq_true_eq]at h;exact⟨h.2,h.1.1.2,by simp⟩
   |some o=>simp only[Qfv,Bool.and_eq_true,inB,decide_eq_true_eq]at h;exact⟨h.2,h.1.1.2,fun o' e=>by cases e;exact h.1.2⟩
  obtain⟨i1,i2,i3⟩:=Ql3 start nb l (some y.off) hs.1;refine⟨List.Pairwise.cons (fun x hx=>i3 _ rfl x hx) i1,?_,?_⟩
  . intro x hx;rcases List.mem_cons.1 hx with rfl|hx
    . exact hs.2.1
    . exact i2 x hx
  . intro o ho x hx;rcases List.mem_cons.1 hx with rfl|hx
    . exact hs.2.2 o ho
    . have:=hs.2.2 o ho;have:=i3 _ rfl x hx;omega
theorem Qrv {start next:Int} {l:List It} (h:rowB start next l=true):up l/\Qkv l/\l.length<=80:=by
 simp only[rowB,Bool.and_eq_true,inB,decide_eq_true_eq]at h;obtain⟨i1,i2,_⟩:=Ql3 start (next - 1) l none h.1.1.1;exact⟨i1,fun x hx=>by have:=i2 x hx;omega,h.2⟩
theorem Qe1 {p q:It->Bool}:∀{l:List It},(∀y∈l,p y=q y)->l.dropWhile p=l.dropWhile q
 | [],_=>rfl
 |y::l,h=>by
  have hy:=h y (by simp);have:=Qe1 (l:=l) (fun z hz=>h z (by simp[hz]));simp only[List.dropWhile_cons,hy,this]
theorem Qqy {off length:Int} (h0:0<=off) (h1:off<=100000) (h2:1<=length):dv off length=off / length:=by
 have e1:Int.tdiv off length=off / length:=Int.tdiv_eq_ediv_of_nonneg h0;have q0:0<=off / length:=Int.ediv_nonneg h0 (by omega);have q1:off / length<=off:=Int.ediv_le_self _ h0;unfold dv;rw[e1];unfold wrap64;omega
theorem Qpk {x:It} {t:List It} {length:Int} (hu:up (x::t)) (ho:Qkv (x::t)) (h1:1<=length) (h2:length<=9223372036854775807):
 (x::t).dropWhile (fun y=>decide (y.off<Qft x.off length))=(x::t).dropWhile (fun y=>decide (dv y.off length=dv x.off length)):=by
 apply Qe1;intro y hy;have hx:=ho x (by simp);have hy' :=ho y hy;have hle:x.off<=y.off:=by
  rcases List.mem_cons.1 hy with rfl|hy
  . exact Int.le_refl _
  . exact Int.le_of_lt ((List.pairwise_cons.1 hu).1 y hy)
 obtain⟨he,_⟩:=Ql1 hx.1 hx.2 h1 h2;rw[he,Qqy hx.1 hx.2 h1,Qqy hy'.1 hy'.2 h1];have hm:x.off / length<=y.off / length:=Int.ediv_le_ediv (by omega) hle;have hi:y.off<(x.off / length+1) *length↔y.off / length<x.off / length+1:=(Int.ediv_lt_iff_lt_mul (by omega)).symm;rw[decide_eq_decide,hi];omega
theorem Qrm {l:List It} (h:up l) (p:It->Bool):up (l.dropWhile p):=List.Pairwise.sublist (List.dropWhile_sublist p) h
theorem Qp7 {l:List It} (h:Qkv l) (p:It->Bool):Qkv (l.dropWhile p):=fun y hy=>h y ((List.dropWhile_sublist p).subset hy)
theorem Qpr (x:Int):IntKind.i64.wrap x=wrap64 x:=by rw[IntKind.wrap_i64];unfold wrap64;rfl
def Qeg (key:List UInt8) (l:List It):Bool:=l.any fun y=>y.key.toList==key
def Qej (nb length:Int) (x:It) (t:List It):Bool:=x.key.toList== []|| !Qeg x.key.toList t||(dv x.off length==dv nb length)
def packF (nb length:Int):List It->List It
  | []=> []
  |x::t=>if Qej nb length x t then x::packF nb length t else packF nb length t
theorem Qgt {nb length:Int} {l:List It} {n:Nat} (h:n<l.length) (hs:Qej nb length l[n] (l.drop (n+1))=true):packF nb length (l.drop n)=l[n]::packF nb length (l.drop (n+1)):=by
 rw[List.drop_eq_getElem_cons h,packF,if_pos hs]
theorem Qp6 {nb length:Int} {l:List It} {n:Nat} (h:n<l.length) (hs:Qej nb length l[n] (l.drop (n+1))=false):packF nb length (l.drop n)=packF nb length (l.drop (n+1)):=by
 rw[List.drop_eq_getElem_cons h,packF,if_neg (by simp[hs])]
theorem Qgu (nb length:Int):∀l:List It,(packF nb length l).Sublist l
 | []=>List.Sublist.slnil
 |x::t=>by
  unfold packF;split
  . exact(Qgu nb length t).cons_cons x
  . exact(Qgu nb length t).cons x
def packB (start next length:Int) (l:List It):Bool:=decide (1<=length)&&rowB start next l
def packL (start next length:Int) (l:List It):List It:=if packB start next length l then packF (IntKind.i64.wrap (next - 1)) length l else l
theorem Qk7 {key:List UInt8} {l:List It} {k:Nat} (h:k<l.length):Qeg key (l.drop k)=(l[k].key.toList==key||Qeg key (l.drop (k+1))):=by
 unfold Qeg;rw[List.drop_eq_getElem_cons h,List.any_cons]
theorem Qkh (start nb:Int):∀(l:List It) (p:Option Int),Qfv start nb p l=true↔(∀x∈l,itemB x=true/\start<=x.off/\x.off<=nb)/\up l/\(∀o,p=some o->∀x∈l,o<x.off)
 | [],p=>by simp[Qfv,up]
 |y::l,p=>by
  have ih:=Qkh start nb l (some y.off);have hp:Qfv start nb p (y::l)=true↔(itemB y=true/\(start<=y.off/\y.off<=nb))/\(∀o,p=some o->o<y.off)/\Qfv start nb (some y.off) l=true:=by
   cases p with
   |none=>simp only[Qfv,Bool.and_eq_true,inB,decide_eq_true_eq];simp
   |some o=>simp only[Qfv,Bool.and_eq_true,inB,decide_eq_true_eq];simp[and_assoc]
  rw[hp,ih]
  constructor
  . rintro ⟨⟨h1,h2⟩,h3,h4,h5,h6⟩;refine⟨?_,List.Pairwise.cons (fun x hx=>h6 _ rfl x hx) h5,?_⟩
    . intro x hx;rcases List.mem_cons.1 hx with rfl|hx
      . exact⟨h1,h2⟩
      . exact h4 x hx
    . intro o ho x hx;rcases List.mem_cons.1 hx with rfl|hx
      . exact h3 o ho
      . have:=h3 o ho;have:=h6 _ rfl x hx;omega
  . rintro ⟨h1,h2,h3⟩;have hu:=List.pairwise_cons.1 h2;exact⟨⟨(h1 y (by simp)).1,(h1 y (by simp)).2⟩,fun o ho=>h3 o ho y (by simp),fun x hx=>h1 x (by simp[hx]),hu.2,fun o ho x hx=>by cases ho;exact hu.1 x hx⟩
theorem rowB_iff (start next:Int) (l:List It):rowB start next l=true↔(∀x∈l,itemB x=true/\start<=x.off/\x.off<=next - 1)/\up l/\0<=start/\start<=next/\next<=100000/\l.length<=80:=by
 have hc:Qa7 start (next - 1) l 0=Qfv start (next - 1) none l:=by simp[Qa7,Qkt]
 simp only[rowB,Bool.and_eq_true,inB,decide_eq_true_eq,hc,Qkh]
 constructor
 . rintro ⟨⟨⟨⟨h1,h2,_⟩,h3,h4⟩,h5⟩,h6⟩;exact⟨h1,h2,h3,h4,h5,h6⟩
 . rintro ⟨h1,h2,h3,h4,h5,h6⟩;exact⟨⟨⟨⟨h1,h2,by simp⟩,h3,h4⟩,h5⟩,h6⟩
theorem Qnt {start next:Int} {l m:List It} (h:rowB start next l=true) (hs:m.Sublist l):rowB start next m=true:=by
 rw[rowB_iff]at h ⊢;exact⟨fun x hx=>h.1 x (hs.subset hx),List.Pairwise.sublist hs h.2.1,h.2.2.1,h.2.2.2.1,h.2.2.2.2.1,Nat.le_trans hs.length_le h.2.2.2.2.2⟩
theorem right_pack {start next length:Int} {l:List It} (h:rowB start next l=true):rowB start next (packF (IntKind.i64.wrap (next - 1)) length l)=true:=Qnt h (Qgu _ _ _)
theorem right_trim (next length keep:Int) (hl:1<=length) (hl' :length<=9223372036854775807):∀(n:Nat) (st:Int) (m:List It),rowB st next m=true->rowB (trimF next length keep n st m).1 next (trimF next length keep n st m).2=true/\st<=(trimF next length keep n st m).1
 |0,st,m,h=>⟨h,Int.le_refl _⟩
 |n+1,st,[],h=>⟨h,Int.le_refl _⟩
 |n+1,st,x::t,h=>by
  simp only[trimF];split
  . rename_i hc;have hr:=(rowB_iff _ _ _).1 h;obtain⟨h1,h2,h3,h4,h5,h6⟩:=hr;have hx:=(h1 x (by simp)).2;have hx0:0<=x.off:=(by omega);have hx1:x.off<=100000:=(by omega);obtain⟨he,hlt⟩:=Ql1 hx0 hx1 hl hl';have hw:IntKind.i64.wrap (next - 1)=next - 1:=by rw[IntKind.wrap_i64];omega
    have hd:¬x.off / length=(next - 1) / length:=by
     have:=hc.2;rw[hw,Qqy hx0 hx1 hl,Qqy (by omega) (by omega) hl]at this;exact this
    have hle:x.off / length<=(next - 1) / length:=Int.ediv_le_ediv (by omega) hx.2;have hE:Qft x.off length<=next - 1:=by
     rw[he];have h1' :x.off / length+1<=(next - 1) / length:=(by omega);have h2' :(x.off / length+1) *length<=(next - 1) / length*length:=Int.mul_le_mul_of_nonneg_right h1' (by omega);have h3' :(next - 1) / length*length<=next - 1:=Int.ediv_mul_le _ (by omega)
     omega
    have hE0:st<=Qft x.off length:=(by rw[he];omega);generalize Qft x.off length=E at*;have hD:rowB E next ((x::t).dropWhile fun y=>decide (y.off<E))=true:=by
     rw[rowB_iff];have hsub:((x::t).dropWhile fun y=>decide (y.off<E)).Sublist (x::t):=List.dropWhile_sublist _;refine⟨?_,List.Pairwise.sublist hsub h2,by omega,by omega,h5,Nat.le_trans hsub.length_le h6⟩;have key:∀(l:List It),up l->∀y∈l.dropWhile (fun y=>decide (y.off<E)),E<=y.off:=by
      intro l
      induction l with
      |nil=>intro _ y hy;simp at hy
      |cons z l ih=>
       intro hu y hy;have hu' :=List.pairwise_cons.1 hu;by_cases hz:z.off<E
       . rw[List.dropWhile_cons_of_pos (by simpa using hz)]at hy;exact ih hu'.2 y hy
       . rw[List.dropWhile_cons_of_neg (by simpa using hz)]at hy;rcases List.mem_cons.1 hy with rfl|hy
         . omega
         . have:=hu'.1 y hy;omega
     intro y hy;have:=h1 y (hsub.subset hy);exact⟨this.1,key _ h2 y hy,this.2.2⟩
    have:=right_trim next length keep hl hl' n E _ hD
    exact⟨this.1,by omega⟩
  . exact⟨h,Int.le_refl _⟩
def findFrom (l:List It) (off:Int) (n:Nat):Option It:=(l.drop n).find? fun x=>decide (off<=x.off)
theorem Qka {l:List It} {off:Int} {n:Nat} (h:l.length<=n):findFrom l off n=none:=by
 unfold findFrom;rw[List.drop_eq_nil_of_le h];rfl
theorem Qj9 {l:List It} {off:Int} {n:Nat} (h:n<l.length) (hx:off<=l[n].off):findFrom l off n=some l[n]:=by
 unfold findFrom;rw[List.drop_eq_getElem_cons h,List.find?_cons_of_pos (by simpa using hx)]
theorem Qim {l:List It} {off:Int} {n:Nat} (h:n<l.length) (hx:¬off<=l[n].off):findFrom l off n=findFrom l off (n+1):=by
 unfold findFrom;rw[List.drop_eq_getElem_cons h,List.find?_cons_of_neg (by simpa using hx)]
def getIt (start:Int) (l:List It) (off:Int):It:=if off<start then It.zero else(findFrom l off 0).getD It.zero
def getHow (start:Int) (l:List It) (off:Int):Int:=if off<start then 1 else if(findFrom l off 0).isSome then 0 else 2
theorem specRowGet_any (start next off:Int) (A:Option Addr) (cap:Nat) (l:List It) (hl:l.length<=1048576) (w:World) (hA:l= []∨∃b o,A=some ⟨b,o,none⟩/\b<w.heap.size/\In w b o l):
 Calls Tryz.prog 120 #[.agg (Qa5 start next A l.length cap),.int .i64 off] w
  fun e w' =>e= .returned (.tuple #[(getIt start l off).v,.int .i64 (getHow start l off)])/\Below w.heap.size w w' :=by
 by_cases h0:off<start
 . have e1:getIt start l off=It.zero:=(by simp[getIt,h0]);have e2:getHow start l off=1:=(by simp[getHow,h0]);rw[e1,e2];go_enter Tryz.func120,Tryz.ntmps120;go_wp2;exact bodyPost_ret (v:= .tuple #[It.zero.v,.int .i64 1]) (by simp[results,Tryz.results120,go_sem,It.zero,It.v]) rfl ⟨rfl,by repeat(first|exact Below.refl _ _|assumption|refine via0 (by assumption) ?_|refine Below.drew ?_|refine Qad ?_ _|refine Below.setCell ?_ (by first|exact Nat.le_refl _|(simp;done)|(simp;omega)) _)⟩
 . have e1:getIt start l off=(findFrom l off 0).getD It.zero:=(by simp[getIt,h0]);have e2:getHow start l off=if(findFrom l off 0).isSome then 0 else 2:=by simp[getHow,h0]
   have E1:Hid (getIt start l off=(findFrom l off 0).getD It.zero):=e1;have E2:Hid (getHow start l off=if(findFrom l off 0).isSome then 0 else 2):=e2;have HA:Hid (l= []∨∃b o,A=some ⟨b,o,none⟩/\b<w.heap.size/\In w b o l):=hA;clear hA e1 e2;go_enter Tryz.func120,Tryz.ntmps120;go_wp2
   go_loopw [6] (fun i w' =>∃(n:Nat),i= .int .i64 (n:Int)/\n<=l.length/\w' =(w.alloc (.cells (Qa5 start next A l.length cap) 134)).alloc (.cells Qdy 136)/\Hid (findFrom l off n=findFrom l off 0)) (fun i _=>l.length - (intOf i).toNat)
   case atStart=>exact⟨0,rfl,by omega,rfl,rfl⟩
   case round=>
    obtain⟨n,rfl,hn,rfl,hf⟩:=hrel;by_cases hlt:n<l.length
    . obtain⟨b,o,rfl,hbs,hin⟩:∃b o,A=some ⟨b,o,none⟩/\b<w.heap.size/\In w b o l:=by
       rcases HA.out with h|h
       . subst h;simp at hlt
       . exact h
      obtain⟨c0,c1,c2,c3,c4⟩:=hin.get n hlt;by_cases hx:l[n].off>=off
      . have hF:Hid (findFrom l off 0=some l[n]):=(by show findFrom l off 0=some l[n];rw[← hf.out,Qj9 hlt hx]);go_wp2;exact bodyPost_ret (v:= .tuple #[l[n].v,.int .i64 0]) (by simp[results,Tryz.results120,go_sem,It.v]) rfl ⟨by rw[E1.out,E2.out,hF.out];rfl,by repeat(first|exact Below.refl _ _|assumption|refine via0 (by assumption) ?_|refine Below.drew ?_|refine Qad ?_ _|refine Below.setCell ?_ (by first|exact Nat.le_refl _|(simp;done)|(simp;omega)) _)⟩
      . have hF:Hid (findFrom l off (n+1)=findFrom l off 0):=(by show findFrom l off (n+1)=findFrom l off 0;rw[← hf.out,Qim hlt hx]);go_wp2;exact⟨⟨n+1,by go_num,by omega,by first|trivial|rfl,hF⟩,by simp[intOf];omega⟩
    . have hF:Hid (findFrom l off 0=none):=(by show findFrom l off 0=none;rw[← hf.out,Qka (by omega)]);go_wp2;exact bodyPost_ret (v:= .tuple #[It.zero.v,.int .i64 2]) (by simp[results,Tryz.results120,go_sem,It.zero,It.v]) rfl ⟨by rw[E1.out,E2.out,hF.out];rfl,by repeat(first|exact Below.refl _ _|assumption|refine via0 (by assumption) ?_|refine Below.drew ?_|refine Qad ?_ _|refine Below.setCell ?_ (by first|exact Nat.le_refl _|(simp;done)|(simp;omega)) _)⟩
end Go.Proofs.YtajbldnhjpjghaaGreat.Items
