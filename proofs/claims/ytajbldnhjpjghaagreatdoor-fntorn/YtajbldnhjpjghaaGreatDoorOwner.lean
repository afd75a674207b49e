/-
  OwnerOf of the specification and of the program at this seat: they answer alike. No condition but that there are at most 1048576 members.
-/
import Derived.Test.YtajbldnhjpjghaaGreatDoorGrpWo
import Derived.Deep.CutBlock
set_option linter.unusedVariables false
set_option linter.unusedSimpArgs false
set_option maxRecDepth 100000
set_option maxHeartbeats 8000000
set_option maxRecDepth 100000
set_option maxHeartbeats 8000000
namespace Go.Proofs.YtajbldnhjpjghaaGreatDoor.Gen
open ChangeShapes WideShapes ChangeAt RowKit Joins Deep Base
def ownF (m:List Int) (row:Int):Int:=if m.length=0∨row<0 then -1 else m.getD (row % (m.length:Int)).toNat 0
theorem Qjr {m:List Int} {row:Int} (h:m.length=0∨row<0):ownF m row= -1:=by rw[ownF,if_pos h]
theorem ownF_some {m:List Int} {row:Int} (h:¬(m.length=0∨row<0)) {n:Nat} (hn:(row % (m.length:Int))=n) (hlt:n<m.length):ownF m row=m[n]:=by
 unfold ownF;rw[if_neg h,hn];simp[hlt]
theorem Qii (gen row:Int) (A B C:Option Addr) (ca cb cc:Nat) (m b o:List Int) (hm:m.length<=1048576) (hr:∀x∈m,I64 x) (w:World) (hA:At w A m) (hB:At w B b) (hC:At w C o):
 Calls Tryz.prog 124 #[.agg (Qah gen A m.length ca B b.length cb C o.length cc),.int .i64 row] w fun e w' =>e= .returned (.int .i64 (ownF m row))/\Below w.heap.size w w' :=by
 have HA:=hidP hA;clear hA hB hC;by_cases h0:m.length=0
 . have hF:Hid (ownF m row= -1):=Qjr (.inl h0);have h0' :(m.length:Int)=0:=(by omega);go_enter Tryz.func124,Tryz.ntmps124;go_wp2;go_ret;exact⟨by rw[hF.out];rfl,by repeat(first|exact Below.refl _ _|assumption|refine via0 (by assumption) ?_|refine Below.drew ?_|refine Qad ?_ _)⟩
 have h0' :((m.length:Int)==0)=false:=by simp only[beq_eq_false_iff_ne];omega
 have h0c:decide ((m.length:Int)=0)=false:=decide_eq_false (by omega);by_cases h1:row<0
 . have hF:Hid (ownF m row= -1):=Qjr (.inr h1);go_enter Tryz.func124,Tryz.ntmps124;go_wp2;go_ret;exact⟨by rw[hF.out];rfl,by repeat(first|exact Below.refl _ _|assumption|refine via0 (by assumption) ?_|refine Below.drew ?_|refine Qad ?_ _)⟩
 have h1' :decide (row<0)=false:=decide_eq_false h1;obtain⟨n,hn⟩:∃n:Nat,row % (m.length:Int)=n:=⟨(row % (m.length:Int)).toNat,by rw[Int.toNat_of_nonneg (Int.emod_nonneg _ (by omega))]⟩
 have hlt:n<m.length:=by have:=Int.emod_lt_of_pos row (show(0:Int)<(m.length:Int)by omega);omega
 have hF:Hid (ownF m row=m[n]):=ownF_some (by omega) hn hlt;obtain⟨b',o',rfl,hbs,hin⟩:∃b o,A=some ⟨b,o,none⟩/\b<w.heap.size/\In w b o m:=by
  rcases HA.out with h|h
  . subst h;simp at hlt
  . exact h
 have c0:=hin.getInt n hlt;have hi0:(0:Int)<=(n:Int):=by omega
 have hi1:(n:Int)<(m.length:Int):=by omega
 have ht:row.tmod (m.length:Int)=n:=by rw[Int.tmod_eq_emod_of_nonneg (by omega)];exact hn
 go_enter Tryz.func124,Tryz.ntmps124;go_wp2
 go_region
 all_goals
  go_wp2;go_ret;exact⟨by rw[hF.out];rfl,by repeat(first|exact Below.refl _ _|assumption|refine via0 (by assumption) ?_|refine Below.drew ?_|refine Qad ?_ _)⟩
def mAt (m:List Int) (who:Int):Option Nat:=if who∈m then some (m.idxOf who)else none
def mAtZ (m:List Int) (who:Int):Int:=match mAt m who with|none=> -1|some i=>(i:Int)
theorem idx_hit {who:Int}:∀(m:List Int) (n:Nat) (h:n<m.length),m[n]=who->(∀x∈m.take n,x≠who)->m.idxOf who=n
 | [],n,h,_,_=>by simp at h
 |x::m,0,_,e,_=>by simp at e;subst e;simp
 |x::m,n+1,h,e,hn=>by
  have hx:x≠who:=hn x (by simp);have:=idx_hit m n (by simpa using h) (by simpa using e) (fun y hy=>hn y (by simp[hy]));have hx' :(x==who)=false:=by simpa using hx
  rw[List.idxOf_cons,hx',this];rfl
theorem mAt_hit {m:List Int} {who:Int} {n:Nat} (h:n<m.length) (e:m[n]=who) (hn:∀x∈m.take n,x≠who):mAt m who=some n:=by
 unfold mAt;rw[if_pos (e▸List.getElem_mem h),idx_hit m n h e hn]
theorem mAt_none {m:List Int} {who:Int} (h:∀x∈m,x≠who):mAt m who=none:=by unfold mAt;rw[if_neg (fun e=>h who e rfl)]
theorem mAt_lt {m:List Int} {who:Int} {i:Nat} (h:mAt m who=some i):i<m.length:=by
 unfold mAt at h;split at h
 . rename_i hm;cases h;exact List.idxOf_lt_length_of_mem hm
 . cases h
theorem l5At_any (gen who:Int) (A B C:Option Addr) (ca cb cc:Nat) (m b o:List Int) (hm:m.length<=1048576) (w:World) (hA:At w A m):
 Calls Tryz.prog 123 #[.agg (Qah gen A m.length ca B b.length cb C o.length cc),.int .i64 who] w fun e w' =>e= .returned (.int .i64 (mAtZ m who))/\Below w.heap.size w w' :=by
 have HA:=hidP hA;clear hA;have p:=Blk.new w 167 (Qah gen A m.length ca B b.length cb C o.length cc);have B0:Below w.heap.size w (w.alloc (.cells (Qah gen A m.length ca B b.length cb C o.length cc) 167)):=Qad (Below.refl _ _) _;go_enter Tryz.func123,Tryz.ntmps123;go_wp2
 go_loopw [5] (fun i W=>∃n:Nat,i= .int .i64 (n:Int)/\n<=m.length/\W=w.alloc (.cells (Qah gen A m.length ca B b.length cb C o.length cc) 167)/\Hid (∀x∈m.take n,x≠who)) (fun i _=>m.length - (intOf i).toNat)
 case atStart=>exact⟨0,rfl,by omega,rfl,by show ∀x∈_,_;simp⟩
 case round=>
  obtain⟨n,rfl,hn,rfl,hno⟩:=hrel;obtain⟨u0,u1,u2,u3⟩:=p.row4;by_cases hlt:n<m.length
  . obtain⟨b',o',rfl,hbs,hin⟩:∃b o,A=some ⟨b,o,none⟩/\b<w.heap.size/\In w b o m:=by
     rcases HA.out with h|h
     . subst h;simp at hlt
     . exact h
    have c0:=(hin.below hbs B0).getInt n hlt;have hi0:(0:Int)<=(n:Int):=(by omega);have hi1:(n:Int)<(m.length:Int):=(by omega);by_cases he:m[n]=who
    . have hz:Hid (mAtZ m who=(n:Int)):=(by show _=_;unfold mAtZ;rw[mAt_hit hlt he hno.out]);go_wp2;go_ret;exact⟨by rw[hz.out];rfl,B0⟩
    . go_wp2;refine⟨⟨n+1,by go_num,by omega,(by first|rfl|trivial),?_⟩,by simp[intOf];omega⟩;show ∀x∈_,_;intro x hx;rw[List.take_succ_eq_append_getElem hlt,List.mem_append]at hx;rcases hx with hx|hx
      . exact hno.out x hx
      . simp at hx;subst hx;exact he
  . have hz:Hid (mAtZ m who= -1):=by
     show _=_;unfold mAtZ;rw[mAt_none (fun x hx=>hno.out x (by rw[List.take_of_length_le (by omega)];exact hx))]
    go_wp2;go_ret;exact⟨by rw[hz.out];rfl,B0⟩
theorem Qcj {W:World} {p:Nat} {x0 x1 x2 x3:Value} (h:Blk W p 167 #[x0,x1,x2,x3]) (g v1 v2 v3:Value):
 (W.setCell ⟨p,0,none⟩ g).cell? ⟨p,0,none⟩=some g/\((W.setCell ⟨p,0,none⟩ g).setCell ⟨p,1,none⟩ v1).cell? ⟨p,1,none⟩=some v1/\(((W.setCell ⟨p,0,none⟩ g).setCell ⟨p,1,none⟩ v1).setCell ⟨p,2,none⟩ v2).cell? ⟨p,2,none⟩=some v2/\
  ((((W.setCell ⟨p,0,none⟩ g).setCell ⟨p,1,none⟩ v1).setCell ⟨p,2,none⟩ v2).setCell ⟨p,3,none⟩ v3).cell? ⟨p,3,none⟩=some v3:=
 ⟨(h.setAt 0 g).cell (by rfl),((h.setAt 0 g).setAt 1 v1).cell (by rfl),(((h.setAt 0 g).setAt 1 v1).setAt 2 v2).cell (by rfl),((((h.setAt 0 g).setAt 1 v1).setAt 2 v2).setAt 3 v3).cell (by rfl)⟩
theorem Qcx {w W:World} {gen gen' :Int} {vm vb vo:Value} {a1 a2 a3:Option Addr} {c1 c2 c3:Nat} {m b o:List Int} {F:List Nat} (I:Wi w W gen vm vb vo) (hG:Gp W a1 a2 a3 m b o F) (hF:∀x∈F,w.heap.size<=x/\x≠w.heap.size+1):
 Qi6 w (putG W (w.heap.size+1) (.int .i64 gen') (.slice a1 m.length c1) (.slice a2 b.length c2) (.slice a3 o.length c3)) (.returned (.agg (Qah gen' a1 m.length c1 a2 b.length c2 a3 o.length c3))) gen' m b o:=
 ⟨a1,a2,a3,c1,c2,c3,F,rfl,I.bl.trans ((Qcy _ (w.heap.size+1) _ _ _ _).toBelow (by simp) I.bl.size),hG.off (Qcy _ _ _ _ _ _) (fun x hx=>by simpa using (hF x hx).2),fun x hx=>(hF x hx).1⟩
def Qef (gen:Int) (m:List Int) (who:Int):Int:=match mAt m who with|none=>gen|some _=>upF gen
def Qc2 (m:List Int) (who:Int) (l:List Int):List Int:=match mAt m who with|none=>l|some i=>l.eraseIdx i
theorem Qik (gen who:Int) (hg:I64 gen) (hw:0<=who/\who<=3) (A B C:Option Addr) (ca cb cc:Nat) (m b o:List Int) (hm:m.length<=1048576) (hb:b.length<=1048576) (ho:o.length<=1048576) (hca:m.length<=ca/\ca<=9223372036854775807) (hcb:b.length<=cb/\cb<=9223372036854775807) (w:World) (hA:At w A m) (hB:At w B b) (hC:At w C o):
 Calls Tryz.prog 116 #[.agg (Qah gen A m.length ca B b.length cb C o.length cc),.int .i64 who] w fun e w' =>Qi6 w w' e (Qef gen m who) (Qc2 m who m) (Qc2 m who b) o:=by
 have HA:=hidP hA;have HB:=hidP hB;have HC:=hidP hC;clear hA hB hC;have I0:Wi w ((w.alloc (.cells (Qah gen A m.length ca B b.length cb C o.length cc) 167)).alloc (.cells Qcm 167)) gen (.slice A m.length ca) (.slice B b.length cb) (.slice C o.length cc):=⟨by repeat(first|exact Below.refl _ _|assumption|refine via0 (by assumption) ?_|refine Below.drew ?_|refine Qad ?_ _),(Blk.new w 167 (Qah gen A m.length ca B b.length cb C o.length cc)).alloc _,by have:=Blk.new (w.alloc (.cells (Qah gen A m.length ca B b.length cb C o.length cc) 167)) 167 Qcm;rw[World.size_alloc]at this;exact this⟩
 have hin:inB who 0 3=true:=by simp[inB];exact hw
 unfold Qef Qc2;have hZ:Hid (mAtZ m who=match mAt m who with|none=> -1|some i=>(i:Int)):=rfl;have hL:Hid (∀i,mAt m who=some i->i<m.length):=fun i h=>mAt_lt h
 have HCt:Hid (∀W:World,Below w.heap.size w W->Calls Tryz.prog 123 #[.agg (Qah gen A m.length ca B b.length cb C o.length cc),.int .i64 who] W fun e w' =>e= .returned (.int .i64 (mAtZ m who))/\Below W.heap.size W w'):=fun W g=>l5At_any gen who A B C ca cb cc m b o hm W (HA.out.below g)
 generalize mAtZ m who=z at hZ HCt;generalize mAt m who=mo at hZ hL ⊢;cases mo with
 |none=>
  have ez:z= -1:=hZ.out;subst ez;clear hZ hL;go_enter Tryz.func116,Tryz.ntmps116;go_wp2_with fail;generalize (w.alloc (.cells (Qah gen A m.length ca B b.length cb C o.length cc) 167)).alloc (.cells Qcm 167)=X0 at I0 ⊢;refine(HCt.out _ I0.bl).mono ?_;rintro e w1 ⟨rfl,g1⟩;have I1:=I0.below g1;obtain⟨u0,u1,u2,u3⟩:=I1.s4;clear I0 g1;go_wp2_with fail;refine(Qdi gen A B C ca cb cc m b o hm hb ho _ (HA.out.below I1.bl) (HB.out.below I1.bl) (HC.out.below I1.bl)).mono ?_;rintro e w2 ⟨a1,a2,a3,c1,c2,c3,F,rfl,g2,hG,hF,k1,k2⟩;have I2:=I1.below g2;have zr:=I1.r.lt;obtain⟨r0,r1,r2,r3⟩:=I2.r.row4;have f0:=I2.r.thaw 0;have f1:=I2.r.thaw 1;have f2:=I2.r.thaw 2;have f3:=I2.r.thaw 3;obtain⟨s0,s1,s2,s3⟩:=Qcj I2.r (.int .i64 gen) (.slice a1 m.length c1) (.slice a2 b.length c2) (.slice a3 o.length c3);have T:=hidP (Qcx (gen' :=gen) (c1:=c1) (c2:=c2) (c3:=c3) I2 hG (fun x hx=>by have:=hF x hx;have:=I1.bl.size;omega));clear hG hF g2 k1 k2 I1 u0 u1 u2 u3;go_wp2;exact bodyPost_ret (v:= .agg (Qah gen a1 m.length c1 a2 b.length c2 a3 o.length c3)) (by simp[results,Tryz.results116,go_sem,s0,s1,s2,s3]) rfl T.out
 |some i=>
  have ez:z=(i:Int):=hZ.out;have hi:=hL.out i rfl;subst ez;clear hZ hL;go_enter Tryz.func116,Tryz.ntmps116;go_wp2_with fail;generalize (w.alloc (.cells (Qah gen A m.length ca B b.length cb C o.length cc) 167)).alloc (.cells Qcm 167)=X0 at I0 ⊢;refine(HCt.out _ I0.bl).mono ?_;rintro e w1 ⟨rfl,g1⟩;have I1:=I0.below g1;obtain⟨u0,u1,u2,u3⟩:=I1.s4;have hi0:¬(i:Int)<0:=by omega
  clear I0 g1;go_wp2_with fail;refine(Qca _ _ _ _).mono ?_;rintro e w1' ⟨rfl,rfl⟩;rw[hin];go_wp2_with fail;refine(Qd3 gen A B C ca cb cc m b o hm hb ho hca hcb i hi _ (HA.out.below I1.bl) (HB.out.below I1.bl) (HC.out.below I1.bl)).mono ?_;rintro e w2 ⟨a1,a2,a3,c1,c2,c3,F,rfl,g2,hG,hF,k1,k2⟩;have I2:=(I1.below g2).alloc (.cells (Qah gen a1 (m.eraseIdx i).length c1 a2 (b.eraseIdx i).length c2 a3 o.length c3) 167);have P2:=Blk.new w2 167 (Qah gen a1 (m.eraseIdx i).length c1 a2 (b.eraseIdx i).length c2 a3 o.length c3);have G2:=hidP (hG.alloc (.cells (Qah gen a1 (m.eraseIdx i).length c1 a2 (b.eraseIdx i).length c2 a3 o.length c3) 167));have lF:=hidP hG.lt;have zr:=Nat.lt_of_lt_of_le I1.r.lt g2.size;have zb:=I1.bl.size;have z1:=I1.r.lt;have HF:=hidP hF;obtain⟨M,hM⟩:∃M,M=m.eraseIdx i:=⟨_,rfl⟩
  obtain⟨N,hN⟩:∃N,N=b.eraseIdx i:=⟨_,rfl⟩
  simp only[← hM,← hN]at I2 P2 G2 lF ⊢;have HM:=hidP hM;have HN:=hidP hN;clear hM hN hG hF g2 k1 k2 I1 u0 u1 u2 u3;obtain⟨u0,u1,u2,u3⟩:=I2.s4;go_wp2_with fail;generalize w2.alloc (.cells (Qah gen a1 M.length c1 a2 N.length c2 a3 o.length c3) 167)=X2 at I2 P2 G2 u0 u1 u2 u3 ⊢;generalize w2.heap.size=P at P2 lF zr ⊢;refine(Qgg gen hg _).mono ?_;rintro e w3 ⟨rfl,h9⟩;subst w3;have P3:Blk (X2.setCell ⟨P,0,none⟩ (.int .i64 (upF gen))) P 167 (Qah (upF gen) a1 M.length c1 a2 N.length c2 a3 o.length c3):=P2.setAt 0 _;have k3:Off [P] X2 (X2.setCell ⟨P,0,none⟩ (.int .i64 (upF gen))):=Qb2 (Off.refl _ _) _ 0 _ (by simp);have I3:=I2.off k3 zr;have G3:=hidP (G2.out.off k3 (fun x hx=>by have:=lF.out x hx;simp;omega));have hne1:P≠w.heap.size+1:=by omega
  have hne2:w.heap.size+1≠P:=by omega
  obtain⟨x0,x1,x2,x3⟩:=P2.row4;obtain⟨t0,t1,t2,t3⟩:=P3.row4;have y0:=P2.thaw 0;obtain⟨r0,r1,r2,r3⟩:=I3.r.row4;have f0:=I3.r.thaw 0;have f1:=I3.r.thaw 1;have f2:=I3.r.thaw 2;have f3:=I3.r.thaw 3;obtain⟨s0,s1,s2,s3⟩:=Qcj I3.r (.int .i64 (upF gen)) (.slice a1 M.length c1) (.slice a2 N.length c2) (.slice a3 o.length c3);have T:=hidP (Qcx (gen' :=upF gen) (c1:=c1) (c2:=c2) (c3:=c3) I3 G3.out (fun x hx=>by have:=HF.out x hx;omega));clear P2 P3 k3 I2 I3 G2 G3;go_wp2;have e1:=HM.out;have e2:=HN.out;subst e1 e2;exact bodyPost_ret (v:= .agg (Qah (upF gen) a1 (m.eraseIdx i).length c1 a2 (b.eraseIdx i).length c2 a3 o.length c3)) (by simp[results,Tryz.results116,go_sem,s0,s1,s2,s3]) rfl T.out
def Qfd (m o:List Int) (who row off:Int):Bool:=inB row 0 ((o.length:Int) - 1)&&(ownF m row==who)&&decide (o.getD row.toNat 0<=off)
def Qio (m o:List Int) (who row off:Int):List Int:=if Qfd m o who row off then o.set row.toNat off else o
theorem gp_third {w:World} {a1 a2 a3:Option Addr} {m b o:List Int} {F:List Nat} (h:Gp w a1 a2 a3 m b o F) {n:Nat} (hn:n<o.length):
 ∃b3 o3,a3=some ⟨b3,o3,none⟩/\b3∈F/\b3<w.heap.size/\w.frozen? ⟨b3,o3+n,none⟩=false/\(∃v,w.cell? ⟨b3,o3+n,none⟩=some v)/\∀off:Int,Gp (w.setCell ⟨b3,o3+n,none⟩ (.int .i64 off)) a1 a2 a3 m b (o.set n off) F:=by
 obtain⟨F1,F2,F3,rfl,s1,s2,s3,hnd⟩:=h;rcases s3 with⟨h0,_⟩|⟨b3,o3,rfl,rfl,hb3,hi3,ht3⟩
 . subst h0;simp at hn
 . have hth:=there_at (f:=0) (k:=1) ht3 hn (by omega);rw[Nat.mul_one,Nat.add_zero]at hth;refine⟨b3,o3,rfl,by simp,hb3,hth.2,hth.1,fun off=> ?_⟩;have k:Off [b3] w (w.setCell ⟨b3,o3+n,none⟩ (.int .i64 off)):=Off.of_only ((Only.refl b3 w).set _ _);have d:=List.nodup_append.1 hnd;have hI:=hi3.set1 n hn off 0 (by show 0<1;omega) (.int .i64 off) rfl;have eA:o3+n*Cel.k Int+0=o3+n:=(by show o3+n*1+0=_;omega);rw[eA]at hI;refine⟨F1,F2,[b3],rfl,s1.off k ?_,s2.off k ?_,.inr ⟨b3,o3,rfl,rfl,by simpa using hb3,hI,?_⟩,hnd⟩
   . intro x hx hm;simp at hm;subst hm;simp only[List.nodup_append]at hnd;exact hnd.2.2 x hx x (by simp) rfl
   . intro x hx hm;simp at hm;subst hm;simp only[List.nodup_append]at hnd;exact hnd.2.1.2.2 x hx x (by simp) rfl
   . rw[List.length_set];exact Qi9 ht3 _ _ _
theorem Qjc (gen who row off:Int) (A B C:Option Addr) (ca cb cc:Nat) (m b o:List Int) (hm:m.length<=1048576) (hb:b.length<=1048576) (ho:o.length<=1048576) (hmi:∀x∈m,I64 x) (w:World) (hA:At w A m) (hB:At w B b) (hC:At w C o):
 Calls Tryz.prog 117 #[.agg (Qah gen A m.length ca B b.length cb C o.length cc),.int .i64 who,.int .i64 gen,.int .i64 row,.int .i64 off] w fun e w' =>∃v,e= .returned (.tuple #[v,.bool (Qfd m o who row off)])/\Qi6 w w' (.returned v) gen m b (Qio m o who row off):=by
 have HA:=hidP hA;have HB:=hidP hB;have HC:=hidP hC;have Hmi:=hidP hmi;clear hA hB hC hmi;have I0:Wi w ((w.alloc (.cells (Qah gen A m.length ca B b.length cb C o.length cc) 167)).alloc (.cells Qcm 167)) gen (.slice A m.length ca) (.slice B b.length cb) (.slice C o.length cc):=⟨by repeat(first|exact Below.refl _ _|assumption|refine via0 (by assumption) ?_|refine Below.drew ?_|refine Qad ?_ _),(Blk.new w 167 (Qah gen A m.length ca B b.length cb C o.length cc)).alloc _,by have:=Blk.new (w.alloc (.cells (Qah gen A m.length ca B b.length cb C o.length cc) 167)) 167 Qcm;rw[World.size_alloc]at this;exact this⟩
 have hO:Hid (Qio m o who row off=if Qfd m o who row off then o.set row.toNat off else o):=rfl;have hK:Hid (Qfd m o who row off=(inB row 0 ((o.length:Int) - 1)&&(ownF m row==who)&&decide (o.getD row.toNat 0<=off))):=rfl;have HOw:Hid (∀W:World,Below w.heap.size w W->Calls Tryz.prog 124 #[.agg (Qah gen A m.length ca B b.length cb C o.length cc),.int .i64 row] W fun e w' =>e= .returned (.int .i64 (ownF m row))/\Below W.heap.size W w'):=fun W g=>Qii gen row A B C ca cb cc m b o hm Hmi.out W (HA.out.below g) (HB.out.below g) (HC.out.below g)
 generalize Qio m o who row off=O at hO ⊢;generalize Qfd m o who row off=ok at hO hK ⊢;generalize ownF m row=ow at hK HOw;have hIn:Hid (inB row 0 ((o.length:Int) - 1)=true->0<=row/\row<(o.length:Int)):=fun h=>by simp only[inB,Bool.and_eq_true,decide_eq_true_eq]at h;omega
 go_enter Tryz.func117,Tryz.ntmps117;go_wp2_with fail;generalize (w.alloc (.cells (Qah gen A m.length ca B b.length cb C o.length cc) 167)).alloc (.cells Qcm 167)=X0 at I0 ⊢;refine(Qdi gen A B C ca cb cc m b o hm hb ho _ (HA.out.below I0.bl) (HB.out.below I0.bl) (HC.out.below I0.bl)).mono ?_;rintro e w2 ⟨a1,a2,a3,c1,c2,c3,F,rfl,g2,hG,hF,k1,k2⟩;have zr:=Nat.lt_of_lt_of_le I0.r.lt g2.size;have zb:=I0.bl.size;have z1:=I0.r.lt;have I2:=(I0.below g2).alloc (.cells (Qah gen a1 m.length c1 a2 b.length c2 a3 o.length c3) 167);have P2:=Blk.new w2 167 (Qah gen a1 m.length c1 a2 b.length c2 a3 o.length c3);have G2:=hidP (hG.alloc (.cells (Qah gen a1 m.length c1 a2 b.length c2 a3 o.length c3) 167));have lF:=hidP hG.lt;have HF:=hidP hF;obtain⟨u0,u1,u2,u3⟩:=I2.s4;clear hG hF g2 k1 k2 I0;go_wp2_with fail;generalize w2.alloc (.cells (Qah gen a1 m.length c1 a2 b.length c2 a3 o.length c3) 167)=X2 at I2 P2 G2 u0 u1 u2 u3 ⊢;generalize w2.heap.size=P at P2 lF zr ⊢;refine(Qca _ _ _ _).mono ?_;rintro e w3 ⟨rfl,rfl⟩;generalize inB row 0 ((o.length:Int) - 1)=bI at hK hIn ⊢;have hne1:P≠w.heap.size+1:=by omega
 have hne2:w.heap.size+1≠P:=by omega
 cases bI
 . have eok:ok=false:=(by rw[hK.out];rfl);subst eok;have eO:O=o:=(by rw[hO.out];rfl);subst eO;obtain⟨x0,x1,x2,x3⟩:=P2.row4;obtain⟨r0,r1,r2,r3⟩:=I2.r.row4;have f0:=I2.r.thaw 0;have f1:=I2.r.thaw 1;have f2:=I2.r.thaw 2;have f3:=I2.r.thaw 3;obtain⟨s0,s1,s2,s3⟩:=Qcj I2.r (.int .i64 gen) (.slice a1 m.length c1) (.slice a2 b.length c2) (.slice a3 O.length c3);have T:=hidP (Qcx (gen' :=gen) (c1:=c1) (c2:=c2) (c3:=c3) I2 G2.out (fun x hx=>by have:=HF.out x hx;omega));clear P2 I2 G2;go_wp2;exact bodyPost_ret (v:= .tuple #[.agg (Qah gen a1 m.length c1 a2 b.length c2 a3 O.length c3),.bool false]) (by simp[results,Tryz.results117,go_sem,s0,s1,s2,s3]) rfl ⟨_,rfl,T.out⟩
 . obtain⟨i0,i1⟩:=hIn.out rfl;clear hIn;go_wp2_with fail;refine(HOw.out _ I2.bl).mono ?_;rintro e w4 ⟨rfl,g4⟩;have lP:=P2.lt;replace P2:=P2.below g4 P2.lt;replace I2:=I2.below g4;replace G2:=hidP (G2.out.below g4);clear g4 u0 u1 u2 u3;obtain⟨u0,u1,u2,u3⟩:=I2.s4;by_cases hw:ow=who
   . have eq1:(ow !=who)=false:=(by simp[hw]);obtain⟨n,rfl⟩:∃n:Nat,row=(n:Int):=⟨row.toNat,by omega⟩
     have hlt:n<o.length:=(by omega);have hgd:Hid (o.getD (n:Int).toNat 0=o[n]):=(by show _=_;simp[hlt]);obtain⟨b',o',rfl,hbs,hin⟩:∃b o',C=some ⟨b,o',none⟩/\b<w.heap.size/\In w b o' o:=by
      rcases HC.out with h|h
      . subst h;simp at hlt
      . exact h
     have cO:=(hin.below hbs I2.bl).getInt n hlt;by_cases hoff:off<o[n]
     . have eok:ok=false:=by
        rw[hK.out,hgd.out];have:decide (o[n]<=off)=false:=decide_eq_false (by omega);rw[this,Bool.and_false]
       subst eok;have eO:O=o:=(by rw[hO.out];rfl);subst eO;obtain⟨x0,x1,x2,x3⟩:=P2.row4;obtain⟨r0,r1,r2,r3⟩:=I2.r.row4;have f0:=I2.r.thaw 0;have f1:=I2.r.thaw 1;have f2:=I2.r.thaw 2;have f3:=I2.r.thaw 3;obtain⟨s0,s1,s2,s3⟩:=Qcj I2.r (.int .i64 gen) (.slice a1 m.length c1) (.slice a2 b.length c2) (.slice a3 O.length c3);have T:=hidP (Qcx (gen' :=gen) (c1:=c1) (c2:=c2) (c3:=c3) I2 G2.out (fun x hx=>by have:=HF.out x hx;omega));clear P2 I2 G2;go_wp2;exact bodyPost_ret (v:= .tuple #[.agg (Qah gen a1 m.length c1 a2 b.length c2 a3 O.length c3),.bool false]) (by simp[results,Tryz.results117,go_sem,s0,s1,s2,s3]) rfl ⟨_,rfl,T.out⟩
     . have eok:ok=true:=by
        rw[hK.out,hgd.out];have:decide (o[n]<=off)=true:=decide_eq_true (by omega);rw[this];simp[hw]
       subst eok;have eO:Hid (O=o.set n off):=(by show O=_;rw[hO.out];simp);go_upto_region 4 with fail;clear cO u0 u1 u2 u3;obtain⟨b3,o3,e3,hb3,lb3,fz3,⟨v3,hv3⟩,hT3⟩:=gp_third G2.out hlt;subst e3;have l3:=HF.out b3 hb3;have l3' :=lF.out b3 hb3;have hnp:P≠b3:=(by omega);have hnr:w.heap.size+1≠b3:=(by omega);have hng:w.heap.size≠b3:=(by omega);have hnp' :b3≠P:=(by omega);have hnr' :b3≠w.heap.size+1:=(by omega);have hng' :b3≠w.heap.size:=(by omega);have hPg:P≠w.heap.size:=(by omega);have k4:Off [b3] w4 (w4.setCell ⟨b3,o3+n,none⟩ (.int .i64 off)):=Off.of_only ((Only.refl b3 w4).set _ _);have I3:=I2.off k4 (by omega);have P3:=P2.off k4 (by simpa using hnp);obtain⟨x0,x1,x2,x3⟩:=P2.row4;obtain⟨y0,y1,y2,y3⟩:=P3.row4;obtain⟨r0,r1,r2,r3⟩:=I3.r.row4;have f0:=I3.r.thaw 0;have f1:=I3.r.thaw 1;have f2:=I3.r.thaw 2;have f3:=I3.r.thaw 3;have hi0:(0:Int)<=(n:Int):=(by omega);have hi1:(n:Int)<(o.length:Int):=(by omega);obtain⟨s0,s1,s2,s3⟩:=Qcj I3.r (.int .i64 gen) (.slice a1 m.length c1) (.slice a2 b.length c2) (.slice (some ⟨b3,o3,none⟩) o.length c3);have hle:(o.set n off).length=o.length:=List.length_set;have T' :=Qcx (gen' :=gen) (c1:=c1) (c2:=c2) (c3:=c3) I3 (hT3 off) (fun x hx=>by have:=HF.out x hx;omega);rw[hle]at T';have T:=hidP T';clear P2 P3 I2 I3 G2 k4 hT3 T' hle;go_wp2;exact bodyPost_ret (v:= .tuple #[.agg (Qah gen a1 m.length c1 a2 b.length c2 (some ⟨b3,o3,none⟩) o.length c3),.bool true]) (by simp[results,Tryz.results117,go_sem,s0,s1,s2,s3]) rfl ⟨_,rfl,by rw[eO.out];exact T.out⟩
   . have eq1:(ow !=who)=true:=(by simp[hw]);have eok:ok=false:=by
      rw[hK.out];have:(ow==who)=false:=(by simpa using hw);rw[this];rfl
     subst eok;have eO:O=o:=(by rw[hO.out];rfl);subst eO;obtain⟨x0,x1,x2,x3⟩:=P2.row4;obtain⟨r0,r1,r2,r3⟩:=I2.r.row4;have f0:=I2.r.thaw 0;have f1:=I2.r.thaw 1;have f2:=I2.r.thaw 2;have f3:=I2.r.thaw 3;obtain⟨s0,s1,s2,s3⟩:=Qcj I2.r (.int .i64 gen) (.slice a1 m.length c1) (.slice a2 b.length c2) (.slice a3 O.length c3);have T:=hidP (Qcx (gen' :=gen) (c1:=c1) (c2:=c2) (c3:=c3) I2 G2.out (fun x hx=>by have:=HF.out x hx;omega));clear P2 I2 G2;go_wp2;exact bodyPost_ret (v:= .tuple #[.agg (Qah gen a1 m.length c1 a2 b.length c2 a3 O.length c3),.bool false]) (by simp[results,Tryz.results117,go_sem,s0,s1,s2,s3]) rfl ⟨_,rfl,T.out⟩
def Qhs (m:List Int) (who:Int):Nat:=(m.takeWhile fun x=>decide (x<who)).length
def Qdn (n:Nat) (x:Int) (l:List Int):List Int:=l.take n++x::l.drop n
def Qf8 (gen:Int) (m:List Int) (who:Int):Int:=match mAt m who with|none=>upF gen|some _=>gen
def Qeq (m:List Int) (who:Int):List Int:=match mAt m who with|none=>Qdn (Qhs m who) who m|some _=>m
def Qf9 (m b:List Int) (who time:Int):List Int:=match mAt m who with|none=>Qdn (Qhs m who) time b|some i=>b.set i time
theorem joinN_is:∀(m:List Int) (who:Int) (n:Nat),n<=m.length->(∀x∈m.take n,x<who)->(∀h:n<m.length,¬m[n]<who)->Qhs m who=n
 | [],who,n,h,_,_=>by simp at h;subst h;rfl
 |x::m,who,0,_,_,h=>by
  have:=h (by simp);simp at this;unfold Qhs;rw[List.takeWhile_cons,if_neg (by simp;omega)];rfl
 |x::m,who,n+1,hn,h1,h2=>by
  have hx:x<who:=h1 x (by simp);have:=joinN_is m who n (by simpa using hn) (fun y hy=>h1 y (by simp[hy])) (fun h=>by have:=h2 (by simpa using h);simpa using this);unfold Qhs at this ⊢;rw[List.takeWhile_cons,if_pos (by simpa using hx),List.length_cons,this]
def cutI (A:Option Addr) (c i:Nat):Option Addr:=if c=i then A else A.map (·.add (i*1))
theorem Qi0 (A:Option Addr) (n c j:Nat) (h2:j<=c) (hc:c<=9223372036854775807) (w:World):
 (Instr.slice 57 (.slice A n c) none (some (.int .i64 (j:Int))) none).run Tryz.prog w= .ok (.slice A j c) w:=by
 have e:A.map (fun x=>x.add 0)=A:=by cases A<;>rfl
 simp[Instr.slice,run_underlying Tryz.underlying57,Instr.sliceBounds,Instr.sliceBound,asIntOf,h2,e]
theorem Qfj (A:Option Addr) (n c i:Nat) (h1:i<=n) (h2:n<=c) (hc:c<=9223372036854775807) (w:World):
 (Instr.slice 57 (.slice A n c) (some (.int .i64 (i:Int))) none none).run Tryz.prog w= .ok (.slice (cutI A c i) (n - i) (c - i)) w:=by
 have hz:(sizeOf 3).run Tryz.prog w= .ok 1 w:=Tryz.sizeOf3 w;by_cases h:c=i
 . simp[Instr.slice,run_underlying Tryz.underlying57,Instr.sliceBounds,Instr.sliceBound,asIntOf,hz,cutI,h,h1,h2]
 . simp[Instr.slice,run_underlying Tryz.underlying57,Instr.sliceBounds,Instr.sliceBound,asIntOf,hz,cutI,h,h1,h2]
theorem Qi4 {w:World} {A:Option Addr} {l:List Int} (h:At w A l) {c:Nat} (i:Nat) (hc:l.length<=c):At w (cutI A c i) (l.drop i):=by
 by_cases e:c=i
 . exact .inl (List.drop_eq_nil_of_le (by omega))
 . rcases h with rfl|⟨b,o,rfl,hb,hi⟩
   . exact .inl (by simp)
   . have e1:cutI (some ⟨b,o,none⟩) c i=some ⟨b,o+i*1,none⟩:=(by unfold cutI;rw[if_neg e,Option.map_some,Addr.add_mid]);rw[e1];exact .inr ⟨b,o+i*1,rfl,hb,hi.drop i⟩
theorem newIntL (W:World) (x:Int):At (W.alloc (.cells #[.int .i64 x] 3)) (some ⟨W.heap.size,0,none⟩) [x]:=by
 refine .inr ⟨_,_,rfl,by simp,?_⟩;intro j v hv;have e:(flat [x])=(#[Value.int .i64 x]:Array Value).toList:=rfl;rw[e]at hv;exact(Blk.new W 3 #[.int .i64 x]).cell (i:=0+j) (by simpa using hv)
theorem Qgh (W:World) (A D:Option Addr) (c d k1 k2:Nat) (l1 l2:List Int) (x:Int) (e1:k1=l1.length) (e2:k2=l2.length) (h1:l1.length<=1048576) (h2:l2.length<=1048576) (hA:At W A l1) (hD:At W D l2):
 ∃x1 y1 w1 x2 y2 w2 x3 y3 w3,(Builtin.append_ #[57,57] 57 #[.slice (some ⟨W.heap.size,0,none⟩) 0 0,.slice A k1 c]).run Tryz.prog (W.alloc (.cells #[] 3))= .ok (.slice x1 k1 y1) w1/\
  (Builtin.append_ #[57,57] 57 #[.slice x1 k1 y1,.slice (some ⟨w1.heap.size,0,none⟩) 1 1]).run Tryz.prog (w1.alloc (.cells #[.int .i64 x] 3))= .ok (.slice x2 (k1+1) y2) w2/\
  (Builtin.append_ #[57,57] 57 #[.slice x2 (k1+1) y2,.slice D k2 d]).run Tryz.prog w2= .ok (.slice x3 (k1+1+k2) y3) w3/\
  Below W.heap.size W w1/\Below W.heap.size W w2/\Below W.heap.size W w3/\w3.ownsRow W.heap.size 3 1 (.slice x3 (k1+1+k2) y3) (k1+1+k2) (flat (l1++x::l2)):=by
 subst e1 e2;have b0:Below W.heap.size W (W.alloc (.cells #[] 3)):=Qad (Below.refl _ _) _;have o0:(W.alloc (.cells #[] 3)).ownsRow W.heap.size 3 1 (.slice (some ⟨W.heap.size,0,none⟩) 0 0) ([]:List Int).length (flat ([]:List Int)):=World.ownsRow_made W #[] 0 (Nat.le_refl _) (by simp[maxLen]) rfl;obtain⟨v,w1,hr,ho,hg,hat⟩:=Qbh (P:=Tryz.prog) Tryz.underlying57 Qd5 rfl (by decide) (by decide) W.heap.size _ ([]:List Int) l1 A c _ b0.size o0 (hA.below b0) (by simp;omega);simp only[List.length_nil,Nat.zero_add,List.nil_append]at ho;obtain⟨x1,y1,rfl,_⟩:=Qan ho;have b1:Below W.heap.size W w1:=b0.grown hg b0.size (fun k e=>(o0.lt k e).1);have b1' :Below W.heap.size W (w1.alloc (.cells #[.int .i64 x] 3)):=b1.alloc b1.size _;have hx:At (w1.alloc (.cells #[.int .i64 x] 3)) (some ⟨w1.heap.size,0,none⟩) [x]:=newIntL w1 x;obtain⟨v,w2,hr2,ho2,hg2,_⟩:=Qbh (P:=Tryz.prog) Tryz.underlying57 Qd5 rfl (by decide) (by decide) W.heap.size _ l1 [x] (some ⟨w1.heap.size,0,none⟩) 1 (w1.alloc (.cells #[.int .i64 x] 3)) b1'.size (Qav ho _) hx (by simp;omega);simp only[List.length_cons,List.length_nil,Nat.zero_add]at hr2 ho2;obtain⟨x2,y2,rfl,_⟩:=Qan ho2;have b2:Below W.heap.size W w2:=b1'.grown hg2 b1'.size (fun k e=>(ho.lt k e).1);have ho2' :w2.ownsRow W.heap.size 3 1 (.slice x2 (l1.length+1) y2) (l1++ [x]).length (flat (l1++ [x])):=by rw[List.length_append];exact ho2
 obtain⟨v,w3,hr3,ho3,hg3,_⟩:=Qbh (P:=Tryz.prog) Tryz.underlying57 Qd5 rfl (by decide) (by decide) W.heap.size _ (l1++ [x]) l2 D d w2 b2.size ho2' (hD.below b2) (by simp;omega);have b3:Below W.heap.size W w3:=b2.grown hg3 b2.size (fun k e=>(ho2'.lt k e).1);have e3:(l1++ [x]).length+l2.length=l1.length+1+l2.length:=by simp
 rw[e3,List.append_assoc]at ho3;obtain⟨x3,y3,rfl,_⟩:=Qan ho3;exact⟨x1,y1,w1,x2,y2,w2,x3,y3,w3,hr,hr2,hr3,b1,b2,b3,ho3⟩
theorem gp_second {w:World} {a1 a2 a3:Option Addr} {m b o:List Int} {F:List Nat} (h:Gp w a1 a2 a3 m b o F) {n:Nat} (hn:n<b.length):
 ∃b3 o3,a2=some ⟨b3,o3,none⟩/\b3∈F/\b3<w.heap.size/\w.frozen? ⟨b3,o3+n,none⟩=false/\(∃v,w.cell? ⟨b3,o3+n,none⟩=some v)/\∀off:Int,Gp (w.setCell ⟨b3,o3+n,none⟩ (.int .i64 off)) a1 a2 a3 m (b.set n off) o F:=by
 obtain⟨F1,F2,F3,rfl,s1,s2,s3,hnd⟩:=h;have hnd' :(F1++(F3++F2)).Nodup:=by
  refine(List.Perm.nodup_iff ?_).1 hnd;exact List.Perm.append_left _ (List.perm_append_comm)
 obtain⟨b3,o3,e1,e2,e3,e4,e5,e6⟩:=gp_third (w:=w) (a1:=a1) (a2:=a3) (a3:=a2) (m:=m) (b:=o) (o:=b) (F:=F1++(F3++F2)) ⟨F1,F3,F2,rfl,s1,s3,s2,hnd'⟩ hn;refine⟨b3,o3,e1,by simp at e2 ⊢;rcases e2 with h|h|h<;>simp[h],e3,e4,e5,fun off=> ?_⟩;obtain⟨G1,G3,G2,eG,t1,t3,t2,_⟩:=e6 off;rcases s2 with⟨h0,_⟩|⟨b4,o4,e7,rfl,hb4,hi4,ht4⟩
 . subst h0;simp at hn
 . have e8:b4=b3/\o4=o3:=(by rw[e1]at e7;cases e7;exact⟨rfl,rfl⟩);obtain⟨rfl,rfl⟩:=e8;have k:Off [b4] w (w.setCell ⟨b4,o4+n,none⟩ (.int .i64 off)):=Off.of_only ((Only.refl b4 w).set _ _);simp only[List.nodup_append]at hnd;refine⟨F1,[b4],F3,rfl,s1.off k ?_,?_,s3.off k ?_,by simp only[List.nodup_append];exact hnd⟩
   . intro x hx hm;simp at hm;subst hm;exact hnd.2.2 x hx x (by simp) rfl
   . rcases t2 with⟨h0,_⟩|⟨b5,o5,e9,_,hb5,hi5,ht5⟩
     . have:=congrArg List.length h0;rw[List.length_set]at this;simp at this;subst this;simp at hn
     . rw[e1]at e9;cases e9;exact .inr ⟨_,_,e1,rfl,hb5,hi5,ht5⟩
   . intro x hx hm;simp at hm;subst hm;exact hnd.2.1.2.2 x (by simp) x hx rfl
end Go.Proofs.YtajbldnhjpjghaaGreatDoor.Gen
