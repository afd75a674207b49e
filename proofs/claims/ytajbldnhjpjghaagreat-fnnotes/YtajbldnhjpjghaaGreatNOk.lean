/-
  Which notes are right: by the specification and by the program, the same. No condition but the length that every text has, and that there are at most 3000000 entries.
-/
import Derived.Test.YtajbldnhjpjghaaGreatNtV
set_option linter.unusedVariables false
set_option linter.unusedSimpArgs false
set_option maxRecDepth 100000
set_option maxHeartbeats 8000000
set_option maxRecDepth 100000
set_option maxHeartbeats 8000000
namespace Go.Proofs.YtajbldnhjpjghaaGreat.Gen
open ChangeShapes WideShapes ChangeAt RowKit Joins Deep Base
def entF (x:En):Bool:=inB x.term 0 300&&enF x
def ownB (kind vote prev:Int) (n:Nat) (snap:ByteArray):Bool:=
  if kind=1 then decide (prev=0)&&decide (n=0)&&snap.toList.isEmpty
  else if kind=2 then decide (vote=0)&&snap.toList.isEmpty
  else if kind=3 then decide (vote=0)&&decide (n=0)
  else false
def Qdc (kind term vote prev:Int) (l:List En) (snap:ByteArray):Bool:=
  ownB kind vote prev l.length snap&&inB term 0 300&&inB vote (-1) 4&&inB prev 0 300&&decide (l.length<=40)&&l.all entF&&decide (snap.size<=30000)
theorem Qmv (kind term vote prev:Int) (snap:ByteArray) (A:Option Addr) (cap:Nat) (l:List En) (hl:l.length<=3000000) (w:World):
 Calls Tryz.prog 30 #[.agg (Qag kind term vote prev A l.length cap snap)] w fun e w' =>e= .returned (.bool (ownB kind vote prev l.length snap))/\Below w.heap.size w w' :=by
 generalize hn:l.length=n at hl;clear hn;have hs:snap.toList.isEmpty=true∨snap.toList.isEmpty=false:=by cases snap.toList.isEmpty<;>simp
 by_cases k1:kind=1
 . subst k1;by_cases p0:prev=0
   . by_cases n0:n=0
     . subst n0;rcases hs with h|h
       . go_enter Tryz.func30,Tryz.ntmps30;go_wp2;go_ret;exact⟨by simp[ownB,p0,h],Qad (Below.refl _ _) _⟩
       . go_enter Tryz.func30,Tryz.ntmps30;go_wp2;go_ret;exact⟨by simp[ownB,p0,h],Qad (Below.refl _ _) _⟩
     . have n1:¬((n:Int)=0):=(by omega);go_enter Tryz.func30,Tryz.ntmps30;go_wp2;go_ret;exact⟨by simp[ownB,p0,n0],Qad (Below.refl _ _) _⟩
   . go_enter Tryz.func30,Tryz.ntmps30;go_wp2;go_ret;exact⟨by simp[ownB,p0],Qad (Below.refl _ _) _⟩
 by_cases k2:kind=2
 . subst k2;by_cases v0:vote=0
   . rcases hs with h|h
     . go_enter Tryz.func30,Tryz.ntmps30;go_wp2;go_ret;exact⟨by simp[ownB,v0,h],Qad (Below.refl _ _) _⟩
     . go_enter Tryz.func30,Tryz.ntmps30;go_wp2;go_ret;exact⟨by simp[ownB,v0,h],Qad (Below.refl _ _) _⟩
   . go_enter Tryz.func30,Tryz.ntmps30;go_wp2;go_ret;exact⟨by simp[ownB,v0],Qad (Below.refl _ _) _⟩
 by_cases k3:kind=3
 . subst k3;by_cases v0:vote=0
   . by_cases n0:n=0
     . subst n0;go_enter Tryz.func30,Tryz.ntmps30;go_wp2;go_ret;exact⟨by simp[ownB,v0],Qad (Below.refl _ _) _⟩
     . have n1:¬((n:Int)=0):=(by omega);go_enter Tryz.func30,Tryz.ntmps30;go_wp2;go_ret;exact⟨by simp[ownB,v0,n0],Qad (Below.refl _ _) _⟩
   . go_enter Tryz.func30,Tryz.ntmps30;go_wp2;go_ret;exact⟨by simp[ownB,v0],Qad (Below.refl _ _) _⟩
 go_enter Tryz.func30,Tryz.ntmps30;go_wp2;go_ret;exact⟨by simp[ownB,k1,k2,k3],Qad (Below.refl _ _) _⟩
theorem Qk5 (x:En) (hx:x.fit) (w:World):
 Calls Tryz.prog 34 #[.agg (Qbg x.term x.who x.seq x.op x.a x.b x.c x.key x.text)] w fun e w' =>e= .returned (.bool (entF x))/\Below w.heap.size w w' :=by
 have E1:Hid (∀W:World,Calls Tryz.prog 31 #[.int .i64 x.term] W fun e w' =>e= .returned (.bool (inB x.term 0 300))/\w' =W):=fun W=>Qe5 _ W
 have HX:=hidP hx;clear hx;have hF:Hid (entF x=(inB x.term 0 300&&enF x)):=rfl;generalize inB x.term 0 300=b1 at E1 hF;cases b1
 . go_enter Tryz.func34,Tryz.ntmps34;go_wp2_with fail;refine(E1.out _).mono ?_;rintro e w1 ⟨rfl,rfl⟩;go_wp2;go_ret;exact⟨by rw[hF.out];rfl,by repeat(first|exact Below.refl _ _|assumption|refine via0 (by assumption) ?_|refine Below.drew ?_|refine Qad ?_ _)⟩
 . go_enter Tryz.func34,Tryz.ntmps34;go_wp2_with fail;refine(E1.out _).mono ?_;rintro e w1 ⟨rfl,rfl⟩;go_wp2_with fail;refine(CmdOk.impl_any _ _ _ _ _ _ _ _ HX.out.1 HX.out.2 _).mono ?_;rintro e w1 ⟨rfl,g1⟩;go_wp2;go_ret;exact⟨by rw[hF.out];rfl,by repeat(first|exact Below.refl _ _|assumption|refine via0 (by assumption) ?_|refine Below.drew ?_|refine Qad ?_ _)⟩
theorem Qin (A:Option Addr) (cap:Nat) (l:List En) (hl:l.length<=3000000) (hr:∀x∈l,x.fit) (w:World) (hA:At w A l):
 Calls Tryz.prog 33 #[.slice A l.length cap,.func (.func 34) #[] #[]] w fun e w' =>e= .returned (.bool (l.all entF))/\Below w.heap.size w w' :=by
 have HA:=hidP hA;have Hr:=hidP hr;clear hA hr;go_enter Tryz.func33,Tryz.ntmps33;go_wp2
 go_loopw [9] (fun i w' =>∃(n:Nat),i= .int .i64 (n:Int)/\n<=l.length/\Hid (l.all entF=(l.drop n).all entF)/\Below w.heap.size w w') (fun i _=>l.length - (intOf i).toNat)
 case atStart=>exact⟨0,rfl,by omega,rfl,Below.refl _ _⟩
 case round=>
  obtain⟨n,rfl,hn,hz,hbl⟩:=hrel;by_cases hlt:n<l.length
  . obtain⟨b,o,rfl,hbs,hIn⟩:∃b o,A=some ⟨b,o,none⟩/\b<w.heap.size/\In w b o l:=by
     rcases HA.out with h|h
     . subst h;simp at hlt
     . exact h
    obtain⟨c0,c1,c2,c3,c4,c5,c6,c7,c8⟩:=(hIn.below hbs hbl).getEn n hlt;have hd:=hidP (hz.out.trans (Ql8 entF l n hlt));have HC:Hid (∀W:World,Calls Tryz.prog 34 #[.agg (Qbg l[n].term l[n].who l[n].seq l[n].op l[n].a l[n].b l[n].c l[n].key l[n].text)] W fun e w' =>e= .returned (.bool (entF l[n]))/\Below W.heap.size W w'):=fun W=>Qk5 l[n] (Hr.out _ (List.getElem_mem hlt)) W
    clear hz;generalize hb:entF l[n]=bb at hd HC;clear hb;cases bb
    . go_wp2_with fail;refine(HC.out _).mono ?_;rintro e w1 ⟨rfl,g1⟩;go_wp2;go_ret;exact⟨by rw[hd.out];rfl,via0 g1 (Qad hbl _)⟩
    . go_wp2_with fail;refine(HC.out _).mono ?_;rintro e w1 ⟨rfl,g1⟩;go_wp2;exact⟨⟨n+1,by go_num,by omega,by show _=_;rw[hd.out];rfl,via0 g1 (Qad hbl _)⟩,by simp[intOf];omega⟩
  . have e:l.drop n= []:=List.drop_of_length_le (by omega);go_wp2;go_ret;have h:=hz.out;rw[e]at h;exact⟨by rw[h];rfl,hbl⟩
theorem Qdf (kind term vote prev:Int) (snap:ByteArray) (hs:snap.size<=9223372036854775807) (A:Option Addr) (cap:Nat) (l:List En) (hl:l.length<=3000000) (hr:∀x∈l,x.fit) (w:World) (hA:At w A l):
 Calls Tryz.prog 10 #[.agg (Qag kind term vote prev A l.length cap snap)] w fun e w' =>e= .returned (.bool (Qdc kind term vote prev l snap))/\Below w.heap.size w w' :=by
 have E0:Hid (∀W:World,Calls Tryz.prog 30 #[.agg (Qag kind term vote prev A l.length cap snap)] W fun e w' =>e= .returned (.bool (ownB kind vote prev l.length snap))/\Below W.heap.size W w'):=fun W=>Qmv _ _ _ _ _ _ _ l hl W
 have E1:Hid (∀W:World,Calls Tryz.prog 31 #[.int .i64 term] W fun e w' =>e= .returned (.bool (inB term 0 300))/\w' =W):=fun W=>Qe5 _ W
 have E2:Hid (∀W:World,Calls Tryz.prog 32 (Qck vote (-1) 4) W fun e w' =>e= .returned (.bool (inB vote (-1) 4))/\w' =W):=fun W=>Qc7 _ _ _ W
 have E3:Hid (∀W:World,Calls Tryz.prog 31 #[.int .i64 prev] W fun e w' =>e= .returned (.bool (inB prev 0 300))/\w' =W):=fun W=>Qe5 _ W
 have E5:Hid (∀W:World,Below w.heap.size w W->Calls Tryz.prog 33 #[.slice A l.length cap,.func (.func 34) #[] #[]] W fun e w' =>e= .returned (.bool (l.all entF))/\Below W.heap.size W w'):=fun W g=>Qin A cap l hl hr W (hA.below g)
 clear hA hr;have B0:Below w.heap.size w (w.alloc (.cells (Qag kind term vote prev A l.length cap snap) 26)):=Qad (Below.refl _ _) _;have P0:Blk (w.alloc (.cells (Qag kind term vote prev A l.length cap snap) 26)) w.heap.size 26 (Qag kind term vote prev A l.length cap snap):=Blk.new w 26 (Qag kind term vote prev A l.length cap snap);have hF:Hid (Qdc kind term vote prev l snap=(ownB kind vote prev l.length snap&&inB term 0 300&&inB vote (-1) 4&&inB prev 0 300&&decide (l.length<=40)&&l.all entF&&decide (snap.size<=30000))):=rfl;generalize Qdc kind term vote prev l snap=bz at hF ⊢;generalize ownB kind vote prev l.length snap=b0 at E0 hF;generalize inB term 0 300=b1 at E1 hF;generalize inB vote (-1) 4=b2 at E2 hF;generalize inB prev 0 300=b3 at E3 hF;generalize l.all entF=b5 at E5 hF;go_enter Tryz.func10,Tryz.ntmps10;go_wp2_with fail;refine(E0.out _).mono ?_;rintro e w1 ⟨rfl,g1⟩;have B1:Below w.heap.size w w1:=via0 g1 B0;have p1:=P0.below g1 P0.lt;have q1:=p1.lt;obtain⟨u0,u1,u2,u3,u4,u5⟩:=p1.row6n;clear g1;cases b0
 . go_wp2;go_ret;exact⟨by rw[hF.out];rfl,B1⟩
 go_wp2_with fail;refine(E1.out _).mono ?_;rintro e w2 ⟨rfl,rfl⟩;cases b1
 . go_wp2;go_ret;exact⟨by rw[hF.out];rfl,B1⟩
 go_wp2_with fail;refine(E2.out _).mono ?_;rintro e w2 ⟨rfl,rfl⟩;cases b2
 . go_wp2;go_ret;exact⟨by rw[hF.out];rfl,B1⟩
 go_wp2_with fail;refine(E3.out _).mono ?_;rintro e w2 ⟨rfl,rfl⟩;cases b3
 . go_wp2;go_ret;exact⟨by rw[hF.out];rfl,B1⟩
 by_cases h4:l.length<=40
 . have h4' :(l.length:Int)<=40:=(by omega);rw[decide_eq_true h4]at hF;go_wp2_with fail;refine(E5.out _ B1).mono ?_;rintro e w2 ⟨rfl,g2⟩;have B2:Below w.heap.size w w2:=via0 g2 B1;have p2:=p1.below g2 p1.lt;have q2:=p2.lt;clear u0 u1 u2 u3 u4 u5 g2;obtain⟨u0,u1,u2,u3,u4,u5⟩:=p2.row6n;cases b5
   . go_wp2;go_ret;exact⟨by rw[hF.out];rfl,B2⟩
   by_cases h6:snap.size<=30000
   . have h6' :(snap.size:Int)<=30000:=(by omega);rw[decide_eq_true h6]at hF;go_wp2;go_ret;exact⟨by rw[hF.out];rfl,B2⟩
   . have h6' :¬(snap.size:Int)<=30000:=(by omega);rw[decide_eq_false h6]at hF;go_wp2;go_ret;exact⟨by rw[hF.out];show Ending.returned (Value.bool (decide ((snap.size:Int)<=30000)))=_;rw[decide_eq_false (by omega)];rfl,B2⟩
 . have h4' :¬(l.length:Int)<=40:=(by omega);rw[decide_eq_false h4]at hF;go_wp2;go_ret;exact⟨by rw[hF.out];rfl,B1⟩
theorem Qmo (A:Option Addr) (cap:Nat) (l:List En) (hl:l.length<=3000000) (hr:∀x∈l,x.fit) (w:World) (hA:At w A l):
 Calls Tryz.prog 36 (l1SI A l.length cap 300) w fun e w' =>e= .returned (.bool (l.all entF&&decide (l.length<=40)))/\Below w.heap.size w w' :=by
 have HA:=hidP hA;have Hr:=hidP hr;clear hA hr;have hF:Hid ((l.all entF&&decide (l.length<=40))=(l.all entF&&decide (l.length<=40))):=rfl;generalize hz:(l.all entF&&decide (l.length<=40))=bz at hF ⊢;have hG:Hid (bz=((l.drop 0).all entF&&decide (l.length<=40))):=hz.symm;clear hz hF;go_enter Tryz.func36,Tryz.ntmps36;go_wp2
 go_loopw [5] (fun i w' =>∃(n:Nat),i= .int .i64 (n:Int)/\n<=l.length/\Hid (bz=((l.drop n).all entF&&decide (l.length<=40)))/\Below w.heap.size w w') (fun i _=>l.length - (intOf i).toNat)
 case atStart=>exact⟨0,rfl,by omega,hG,Below.refl _ _⟩
 case round=>
  obtain⟨n,rfl,hn,hz,hbl⟩:=hrel;by_cases hlt:n<l.length
  . obtain⟨b,o,rfl,hbs,hIn⟩:∃b o,A=some ⟨b,o,none⟩/\b<w.heap.size/\In w b o l:=by
     rcases HA.out with h|h
     . subst h;simp at hlt
     . exact h
    obtain⟨c0,c1,c2,c3,c4,c5,c6,c7,c8⟩:=(hIn.below hbs hbl).getEn n hlt;have hd:Hid (bz=(inB l[n].term 0 300&&enF l[n]&&(l.drop (n+1)).all entF&&decide (l.length<=40))):=(by show _=_;rw[hz.out,Ql8 entF l n hlt];rfl);have HW:Hid (∀W:World,Calls Tryz.prog 35 (Qck l[n].term 0 300) W fun e w' =>e= .returned (.bool (inB l[n].term 0 300))/\w' =W):=fun W=>Qcf _ _ _ W
    have HC:Hid (∀W:World,Calls Tryz.prog 60 #[.agg (Qab l[n].who l[n].seq l[n].op l[n].a l[n].b l[n].c l[n].key l[n].text)] W fun e w' =>e= .returned (.bool (enF l[n]))/\Below W.heap.size W w'):=fun W=>CmdOk.spec_any _ _ _ _ _ _ _ _ (Hr.out _ (List.getElem_mem hlt)).1 (Hr.out _ (List.getElem_mem hlt)).2 W
    clear hz;generalize hb:inB l[n].term 0 300=bb at hd HW;clear hb;cases bb
    . go_wp2_with fail;refine(HW.out _).mono ?_;rintro e w1 ⟨rfl,rfl⟩;go_wp2;go_ret;exact⟨by rw[hd.out];rfl,hbl⟩
    . generalize hb:enF l[n]=bb at hd HC;clear hb;cases bb
      . go_wp2_with fail;refine(HW.out _).mono ?_;rintro e w1 ⟨rfl,rfl⟩;go_wp2_with fail;refine(HC.out _).mono ?_;rintro e w1 ⟨rfl,g1⟩;go_wp2;go_ret;exact⟨by rw[hd.out];rfl,via0 g1 hbl⟩
      . go_wp2_with fail;refine(HW.out _).mono ?_;rintro e w1 ⟨rfl,rfl⟩;go_wp2_with fail;refine(HC.out _).mono ?_;rintro e w1 ⟨rfl,g1⟩;go_wp2;exact⟨⟨n+1,by go_num,by omega,by show _=_;rw[hd.out];rfl,via0 g1 hbl⟩,by simp[intOf];omega⟩
  . have e:l.drop n= []:=List.drop_of_length_le (by omega);have h:=hz.out;rw[e]at h;have H:=hidP h;clear h hz e;by_cases h4:l.length<=40
    . have h4' :(l.length:Int)<=40:=(by omega);go_wp2;go_ret;exact⟨by rw[H.out,decide_eq_true h4];rfl,hbl⟩
    . have h4' :¬(l.length:Int)<=40:=(by omega);go_wp2;go_ret;exact⟨by rw[H.out,decide_eq_false h4];first|rfl|(show Ending.returned (Value.bool (decide ((l.length:Int)<=40)))=_;rw[decide_eq_false (by omega)];rfl)|simp,hbl⟩
theorem Qmj (kind term vote prev:Int) (l:List En) (snap:ByteArray):Qdc kind term vote prev l snap=(inB term 0 300&&inB prev 0 300&&(l.all entF&&decide (l.length<=40))&&decide (snap.size<=30000)&&
 (if kind=1 then inB vote (-1) 4&&decide (prev=0)&&decide (l.length=0)&&snap.toList.isEmpty else if kind=2 then decide (vote=0)&&snap.toList.isEmpty else if kind=3 then decide (vote=0)&&decide (l.length=0)else false)):=by
 have h0:inB 0 (-1) 4=true:=by decide
 have hv:decide (vote=0)=(decide (vote=0)&&inB vote (-1) 4):=by
  by_cases h:vote=0
  . subst h;simp[h0]
  . simp[h]
 unfold Qdc ownB;generalize inB term 0 300=b1;generalize inB prev 0 300=b3;generalize l.all entF=b5;generalize decide (snap.size<=30000)=b6;generalize decide (l.length<=40)=b7;generalize snap.toList.isEmpty=b8;generalize decide (prev=0)=b9;generalize decide (l.length=0)=b10;rw[hv];generalize decide (vote=0)=b11;generalize inB vote (-1) 4=b2;split
 . cases b1<;>cases b2<;>cases b3<;>cases b5<;>cases b6<;>cases b7<;>cases b8<;>cases b9<;>cases b10<;>rfl
 . split
   . cases b1<;>cases b2<;>cases b3<;>cases b5<;>cases b6<;>cases b7<;>cases b8<;>cases b11<;>rfl
   . split
     . cases b1<;>cases b2<;>cases b3<;>cases b5<;>cases b6<;>cases b7<;>cases b10<;>cases b11<;>rfl
     . cases b1<;>cases b2<;>cases b3<;>cases b5<;>cases b6<;>cases b7<;>rfl
theorem Qdw (kind term vote prev:Int) (snap:ByteArray) (hs:snap.size<=9223372036854775807) (A:Option Addr) (cap:Nat) (l:List En) (hl:l.length<=3000000) (hr:∀x∈l,x.fit) (w:World) (hA:At w A l):
 Calls Tryz.prog 11 #[.agg (Qag kind term vote prev A l.length cap snap)] w fun e w' =>e= .returned (.bool (Qdc kind term vote prev l snap))/\Below w.heap.size w w' :=by
 have E1:Hid (∀W:World,Calls Tryz.prog 35 (Qck term 0 300) W fun e w' =>e= .returned (.bool (inB term 0 300))/\w' =W):=fun W=>Qcf _ _ _ W
 have E2:Hid (∀W:World,Calls Tryz.prog 35 (Qck vote (-1) 4) W fun e w' =>e= .returned (.bool (inB vote (-1) 4))/\w' =W):=fun W=>Qcf _ _ _ W
 have E3:Hid (∀W:World,Calls Tryz.prog 35 (Qck prev 0 300) W fun e w' =>e= .returned (.bool (inB prev 0 300))/\w' =W):=fun W=>Qcf _ _ _ W
 have E5:Hid (∀W:World,Below w.heap.size w W->Calls Tryz.prog 36 (l1SI A l.length cap 300) W fun e w' =>e= .returned (.bool (l.all entF&&decide (l.length<=40)))/\Below W.heap.size W w'):=fun W g=>Qmo A cap l hl hr W (hA.below g)
 clear hA hr;have B0:Below w.heap.size w (w.alloc (.cells (Qag kind term vote prev A l.length cap snap) 26)):=Qad (Below.refl _ _) _;have P0:Blk (w.alloc (.cells (Qag kind term vote prev A l.length cap snap) 26)) w.heap.size 26 (Qag kind term vote prev A l.length cap snap):=Blk.new w 26 (Qag kind term vote prev A l.length cap snap);have hF:=hidP (Qmj kind term vote prev l snap);have hZ:snap.toList.isEmpty=true∨snap.toList.isEmpty=false:=by cases snap.toList.isEmpty<;>simp
 generalize Qdc kind term vote prev l snap=bz at hF ⊢;generalize inB term 0 300=b1 at E1 hF;generalize inB vote (-1) 4=b2 at E2 hF;generalize inB prev 0 300=b3 at E3 hF;generalize (l.all entF&&decide (l.length<=40))=b5 at E5 hF;generalize hn:l.length=n at*;clear hn;go_enter Tryz.func11,Tryz.ntmps11;go_wp2_with fail;refine(E1.out _).mono ?_;rintro e w2 ⟨rfl,rfl⟩;cases b1
 . go_wp2;go_ret;exact⟨by rw[hF.out];rfl,B0⟩
 go_wp2_with fail;refine(E3.out _).mono ?_;rintro e w2 ⟨rfl,rfl⟩;cases b3
 . go_wp2;go_ret;exact⟨by rw[hF.out];rfl,B0⟩
 go_wp2_with fail;refine(E5.out _ B0).mono ?_;rintro e w1 ⟨rfl,g1⟩;have B1:Below w.heap.size w w1:=via0 g1 B0;have p1:=P0.below g1 P0.lt;have q1:=p1.lt;obtain⟨u0,u1,u2,u3,u4,u5⟩:=p1.row6n;clear g1;cases b5
 . go_wp2;go_ret;exact⟨by rw[hF.out];rfl,B1⟩
 by_cases h6:snap.size<=30000
 . have h6' :¬30000<(snap.size:Int):=(by omega);rw[decide_eq_true h6]at hF;by_cases k1:kind=1
   . subst k1;go_wp2_with fail;refine(E2.out _).mono ?_;rintro e w2 ⟨rfl,rfl⟩;cases b2
     . go_wp2;go_ret;exact⟨by rw[hF.out];rfl,B1⟩
     by_cases p0:prev=0
     . by_cases n0:n=0
       . subst n0;rcases hZ with h|h
         . go_wp2;go_ret;exact⟨by rw[hF.out];simp[p0,h],B1⟩
         . go_wp2;go_ret;exact⟨by rw[hF.out];simp[p0,h],B1⟩
       . have n1:¬((n:Int)=0):=(by omega);go_wp2;go_ret;exact⟨by rw[hF.out];simp[p0,n0],B1⟩
     . go_wp2;go_ret;exact⟨by rw[hF.out];simp[p0],B1⟩
   by_cases k2:kind=2
   . subst k2;by_cases v0:vote=0
     . rcases hZ with h|h
       . go_wp2;go_ret;exact⟨by rw[hF.out];simp[v0,h],B1⟩
       . go_wp2;go_ret;exact⟨by rw[hF.out];simp[v0,h],B1⟩
     . go_wp2;go_ret;exact⟨by rw[hF.out];simp[v0],B1⟩
   by_cases k3:kind=3
   . subst k3;by_cases v0:vote=0
     . by_cases n0:n=0
       . subst n0;go_wp2;go_ret;exact⟨by rw[hF.out];simp[v0],B1⟩
       . have n1:¬((n:Int)=0):=(by omega);go_wp2;go_ret;exact⟨by rw[hF.out];simp[v0,n0],B1⟩
     . go_wp2;go_ret;exact⟨by rw[hF.out];simp[v0],B1⟩
   go_wp2;go_ret;exact⟨by rw[hF.out];simp[k1,k2,k3],B1⟩
 . have h6' :30000<(snap.size:Int):=(by omega);rw[decide_eq_false h6]at hF;go_wp2;go_ret;exact⟨by rw[hF.out];rfl,B1⟩
end Go.Proofs.YtajbldnhjpjghaaGreat.Gen
